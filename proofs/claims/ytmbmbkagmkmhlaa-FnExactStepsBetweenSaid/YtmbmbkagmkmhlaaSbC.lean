/-
  Rows of numbers put together by the library's own text; looking for a number.
-/
import Derived.Test.YtmbmbkagmkmhlaaIRow
import Derived.Lib.AppendZeros
namespace Go.Proofs.Ytmbmbkagmkmhlaa
open Go.ChangeShapes Go.WideShapes Go.ChangeAt Go.RowKit Go.Joins

def IntSome (w : World) (a : Option Addr) (P : List Int) : Prop := ∃ b, a = some ⟨b, 0, none⟩ ∧ IntAt w b 0 P
theorem IntSome.later {w w' : World} {a : Option Addr} {P : List Int} (h : IntSome w a P) (hb : Below w.heap.size w w') : IntSome w' a P := by
  obtain ⟨b, h1, h2⟩ := h
  exact ⟨b, h1, h2.later hb⟩
theorem IntSome.arg {w : World} {a : Option Addr} {P : List Int} (h : IntSome w a P) : IntArg w a P := by
  obtain ⟨b, h1, h2⟩ := h
  exact .inr ⟨b, 0, h1, h2⟩
theorem IntOwn.some {B : Nat} {P : List Int} {g : Nat} {w : World} (h : IntOwn B P g w) : IntSome w (.some ⟨g, 0, none⟩) P := ⟨g, rfl, h.2.1⟩
theorem int_cellsQ {w : World} {b o : Nat} {P : List Int} (h : IntAt w b o P) : ∀ j u, (intVals P)[j]? = some u → w.cell? ((⟨b, o, none⟩ : Addr).add j) = some u := fun j u hu => by
  rw [Addr.add_mid]
  obtain ⟨z, hz, rfl⟩ : ∃ z, P[j]? = some z ∧ Value.int .i64 z = u := by
    simp only [intVals, List.getElem?_map, Option.map_eq_some_iff] at hu
    exact hu
  exact h j z hz
/-- A row that is not nil has a block. -/
theorem own_formS {w : World} {B e size n : Nat} {v : Value} {xs : List Value} (h : w.ownsRow B e size v n xs) (hn : ¬ v = .slice none 0 0) : ∃ g cap, v = .slice (some ⟨g, 0, none⟩) n cap := by
  rcases h.2 with ⟨h1, _⟩ | ⟨g, cap, cur, hv, _⟩
  · exact absurd h1 hn
  · exact ⟨g, cap, hv⟩
theorem growQ_impl (n : Nat) (h0 : 0 < n) (hn : n ≤ 1000000) (w : World) :
    Calls Try.prog 89 #[.slice none 0 0, .int .i64 (n : Int)] w fun e w' => ∃ g cap, e = .returned (.slice (some ⟨g, 0, none⟩) 0 cap) ∧ IRow w.heap.size [] (some ⟨g, 0, none⟩) cap w' ∧ Below w.heap.size w w' := by
  obtain ⟨i0, hi, hz0, hz1, hz2⟩ := info_partsQ
  have hr := Lib.run_append_nil_zeros (P := Try.prog) w 22 3 22 2 i0 (.int .i64 0) .i64 .i64 Try.underlying22 Try.underlying3 hi hz0 n h0 (by rw [hz1]; decide) (by omega) (by rw [hz2]; omega)
  have hc1 := grownCap_ge w n 0 2
  have hc2 := grownCap_le_maxLen w n 0 2 (by unfold maxLen; omega)
  obtain ⟨C, hC⟩ : ∃ C, grownCap w n 0 2 = C := ⟨_, rfl⟩
  rw [hC] at hr hc1 hc2
  have hzs : (Builtin.zeroCells (Value.int .i64 0).cells n ++ Builtin.zeroCells (Value.int .i64 0).cells (C - n)).size = C * 1 := by
    rw [Array.size_append, size_zeroCells, size_zeroCells]
    show n * 1 + (C - n) * 1 = C * 1
    omega
  obtain ⟨cur, hcur⟩ : ∃ cur, Builtin.zeroCells (Value.int .i64 0).cells n ++ Builtin.zeroCells (Value.int .i64 0).cells (C - n) = cur := ⟨_, rfl⟩
  rw [hcur] at hr hzs
  have HO : Hid (IRow w.heap.size [] (some ⟨w.heap.size, 0, none⟩) C (w.drew.alloc (.cells cur 2))) :=
    ⟨rfl, .inr ⟨w.heap.size, C, cur, rfl, Nat.le_refl _, heap_alloc_new w.drew _, Nat.zero_le _, hc2, hzs, rfl⟩⟩
  have HB : Hid (Below w.heap.size w (w.drew.alloc (.cells cur 2))) := ((Below.refl _ w).drew).alloc (Nat.le_refl _) _
  have hn0 : (0 : Int) < (n : Int) := by omega
  have hn1 : ¬ (n : Int) < 0 := by omega
  have hz : ¬ n = 0 := by omega
  clear hC hcur
  go_enter Try.func89, Try.ntmps89
  go_wp2_with (at_builtin; refine Lib.wpList_append_run _ rfl _ _ _ _ rfl _ _ rfl rfl _ _ hr ?_)
  go_ret
  exact ⟨_, _, rfl, HO.out, HB.out⟩
theorem snocQ {B : Nat} {A : List Int} {z : Int} {g cp : Nat} {w : World} (h : w.ownsRow B 2 1 (.slice (some ⟨g, 0, none⟩) (A.length + 1) cp) (A.length + 1) (intVals A ++ [.int .i64 z])) : IRow B (A ++ [z]) (some ⟨g, 0, none⟩) cp w := by
  have e : intVals (A ++ [z]) = intVals A ++ [.int .i64 z] := by simp [intVals]
  show World.ownsRow _ _ _ _ _ _ _
  rw [e, List.length_append]
  exact h
set_option maxRecDepth 100000 in
set_option maxHeartbeats 6400000 in
theorem concatQ_impl (A : List Int) (h : Int) (b1 c1 gb bb : Nat) (hle : A.length ≤ 20) (w : World) (hA : IntAt w b1 0 A) (hg0 : w.cell? ⟨gb, 0, none⟩ = some (.int .i64 h))
    (h0 : w.cell? ⟨bb, 0, none⟩ = some (.slice (some ⟨b1, 0, none⟩) A.length c1)) (h1 : w.cell? ⟨bb, 1, none⟩ = some (.slice (some ⟨gb, 0, none⟩) 1 1)) :
    Calls Try.prog 70 #[.slice (some ⟨bb, 0, none⟩) 2 2] w fun e w' => ∃ g cp, e = .returned (.slice (some ⟨g, 0, none⟩) (A.length + 1) cp) ∧ IRow w.heap.size (A ++ [h]) (some ⟨g, 0, none⟩) cp w' ∧ Below w.heap.size w w' := by
  have G := Lib.hid (growQ_impl (A.length + 1) (by omega) (by omega) w)
  have HA := Lib.hid hA
  have HG := Lib.hid hg0
  have H0 := Lib.hid h0
  have H1 := Lib.hid h1
  have hA1 : ¬ (A.length : Int) < 0 := by omega
  have hB1 : ¬ (A.length : Int) + 1 < 0 := by omega
  have hcast : ((A.length + 1 : Nat) : Int) = (A.length : Int) + 1 := by omega
  rw [hcast] at G
  clear hA hg0 hcast
  go_enter Try.func70, Try.ntmps70
  go_wp2
  go_loopw [3, 11] (fun t i wr => ∃ k : Nat, k ≤ 2 ∧ i = .int .i64 (k : Int) ∧ t = .int .i64 (if k = 0 then 0 else if k = 1 then (A.length : Int) else (A.length : Int) + 1) ∧ w = wr) (fun _ i _ => 2 - (intOf i).toNat)
  case atStart => exact ⟨0, by omega, rfl, rfl, rfl⟩
  case round =>
    obtain ⟨k, hk, rfl, rfl, rfl⟩ := hrel
    rcases (show k = 0 ∨ k = 1 ∨ k = 2 by omega) with rfl | rfl | rfl
    · go_wp2
      go_roundw
      case rel => exact ⟨1, by omega, rfl, by simp, by trivial⟩
      case measure => simp [intOf]
    · go_wp2
      go_roundw
      case rel => exact ⟨2, by omega, rfl, by simp, by trivial⟩
      case measure => simp [intOf]
    · clear h0 h1
      go_wp2_with fail
      refine G.out.mono ?_
      rintro e w1 ⟨g, cap, rfl, ho, hb⟩
      have HO := Lib.hid ho
      have HW := Lib.hid hb
      clear ho hb
      go_wp2
      go_loopw [6, 27] (fun v i wr => ∃ (k g cp : Nat), k ≤ 2 ∧ v = .slice (some ⟨g, 0, none⟩) (if k = 0 then 0 else if k = 1 then A.length else A.length + 1) cp ∧ i = .int .i64 (k : Int) ∧ Hid (IRow w.heap.size (if k = 0 then [] else if k = 1 then A else A ++ [h]) (some ⟨g, 0, none⟩) cp wr) ∧ Hid (Below w.heap.size w wr)) (fun _ i _ => 2 - (intOf i).toNat)
      case atStart => exact ⟨0, g, cap, by omega, rfl, rfl, HO.out, HW.out⟩
      case round =>
        obtain ⟨k, g, cp, hk, rfl, rfl, hO, hB⟩ := hrel
        obtain ⟨i0, hi0, hz0, hz1, hz2⟩ := info_partsQ
        rcases (show k = 0 ∨ k = 1 ∨ k = 2 by omega) with rfl | rfl | rfl
        · have h0 := (hB.out.cell (p := ⟨bb, 0, none⟩) (World.block_lt_of_cell? w _ H0.out)).trans H0.out
          have hO : Hid (IRow w.heap.size [] (some ⟨g, 0, none⟩) cp wr) := hO
          have m1 : Hid (0 + A.length ≤ maxLen) := by show _ ≤ _; unfold maxLen; omega
          have hql : (intVals A).length = A.length * 1 := by simp [intVals]
          go_wp2_with (at_builtin; go_must ((refine wpList_append_own _ rfl _ _ 22 rfl w.heap.size 2 i0 (.int .i64 0) 1 8 Try.underlying22 hi0 hz0 hz1 hz2 rfl (by decide) (.slice (some ⟨g, 0, none⟩) 0 cp) 0 (intVals []) rfl hO.out ⟨b1, 0, none⟩ A.length c1 (intVals A) rfl hql (int_cellsQ (HA.out.later hB.out)) (intVals_one A) m1.out (by omega) hB.out.size ?_); intro v2 w2 hown2 hgrow2 hnil2; obtain ⟨g2, cp2, hv2⟩ := own_formS hown2 (fun h => by have := (hnil2.1 h).1; cases this); subst hv2; have HO2 : Hid (IRow w.heap.size A (some ⟨g2, 0, none⟩) cp2 w2) := (by have h := hown2; simp [intVals] at h; exact h); have HB2 : Hid (Below w.heap.size w w2) := hB.out.grown hgrow2 hB.out.size (fun k e => by have h := Option.some.inj e; subst h; exact own_base8 hO.out); clear hown2 hgrow2 hnil2))
          go_roundw
          case rel => exact ⟨1, g2, cp2, by omega, by simp, rfl, HO2.out, HB2.out⟩
          case measure => simp [intOf]
        · have h1 := (hB.out.cell (p := ⟨bb, 1, none⟩) (World.block_lt_of_cell? w _ H1.out)).trans H1.out
          have hO : Hid (IRow w.heap.size A (some ⟨g, 0, none⟩) cp wr) := hO
          have m1 : Hid (A.length + 1 ≤ maxLen) := by show _ ≤ _; unfold maxLen; omega
          have hg : Hid (wr.cell? ⟨gb, 0, none⟩ = some (.int .i64 h)) := (hB.out.cell (p := ⟨gb, 0, none⟩) (World.block_lt_of_cell? w _ HG.out)).trans HG.out
          go_wp2_with (at_builtin; go_must ((refine wpList_append_own _ rfl _ _ 22 rfl w.heap.size 2 i0 (.int .i64 0) 1 8 Try.underlying22 hi0 hz0 hz1 hz2 rfl (by decide) (.slice (some ⟨g, 0, none⟩) A.length cp) A.length (intVals A) rfl hO.out ⟨gb, 0, none⟩ 1 1 [.int .i64 h] rfl rfl (fun j u hu => by have hj : j = 0 := (by have := (List.getElem?_eq_some_iff.1 hu).1; simp at this; omega); subst hj; have e : u = .int .i64 h := (by simpa using hu.symm); subst e; exact hg.out) (by simp [Value.oneCell']) m1.out (by omega) hB.out.size ?_); intro v2 w2 hown2 hgrow2 hnil2; obtain ⟨g2, cp2, hv2⟩ := own_formS hown2 (fun h => by have := (hnil2.1 h).1; cases this); subst hv2; have HO2 : Hid (IRow w.heap.size (A ++ [h]) (some ⟨g2, 0, none⟩) cp2 w2) := snocQ hown2; have HB2 : Hid (Below w.heap.size w w2) := hB.out.grown hgrow2 hB.out.size (fun k e => by have h := Option.some.inj e; subst h; exact own_base8 hO.out); clear hown2 hgrow2 hnil2))
          go_roundw
          case rel => exact ⟨2, g2, cp2, by omega, by simp, rfl, HO2.out, HB2.out⟩
          case measure => simp [intOf]
        · have hO : Hid (IRow w.heap.size (A ++ [h]) (some ⟨g, 0, none⟩) cp wr) := hO
          go_wp2
          go_ret
          exact ⟨g, cp, rfl, hO.out, hB.out⟩
set_option maxRecDepth 100000 in
set_option maxHeartbeats 6400000 in
theorem ownQ_spec (A : List Int) (b1 c1 : Nat) (hle : A.length ≤ 1000) (w : World) (hA : IntAt w b1 0 A) :
    Calls Try.prog 68 #[.slice (some ⟨b1, 0, none⟩) A.length c1] w fun e w' => ∃ g cp, e = .returned (.slice (some ⟨g, 0, none⟩) A.length cp) ∧ IRow w.heap.size A (some ⟨g, 0, none⟩) cp w' ∧ Below w.heap.size w w' := by
  have HA := Lib.hid hA
  obtain ⟨i0, hi0, hz0, hz1, hz2⟩ := info_partsQ
  have m1 : Hid (0 + A.length ≤ maxLen) := by show _ ≤ _; unfold maxLen; omega
  have hql : (intVals A).length = A.length * 1 := by simp [intVals]
  clear hA
  go_enter Try.func68, Try.ntmps68
  go_wp2_with (at_builtin; go_must ((refine wpList_append_own _ rfl _ _ 22 rfl w.heap.size 2 i0 (.int .i64 0) 1 8 Try.underlying22 hi0 hz0 hz1 hz2 rfl (by decide) (.slice (some ⟨w.heap.size, 0, none⟩) 0 0) 0 (intVals []) rfl (IRow.start w) ⟨b1, 0, none⟩ A.length c1 (intVals A) rfl hql (int_cellsQ (HA.out.later (balloc0 _ _))) (intVals_one A) m1.out (by omega) (balloc0 w (.cells #[] 2)).size ?_); intro v2 w2 hown2 hgrow2 hnil2; obtain ⟨g2, cp2, hv2⟩ := own_formS hown2 (fun h => by have := (hnil2.1 h).1; cases this); subst hv2; have HO2 : Hid (IRow w.heap.size A (some ⟨g2, 0, none⟩) cp2 w2) := (by have h := hown2; simp [intVals] at h; exact h); have HB2 : Hid (Below w.heap.size w w2) := (balloc0 w _).grown hgrow2 (by simp) (fun k e => by have h := Option.some.inj e; subst h; exact Nat.le_refl _); clear hown2 hgrow2 hnil2))
  go_ret
  exact ⟨g2, cp2, rfl, HO2.out, HB2.out⟩
set_option maxRecDepth 100000 in
set_option maxHeartbeats 6400000 in
theorem zeroIn_impl (D : List Int) (hl : D.length ≤ 1000) (a : Option Addr) (cap : Nat) (w : World) (ha : IntArg w a D) :
    Calls Try.prog 74 #[.slice a D.length cap, .int .i64 0] w fun e w' => e = .returned (.bool (decide ((0 : Int) ∈ D))) ∧ Below w.heap.size w w' := by
  have IX : Hid (Calls Try.prog 91 #[.slice a D.length cap, .int .i64 0] w fun e w' => (∃ r : Int, e = .returned (.int .i64 r) ∧ -1 ≤ r ∧ (0 ≤ r ↔ (0 : Int) ∈ D)) ∧ Below w.heap.size w w') := by
    show Calls _ _ _ _ _
    have HA := Lib.hid ha
    clear ha
    go_enter Try.func91, Try.ntmps91
    go_wp2
    go_loopw [8] (fun i wr => ∃ k : Nat, k ≤ D.length ∧ i = .int .i64 (k : Int) ∧ Hid (∀ (j : Nat) (z : Int), j < k → D[j]? = some z → ¬ z = 0) ∧ Hid (Below w.heap.size w wr)) (fun i _ => D.length - (intOf i).toNat)
    case atStart => exact ⟨0, Nat.zero_le _, rfl, fun j z h => by omega, Below.refl _ _⟩
    case round =>
      obtain ⟨k, hk, rfl, hM, hB⟩ := hrel
      by_cases hlt : k < D.length
      · have hlt' : (k : Int) < (D.length : Int) := by omega
        have hk0 : (0 : Int) ≤ (k : Int) := by omega
        obtain ⟨b, o, z, rfl, hz, hat⟩ := (HA.out.later hB.out).at hlt
        have d0 := hat k z hz
        have HZ := Lib.hid hz
        clear hz hat
        by_cases hzz : z = 0
        · have HM : Hid ((0 : Int) ∈ D) := by have := List.mem_of_getElem? HZ.out; rwa [hzz] at this
          subst hzz
          go_wp2
          go_ret
          exact ⟨⟨(k : Int), rfl, by omega, fun _ => HM.out, fun _ => hk0⟩, hB.out⟩
        · have hzz' : ¬ (0 : Int) = z := fun e => hzz e.symm
          have HZZ := Lib.hid hzz
          clear hzz
          go_wp2
          go_roundw
          case rel =>
            refine ⟨k + 1, by omega, by go_num, fun j y hj hy => ?_, hB.out⟩
            by_cases e : j = k
            · subst e
              rw [HZ.out] at hy
              cases hy
              exact HZZ.out
            · exact hM.out j y (by omega) hy
          case measure => simp [intOf]; omega
      · have hge : ¬ (k : Int) < (D.length : Int) := by omega
        go_wp2
        go_ret
        refine ⟨⟨-1, rfl, by omega, fun h => by omega, fun h => ?_⟩, hB.out⟩
        obtain ⟨j, hj, e⟩ := List.getElem_of_mem h
        exact absurd e (by have := hM.out j D[j] (by omega) (List.getElem?_eq_getElem hj); exact this)
  clear ha
  go_enter Try.func74, Try.ntmps74
  go_wp2_with fail
  refine IX.out.mono ?_
  rintro e w1 ⟨⟨r, rfl, r0, r1⟩, hb1⟩
  have R1 := Lib.hid r1
  clear r1
  by_cases hr : 0 ≤ r
  · go_wp2
    go_ret
    exact ⟨ret_bool (by simp [R1.out.1 hr]), hb1⟩
  · go_wp2
    go_ret
    exact ⟨ret_bool (by simp; exact R1.out), hb1⟩
end Go.Proofs.Ytmbmbkagmkmhlaa
