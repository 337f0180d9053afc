/-
  TurnHouse: the program: slices.Grow and slices.Concat walked at their own texts.
-/
import Derived.Test.YtikjielgnlgnjaaDoorTh
import Derived.Test.YtikjielgnlgnjaaDoorHoJ
import Derived.Lib.AppendZeros
namespace Go.Proofs.YtikjielgnlgnjaaDoor
open Go.ChangeShapes Go.WideShapes Go.ChangeAt Go.RowKit Go.Joins

set_option maxHeartbeats 1600000 in
theorem grow_impl (n : Nat) (h0 : 0 < n) (hn : n ≤ 1000000) (w : World) :
    Calls Tryd.prog 90 #[.slice none 0 0, .int .i64 (n : Int)] w fun e w' => ∃ g cap, e = .returned (.slice (some ⟨g, 0, none⟩) 0 cap) ∧ w'.ownsRow w.heap.size 2 1 (.slice (some ⟨g, 0, none⟩) 0 cap) 0 (intVals []) ∧ Below w.heap.size w w' := by
  obtain ⟨i0, hi, hz0, hz1, hz2⟩ := info_parts infoInt
  have hr := Lib.run_append_nil_zeros (P := Tryd.prog) w 22 3 22 2 i0 (.int .i64 0) .i64 .i64 Tryd.underlying22 Tryd.underlying3 hi hz0 n h0 (by rw [hz1]; decide) (by omega) (by rw [hz2]; omega)
  have hc1 := grownCap_ge w n 0 2
  have hc2 := grownCap_le_maxLen w n 0 2 (by unfold maxLen; omega)
  obtain ⟨C, hC⟩ : ∃ C, grownCap w n 0 2 = C := ⟨_, rfl⟩
  rw [hC] at hr hc1 hc2
  have hzs : (Builtin.zeroCells (Value.int .i64 0).cells n ++ Builtin.zeroCells (Value.int .i64 0).cells (C - n)).size = C * 1 := by
    rw [Array.size_append, size_zeroCells, size_zeroCells]
    show n * 1 + (C - n) * 1 = C * 1
    omega
  obtain ⟨cur, hcur⟩ : ∃ cur, Builtin.zeroCells (Value.int .i64 0).cells n ++ Builtin.zeroCells (Value.int .i64 0).cells (C - n) = cur := ⟨_, rfl⟩
  rw [hcur] at hr hzs
  have HO : Hid ((w.drew.alloc (.cells cur 2)).ownsRow w.heap.size 2 1 (.slice (some ⟨w.heap.size, 0, none⟩) 0 C) 0 (intVals [])) :=
    ⟨rfl, .inr ⟨w.heap.size, C, cur, rfl, Nat.le_refl _, heap_alloc_new w.drew _, Nat.zero_le _, hc2, hzs, rfl⟩⟩
  have HB : Hid (Below w.heap.size w (w.drew.alloc (.cells cur 2))) := ((Below.refl _ w).drew).alloc (Nat.le_refl _) _
  have hn0 : (0 : Int) < (n : Int) := by omega
  have hn1 : ¬ (n : Int) < 0 := by omega
  have hz : ¬ n = 0 := by omega
  clear hC hcur
  go_enter Tryd.func90, Tryd.ntmps90
  go_wp2_with (at_builtin; refine Lib.wpList_append_run _ rfl _ _ _ _ rfl _ _ rfl rfl _ _ hr ?_)
  go_ret
  exact ⟨_, _, rfl, HO.out, HB.out⟩

/-- A block with two rows of numbers. -/
theorem two_rows (w : World) (v0 v1 : Value) : (w.alloc (.cells #[v0, v1] 22)).cell? ⟨w.heap.size, 0, none⟩ = some v0 ∧ (w.alloc (.cells #[v0, v1] 22)).cell? ⟨w.heap.size, 1, none⟩ = some v1 := by
  have h := heap_alloc_new w (.cells #[v0, v1] 22)
  exact ⟨(cell_of_block h 0).trans rfl, (cell_of_block h 1).trans rfl⟩

def catK (A B : List Int) (k : Nat) : List Int := if k = 0 then [] else if k = 1 then A else A ++ B
set_option maxRecDepth 100000 in
set_option maxHeartbeats 3200000 in
theorem concat_impl (A B : List Int) (b1 o1 c1 b2 o2 c2 bb : Nat) (hpos : 0 < A.length) (hle : A.length + B.length ≤ 1000) (w : World) (hA : IntAt w b1 o1 A) (hB : IntAt w b2 o2 B)
    (h0 : w.cell? ⟨bb, 0, none⟩ = some (.slice (some ⟨b1, o1, none⟩) A.length c1)) (h1 : w.cell? ⟨bb, 1, none⟩ = some (.slice (some ⟨b2, o2, none⟩) B.length c2)) :
    Calls Tryd.prog 71 #[.slice (some ⟨bb, 0, none⟩) 2 2] w fun e w' => ∃ g cp, e = .returned (.slice (some ⟨g, 0, none⟩) (A.length + B.length) cp) ∧ w'.ownsRow w.heap.size 2 1 (.slice (some ⟨g, 0, none⟩) (A.length + B.length) cp) (A.length + B.length) (intVals (A ++ B)) ∧ Below w.heap.size w w' := by
  have G := Lib.hid (grow_impl (A.length + B.length) (by omega) (by omega) w)
  have HA := Lib.hid hA
  have HB := Lib.hid hB
  have H0 := Lib.hid h0
  have H1 := Lib.hid h1
  have hA1 : ¬ (A.length : Int) < 0 := by omega
  have hB1 : ¬ (A.length : Int) + (B.length : Int) < 0 := by omega
  clear hA hB
  go_enter Tryd.func71, Tryd.ntmps71
  go_wp2
  go_loopw [3, 11] (fun t i wr => ∃ k s : Nat, k ≤ 2 ∧ t = .int .i64 (s : Int) ∧ i = .int .i64 (k : Int) ∧ s = (if k = 0 then 0 else if k = 1 then A.length else A.length + B.length) ∧ w = wr) (fun _ i _ => 2 - (intOf i).toNat)
  case atStart => exact ⟨0, 0, by omega, rfl, rfl, rfl, rfl⟩
  case round =>
    obtain ⟨k, s, hk, rfl, rfl, hs, rfl⟩ := hrel
    rcases (show k = 0 ∨ k = 1 ∨ k = 2 by omega) with rfl | rfl | rfl
    · obtain rfl : s = 0 := hs
      go_wp2
      go_roundw
      case rel => exact ⟨1, A.length, by omega, by simp, rfl, rfl, by trivial⟩
      case measure => simp [intOf]
    · obtain rfl : s = A.length := hs
      go_wp2
      go_roundw
      case rel => exact ⟨2, A.length + B.length, by omega, by simp, rfl, rfl, by trivial⟩
      case measure => simp [intOf]
    · obtain rfl : s = A.length + B.length := hs
      clear h0 h1
      go_wp2_with fail
      refine G.out.mono ?_
      rintro e w1 ⟨g, cap, rfl, ho, hb⟩
      have HO := Lib.hid ho
      have HW := Lib.hid hb
      clear ho hb
      go_wp2
      go_loopw [6, 27] (fun v i wr => ∃ (k n g cp : Nat), k ≤ 2 ∧ v = .slice (some ⟨g, 0, none⟩) n cp ∧ i = .int .i64 (k : Int) ∧ Hid (n = (catK A B k).length) ∧ Hid (wr.ownsRow w.heap.size 2 1 (.slice (some ⟨g, 0, none⟩) n cp) n (intVals (catK A B k))) ∧ Hid (Below w.heap.size w wr)) (fun _ i _ => 2 - (intOf i).toNat)
      case atStart => exact ⟨0, 0, g, cap, by omega, rfl, rfl, rfl, HO.out, HW.out⟩
      case round =>
        obtain ⟨k, n, g, cp, hk, rfl, rfl, hn, hO, hB⟩ := hrel
        obtain ⟨i0, hi, hz0, hz1, hz2⟩ := info_parts infoInt
        rcases (show k = 0 ∨ k = 1 ∨ k = 2 by omega) with rfl | rfl | rfl
        · have h0 := (hB.out.cell (p := ⟨bb, 0, none⟩) (World.block_lt_of_cell? w _ H0.out)).trans H0.out
          obtain rfl : n = 0 := hn.out
          have m1 : Hid (0 + A.length ≤ maxLen) := by show _ ≤ _; unfold maxLen; omega
          have hql : (intVals A).length = A.length * 1 := by simp [intVals]
          go_wp2_with (at_builtin; go_must ((refine wpList_append_own _ rfl _ _ 22 rfl w.heap.size 2 i0 (.int .i64 0) 1 8 Tryd.underlying22 hi hz0 hz1 hz2 rfl (by decide) (.slice (some ⟨g, 0, none⟩) 0 cp) 0 (intVals (catK A B 0)) rfl hO.out ⟨b1, o1, none⟩ A.length c1 (intVals A) rfl hql (int_cells (HA.out.later hB.out)) (intVals_one A) m1.out (by omega) hB.out.size ?_); intro v2 w2 hown2 hgrow2 _; obtain ⟨g2, cp2, hv2⟩ := own_form8 hown2 (by omega); subst hv2; have HO2 : Hid (w2.ownsRow w.heap.size 2 1 (.slice (some ⟨g2, 0, none⟩) (A.length) cp2) (A.length) (intVals (catK A B 1))) := (by have h := hown2; show World.ownsRow _ _ _ _ _ _ _; simp [catK, intVals] at h ⊢; exact h); have HB2 : Hid (Below w.heap.size w w2) := hB.out.grown hgrow2 hB.out.size (fun k e => by have h := Option.some.inj e; subst h; exact own_base8 hO.out); clear hown2 hgrow2))
          go_roundw
          case rel => exact ⟨1, A.length, g2, cp2, by omega, by simp, rfl, by show _ = _; simp [catK], HO2.out, HB2.out⟩
          case measure => simp [intOf]
        · have h1 := (hB.out.cell (p := ⟨bb, 1, none⟩) (World.block_lt_of_cell? w _ H1.out)).trans H1.out
          obtain rfl : n = A.length := hn.out
          have m1 : Hid (A.length + B.length ≤ maxLen) := by show _ ≤ _; unfold maxLen; omega
          have hql : (intVals B).length = B.length * 1 := by simp [intVals]
          go_wp2_with (at_builtin; go_must ((refine wpList_append_own _ rfl _ _ 22 rfl w.heap.size 2 i0 (.int .i64 0) 1 8 Tryd.underlying22 hi hz0 hz1 hz2 rfl (by decide) (.slice (some ⟨g, 0, none⟩) A.length cp) A.length (intVals (catK A B 1)) rfl hO.out ⟨b2, o2, none⟩ B.length c2 (intVals B) rfl hql (int_cells (HB.out.later hB.out)) (intVals_one B) m1.out (by omega) hB.out.size ?_); intro v2 w2 hown2 hgrow2 _; obtain ⟨g2, cp2, hv2⟩ := own_form8 hown2 (by omega); subst hv2; have HO2 : Hid (w2.ownsRow w.heap.size 2 1 (.slice (some ⟨g2, 0, none⟩) (A.length + B.length) cp2) (A.length + B.length) (intVals (catK A B 2))) := (by have h := hown2; show World.ownsRow _ _ _ _ _ _ _; simp [catK, intVals] at h ⊢; exact h); have HB2 : Hid (Below w.heap.size w w2) := hB.out.grown hgrow2 hB.out.size (fun k e => by have h := Option.some.inj e; subst h; exact own_base8 hO.out); clear hown2 hgrow2))
          go_roundw
          case rel => exact ⟨2, A.length + B.length, g2, cp2, by omega, by simp, rfl, by show _ = _; simp [catK], HO2.out, HB2.out⟩
          case measure => simp [intOf]
        · obtain rfl : n = A.length + B.length := by rw [hn.out]; simp [catK]
          go_wp2
          go_ret
          exact ⟨g, cp, rfl, hO.out, hB.out⟩

set_option maxRecDepth 100000 in
set_option maxHeartbeats 6400000 in
theorem turnHouse_impl (P : List Int) (T : ByteArray) (a : Option Addr) (cap : Nat) (hcap : P.length ≤ cap) (hl : P.length ≤ 1048576) (hs : T.size ≤ 1048576) (k : Int) (w : World) (ha : IntArg w a P) (hd : DirAt w) :
    Calls Tryd.prog 42 #[.agg #[.slice a P.length cap, .string T], .int .i64 k] w (ThAns w P T k) := by
  obtain ⟨W0, hW⟩ : ∃ W0, (w.alloc (.cells #[.slice a P.length cap, .string T] 27)).alloc (.cells #[.slice none 0 0, .string ⟨#[]⟩] 27) = W0 := ⟨_, rfl⟩
  have E0 : Hid (Below w.heap.size w W0) := by show Below w.heap.size w W0; rw [← hW]; exact balloc (balloc0 _ _) _
  have z0 : W0.heap.size = w.heap.size + 2 := by rw [← hW]; simp
  have hb0 : W0.heap[w.heap.size]? = some (.cells #[.slice a P.length cap, .string T] 27 (0, 0)) := by
    rw [← hW, Below.heap_alloc _ _ _ (by simp)]
    exact heap_alloc_new w _
  have hb1 : W0.heap[w.heap.size + 1]? = some (.cells #[.slice none 0 0, .string ⟨#[]⟩] 27 (0, 0)) := by
    rw [← hW]
    have := heap_alloc_new (w.alloc (.cells #[.slice a P.length cap, .string T] 27)) (.cells #[.slice none 0 0, .string ⟨#[]⟩] 27)
    simpa using this
  have HBX := Lib.hid hb0
  have HRX := Lib.hid hb1
  have C := Lib.hid (checkHouse_impl P T a cap hl hs k 0 W0 (ha.later E0.out) (hd.later E0.out))
  have d0 : W0.cell? ⟨w.heap.size, 0, none⟩ = some (.slice a P.length cap) := (cell_of_block hb0 0).trans rfl
  have d1 : W0.cell? ⟨w.heap.size, 1, none⟩ = some (.string T) := (cell_of_block hb0 1).trans rfl
  have HW := Lib.hid hW
  have HA := Lib.hid (ha.later E0.out)
  have HA0 := Lib.hid ha
  clear hW ha hb0 hb1 hd
  by_cases h0 : hoK P T k 0 = 0
  case neg =>
    have e1 : thP P T k = [] := by unfold thP; rw [if_neg h0]
    have e2 : thT P T k = ⟨#[]⟩ := by unfold thT; rw [if_neg h0]
    unfold ThAns
    rw [e1, e2]
    obtain ⟨c, hc⟩ : ∃ c, hoK P T k 0 = c := ⟨_, rfl⟩
    rw [hc] at C h0 ⊢
    clear e1 e2 hc
    go_enter Tryd.func42, Tryd.ntmps42
    go_wp2_with fail
    rw [HW.out]
    go_wp2_with fail
    refine C.out.mono ?_
    rintro e w1 ⟨rfl, hb1⟩
    have r1 := (hb1.block (w.heap.size + 1) (by omega)).trans HRX.out
    have x0 : w1.cell? ⟨w.heap.size + 1, 0, none⟩ = some (.slice none 0 0) := (cell_of_block r1 0).trans rfl
    have x1 : w1.cell? ⟨w.heap.size + 1, 1, none⟩ = some (.string ⟨#[]⟩) := (cell_of_block r1 1).trans rfl
    have y0 : w1.frozen? ⟨w.heap.size + 1, 0, none⟩ = false := unfrozen_of_block r1 0
    have y1 : w1.frozen? ⟨w.heap.size + 1, 1, none⟩ = false := unfrozen_of_block r1 1
    have B1 := Lib.hid (bnext E0.out hb1)
    clear hb1 r1 d0 d1
    go_wp2
    obtain ⟨g0, g1⟩ := two_set (b := w.heap.size + 1) (w := w1) (by rw [x0]; rfl) (by rw [x1]; rfl) (.slice none 0 0) (.string ⟨#[]⟩)
    refine bodyPost_ret (v := .tuple #[.agg #[.slice none 0 0, .string ⟨#[]⟩], .int .i64 c]) (by simp [results, Tryd.results42, go_sem, g0, g1]) rfl ⟨none, 0, rfl, .inl rfl, two_below B1.out (by omega) _ _⟩
  obtain ⟨h1, h2, h3⟩ := hoK_zero h0
  obtain ⟨n, rfl⟩ := Int.eq_ofNat_of_zero_le h2.1
  have hoks := okHo_size h1
  have e1 : thP P T (n : Int) = rotI P n := by unfold thP; rw [if_pos h0]; rfl
  have e2 : thT P T (n : Int) = rotB T n := by unfold thT; rw [if_pos h0]; rfl
  unfold ThAns
  rw [e1, e2, h0, rotI_length]
  rw [h0] at C
  obtain ⟨b, o, rfl⟩ : ∃ b o, a = some ⟨b, o, none⟩ := by
    obtain ⟨b, o, _, h, _⟩ := HA.out.at (show 0 < P.length by omega)
    exact ⟨b, o, h⟩
  have HAT : Hid (IntAt w b o P) := by
    obtain ⟨b2, o2, _, h, _, hat⟩ := HA0.out.at (show 0 < P.length by omega)
    cases h
    exact hat
  have hn1 : n < P.length := by omega
  have hn2 : (n : Int) ≤ (P.length : Int) := by omega
  have hn0 : (0 : Int) ≤ (n : Int) := by omega
  have hTs : T.size = P.length := hoks.2.2.1
  have hT1 : (n : Int) ≤ (T.size : Int) := by omega
  have hc2 : (P.length : Int) ≤ (cap : Int) := by omega
  have hc3 : (n : Int) ≤ (cap : Int) := by omega
  have h12 := hoks.2.1
  have hcn : ¬ cap = 0 := by omega
  have hcn2 : ¬ cap = n := by omega
  have hT12 : T.size ≤ 12 := by omega
  clear e1 e2 h0 h1 h2 h3 hoks hTs
  have CO : Hid (∀ X bb, IntAt X b o P → X.cell? ⟨bb, 0, none⟩ = some (.slice (some ⟨b, o + n, none⟩) (P.length - n) (cap - n)) → X.cell? ⟨bb, 1, none⟩ = some (.slice (some ⟨b, o, none⟩) n cap) → Calls Tryd.prog 71 #[.slice (some ⟨bb, 0, none⟩) 2 2] X fun e w' => ∃ g cp, e = .returned (.slice (some ⟨g, 0, none⟩) (P.length - n + n) cp) ∧ w'.ownsRow X.heap.size 2 1 (.slice (some ⟨g, 0, none⟩) (P.length - n + n) cp) (P.length - n + n) (intVals (rotI P n)) ∧ Below X.heap.size X w') := fun X bb hX t0 t1 => by
    have hl2 : (P.drop n).length = P.length - n := List.length_drop
    have hl3 : (P.take n).length = n := by rw [List.length_take]; omega
    have := concat_impl (P.drop n) (P.take n) b (o + n) (cap - n) b o cap bb (by omega) (by omega) X (intAt_drop hX n) (intAt_take hX n) (by rw [hl2]; exact t0) (by rw [hl3]; exact t1)
    rw [hl2, hl3] at this
    exact this
  have HLN : Hid (P.length - n + n = P.length) := by show _ = _; omega
  go_enter Tryd.func42, Tryd.ntmps42
  go_wp2_with fail
  rw [HW.out]
  go_wp2_with fail
  refine C.out.mono ?_
  rintro e w1 ⟨rfl, hb1⟩
  have r1 := Lib.hid ((hb1.block (w.heap.size + 1) (by omega)).trans HRX.out)
  have r0 := (hb1.block w.heap.size (by omega)).trans HBX.out
  clear d0 d1
  have d0 : w1.cell? ⟨w.heap.size, 0, none⟩ = some (.slice (some ⟨b, o, none⟩) P.length cap) := (cell_of_block r0 0).trans rfl
  have d1 : w1.cell? ⟨w.heap.size, 1, none⟩ = some (.string T) := (cell_of_block r0 1).trans rfl
  have B1 := Lib.hid (bnext E0.out hb1)
  have zz := hb1.size
  have zz2 : w.heap.size ≤ w1.heap.size := by omega
  clear hb1 r0
  go_wp2_with fail
  refine wp_region_held_drew (S := fun X => (X.cell? ⟨w.heap.size, 0, none⟩ = some (.slice (some ⟨b, o, none⟩) P.length cap) ∧ X.cell? ⟨w.heap.size, 1, none⟩ = some (.string T)) ∧ Below w.heap.size w X) (by kernel_rfl) ?_ (fun hHeld => ?_)
  · exact ⟨⟨d0, d1⟩, B1.out.drew⟩
  refine wpAnyH_take (i := 0) (v := .pointer (some ⟨w.heap.size, 0, none⟩)) rfl (by kernel_rfl) (by kernel_rfl) (by kernel_rfl) (fun _ _ _ h => h) (Or.inl ⟨by kernel_rfl, ?_⟩) (by assumption) ?_
  · intro w hSw
    try dsimp only at hSw
    skip
    go_simp
  try simp only [Act.put, List.setIfInBounds_toArray, List.set_cons_zero, List.set_cons_succ, List.getElem_toArray, List.getElem_cons_zero]
  refine wpAnyH_take (i := 1) (v := .slice (some ⟨b, o, none⟩) P.length cap) rfl (by kernel_rfl) (by kernel_rfl) (by kernel_rfl) (fun _ _ _ h => h) (Or.inl ⟨by kernel_rfl, ?_⟩) (by assumption) ?_
  · intro w hSw
    try dsimp only at hSw
    obtain ⟨⟨hS0, hS1⟩, hS2⟩ := hSw
    go_simp
  try simp only [Act.put, List.setIfInBounds_toArray, List.set_cons_zero, List.set_cons_succ, List.getElem_toArray, List.getElem_cons_zero, List.getElem_cons_succ]
  refine wpAnyH_take (i := 2) (v := .int .i64 (n : Int)) rfl (by kernel_rfl) (by kernel_rfl) (by kernel_rfl) (fun _ _ _ h => h) (Or.inl ⟨by kernel_rfl, ?_⟩) (by assumption) ?_
  · intro w hSw
    try dsimp only at hSw
    skip
    go_simp
  try simp only [Act.put, List.setIfInBounds_toArray, List.set_cons_zero, List.set_cons_succ, List.getElem_toArray, List.getElem_cons_zero, List.getElem_cons_succ]
  refine wpAnyH_take (i := 3) (v := .slice (some ⟨b, o + n, none⟩) (P.length - n) (cap - n)) rfl (by kernel_rfl) (by kernel_rfl) (by kernel_rfl) (fun _ _ _ h => h) (Or.inl ⟨by kernel_rfl, ?_⟩) (by assumption) ?_
  · intro w hSw
    try dsimp only at hSw
    skip
    go_simp
  try simp only [Act.put, List.setIfInBounds_toArray, List.set_cons_zero, List.set_cons_succ, List.getElem_toArray, List.getElem_cons_zero, List.getElem_cons_succ]
  refine wpAnyH_take (i := 4) (v := .pointer (some ⟨w.heap.size, 0, none⟩)) rfl (by kernel_rfl) (by kernel_rfl) (by kernel_rfl) (fun _ _ _ h => h) (Or.inl ⟨by kernel_rfl, ?_⟩) (by assumption) ?_
  · intro w hSw
    try dsimp only at hSw
    skip
    go_simp
  try simp only [Act.put, List.setIfInBounds_toArray, List.set_cons_zero, List.set_cons_succ, List.getElem_toArray, List.getElem_cons_zero, List.getElem_cons_succ]
  refine wpAnyH_take (i := 5) (v := .slice (some ⟨b, o, none⟩) P.length cap) rfl (by kernel_rfl) (by kernel_rfl) (by kernel_rfl) (fun _ _ _ h => h) (Or.inl ⟨by kernel_rfl, ?_⟩) (by assumption) ?_
  · intro w hSw
    try dsimp only at hSw
    obtain ⟨⟨hS0, hS1⟩, hS2⟩ := hSw
    go_simp
  try simp only [Act.put, List.setIfInBounds_toArray, List.set_cons_zero, List.set_cons_succ, List.getElem_toArray, List.getElem_cons_zero, List.getElem_cons_succ]
  refine wpAnyH_take (i := 6) (v := .int .i64 (n : Int)) rfl (by kernel_rfl) (by kernel_rfl) (by kernel_rfl) (fun _ _ _ h => h) (Or.inl ⟨by kernel_rfl, ?_⟩) (by assumption) ?_
  · intro w hSw
    try dsimp only at hSw
    skip
    go_simp
  try simp only [Act.put, List.setIfInBounds_toArray, List.set_cons_zero, List.set_cons_succ, List.getElem_toArray, List.getElem_cons_zero, List.getElem_cons_succ]
  refine wpAnyH_take (i := 7) (v := .slice (some ⟨b, o, none⟩) n cap) rfl (by kernel_rfl) (by kernel_rfl) (by kernel_rfl) (fun _ _ _ h => h) (Or.inl ⟨by kernel_rfl, ?_⟩) (by assumption) ?_
  · intro w hSw
    try dsimp only at hSw
    skip
    go_simp
  try simp only [Act.put, List.setIfInBounds_toArray, List.set_cons_zero, List.set_cons_succ, List.getElem_toArray, List.getElem_cons_zero, List.getElem_cons_succ]
  refine wpAnyH_take (i := 10) (v := .pointer (some ⟨w.heap.size, 1, none⟩)) rfl (by kernel_rfl) (by kernel_rfl) (by kernel_rfl) (fun _ _ _ h => h) (Or.inl ⟨by kernel_rfl, ?_⟩) (by assumption) ?_
  · intro w hSw
    try dsimp only at hSw
    skip
    go_simp
  try simp only [Act.put, List.setIfInBounds_toArray, List.set_cons_zero, List.set_cons_succ, List.getElem_toArray, List.getElem_cons_zero, List.getElem_cons_succ]
  refine wpAnyH_take (i := 11) (v := .string T) rfl (by kernel_rfl) (by kernel_rfl) (by kernel_rfl) (fun _ _ _ h => h) (Or.inl ⟨by kernel_rfl, ?_⟩) (by assumption) ?_
  · intro w hSw
    try dsimp only at hSw
    obtain ⟨⟨hS0, hS1⟩, hS2⟩ := hSw
    go_simp
  try simp only [Act.put, List.setIfInBounds_toArray, List.set_cons_zero, List.set_cons_succ, List.getElem_toArray, List.getElem_cons_zero, List.getElem_cons_succ]
  refine wpAnyH_take (i := 12) (v := .int .i64 (n : Int)) rfl (by kernel_rfl) (by kernel_rfl) (by kernel_rfl) (fun _ _ _ h => h) (Or.inl ⟨by kernel_rfl, ?_⟩) (by assumption) ?_
  · intro w hSw
    try dsimp only at hSw
    skip
    go_simp
  try simp only [Act.put, List.setIfInBounds_toArray, List.set_cons_zero, List.set_cons_succ, List.getElem_toArray, List.getElem_cons_zero, List.getElem_cons_succ]
  refine wpAnyH_take (i := 13) (v := .string (T.extract n T.size)) rfl (by kernel_rfl) (by kernel_rfl) (by kernel_rfl) (fun _ _ _ h => h) (Or.inl ⟨by kernel_rfl, ?_⟩) (by assumption) ?_
  · intro w hSw
    try dsimp only at hSw
    skip
    go_simp
  try simp only [Act.put, List.setIfInBounds_toArray, List.set_cons_zero, List.set_cons_succ, List.getElem_toArray, List.getElem_cons_zero, List.getElem_cons_succ]
  refine wpAnyH_take (i := 14) (v := .pointer (some ⟨w.heap.size, 1, none⟩)) rfl (by kernel_rfl) (by kernel_rfl) (by kernel_rfl) (fun _ _ _ h => h) (Or.inl ⟨by kernel_rfl, ?_⟩) (by assumption) ?_
  · intro w hSw
    try dsimp only at hSw
    skip
    go_simp
  try simp only [Act.put, List.setIfInBounds_toArray, List.set_cons_zero, List.set_cons_succ, List.getElem_toArray, List.getElem_cons_zero, List.getElem_cons_succ]
  refine wpAnyH_take (i := 15) (v := .string T) rfl (by kernel_rfl) (by kernel_rfl) (by kernel_rfl) (fun _ _ _ h => h) (Or.inl ⟨by kernel_rfl, ?_⟩) (by assumption) ?_
  · intro w hSw
    try dsimp only at hSw
    obtain ⟨⟨hS0, hS1⟩, hS2⟩ := hSw
    go_simp
  try simp only [Act.put, List.setIfInBounds_toArray, List.set_cons_zero, List.set_cons_succ, List.getElem_toArray, List.getElem_cons_zero, List.getElem_cons_succ]
  refine wpAnyH_take (i := 16) (v := .int .i64 (n : Int)) rfl (by kernel_rfl) (by kernel_rfl) (by kernel_rfl) (fun _ _ _ h => h) (Or.inl ⟨by kernel_rfl, ?_⟩) (by assumption) ?_
  · intro w hSw
    try dsimp only at hSw
    skip
    go_simp
  try simp only [Act.put, List.setIfInBounds_toArray, List.set_cons_zero, List.set_cons_succ, List.getElem_toArray, List.getElem_cons_zero, List.getElem_cons_succ]
  refine wpAnyH_take (i := 17) (v := .string (T.extract 0 n)) rfl (by kernel_rfl) (by kernel_rfl) (by kernel_rfl) (fun _ _ _ h => h) (Or.inl ⟨by kernel_rfl, ?_⟩) (by assumption) ?_
  · intro w hSw
    try dsimp only at hSw
    skip
    go_simp
  try simp only [Act.put, List.setIfInBounds_toArray, List.set_cons_zero, List.set_cons_succ, List.getElem_toArray, List.getElem_cons_zero, List.getElem_cons_succ]
  refine wpAnyH_take (i := 18) (v := .string (T.extract n T.size ++ T.extract 0 n)) rfl (by kernel_rfl) (by kernel_rfl) (by kernel_rfl) (fun _ _ _ h => h) (Or.inl ⟨by kernel_rfl, ?_⟩) (by assumption) ?_
  · intro w hSw
    try dsimp only at hSw
    skip
    go_simp
    omega
  try simp only [Act.put, List.setIfInBounds_toArray, List.set_cons_zero, List.set_cons_succ, List.getElem_toArray, List.getElem_cons_zero, List.getElem_cons_succ]
  refine wpAnyH_ready (rs := [8]) (by kernel_rfl) (by simp) ?_
  refine AllReadyH.cons rfl (fun K hK => ?_) AllReadyH.nil
  go_simp
  refine hK.out _ _ ?_ (fun hHeld' => ?_)
  · exact ⟨⟨(World.cell?_alloc_lt _ _ _ (World.block_lt_of_cell? _ _ hHeld.1.1)).trans hHeld.1.1, (World.cell?_alloc_lt _ _ _ (World.block_lt_of_cell? _ _ hHeld.1.2)).trans hHeld.1.2⟩, hHeld.2.alloc hHeld.2.size _⟩
  clear hK K hHeld
  have hHeld := hHeld'
  clear hHeld'
  try simp only [Act.put, List.setIfInBounds_toArray, List.set_cons_zero, List.set_cons_succ, List.getElem_toArray, List.getElem_cons_zero, List.getElem_cons_succ]
  refine wpAnyH_ready (rs := [9]) (by kernel_rfl) (by simp) ?_
  refine AllReadyH.cons rfl (fun K hK => ?_) AllReadyH.nil
  go_simp
  obtain ⟨t0, t1⟩ := two_rows w1.drew (.slice (some ⟨b, o + n, none⟩) (P.length - n) (cap - n)) (.slice (some ⟨b, o, none⟩) n cap)
  go_at_call 71
  refine (CO.out _ w1.drew.heap.size (HAT.out.later hHeld.2) t0 t1).mono ?_
  rintro e w4 ⟨g4, cp4, rfl, hO4, hb4⟩
  refine hK.out _ _ ?_ (fun hHeld' => ?_)
  · exact ⟨⟨(hb4.cell (World.block_lt_of_cell? _ _ hHeld.1.1)).trans hHeld.1.1, (hb4.cell (World.block_lt_of_cell? _ _ hHeld.1.2)).trans hHeld.1.2⟩, bnext hHeld.2 hb4⟩
  clear hK K hHeld
  have hHeld := hHeld'
  clear hHeld'
  try simp only [Act.put, List.setIfInBounds_toArray, List.set_cons_zero, List.set_cons_succ, List.getElem_toArray, List.getElem_cons_zero, List.getElem_cons_succ]
  refine wpAnyH_take (i := 19) (v := .agg #[.slice (some ⟨g4, 0, none⟩) (P.length - n + n) cp4, .string (T.extract n T.size ++ T.extract 0 n)]) rfl (by kernel_rfl) (by kernel_rfl) (by kernel_rfl) (fun _ _ _ h => h) (Or.inl ⟨by kernel_rfl, ?_⟩) (by assumption) ?_
  · intro w hSw
    try dsimp only at hSw
    skip
    go_simp
  try simp only [Act.put, List.setIfInBounds_toArray, List.set_cons_zero, List.set_cons_succ, List.getElem_toArray, List.getElem_cons_zero, List.getElem_cons_succ]
  have hge4 : w1.heap.size ≤ g4 := by have h := own_base8 hO4; simp at h; omega
  have ho4 := own_of_row (P := rotI P n) (g := g4) (cap := cp4) (B := (w1.drew.alloc (.cells #[.slice (some ⟨b, o + n, none⟩) (P.length - n) (cap - n), .slice (some ⟨b, o, none⟩) n cap] 22)).heap.size) (by have h := hO4; rw [show P.length - n + n = (rotI P n).length by rw [rotI_length]; exact HLN.out] at h; exact h)
  have HO4 : Hid (IntOwn w.heap.size (rotI P n) g4 w4) := ⟨by omega, ho4.2⟩
  have hrr : w4.heap[w.heap.size + 1]? = some (.cells #[.slice none 0 0, .string ⟨#[]⟩] 27 (0, 0)) := (hb4.block (w.heap.size + 1) (by simp; omega)).trans ((Below.heap_alloc w1.drew _ _ (by show w.heap.size + 1 < w1.heap.size; omega)).trans r1.out)
  have HB4 : Hid (Below w.heap.size w w4) := hHeld.2
  have x0 : w4.cell? ⟨w.heap.size + 1, 0, none⟩ = some (.slice none 0 0) := (cell_of_block hrr 0).trans rfl
  have x1 : w4.cell? ⟨w.heap.size + 1, 1, none⟩ = some (.string ⟨#[]⟩) := (cell_of_block hrr 1).trans rfl
  have y0 : w4.frozen? ⟨w.heap.size + 1, 0, none⟩ = false := unfrozen_of_block hrr 0
  have y1 : w4.frozen? ⟨w.heap.size + 1, 1, none⟩ = false := unfrozen_of_block hrr 1
  clear hO4 hb4 ho4 t0 t1 hrr
  refine wpAnyH_ready (rs := [20]) (by kernel_rfl) (by simp) ?_
  refine AllReadyH.cons rfl (fun K hK => ?_) AllReadyH.nil
  go_simp
  refine hK.out _ _ ?_ (fun hHeld' => ?_)
  · exact ⟨⟨(cell_two (by omega) _ _).trans hHeld.1.1, (cell_two (by omega) _ _).trans hHeld.1.2⟩, two_below hHeld.2 (by omega) _ _⟩
  clear hK K hHeld
  have hHeld := hHeld'
  clear hHeld'
  try simp only [Act.put, List.setIfInBounds_toArray, List.set_cons_zero, List.set_cons_succ, List.getElem_toArray, List.getElem_cons_zero, List.getElem_cons_succ]
  refine wpAnyH_take (i := 21) (v := .int .i64 0) rfl (by kernel_rfl) (by kernel_rfl) (by kernel_rfl) (fun _ _ _ h => h) (Or.inl ⟨by kernel_rfl, ?_⟩) (by assumption) ?_
  · intro w hSw
    try dsimp only at hSw
    skip
    go_simp
  try simp only [Act.put, List.setIfInBounds_toArray, List.set_cons_zero, List.set_cons_succ, List.getElem_toArray, List.getElem_cons_zero, List.getElem_cons_succ]
  refine wpAnyH_done (by kernel_rfl) ?_ _
  go_wp2
  obtain ⟨q0, q1⟩ := two_set (b := w.heap.size + 1) (w := w4) (by rw [x0]; rfl) (by rw [x1]; rfl) (.slice (some ⟨g4, 0, none⟩) (P.length - n + n) cp4) (.string (T.extract n T.size ++ T.extract 0 n))
  refine bodyPost_ret (v := .tuple #[.agg #[.slice (some ⟨g4, 0, none⟩) (P.length - n + n) cp4, .string (T.extract n T.size ++ T.extract 0 n)], .int .i64 0]) (by simp [results, Tryd.results42, go_sem, q0, q1]) rfl ⟨some ⟨g4, 0, none⟩, cp4, ?_, .inr ⟨g4, rfl, (HO4.out.set (by omega)).set (by omega)⟩, two_below HB4.out (by omega) _ _⟩
  rw [HLN.out]
  rfl
end Go.Proofs.YtikjielgnlgnjaaDoor
