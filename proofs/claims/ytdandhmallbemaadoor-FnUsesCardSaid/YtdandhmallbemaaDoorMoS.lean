/-
  Moulds: the model's answers, one by one.
-/
import Derived.Test.YtdandhmallbemaaDoorMoP
import Derived.Test.YtdandhmallbemaaDoorInts
import Derived.Test.YtdandhmallbemaaDoorApp
import Derived.Deep.RegionWith
namespace Go.Proofs.YtdandhmallbemaaDoor
open Go.ChangeShapes Go.WideShapes Go.ChangeAt Go.RowKit Go.Joins

set_option maxHeartbeats 1600000 in
theorem mo_one_spec (c : Mo) (b o : Nat) (w : World) (c0 : w.cell? ⟨b, o, none⟩ = some (.int .i64 c.le)) (c1 : w.cell? ⟨b, o + 1, none⟩ = some (.int .i64 c.wi)) (c2 : w.cell? ⟨b, o + 2, none⟩ = some (.int .i64 c.he)) (c3 : w.cell? ⟨b, o + 3, none⟩ = some (.int .i64 c.us)) :
    Calls Tryd.prog 46 #[.pointer (some ⟨b, o, none⟩)] w fun e w' => e = .returned (.bool c.ok) ∧ w = w' := by
  cases h0 : inB c.le 30 800 <;> cases h1 : inB c.wi 30 800 <;> cases h2 : inB c.he 30 800 <;> cases h3 : inB c.us 0 100000
  all_goals
    go_enter Tryd.func46, Tryd.ntmps46
    go_wp2_with (go_at_call 34; refine (in_any _ _ _ _).mono ?_; rintro e w' ⟨rfl, rfl⟩)
    go_ret
    exact ⟨ret_bool (by simp only [Mo.ok, h0, h1, h2, h3]; first | rfl | simp), rfl⟩

theorem fired_spec (x s : Int) (h0 : 0 ≤ x) (h1 : x ≤ 1000) (s0 : 0 ≤ s) (s1 : s ≤ 200) (w : World) :
    Calls Tryd.prog 68 #[.int .i64 x, .int .i64 s] w fun e w' => e = .returned (.int .i64 (firedF x s)) ∧ w = w' := by
  have hm : 2 * x * (1000 - s) = 2 * (x * (1000 - s)) := Int.mul_assoc 2 x _
  obtain ⟨b0, b1, b2, b3, b4⟩ := fired_bounds h0 h1 s0 s1
  have e1 : IntKind.i64.wrap (1000 - s) = 1000 - s := IntWalk.i64_in _ (by omega)
  have e2 : IntKind.i64.wrap (2 * x) = 2 * x := IntWalk.i64_in _ (by omega)
  have e3 : IntKind.i64.wrap (2 * x * (1000 - s)) = 2 * x * (1000 - s) := IntWalk.i64_in _ (by omega)
  have e4 : IntKind.i64.wrap (2 * x * (1000 - s) + 1000) = 2 * x * (1000 - s) + 1000 := IntWalk.i64_in _ (by omega)
  have e5 : (2 * x * (1000 - s) + 1000).tdiv 2000 = (2 * x * (1000 - s) + 1000) / 2000 := Int.tdiv_eq_ediv_of_nonneg (by omega)
  have e6 : IntKind.i64.wrap ((2 * x * (1000 - s) + 1000) / 2000) = (2 * x * (1000 - s) + 1000) / 2000 := IntWalk.i64_in _ (by omega)
  have e7 : (2 * x * (1000 - s) + 1000) / 2000 = firedF x s := by unfold firedF; rw [hm]
  go_enter Tryd.func68, Tryd.ntmps68
  go_wp2
  go_ret
  exact ⟨ret_int (by first | exact e7 | rfl), rfl⟩

theorem ints_new (W : World) (P : List Int) : IntOwn W.heap.size P W.heap.size (W.alloc (.cells (P.map (Value.int .i64)).toArray 2)) := by
  refine ⟨Nat.le_refl _, fun k z hk => ?_, there_new W _ _ _ (by simp), by simp⟩
  rw [cell_of_row _ _ _ _ _ (0, 0) (heap_alloc_new W _)]
  simp [hk]
theorem ints_grown {w w' : World} {row : Option Nat} {g o : Nat} {P : List Int} (h : IntAt w g o P) (hg : w.grownBy w' row) (hne : some g ≠ row) : IntAt w' g o P := fun k z hk => by
  have h1 := h k z hk
  rw [World.cell?_of_block (w := w) (a := ⟨g, o + k, none⟩) (hg.block g (World.block_lt_of_cell? w _ h1) hne)]
  exact h1
theorem ints_alloc {w : World} {g o : Nat} {P : List Int} (h : IntAt w g o P) (x : Obj) : IntAt (w.alloc x) g o P := h.later (balloc0 _ _)
theorem IntOwn.down {B B' : Nat} {P : List Int} {g : Nat} {w : World} (h : IntOwn B P g w) (hb : B' ≤ B) : IntOwn B' P g w := ⟨Nat.le_trans hb h.1, h.2⟩

theorem row_on {w w' : World} {B e size n : Nat} {v : Value} {xs : List Value} (h : w.ownsRow B e size v n xs) (hb : Below w.heap.size w w') : w'.ownsRow B e size v n xs := by
  refine ⟨h.1, ?_⟩
  rcases h.2 with hn | ⟨g, cap, cur, hv, hB, hgg, rest⟩
  · exact .inl hn
  · exact .inr ⟨g, cap, cur, hv, hB, (hb.block g (Array.getElem?_eq_some_iff.1 hgg).1).trans hgg, rest⟩
theorem nums_on {W0 w w' : World} {ps : List Int} {g cap : Nat} (h : NumsAt W0 ps g cap w) (hb : Below w.heap.size w w') : NumsAt W0 ps g cap w' :=
  ⟨row_on h.1 hb, h.2.1.trans (hb.mono (Nat.le_of_succ_le h.2.2)), Nat.le_trans h.2.2 hb.size⟩

theorem szS_spec (c : Mo) (b o : Nat) (w : World) (c0 : w.cell? ⟨b, o, none⟩ = some (.int .i64 c.le)) (c1 : w.cell? ⟨b, o + 1, none⟩ = some (.int .i64 c.wi)) (c2 : w.cell? ⟨b, o + 2, none⟩ = some (.int .i64 c.he)) :
    Calls Tryd.prog 67 #[.pointer (some ⟨b, o, none⟩)] w fun e w' => e = .returned (.slice (some ⟨w.heap.size, 0, none⟩) 3 3) ∧ IntOwn w.heap.size (szL c) w.heap.size w' ∧ Below w.heap.size w w' := by
  have H := ints_new w (szL c)
  go_enter Tryd.func67, Tryd.ntmps67
  go_wp2
  go_region
  go_wp2
  go_ret
  exact ⟨rfl, H.later (Below.refl _ _).drew, (balloc0 _ _).drew⟩

set_option maxRecDepth 100000 in
set_option maxHeartbeats 1600000 in
theorem all_spec (c : Mo) (hok : c.ok = true) (s : Int) (s0 : 0 ≤ s) (s1 : s ≤ 200) (b o : Nat) (w : World) (c0 : w.cell? ⟨b, o, none⟩ = some (.int .i64 c.le)) (c1 : w.cell? ⟨b, o + 1, none⟩ = some (.int .i64 c.wi)) (c2 : w.cell? ⟨b, o + 2, none⟩ = some (.int .i64 c.he)) :
    Calls Tryd.prog 60 #[.pointer (some ⟨b, o, none⟩), .int .i64 s] w fun e w' => ∃ g cap, e = .returned (.slice (some ⟨g, 0, none⟩) 3 cap) ∧ IntOwn w.heap.size (firedL c s) g w' ∧ Below w.heap.size w w' := by
  have hb0 : b < w.heap.size := World.block_lt_of_cell? w _ c0
  have C := Lib.hid (fun wx (h : Below w.heap.size w wx) => szS_spec c b o wx ((h.cell (p := ⟨b, o, none⟩) hb0).trans c0) ((h.cell (p := ⟨b, o + 1, none⟩) hb0).trans c1) ((h.cell (p := ⟨b, o + 2, none⟩) hb0).trans c2))
  have HO := Lib.hid hok
  clear c0 c1 c2 hb0 hok
  go_enter Tryd.func60, Tryd.ntmps60
  go_wp2_with fail
  refine (C.out _ (balloc0 _ _)).mono ?_
  rintro e w1 ⟨rfl, o1, hb1⟩
  have S1 := Lib.hid (nums_on (nums_start w) hb1)
  have hg1 : (w.alloc (.cells #[] 2)).heap.size = w.heap.size + 1 := by simp
  rw [hg1] at o1 ⊢
  have Z1 := Lib.hid o1.2.1
  have z1 : w.heap.size + 1 < w1.heap.size := o1.2.2.2
  clear hb1 o1 hg1
  go_wp2
  go_loopw [5, 7] (fun v i wr => ∃ (k g cap : Nat) (ps : List Int), k ≤ 3 ∧ v = .slice (some ⟨g, 0, none⟩) ps.length cap ∧ i = .int .i64 k ∧ Hid (ps = firedTo (szL c) s k) ∧ Hid (ps.length = k) ∧ Hid (NumsAt w ps g cap wr) ∧ g ≠ (w.heap.size + 1) ∧ (w.heap.size + 1) < wr.heap.size ∧ Hid (IntAt wr (w.heap.size + 1) 0 (szL c))) (fun _ i _ => 3 - (intOf i).toNat)
  case atStart => exact ⟨0, w.heap.size, 0, [], by omega, rfl, rfl, rfl, rfl, S1.out, by omega, z1, Z1.out⟩
  case round =>
    obtain ⟨k, g, cap, ps, hk, rfl, rfl, hP, hpl, hD, hne, hlt1, hZ⟩ := hrel
    by_cases hlt : k < 3
    · have hlt' : (k : Int) < 3 := by omega
      have hk0 : (0 : Int) ≤ (k : Int) := by omega
      obtain ⟨z, hz⟩ : ∃ z, (szL c)[k]? = some z := ⟨_, List.getElem?_eq_getElem (by simpa [szL] using hlt)⟩
      have cz := hZ.out k z hz
      rw [Nat.zero_add] at cz
      obtain ⟨z0, z2⟩ := szL_ok HO.out hz
      have F := Lib.hid (fired_spec z s (by omega) (by omega) s0 s1)
      obtain ⟨q, hq⟩ : ∃ q, firedF z s = q := ⟨_, rfl⟩
      have HP1 : Hid (ps ++ [q] = firedTo (szL c) s (k + 1)) := by show _ = _; rw [hP.out, ← hq]; exact firedTo_step hz
      rw [hq] at F
      clear hz hq
      obtain ⟨i0, hi, hz0, hz1, hz2⟩ := info_parts infoInt
      have hbase : w.heap.size ≤ wr.heap.size := by have := hD.out.2.2; omega
      have hps3 : ps.length ≤ 3 := by rw [hpl.out]; exact hk
      have c3 : Hid (ps.length + 1 ≤ maxLen) := by show ps.length + 1 ≤ maxLen; rw [hpl.out]; unfold maxLen; omega
      go_wp2_with (first | (go_at_call 68; refine (F.out _).mono ?_; rintro e w4 ⟨rfl, rfl⟩) | (at_builtin; go_must ((refine wpList_append_own2 _ rfl _ _ 27 rfl w.heap.size 2 i0 (.int .i64 0) 1 8 Tryd.underlying27 hi hz0 hz1 hz2 rfl (by decide) (.slice (some ⟨g, 0, none⟩) ps.length cap) ps.length (intVals ps) rfl (hD.out.1.alloc _) ⟨wr.heap.size, 0, none⟩ 1 1 [.int .i64 q] rfl rfl ((lit8 w.heap.size wr _ hbase).cells rfl) (by simp [Value.oneCell']) c3.out (by omega) (by simp; omega) ?_; intro v1 w2 hown1 hgrow1 hf1; obtain ⟨g', cap', hv, hD'⟩ := nums_step hD.out hown1 hgrow1; subst hv; have D2 := Lib.hid hD'; have Z2 := Lib.hid (ints_grown (ints_alloc hZ.out _) hgrow1 (by simp [Value.ownBlock]; omega)); have hne2 : g' ≠ w.heap.size + 1 := (by simp [Value.ownBlock] at hf1; omega); have hl2 : (w.heap.size + 1) < w2.heap.size := (by have := hgrow1.size; simp at this; omega); clear hD' hown1 hgrow1 hf1))))
      go_roundw
      case rel => exact ⟨k + 1, g', cap', ps ++ [q], by omega, by simp, by go_num, HP1.out, by show (ps ++ [q]).length = k + 1; simp [hpl.out], D2.out, hne2, hl2, Z2.out⟩
      case measure => simp [intOf]; omega
    · have hge : ¬ (k : Int) < 3 := by omega
      have hk3 : k = 3 := by omega
      subst hk3
      have HR : Hid (IntOwn w.heap.size (firedL c s) g wr) := by
        have h := hD.out.own
        rw [hP.out] at h
        exact h
      have HB := Lib.hid hD.out.2.1
      rw [hpl.out]
      go_wp2
      go_ret
      first | exact ⟨g, ⟨cap, rfl⟩, HR.out, HB.out⟩ | exact ⟨g, cap, rfl, HR.out, HB.out⟩
end Go.Proofs.YtdandhmallbemaaDoor
