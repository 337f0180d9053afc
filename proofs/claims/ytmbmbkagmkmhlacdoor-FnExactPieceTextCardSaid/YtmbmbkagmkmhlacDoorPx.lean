/-
  The text of a piece: the model's and the program's.
-/
import Derived.Test.YtmbmbkagmkmhlacDoorQp
import Derived.Test.YtmbmbkagmkmhlacDoorJoinN
import Derived.Test.YtmbmbkagmkmhlacDoorDec2
import Derived.Test.YtmbmbkagmkmhlacDoorPcL
import Derived.Deep.RegionWith
import Derived.Deep.RegionHeld3
namespace Go.Proofs.YtmbmbkagmkmhlacDoor
open Go.ChangeShapes Go.WideShapes Go.ChangeAt Go.RowKit Go.Joins

theorem ret_strP {a b : ByteArray} (h : a = b) : Ending.returned (.string a) = .returned (.string b) := by rw [h]
def pxL (p : Pc) : List UInt8 := Lib.itoa p.le ++ [120] ++ Lib.itoa p.he ++ [32] ++ Lib.itoa p.ha ++ [47, 50]
def pxS (p : Pc) : ByteArray := if pcB p = true then ⟨(pxL p).toArray⟩ else ⟨#[]⟩
theorem px_cat (d1 d2 d3 : List UInt8) : (ByteArray.mk d1.toArray ++ ByteArray.mk #[120] ++ ByteArray.mk d2.toArray ++ ByteArray.mk #[32] ++ ByteArray.mk d3.toArray ++ ByteArray.mk #[47, 50]) = ByteArray.mk (d1 ++ [120] ++ d2 ++ [32] ++ d3 ++ [47, 50]).toArray := by
  rw [← ByteArray.mk_append_mk, ← ByteArray.mk_append_mk, ← ByteArray.mk_append_mk, ← ByteArray.mk_append_mk, ← ByteArray.mk_append_mk]
section
variable {w w1 w2 : World} {B : Nat} {c0 c1 c2 : Value}
theorem keep3_call (h : w1.cell? ⟨B, 0, none⟩ = some c0 ∧ w1.cell? ⟨B, 1, none⟩ = some c1 ∧ w1.cell? ⟨B, 2, none⟩ = some c2 ∧ Below B w w1 ∧ B < w1.heap.size) (hb : Below w1.heap.size w1 w2) :
    w2.cell? ⟨B, 0, none⟩ = some c0 ∧ w2.cell? ⟨B, 1, none⟩ = some c1 ∧ w2.cell? ⟨B, 2, none⟩ = some c2 ∧ Below B w w2 ∧ B < w2.heap.size := by
  obtain ⟨h0, h1, h2, h3, h4⟩ := h
  exact ⟨(hb.cell (p := ⟨B, 0, none⟩) h4).trans h0, (hb.cell (p := ⟨B, 1, none⟩) h4).trans h1, (hb.cell (p := ⟨B, 2, none⟩) h4).trans h2, h3.trans (hb.mono (Nat.le_of_lt h4)), Nat.lt_of_lt_of_le h4 hb.size⟩
theorem keep3_drew (h0 : w1.cell? ⟨B, 0, none⟩ = some c0) (h1 : w1.cell? ⟨B, 1, none⟩ = some c1) (h2 : w1.cell? ⟨B, 2, none⟩ = some c2) (h3 : Below B w w1) (h4 : B < w1.heap.size) :
    w1.drew.cell? ⟨B, 0, none⟩ = some c0 ∧ w1.drew.cell? ⟨B, 1, none⟩ = some c1 ∧ w1.drew.cell? ⟨B, 2, none⟩ = some c2 ∧ Below B w w1.drew ∧ B < w1.drew.heap.size := ⟨h0, h1, h2, h3.drew, h4⟩
end
set_option maxRecDepth 100000 in
set_option maxHeartbeats 3200000 in
theorem pxText_spec (p : Pc) (w : World) : Calls Tryd.prog 4 #[.agg #[.int .i64 p.le, .int .i64 p.he, .int .i64 p.ha]] w fun e w' => e = .returned (.string (pxS p)) ∧ Below w.heap.size w w' := by
  obtain ⟨g0, g1, g2⟩ := TrBox.new w p.le p.he p.ha 25
  have HB1 : Hid (Below w.heap.size w (w.alloc (.cells #[.int .i64 p.le, .int .i64 p.he, .int .i64 p.ha] 25))) := balloc0 _ _
  have hz1 : w.heap.size < (w.alloc (.cells #[.int .i64 p.le, .int .i64 p.he, .int .i64 p.ha] 25)).heap.size := by simp
  obtain ⟨W1, hW⟩ : ∃ W1, w.alloc (.cells #[.int .i64 p.le, .int .i64 p.he, .int .i64 p.ha] 25) = W1 := ⟨_, rfl⟩
  rw [hW] at g0 g1 g2 HB1 hz1
  have HW := Lib.hid hW
  clear hW
  have ONE := Lib.hid (one_spec p w.heap.size 0 W1 g0 g1 g2)
  cases h : pcB p
  · have HS : Hid (pxS p = ⟨#[]⟩) := by show pxS p = _; simp [pxS, h]
    go_enter Tryd.func4, Tryd.ntmps4
    go_wp2_with fail
    try rw [HW.out]
    try go_wp2_with fail
    refine ONE.out.mono ?_
    rintro e w1 ⟨rfl, rfl⟩
    rw [h]
    go_wp2
    go_ret
    exact ⟨ret_strP HS.out.symm, HB1.out⟩
  · have HS : Hid (pxS p = ⟨(pxL p).toArray⟩) := by show pxS p = _; simp [pxS, h]
    obtain ⟨⟨l1, l2⟩, ⟨h1, h2⟩, ⟨a1, a2⟩⟩ := pcB_true.1 h
    have D1 := Lib.hid (dec_spec p.le (by omega) (by omega))
    have D2 := Lib.hid (dec_spec p.he (by omega) (by omega))
    have D3 := Lib.hid (dec_spec p.ha (by omega) (by omega))
    have n1 := Lib.itoa_length_le p.le (by omega) (by omega)
    have n2 := Lib.itoa_length_le p.he (by omega) (by omega)
    have n3 := Lib.itoa_length_le p.ha (by omega) (by omega)
    have HT : Hid (pxL p = Lib.itoa p.le ++ [120] ++ Lib.itoa p.he ++ [32] ++ Lib.itoa p.ha ++ [47, 50]) := rfl
    obtain ⟨d1, e1⟩ : ∃ d, Lib.itoa p.le = d := ⟨_, rfl⟩
    obtain ⟨d2, e2⟩ : ∃ d, Lib.itoa p.he = d := ⟨_, rfl⟩
    obtain ⟨d3, e3⟩ : ∃ d, Lib.itoa p.ha = d := ⟨_, rfl⟩
    rw [e1] at D1 n1 HT
    rw [e2] at D2 n2 HT
    rw [e3] at D3 n3 HT
    have k1 : ¬ (9223372036854775807 < d1.length + 1) := by omega
    have k2 : ¬ (9223372036854775807 < d1.length + 1 + d2.length) := by omega
    have k3 : ¬ (9223372036854775807 < d1.length + 1 + d2.length + 1) := by omega
    have k4 : ¬ (9223372036854775807 < d1.length + 1 + d2.length + 1 + d3.length) := by omega
    have k5 : ¬ (9223372036854775807 < d1.length + 1 + d2.length + 1 + d3.length + 2) := by omega
    clear e1 e2 e3 n1 n2 n3 l1 l2 h1 h2 a1 a2
    go_enter Tryd.func4, Tryd.ntmps4
    go_wp2_with fail
    try rw [HW.out]
    try go_wp2_with fail
    refine ONE.out.mono ?_
    rintro e w1 ⟨rfl, rfl⟩
    rw [h]
    have hB1 := HB1.out
    go_wp2_with fail
    go_region_held3 (fun w' => w'.cell? ⟨w.heap.size, 0, none⟩ = some (.int .i64 p.le) ∧ w'.cell? ⟨w.heap.size, 1, none⟩ = some (.int .i64 p.he) ∧ w'.cell? ⟨w.heap.size, 2, none⟩ = some (.int .i64 p.ha) ∧ Below w.heap.size w w' ∧ w.heap.size < w'.heap.size)
      (first | exact keep3_call (by assumption) hb | assumption | exact keep3_drew g0 g1 g2 hB1 hz1)
      (first | (go_at_call_of 8 (Value.int .i64 p.le); refine (D1.out _).mono ?_; rintro e w2 ⟨rfl, hb⟩) | (go_at_call_of 8 (Value.int .i64 p.he); refine (D2.out _).mono ?_; rintro e w2 ⟨rfl, hb⟩) | (go_at_call_of 8 (Value.int .i64 p.ha); refine (D3.out _).mono ?_; rintro e w2 ⟨rfl, hb⟩))
    all_goals
      clear k1 k2 k3 k4 k5
      go_wp2
      go_split_ands
      go_ret
      exact ⟨ret_strP (by rw [HS.out, HT.out]; exact px_cat d1 d2 d3), by assumption⟩
theorem pxL_join (p : Pc) : joinTo [120] [p.le, p.he] 2 ++ [32] ++ Lib.itoa p.ha ++ [47, 50] = pxL p := by
  simp [joinTo, pxL]
set_option maxRecDepth 100000 in
set_option maxHeartbeats 3200000 in
theorem pxText_impl (p : Pc) (w : World) (hp : Pow10 w) : Calls Tryd.prog 6 #[.agg #[.int .i64 p.le, .int .i64 p.he, .int .i64 p.ha]] w fun e w' => e = .returned (.string (pxS p)) ∧ Below w.heap.size w w' := by
  obtain ⟨g0, g1, g2⟩ := TrBox.new w p.le p.he p.ha 25
  have HB1 : Hid (Below w.heap.size w (w.alloc (.cells #[.int .i64 p.le, .int .i64 p.he, .int .i64 p.ha] 25))) := balloc0 _ _
  have hz1 : w.heap.size < (w.alloc (.cells #[.int .i64 p.le, .int .i64 p.he, .int .i64 p.ha] 25)).heap.size := by simp
  obtain ⟨W1, hW⟩ : ∃ W1, w.alloc (.cells #[.int .i64 p.le, .int .i64 p.he, .int .i64 p.ha] 25) = W1 := ⟨_, rfl⟩
  rw [hW] at g0 g1 g2 HB1 hz1
  have HW := Lib.hid hW
  clear hW
  have C := Lib.hid (isPiece_impl p)
  cases h : pcB p
  · have HS : Hid (pxS p = ⟨#[]⟩) := by show pxS p = _; simp [pxS, h]
    rw [h] at C
    clear hp
    go_enter Tryd.func6, Tryd.ntmps6
    go_wp2_with fail
    try rw [HW.out]
    try go_wp2_with fail
    refine (C.out _).mono ?_
    rintro e w1 ⟨rfl, hb1⟩
    have B1 := Lib.hid (bnext HB1.out hb1)
    clear hb1 g0 g1 g2
    go_wp2
    go_ret
    exact ⟨ret_strP HS.out.symm, B1.out⟩
  · have HS : Hid (pxS p = ⟨(pxL p).toArray⟩) := by show pxS p = _; simp [pxS, h]
    obtain ⟨⟨l1, l2⟩, ⟨h1, h2⟩, ⟨a1, a2⟩⟩ := pcB_true.1 h
    have hr : ∀ (k : Nat) (z : Int), [p.le, p.he][k]? = some z → InI64 z := by
      intro k z hk
      have := List.mem_of_getElem? hk
      simp at this
      unfold InI64
      omega
    have J : Hid (∀ (wy : World), Below w.heap.size w wy → Calls Tryd.prog 10 #[.string ⟨#[120]⟩, .slice (some ⟨wy.heap.size, 0, none⟩) 2 2] (wy.alloc (.cells #[.int .i64 p.le, .int .i64 p.he] 2)) fun e w' => e = .returned (.string ⟨(joinTo [120] [p.le, p.he] 2).toArray⟩) ∧ Below wy.heap.size wy w') := fun wy hy =>
      (joinN_impl ⟨#[120]⟩ [p.le, p.he] wy.heap.size 2 (by simp) (by decide) hr _ (hp.later (balloc hy _)) (fun k z hk => by
        have hl := (List.getElem?_eq_some_iff.1 hk).1
        have h9 := range_new wy #[.int .i64 p.le, .int .i64 p.he] 2 k (.int .i64 z) (by
          match k, hk with
          | 0, hk => simpa using hk
          | 1, hk => simpa using hk
          | k + 2, hk => simp at hk)
        simpa using h9)).mono (fun e w' h => ⟨h.1, bnext (balloc0 _ _) h.2⟩)
    have D := Lib.hid (fun wx (h : Below w.heap.size w wx) => decimal_impl p.ha (by omega) (by omega) wx (hp.later h))
    have HJ := Lib.hid (pxL_join p)
    have n1 := joinTo_length (sep := [120]) hr (by simp) 2
    have n2 := Lib.itoa_length_le p.ha (by omega) (by omega)
    obtain ⟨T, hT⟩ : ∃ T, joinTo [120] [p.le, p.he] 2 = T := ⟨_, rfl⟩
    obtain ⟨d, hd⟩ : ∃ d, Lib.itoa p.ha = d := ⟨_, rfl⟩
    rw [hT] at J HJ n1
    rw [hd] at D HJ n2
    have k1 : ¬ (9223372036854775807 < T.length + 1) := by omega
    have k2 : ¬ (9223372036854775807 < T.length + 1 + d.length) := by omega
    have k3 : ¬ (9223372036854775807 < T.length + 1 + d.length + 2) := by omega
    rw [h] at C
    clear h hT hd n1 n2 hr hp l1 l2 h1 h2 a1 a2
    go_enter Tryd.func6, Tryd.ntmps6
    go_wp2_with fail
    try rw [HW.out]
    try go_wp2_with fail
    refine (C.out _).mono ?_
    rintro e w1 ⟨rfl, hb1⟩
    have B1 := Lib.hid (bnext HB1.out hb1)
    have a0 := (hb1.cell (p := ⟨w.heap.size, 0, none⟩) hz1).trans g0
    have a1 := (hb1.cell (p := ⟨w.heap.size, 1, none⟩) hz1).trans g1
    have a2 := (hb1.cell (p := ⟨w.heap.size, 2, none⟩) hz1).trans g2
    have hz2 : w.heap.size < w1.heap.size := World.block_lt_of_cell? w1 _ a0
    clear hb1 g0 g1 g2
    go_wp2_with fail
    go_region_with (first
      | (go_at_call 10; refine (J.out _ B1.out.drew).mono ?_; rintro e w3 ⟨rfl, hb3⟩; have B3 := Lib.hid (bnext B1.out.drew hb3); have e3 := (hb3.cell (p := ⟨w.heap.size, 2, none⟩) hz2).trans a2; clear hb3)
      | (go_at_call 11; refine (D.out _ B3.out).mono ?_; rintro e w4 ⟨rfl, hb4⟩; have B4 := Lib.hid (bnext B3.out hb4); clear hb4))
    all_goals
      clear k1 k2 k3
      go_wp2
      go_ret
      exact ⟨ret_strP (by rw [HS.out, ← HJ.out, ← ByteArray.mk_append_mk, ← ByteArray.mk_append_mk, ← ByteArray.mk_append_mk]), B4.out⟩
end Go.Proofs.YtmbmbkagmkmhlacDoor
