/-
  The text of a clay: ClayText of the program.
-/
import Derived.Test.YtpmklnldgafkjabDoorClTxtI
namespace Go.Proofs.YtpmklnldgafkjabDoor
open Go.ChangeShapes Go.WideShapes Go.ChangeAt Go.RowKit Go.Joins

set_option maxRecDepth 100000 in
set_option maxHeartbeats 3200000 in
theorem clayText_impl (c : Cl) (w : World) (hp : Pow10 w) : Calls Tryd.prog 11 #[.agg #[.string c.name, .int .i64 c.sh, .int .i64 c.li, .int .i64 c.sa, .int .i64 c.pr]] w fun e w' => e = .returned (.string (clS c)) ∧ Below w.heap.size w w' := by
  have R := clay_new w c 26
  have HB1 : Hid (Below w.heap.size w (w.alloc (.cells #[.string c.name, .int .i64 c.sh, .int .i64 c.li, .int .i64 c.sa, .int .i64 c.pr] 26))) := balloc0 _ _
  obtain ⟨W1, hW⟩ : ∃ W1, w.alloc (.cells #[.string c.name, .int .i64 c.sh, .int .i64 c.li, .int .i64 c.sa, .int .i64 c.pr] 26) = W1 := ⟨_, rfl⟩
  rw [hW] at R HB1
  have HW := Lib.hid hW
  have C := Lib.hid (isClay_impl c)
  clear hW
  cases h : c.ok
  · have HS : Hid (clS c = ⟨#[]⟩) := by show clS c = _; simp [clS, h]
    obtain ⟨g0, g1, g2, g3, g4⟩ := R
    rw [h] at C
    clear h hp
    go_enter Tryd.func11, Tryd.ntmps11
    go_wp2_with fail
    rw [HW.out]
    go_wp2_with fail
    refine (C.out _).mono ?_
    rintro e w1 ⟨rfl, hb1⟩
    have B1 := Lib.hid (bnext HB1.out hb1)
    clear hb1 g0 g1 g2 g3 g4
    go_wp2
    go_ret
    exact ⟨ret_strC HS.out.symm, B1.out⟩
  · have HS : Hid (clS c = clT c) := by show clS c = _; simp [clS, h]
    obtain ⟨⟨a1, a2⟩, ⟨b1, b2⟩, ⟨c1, c2⟩, ⟨e1, e2⟩, hn⟩ := Cl.ok_i64 h
    have D1 : Hid (∀ wx, Below w.heap.size w wx → Calls Tryd.prog 31 #[.int .i64 c.sh] wx fun e w' => e = .returned (.string (itoaB c.sh)) ∧ Below wx.heap.size wx w') := fun wx h => decimal_impl c.sh a1 a2 wx (hp.later h)
    have D2 : Hid (∀ wx, Below w.heap.size w wx → Calls Tryd.prog 31 #[.int .i64 c.li] wx fun e w' => e = .returned (.string (itoaB c.li)) ∧ Below wx.heap.size wx w') := fun wx h => decimal_impl c.li b1 b2 wx (hp.later h)
    have D3 : Hid (∀ wx, Below w.heap.size w wx → Calls Tryd.prog 31 #[.int .i64 c.sa] wx fun e w' => e = .returned (.string (itoaB c.sa)) ∧ Below wx.heap.size wx w') := fun wx h => decimal_impl c.sa c1 c2 wx (hp.later h)
    have D4 : Hid (∀ wx, Below w.heap.size w wx → Calls Tryd.prog 31 #[.int .i64 c.pr] wx fun e w' => e = .returned (.string (itoaB c.pr)) ∧ Below wx.heap.size wx w') := fun wx h => decimal_impl c.pr e1 e2 wx (hp.later h)
    have J := Lib.hid (clJoin c h)
    obtain ⟨T, hT⟩ : ∃ T, clT c = T := ⟨_, rfl⟩
    rw [hT] at J HS
    rw [h] at C
    obtain ⟨d1, q1⟩ : ∃ d, itoaB c.sh = d := ⟨_, rfl⟩
    obtain ⟨d2, q2⟩ : ∃ d, itoaB c.li = d := ⟨_, rfl⟩
    obtain ⟨d3, q3⟩ : ∃ d, itoaB c.sa = d := ⟨_, rfl⟩
    obtain ⟨d4, q4⟩ : ∃ d, itoaB c.pr = d := ⟨_, rfl⟩
    rw [q1] at D1 J
    rw [q2] at D2 J
    rw [q3] at D3 J
    rw [q4] at D4 J
    obtain ⟨nm, hnm⟩ : ∃ x, c.name = x := ⟨_, rfl⟩
    obtain ⟨s1, hs1⟩ : ∃ x, c.sh = x := ⟨_, rfl⟩
    obtain ⟨s2, hs2⟩ : ∃ x, c.li = x := ⟨_, rfl⟩
    obtain ⟨s3, hs3⟩ : ∃ x, c.sa = x := ⟨_, rfl⟩
    obtain ⟨s4, hs4⟩ : ∃ x, c.pr = x := ⟨_, rfl⟩
    rw [hnm, hs1, hs2, hs3, hs4] at R HW C ⊢
    rw [hnm] at J
    rw [hs1] at D1
    rw [hs2] at D2
    rw [hs3] at D3
    rw [hs4] at D4
    obtain ⟨g0, g1, g2, g3, g4⟩ := R
    have hlt : w.heap.size < W1.heap.size := World.block_lt_of_cell? W1 _ g0
    clear h hT q1 q2 q3 q4 hnm hs1 hs2 hs3 hs4 hp a1 a2 b1 b2 c1 c2 e1 e2 hn
    go_enter Tryd.func11, Tryd.ntmps11
    go_wp2_with fail
    rw [HW.out]
    go_wp2_with fail
    refine (C.out _).mono ?_
    rintro e w1 ⟨rfl, hb1⟩
    have hB1 := bnext HB1.out hb1
    have a0 := (hb1.cell (p := ⟨w.heap.size, 0, none⟩) hlt).trans g0
    have a1 := (hb1.cell (p := ⟨w.heap.size, 1, none⟩) hlt).trans g1
    have a2 := (hb1.cell (p := ⟨w.heap.size, 2, none⟩) hlt).trans g2
    have a3 := (hb1.cell (p := ⟨w.heap.size, 3, none⟩) hlt).trans g3
    have a4 := (hb1.cell (p := ⟨w.heap.size, 4, none⟩) hlt).trans g4
    clear hb1 g0 g1 g2 g3 g4 hlt
    go_wp2_with fail
    go_region_held3 (fun w' => w'.cell? ⟨w.heap.size, 0, none⟩ = some (.string nm) ∧ w'.cell? ⟨w.heap.size, 1, none⟩ = some (.int .i64 s1) ∧ w'.cell? ⟨w.heap.size, 2, none⟩ = some (.int .i64 s2) ∧ w'.cell? ⟨w.heap.size, 3, none⟩ = some (.int .i64 s3) ∧ w'.cell? ⟨w.heap.size, 4, none⟩ = some (.int .i64 s4) ∧ Below w.heap.size w w')
      (first | exact keep5_call (by assumption) hb | assumption | exact keep5_drew a0 a1 a2 a3 a4 hB1 | exact keep5_alloc (by assumption))
      (first | (go_at_call_of 31 (Value.int .i64 s1); refine (D1.out _ (by first | assumption | (go_split_ands; assumption) | exact hB1.drew)).mono ?_; rintro e w2 ⟨rfl, hb⟩) | (go_at_call_of 31 (Value.int .i64 s2); refine (D2.out _ (by first | assumption | (go_split_ands; assumption))).mono ?_; rintro e w2 ⟨rfl, hb⟩) | (go_at_call_of 31 (Value.int .i64 s3); refine (D3.out _ (by first | assumption | (go_split_ands; assumption))).mono ?_; rintro e w2 ⟨rfl, hb⟩) | (go_at_call_of 31 (Value.int .i64 s4); refine (D4.out _ (by first | assumption | (go_split_ands; assumption))).mono ?_; rintro e w2 ⟨rfl, hb⟩))
    all_goals
      go_wp2_with fail
      go_split_ands
      refine (J.out _).mono ?_
      rintro e w6 ⟨rfl, hb6⟩
      have B6 := Lib.hid (bnext (w := w) (by assumption) hb6)
      clear hb6
      go_wp2
      go_ret
      exact ⟨ret_strC HS.out.symm, B6.out⟩
end Go.Proofs.YtpmklnldgafkjabDoor
