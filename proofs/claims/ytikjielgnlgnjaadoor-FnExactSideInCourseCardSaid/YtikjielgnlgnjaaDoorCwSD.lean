/-
  The walk of the law on SideInCourse.
-/
import Derived.Test.YtikjielgnlgnjaaDoorHoY
import Derived.Test.YtikjielgnlgnjaaDoorHoJ
import Derived.Test.YtikjielgnlgnjaaDoorHoD
namespace Go.Proofs.YtikjielgnlgnjaaDoor
open Go.ChangeShapes Go.WideShapes Go.ChangeAt Go.RowKit Go.Joins

set_option maxRecDepth 100000 in
set_option maxHeartbeats 1600000 in
theorem walk_FnExactSideInCourse (P : List Int) (T : ByteArray) (a : Option Addr) (cap : Nat) (hn : T.size ≤ maxLen) (hl : P.length ≤ maxLen) (x0 : Int) (_wf0 : (Lit.int .i64 x0).wf = true) (x1 : Int) (_wf1 : (Lit.int .i64 x1).wf = true) (w : World) (ha : IntArg w a P) (hf0 : DirAt w) :
    Calls Tryd.prog 6 #[.agg #[.slice a P.length cap, .string T], .int .i64 x0, .int .i64 x1] w fun e w' => e = .returned (.bool true) ∧ Below w.heap.size w w' := by
  obtain ⟨d0, d1⟩ := boxH w (.slice a P.length cap) T 24
  obtain ⟨W0, hW⟩ : ∃ W0, w.alloc (.cells #[.slice a P.length cap, .string T] 24) = W0 := ⟨_, rfl⟩
  have E0 : Hid (Below w.heap.size w W0) := by show Below w.heap.size w W0; rw [← hW]; exact balloc0 _ _
  rw [hW] at d0 d1
  have K : Hid (∀ wx, Below W0.heap.size W0 wx → wx.cell? ⟨w.heap.size, 0, none⟩ = some (.slice a P.length cap) ∧ wx.cell? ⟨w.heap.size, 1, none⟩ = some (.string T)) := fun wx hx =>
    ⟨(hx.cell (p := ⟨w.heap.size, 0, none⟩) (World.block_lt_of_cell? W0 _ d0)).trans d0, (hx.cell (p := ⟨w.heap.size, 1, none⟩) (World.block_lt_of_cell? W0 _ d1)).trans d1⟩
  have HW := Lib.hid hW
  have ha := ha.later E0.out
  have HF0 := Lib.hid (hf0.later E0.out)
  have Z := Lib.hid (sz_house P T a cap 1048576 (by omega) (by omega) hn hl W0)
  have HA := Lib.hid ha
  clear ha hl hn hW d0 d1 hf0
  go_enter Tryd.func6, Tryd.ntmps6
  go_wp2_with fail
  rw [HW.out]
  refine Z.out.mono ?_
  rintro e w1 ⟨r, rfl, r0, r1, r2, hb1⟩
  have B1 := Lib.hid hb1
  have R2 := Lib.hid r2
  clear hb1 r2
  by_cases hr : r < 0
  · go_wp2
    go_ret
    exact ⟨rfl, bnext E0.out B1.out⟩
  obtain ⟨hT, hL⟩ := R2.out (by omega)
  have S := Lib.hid (fun g cp wx (h : IntArg wx g P) => sideInCourse_spec P T g cp hL hT x0 x1 wx h)
  have I := Lib.hid (fun g cp wx (h : IntArg wx g P) (hf0 : DirAt wx) => sideInCourse_impl P T g cp hL hT x0 x1 wx h hf0)
  obtain ⟨b, hb⟩ : ∃ b : Int, siV P T x0 x1 = b := ⟨_, rfl⟩
  obtain ⟨c, hc⟩ : ∃ c : Int, hoK P T x0 x1 = c := ⟨_, rfl⟩
  rw [hb, hc] at S I
  clear hb hc
  obtain ⟨k0, k1⟩ := K.out _ B1.out
  go_wp2_with fail
  refine (to_house P T a cap hL _ (HA.out.later B1.out)).mono ?_
  rintro e w2 ⟨g2, rfl, o2, hb2⟩
  have B2 := Lib.hid (bnext B1.out hb2)
  have O2 := Lib.hid o2.arg
  clear hb2 o2 k0 k1
  go_wp2_with fail
  refine (S.out _ _ _ O2.out).mono ?_
  rintro e w3 ⟨rfl, hb3⟩
  have B3 := Lib.hid (bnext B2.out hb3)
  clear hb3
  obtain ⟨k0, k1⟩ := K.out _ B3.out
  go_wp2_with fail
  refine (to_house P T a cap hL _ (HA.out.later B3.out)).mono ?_
  rintro e w4 ⟨g4, rfl, o4, hb4⟩
  have B4 := Lib.hid (bnext B3.out hb4)
  have O4 := Lib.hid o4.arg
  clear hb4 o4 k0 k1
  go_wp2_with fail
  refine (I.out _ _ _ (O4.out.later (balloc0 _ _)) (HF0.out.later (balloc B4.out _))).mono ?_
  rintro e w5 ⟨rfl, hb5⟩
  have B5 := Lib.hid (bnext (balloc B4.out _) hb5)
  have A5 := Lib.hid ((O4.out.later (balloc0 _ _)).later hb5)
  have y0 : w5.cell? ⟨w4.heap.size, 0, none⟩ = some (.slice (some ⟨g4, 0, none⟩) P.length P.length) := (hb5.cell (p := ⟨w4.heap.size, 0, none⟩) (by simp)).trans (boxH w4 _ T _).1
  have y1 : w5.cell? ⟨w4.heap.size, 1, none⟩ = some (.string T) := (hb5.cell (p := ⟨w4.heap.size, 1, none⟩) (by simp)).trans (boxH w4 _ T _).2
  have z5 : w4.heap.size < w5.heap.size := World.block_lt_of_cell? w5 _ y0
  clear hb5
  obtain ⟨k0, k1⟩ := K.out _ B5.out.drew
  have y0 : w5.drew.cell? ⟨w4.heap.size, 0, none⟩ = some (.slice (some ⟨g4, 0, none⟩) P.length P.length) := y0
  have y1 : w5.drew.cell? ⟨w4.heap.size, 1, none⟩ = some (.string T) := y1
  go_wp2_with fail
  go_region_with (first | (go_at_call 17; refine (to_house P T a cap hL _ (HA.out.later B5.out.drew)).mono ?_; rintro e w6 ⟨g6, rfl, o6, hb6⟩; have B6 := Lib.hid (bnext B5.out.drew hb6); have A6 := Lib.hid (IntArg.later (w := w5.drew) A5.out hb6); have O6 := Lib.hid o6.arg; have v0 : w6.cell? ⟨w4.heap.size, 0, none⟩ = some (.slice (some ⟨g4, 0, none⟩) P.length P.length) := (hb6.cell (p := ⟨w4.heap.size, 0, none⟩) z5).trans y0; have v1 : w6.cell? ⟨w4.heap.size, 1, none⟩ = some (.string T) := (hb6.cell (p := ⟨w4.heap.size, 1, none⟩) z5).trans y1; clear hb6 o6) | (go_at_call 19; refine (eq_house P T _ _ _ _ (by omega) _ A6.out O6.out).mono ?_; rintro e w7 ⟨rfl, hb7⟩; have B7 := Lib.hid (bnext B6.out hb7); clear hb7))
  all_goals
    go_wp2
    go_ret
    exact ⟨rfl, bnext E0.out B7.out⟩
end Go.Proofs.YtikjielgnlgnjaaDoor
