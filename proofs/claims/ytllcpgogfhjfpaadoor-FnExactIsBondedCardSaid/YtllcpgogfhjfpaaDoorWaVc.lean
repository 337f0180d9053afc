/-
  ValidCourse and CourseLength by the program.
-/
import Derived.Test.YtllcpgogfhjfpaaDoorWaI
import Derived.Test.YtllcpgogfhjfpaaDoorWaS
import Derived.Test.YtllcpgogfhjfpaaDoorCoI
namespace Go.Proofs.YtllcpgogfhjfpaaDoor
open Go.ChangeShapes Go.WideShapes Go.ChangeAt Go.RowKit Go.Joins


theorem pieces_impl6 (s : ByteArray) (hs : s.size ≤ 1048576) (w : World) : Calls Tryd.prog 88 #[.string s, .string ⟨#[83, 72, 84, 66, 67]⟩] w fun e w' => e = .returned (.bool (piecesB s)) ∧ Below w.heap.size w w' := by
  rw [pieces_trim]
  exact consists_impl s ⟨#[83, 72, 84, 66, 67]⟩ hs (by decide) (by decide) w
set_option maxRecDepth 100000 in
set_option maxHeartbeats 1600000 in
theorem validCourse_impl (s : ByteArray) (hs : s.size ≤ 1048576) (w : World) : Calls Tryd.prog 61 #[.string s] w fun e w' => e = .returned (.bool (okCr s)) ∧ Below w.heap.size w w' := by
  have P := Lib.hid (pieces_impl6 s hs)
  have HO : Hid (okCr s = (inB (s.size : Int) 1 60 && (piecesB s && decide ((qall s : Int) ≤ 200)))) := rfl
  have W0 := Lib.hid (wa_impl (s.size : Int) 1 60)
  cases h0 : inB (s.size : Int) 1 60
  · rw [h0] at HO W0
    clear h0
    go_enter Tryd.func61, Tryd.ntmps61
    go_wp2_with (go_at_call 37; refine (W0.out _).mono ?_; rintro e w1 ⟨rfl, rfl⟩)
    go_ret
    exact ⟨ret_bool (by rw [HO.out]; rfl), Below.refl _ _⟩
  · have Q := Lib.hid (len_impl s (by have := inB_true.1 h0; omega))
    rw [h0] at HO W0
    clear h0
    cases h1 : piecesB s
    · rw [h1] at HO P
      go_enter Tryd.func61, Tryd.ntmps61
      go_wp2_with (first | (go_at_call 37; refine (W0.out _).mono ?_; rintro e w1 ⟨rfl, rfl⟩) | (go_at_call 88; refine (P.out _).mono ?_; rintro e w2 ⟨rfl, hb2⟩; have B2 := Lib.hid hb2; clear hb2))
      go_ret
      exact ⟨ret_bool (by rw [HO.out]; rfl), B2.out⟩
    · rw [h1] at HO P
      obtain ⟨q, hq⟩ : ∃ q : Int, (qall s : Int) = q := ⟨_, rfl⟩
      rw [hq] at Q HO
      clear hq
      go_enter Tryd.func61, Tryd.ntmps61
      go_wp2_with (first | (go_at_call 37; refine (W0.out _).mono ?_; rintro e w1 ⟨rfl, rfl⟩) | (go_at_call 88; refine (P.out _).mono ?_; rintro e w2 ⟨rfl, hb2⟩; have B2 := Lib.hid hb2; clear hb2) | (go_at_call 62; refine (Q.out _).mono ?_; rintro e w3 ⟨rfl, hb3⟩; have B3 := Lib.hid (bnext B2.out hb3); clear hb3))
      go_ret
      exact ⟨ret_bool (by rw [HO.out]; simp), B3.out⟩
end Go.Proofs.YtllcpgogfhjfpaaDoor
