/-
  Plans by the program: their codes, lengths around, sides that run through, sides in courses.
-/
import Derived.Test.YtllcpgogfhjfpaaDoorHoI
import Derived.Test.YtllcpgogfhjfpaaDoorHoV
namespace Go.Proofs.YtllcpgogfhjfpaaDoor
open Go.ChangeShapes Go.WideShapes Go.ChangeAt Go.RowKit Go.Joins


set_option maxHeartbeats 1600000 in
theorem checkHouse_impl (P : List Int) (T : ByteArray) (a : Option Addr) (cap : Nat) (hl : P.length ≤ 1048576) (hs : T.size ≤ 1048576) (k c : Int) (w : World) (ha : IntArg w a P) (hd : DirAt w) :
    Calls Tryd.prog 51 #[.agg #[.slice a P.length cap, .string T], .int .i64 k, .int .i64 c] w fun e w' => e = .returned (.int .i64 (hoK P T k c)) ∧ Below w.heap.size w w' := by
  have K := house_new w (.slice a P.length cap) T 36
  obtain ⟨W0, hW⟩ : ∃ W0, w.alloc (.cells #[.slice a P.length cap, .string T] 36) = W0 := ⟨_, rfl⟩
  have E0 : Hid (Below w.heap.size w W0) := by show Below w.heap.size w W0; rw [← hW]; exact balloc0 _ _
  rw [hW] at K
  have C := Lib.hid (validHouse_impl P T a cap hl hs W0 (ha.later E0.out) (hd.later E0.out))
  have HW := Lib.hid hW
  have IK := Lib.hid (wa_impl k 0 ((P.length : Int) - 1))
  have IC := Lib.hid (wa_impl c 0 1000)
  obtain ⟨d0, d1⟩ := K.out _ (Below.refl _ _)
  clear hW ha hd
  rcases hoK_cases P T k c with ⟨h1, h4⟩ | ⟨h1, h2, h4⟩ | ⟨h1, h2, h3, h4⟩ | ⟨h1, h2, h3, h4⟩
  · rw [h4]
    rw [h1] at C
    clear h1 h4
    go_enter Tryd.func51, Tryd.ntmps51
    go_wp2_with fail
    rw [HW.out]
    go_wp2_with fail
    refine C.out.mono ?_
    rintro e w1 ⟨rfl, hb1⟩
    have B1 := Lib.hid (bnext E0.out hb1)
    clear hb1
    go_wp2
    go_ret
    exact ⟨rfl, B1.out⟩
  · rw [h4]
    rw [h1] at C
    rw [inB_false.2 h2] at IK
    clear h1 h4 h2
    go_enter Tryd.func51, Tryd.ntmps51
    go_wp2_with fail
    rw [HW.out]
    go_wp2_with fail
    refine C.out.mono ?_
    rintro e w1 ⟨rfl, hb1⟩
    have B1 := Lib.hid (bnext E0.out hb1)
    clear d0 d1
    obtain ⟨d0, d1⟩ := K.out _ hb1
    clear hb1
    go_wp2_with (go_at_call 37; refine (IK.out _).mono ?_; rintro e w2 ⟨rfl, rfl⟩)
    go_ret
    exact ⟨rfl, B1.out⟩
  · rw [h4]
    rw [h1] at C
    rw [inB_true.2 h2] at IK
    rw [inB_false.2 h3] at IC
    clear h1 h4 h2 h3
    go_enter Tryd.func51, Tryd.ntmps51
    go_wp2_with fail
    rw [HW.out]
    go_wp2_with fail
    refine C.out.mono ?_
    rintro e w1 ⟨rfl, hb1⟩
    have B1 := Lib.hid (bnext E0.out hb1)
    clear d0 d1
    obtain ⟨d0, d1⟩ := K.out _ hb1
    clear hb1
    go_wp2_with fail
    refine (IK.out _).mono ?_
    rintro e w2 ⟨rfl, rfl⟩
    go_wp2_with fail
    refine (IC.out _).mono ?_
    rintro e w3 ⟨rfl, rfl⟩
    go_wp2
    go_ret
    exact ⟨rfl, B1.out⟩
  · rw [h4]
    rw [h1] at C
    rw [inB_true.2 h2] at IK
    rw [inB_true.2 h3] at IC
    clear h1 h4 h2 h3
    go_enter Tryd.func51, Tryd.ntmps51
    go_wp2_with fail
    rw [HW.out]
    go_wp2_with fail
    refine C.out.mono ?_
    rintro e w1 ⟨rfl, hb1⟩
    have B1 := Lib.hid (bnext E0.out hb1)
    clear d0 d1
    obtain ⟨d0, d1⟩ := K.out _ hb1
    clear hb1
    go_wp2_with fail
    refine (IK.out _).mono ?_
    rintro e w2 ⟨rfl, rfl⟩
    go_wp2_with fail
    refine (IC.out _).mono ?_
    rintro e w3 ⟨rfl, rfl⟩
    go_wp2
    go_ret
    exact ⟨rfl, B1.out⟩
end Go.Proofs.YtllcpgogfhjfpaaDoor
