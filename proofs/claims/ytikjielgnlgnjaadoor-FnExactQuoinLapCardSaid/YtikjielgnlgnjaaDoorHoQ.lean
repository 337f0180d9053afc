/-
  QuoinLap by the program.
-/
import Derived.Test.YtikjielgnlgnjaaDoorHoJ
import Derived.Test.YtikjielgnlgnjaaDoorWaI
namespace Go.Proofs.YtikjielgnlgnjaaDoor
open Go.ChangeShapes Go.WideShapes Go.ChangeAt Go.RowKit Go.Joins

theorem distQ_impl (a b : Int) (h1 : 0 ≤ a ∧ a ≤ 1000) (h2 : 0 ≤ b ∧ b < a) (w : World) : Calls Tryd.prog 65 #[.int .i64 a, .int .i64 b] w fun e w' => e = .returned (.int .i64 (a - b)) ∧ w = w' := by
  have h : b - a < a - b := by omega
  have h' : ¬ a - b < b - a := by omega
  have hmx : max (a - b) (b - a) = a - b := by omega
  go_enter Tryd.func65, Tryd.ntmps65
  go_wp2
  go_ret
  first | exact ⟨rfl, rfl⟩ | exact ⟨by simp [hmx], rfl⟩
set_option maxRecDepth 100000 in
set_option maxHeartbeats 1600000 in
theorem quoinLap_impl (P : List Int) (T : ByteArray) (a : Option Addr) (cap : Nat) (hl : P.length ≤ 1048576) (hs : T.size ≤ 1048576) (k : Int) (b : Bool) (w : World) (ha : IntArg w a P) (hd : DirAt w) :
    Calls Tryd.prog 38 #[.agg #[.slice a P.length cap, .string T], .int .i64 k, .bool b] w fun e w' => e = .returned (.tuple #[.int .i64 (qlV P T k b), .int .i64 (hoK P T k 0)]) ∧ Below w.heap.size w w' := by
  have K := house_new w (.slice a P.length cap) T 27
  obtain ⟨W0, hW⟩ : ∃ W0, w.alloc (.cells #[.slice a P.length cap, .string T] 27) = W0 := ⟨_, rfl⟩
  have E0 : Hid (Below w.heap.size w W0) := by show Below w.heap.size w W0; rw [← hW]; exact balloc0 _ _
  rw [hW] at K
  have HA := Lib.hid (ha.later E0.out)
  have HD := Lib.hid (hd.later E0.out)
  have HW := Lib.hid hW
  obtain ⟨d0, d1⟩ := K.out _ (Below.refl _ _)
  have C := Lib.hid (checkHouse_impl P T a cap hl hs k 0 W0 HA.out HD.out)
  clear hW ha hd
  by_cases hc : hoK P T k 0 = 0
  case neg =>
    rw [show qlV P T k b = 0 from by simp [qlV, hc]]
    obtain ⟨q, hq⟩ : ∃ q, hoK P T k 0 = q := ⟨_, rfl⟩
    rw [hq] at C hc ⊢
    clear hq
    go_enter Tryd.func38, Tryd.ntmps38
    go_wp2_with fail
    rw [HW.out]
    go_wp2_with fail
    refine C.out.mono ?_
    rintro e w1 ⟨rfl, hb1⟩
    have B1 := Lib.hid (bnext E0.out hb1)
    clear hb1
    go_wp2
    go_ret2
    exact ⟨rfl, B1.out⟩
  have L1 : Hid (∀ wx, Calls Tryd.prog 66 #[.string ⟨#[83]⟩] wx fun e w' => e = .returned (.int .i64 4) ∧ Below wx.heap.size wx w') := fun wx => len_impl ⟨#[83]⟩ (by decide) wx
  have L2 : Hid (∀ wx, Calls Tryd.prog 66 #[.string ⟨#[72]⟩] wx fun e w' => e = .returned (.int .i64 2) ∧ Below wx.heap.size wx w') := fun wx => len_impl ⟨#[72]⟩ (by decide) wx
  have L3 : Hid (∀ wx, Calls Tryd.prog 66 #[.string (⟨#[72]⟩ ++ ⟨#[67]⟩)] wx fun e w' => e = .returned (.int .i64 3) ∧ Below wx.heap.size wx w') := fun wx => len_impl ⟨#[72, 67]⟩ (by decide) wx
  have D2 := Lib.hid (distQ_impl 4 2 (by omega) (by omega))
  have D3 := Lib.hid (distQ_impl 4 3 (by omega) (by omega))
  cases b
  · rw [show qlV P T k false = 2 from by unfold qlV; rw [if_pos hc]; rfl]
    rw [hc] at C ⊢
    go_enter Tryd.func38, Tryd.ntmps38
    go_wp2_with fail
    rw [HW.out]
    go_wp2_with fail
    refine C.out.mono ?_
    rintro e w1 ⟨rfl, hb1⟩
    have B1 := Lib.hid (bnext E0.out hb1)
    clear hb1
    go_wp2_with fail
    refine (L1.out _).mono ?_
    rintro e w2 ⟨rfl, hb2⟩
    have B2 := Lib.hid (bnext B1.out hb2)
    clear hb2
    go_wp2_with fail
    refine (L2.out _).mono ?_
    rintro e w3 ⟨rfl, hb3⟩
    have B3 := Lib.hid (bnext B2.out hb3)
    clear hb3
    go_wp2_with fail
    refine (D2.out _).mono ?_
    rintro e w4 ⟨rfl, rfl⟩
    go_wp2
    go_ret2
    exact ⟨rfl, B3.out⟩
  · rw [show qlV P T k true = 1 from by unfold qlV; rw [if_pos hc]; rfl]
    rw [hc] at C ⊢
    go_enter Tryd.func38, Tryd.ntmps38
    go_wp2_with fail
    rw [HW.out]
    go_wp2_with fail
    refine C.out.mono ?_
    rintro e w1 ⟨rfl, hb1⟩
    have B1 := Lib.hid (bnext E0.out hb1)
    clear hb1
    go_wp2_with fail
    refine (L1.out _).mono ?_
    rintro e w2 ⟨rfl, hb2⟩
    have B2 := Lib.hid (bnext B1.out hb2)
    clear hb2
    go_wp2_with fail
    refine (L3.out _).mono ?_
    rintro e w3 ⟨rfl, hb3⟩
    have B3 := Lib.hid (bnext B2.out hb3)
    clear hb3
    go_wp2_with fail
    refine (D3.out _).mono ?_
    rintro e w4 ⟨rfl, rfl⟩
    go_wp2
    go_ret2
    exact ⟨rfl, B3.out⟩
end Go.Proofs.YtikjielgnlgnjaaDoor
