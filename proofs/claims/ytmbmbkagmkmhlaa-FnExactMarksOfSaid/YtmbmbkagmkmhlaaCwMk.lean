/-
  The walk of the law on MarksOf.
-/
import Derived.Test.YtmbmbkagmkmhlaaGk
import Derived.Test.YtmbmbkagmkmhlaaIntX
import Derived.Deep.RegionWith
namespace Go.Proofs.Ytmbmbkagmkmhlaa
open Go.ChangeShapes Go.WideShapes Go.ChangeAt Go.RowKit Go.Joins

set_option maxRecDepth 100000 in
set_option maxHeartbeats 12800000 in
theorem walk_FnExactMarksOf (x0 : Int) (_wx0 : (Lit.int .i64 x0).wf = true) (x1 : Int) (_wx1 : (Lit.int .i64 x1).wf = true) (w : World)  :
    Calls Try.prog 7 #[.int .i64 x0, .int .i64 x1] w fun e w' => e = .returned (.bool true) ∧ Below w.heap.size w w' := by
  skip
  go_enter Try.func7, Try.ntmps7
  have S := Lib.hid (fun (wx : World) => marks_spec x0 x1  wx )
  have I := Lib.hid (fun (wx : World) => marks_impl x0 x1  wx )
  have hQ : (marksQ x0 x1).length ≤ 1048576 := marksQ_len x0 x1
  obtain ⟨Q, hQe⟩ : ∃ Q : List Int, marksQ x0 x1 = Q := ⟨_, rfl⟩
  rw [hQe] at S I hQ
  clear hQe
  obtain ⟨v1, hv⟩ : ∃ v : Int, gC x0 x1 = v := ⟨_, rfl⟩
  rw [hv] at S I
  clear hv
  go_wp2_with fail
  refine (S.out _).mono ?_
  rintro e w1 ⟨r1, m1, rfl, O1, hb1⟩
  have B1 := Lib.hid hb1
  have z1 : w.heap.size ≤ w1.heap.size := hb1.size
  clear hb1
  have WL := Lib.hid O1.lt
  have W0 := Lib.hid O1.arg
  clear O1
  go_wp2_with fail
  refine (I.out _).mono ?_
  rintro e w2 ⟨r2, m2, rfl, O2, hb2⟩
  have B2 := Lib.hid (bnext B1.out hb2)
  have z2 : w1.heap.size ≤ w2.heap.size := hb2.size
  have W0 := Lib.hid (W0.out.later hb2)
  clear hb2
  have G0 := Lib.hid O2
  clear O2
  go_wp2_with fail
  refine (eq_ints Q r2 r1 m2 m1 (by omega) _ G0.out.arg W0.out).mono ?_
  rintro e w3 ⟨rfl, hb3⟩
  have B3 := Lib.hid (bnext B2.out hb3)
  have z3 : w2.heap.size ≤ w3.heap.size := hb3.size
  have W0 := Lib.hid (W0.out.later hb3)
  have G0 := Lib.hid (G0.out.later hb3)
  clear hb3
  have bg : w1.heap.size ≤ w3.heap.size := by omega
  go_wp2_with fail
  refine (mark_res Q (by omega) 1 (by omega) w1.heap.size m2 r2 _ bg G0.out).mono ?_
  rintro e w4 ⟨rfl, hb4, M0⟩
  have sv4 : w.heap.size ≤ w1.heap.size := B1.out.size
  have B4 := Lib.hid (B3.out.trans (hb4.mono (by omega)))
  have z4 : w3.heap.size ≤ w4.heap.size := hb4.size
  have W0 := Lib.hid (W0.out.base hb4 (fun g o h1 h2 => by have := WL.out g o h1 h2; omega))
  have G0 := Lib.hid M0
  clear hb4 M0
  obtain ⟨q, hq⟩ : ∃ q : Int, ((1 + Q.length : Nat) : Int) = q := ⟨_, rfl⟩
  have hq0 : ¬ q < 0 := by omega
  have HQ := Lib.hid hq
  rw [hq]
  clear hq
  go_wp2_with fail
  refine (held_res Q.length (by omega) 1 (by omega) m2 r2 _ _ G0.out).mono ?_
  rintro e w5 ⟨rfl, hb5⟩
  have B5 := Lib.hid (bnext B4.out hb5)
  have z5 : w4.heap.size ≤ w5.heap.size := hb5.size
  have W0 := Lib.hid (W0.out.later hb5)
  have G0 := Lib.hid (G0.out.later hb5)
  rw [HQ.out]
  clear hb5
  go_wp2_with fail
  refine (I.out _).mono ?_
  rintro e w6 ⟨r6, m6, rfl, O6, hb6⟩
  have B6 := Lib.hid (bnext B5.out hb6)
  have z6 : w5.heap.size ≤ w6.heap.size := hb6.size
  have W0 := Lib.hid (W0.out.later hb6)
  have G0 := Lib.hid (G0.out.later hb6)
  clear hb6
  have H0 := Lib.hid O6
  clear O6
  go_wp2_with fail
  refine (eq_ints Q r6 r1 m6 m1 (by omega) _ H0.out.arg W0.out).mono ?_
  rintro e w7 ⟨rfl, hb7⟩
  have B7 := Lib.hid (bnext B6.out hb7)
  have z7 : w6.heap.size ≤ w7.heap.size := hb7.size
  have W0 := Lib.hid (W0.out.later hb7)
  have G0 := Lib.hid (G0.out.later hb7)
  have H0 := Lib.hid (H0.out.later hb7)
  clear hb7
  go_wp2_with fail
  refine (held_res Q.length (by omega) 1 (by omega) m2 r2 _ _ G0.out).mono ?_
  rintro e w8 ⟨rfl, hb8⟩
  have B8 := Lib.hid (bnext B7.out hb8)
  have z8 : w7.heap.size ≤ w8.heap.size := hb8.size
  have W0 := Lib.hid (W0.out.later hb8)
  have G0 := Lib.hid (G0.out.later hb8)
  have H0 := Lib.hid (H0.out.later hb8)
  rw [HQ.out]
  clear hb8
  go_wp2
  go_ret
  exact ⟨rfl, B8.out⟩
end Go.Proofs.Ytmbmbkagmkmhlaa
