/-
  FnArcs: the walk.
-/
import Derived.Test.YtdhikdaegmekbabFArcP
namespace Go.Proofs.Ytdhikdaegmekbab
open Go.ChangeShapes Go.WideShapes Go.ChangeAt Go.RowKit Go.Joins
set_option maxRecDepth 100000 in
set_option maxHeartbeats 12800000 in
theorem walk_FnArcs (w : World) (a : Option Addr) (len cap : Nat) (hl : len ≤ 9223372036854775807) (hc : CodeAt w w.heap.size (.slice a len cap)) :
    Calls Try.prog 14 #[.slice a len cap] w fun e w' => e = .returned (.bool true) ∧ Below w.heap.size w w' := by
  have HC := Lib.hid hc
  have HL := Lib.hid hl
  clear hc hl
  by_cases h3 : (3000 : Int) < (len : Int)
  · have h3' : decide ((3000 : Int) < (len : Int)) = true := by simpa using h3
    go_enter Try.func14, Try.ntmps14
    go_wp2_with fail
    refine (long_any a len cap _).mono ?_
    rintro e w1 ⟨rfl, rfl⟩
    go_wp2_with fail
    go_ret
    exact ⟨rfl, Below.refl _ _⟩
  have h3' : decide ((3000 : Int) < (len : Int)) = false := by simpa using h3
  go_enter Try.func14, Try.ntmps14
  go_wp2_with fail
  refine (long_any a len cap _).mono ?_
  rintro e w0 ⟨rfl, rfl⟩
  go_wp2_with fail
  refine (at_any _ w.heap.size a len cap 0 20 (by omega) (by omega) (by omega) (by omega) HC.out HL.out).mono ?_
  rintro e w0 ⟨r0, i0, j0, rfl, rfl⟩
  obtain ⟨R, hR, R0, R1⟩ : ∃ R : Int, Hid (1 + r0 = R) ∧ 1 ≤ R ∧ R ≤ 20 := ⟨_, rfl, by omega, by omega⟩
  go_wp2_with fail
  rw [hR.out]
  refine (at_any _ w.heap.size a len cap 1 20 (by omega) (by omega) (by omega) (by omega) HC.out HL.out).mono ?_
  rintro e w0 ⟨p, p0, p1, rfl, rfl⟩
  go_wp2_with fail
  refine (at_any _ w.heap.size a len cap 2 20 (by omega) (by omega) (by omega) (by omega) HC.out HL.out).mono ?_
  rintro e w0 ⟨r2, i2, j2, rfl, rfl⟩
  obtain ⟨q, hq, q0, q1⟩ : ∃ R : Int, Hid (1 + r2 = R) ∧ 1 ≤ R ∧ R ≤ 20 := ⟨_, rfl, by omega, by omega⟩
  obtain ⟨X, Xd, Y, Yd, ⟨X0, X1⟩, ⟨D0, D1⟩, ⟨Y0, Y1⟩, ⟨E0, E1⟩, HX, CA⟩ := arc_prep R p q ⟨R0, R1⟩ ⟨p0, by omega⟩ ⟨q0, q1⟩
  clear i0 j0 p0 p1 q0 q1
  go_wp2_with fail
  rw [hq.out]
  clear i2 j2
  refine (CA.out _).mono ?_
  rintro e w1 ⟨rfl, hb1⟩
  have B1 := Lib.hid (balloc (balloc hb1 (.cells #[.int .i64 X, .int .i64 Xd] 26)) (.cells #[.int .i64 Y, .int .i64 Yd] 26))
  clear hb1
  have en : IntKind.i64.wrap (-X) = -X := IntWalk.i64_in _ (by omega)
  obtain ⟨x0, x1⟩ := sq_le X0 X1
  obtain ⟨y0, y1⟩ := prod_le Y0 Y1 Y0 Y1
  obtain ⟨x2, x3⟩ := prod_le x0 x1 (show 0 ≤ Yd by omega) E1
  obtain ⟨x4, x5⟩ := prod_le x2 x3 (show 0 ≤ Yd by omega) E1
  obtain ⟨y2, y3⟩ := prod_le y0 y1 (show 0 ≤ Xd by omega) D1
  obtain ⟨y4, y5⟩ := prod_le y2 y3 (show 0 ≤ Xd by omega) D1
  obtain ⟨z0, z1⟩ := prod_le (show 0 ≤ R by omega) R1 (show 0 ≤ R by omega) R1
  obtain ⟨z2, z3⟩ := prod_le z0 z1 (show 0 ≤ Xd by omega) D1
  obtain ⟨z4, z5⟩ := prod_le z2 z3 (show 0 ≤ Xd by omega) D1
  obtain ⟨z6, z7⟩ := prod_le z4 z5 (show 0 ≤ Yd by omega) E1
  obtain ⟨z8, z9⟩ := prod_le z6 z7 (show 0 ≤ Yd by omega) E1
  have ea : IntKind.i64.wrap (X * X) = X * X := IntWalk.i64_in _ (by omega)
  have eb : IntKind.i64.wrap (X * X * Yd) = X * X * Yd := IntWalk.i64_in _ (by omega)
  have ec : IntKind.i64.wrap (X * X * Yd * Yd) = X * X * Yd * Yd := IntWalk.i64_in _ (by omega)
  have ed : IntKind.i64.wrap (Y * Y) = Y * Y := IntWalk.i64_in _ (by omega)
  have ee : IntKind.i64.wrap (Y * Y * Xd) = Y * Y * Xd := IntWalk.i64_in _ (by omega)
  have ef : IntKind.i64.wrap (Y * Y * Xd * Xd) = Y * Y * Xd * Xd := IntWalk.i64_in _ (by omega)
  have eg : IntKind.i64.wrap (X * X * Yd * Yd + Y * Y * Xd * Xd) = R * R * Xd * Xd * Yd * Yd := by rw [← HX.out]; exact IntWalk.i64_in _ (by omega)
  have eh : IntKind.i64.wrap (R * R) = R * R := IntWalk.i64_in _ (by omega)
  have ei : IntKind.i64.wrap (R * R * Xd) = R * R * Xd := IntWalk.i64_in _ (by omega)
  have ej : IntKind.i64.wrap (R * R * Xd * Xd) = R * R * Xd * Xd := IntWalk.i64_in _ (by omega)
  have ek : IntKind.i64.wrap (R * R * Xd * Xd * Yd) = R * R * Xd * Xd * Yd := IntWalk.i64_in _ (by omega)
  have el : IntKind.i64.wrap (R * R * Xd * Xd * Yd * Yd) = R * R * Xd * Xd * Yd * Yd := IntWalk.i64_in _ (by omega)
  clear x0 x1 y0 y1 x2 x3 x4 x5 y2 y3 y4 y5 z0 z1 z2 z3 z4 z5 z6 z7 z8 z9 R0 R1
  have HC1 : Hid (CodeAt ((w1.alloc (.cells #[.int .i64 X, .int .i64 Xd] 26)).alloc (.cells #[.int .i64 Y, .int .i64 Yd] 26)) w.heap.size (.slice a len cap)) := HC.out.stays B1.out
  go_wp2_with fail
  all_goals
    clear en ea eb ec ed ee ef eg eh ei ej ek el
    refine (at_any _ w.heap.size a len cap 3 100 (by omega) (by omega) (by omega) (by omega) HC1.out HL.out).mono ?_
    rintro e w0 ⟨r3, i3, j3, rfl, rfl⟩
    obtain ⟨t, ht, t0, t1⟩ : ∃ R : Int, Hid (1 + r3 = R) ∧ 1 ≤ R ∧ R ≤ 100 := ⟨_, rfl, by omega, by omega⟩
    go_wp2_with fail
    rw [ht.out]
    refine (at_any _ w.heap.size a len cap 4 200 (by omega) (by omega) (by omega) (by omega) HC1.out HL.out).mono ?_
    rintro e w0 ⟨r4, i4, j4, rfl, rfl⟩
    obtain ⟨s, hs, s0, s1⟩ : ∃ R : Int, Hid (2 * t + r4 = R) ∧ 2 * t ≤ R ∧ R ≤ 400 := ⟨_, rfl, by omega, by omega⟩
    obtain ⟨N, D, ⟨N0, N1⟩, ⟨D2, D3⟩, HE, HG, CR⟩ := radius_prep s t ⟨t0, t1⟩ ⟨s0, s1⟩
    go_wp2_with fail
    rw [hs.out]
    refine (CR.out _).mono ?_
    rintro e w2 ⟨rfl, hb2⟩
    have B2 := Lib.hid (bnext B1.out hb2)
    clear hb2 i3 j3 i4 j4
    obtain ⟨x0, x1⟩ := prod_le (show 0 ≤ 8 * t by omega) (show 8 * t ≤ 800 by omega) (show 0 ≤ N by omega) N1
    obtain ⟨x2, x3⟩ := prod_le (show 0 ≤ s by omega) s1 (show 0 ≤ s by omega) s1
    obtain ⟨x4, x5⟩ := prod_le (show 0 ≤ 4 * t by omega) (show 4 * t ≤ 400 by omega) (show 0 ≤ t by omega) t1
    obtain ⟨x6, x7⟩ := prod_le (show 0 ≤ t by omega) t1 (show 0 ≤ D by omega) D3
    have ea : IntKind.i64.wrap (8 * t * N) = 8 * t * N := IntWalk.i64_in _ (by omega)
    have eb : IntKind.i64.wrap (s * s) = s * s := IntWalk.i64_in _ (by omega)
    have ec : IntKind.i64.wrap (4 * t * t) = 4 * t * t := IntWalk.i64_in _ (by omega)
    have ed : IntKind.i64.wrap (s * s + 4 * t * t) = s * s + 4 * t * t := IntWalk.i64_in _ (by omega)
    have ee : IntKind.i64.wrap ((s * s + 4 * t * t) * D) = 8 * t * N := by rw [← HE.out]; exact ea
    have ef : IntKind.i64.wrap (t * D) = t * D := IntWalk.i64_in _ (by omega)
    have HG' := HG.out
    clear x0 x1 x2 x3 x4 x5 x6 x7 s0 s1
    go_wp2
    go_ret
    exact ⟨ret_bool (by simp <;> omega), balloc B2.out _⟩
end Go.Proofs.Ytdhikdaegmekbab
