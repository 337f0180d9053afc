/-
  FnFlats: the walk.
-/
import Derived.Test.YtdhikdaegmekbacFFlP
namespace Go.Proofs.Ytdhikdaegmekbac
open Go.ChangeShapes Go.WideShapes Go.ChangeAt Go.RowKit Go.Joins

set_option maxRecDepth 100000 in
set_option maxHeartbeats 25600000 in
theorem walk_FnFlats (w : World) (a : Option Addr) (len cap : Nat) (hl : len ≤ 9223372036854775807) (hc : CodeAt w w.heap.size (.slice a len cap)) :
    Calls Try.prog 3 #[.slice a len cap] w fun e w' => e = .returned (.bool true) ∧ Below w.heap.size w w' := by
  have HC := Lib.hid hc
  have HL := Lib.hid hl
  clear hc hl
  by_cases h3 : (3000 : Int) < (len : Int)
  · have h3' : decide ((3000 : Int) < (len : Int)) = true := by simpa using h3
    go_enter Try.func3, Try.ntmps3
    go_wp2_with fail
    refine (long_any a len cap _).mono ?_
    rintro e w1 ⟨rfl, rfl⟩
    go_wp2_with fail
    go_ret
    exact ⟨rfl, Below.refl _ _⟩
  have h3' : decide ((3000 : Int) < (len : Int)) = false := by simpa using h3
  go_enter Try.func3, Try.ntmps3
  go_wp2_with fail
  refine (long_any a len cap _).mono ?_
  rintro e w0 ⟨rfl, rfl⟩
  go_wp2_with fail
  refine (at_any _ w.heap.size a len cap 0 200 (by omega) (by omega) (by omega) (by omega) HC.out HL.out).mono ?_
  rintro e w0 ⟨r0, i0, j0, rfl, rfl⟩
  obtain ⟨s, hs, s0, s1⟩ : ∃ R : Int, Hid (300 + 10 * r0 = R) ∧ 300 ≤ R ∧ R ≤ 2300 := ⟨_, rfl, by omega, by omega⟩
  go_wp2_with fail
  rw [hs.out]
  clear i0 j0 hs
  refine (at_any _ w.heap.size a len cap 1 150 (by omega) (by omega) (by omega) (by omega) HC.out HL.out).mono ?_
  rintro e w0 ⟨k, k0, k1, rfl, rfl⟩
  go_wp2_with fail
  refine (at_any _ w.heap.size a len cap 2 12 (by omega) (by omega) (by omega) (by omega) HC.out HL.out).mono ?_
  rintro e w0 ⟨j, j0, j1, rfl, rfl⟩
  go_wp2_with fail
  refine (at_any _ w.heap.size a len cap 3 60 (by omega) (by omega) (by omega) (by omega) HC.out HL.out).mono ?_
  rintro e w0 ⟨r3, i3, j3, rfl, rfl⟩
  obtain ⟨b, hb, b0, b1⟩ : ∃ R : Int, Hid (40 + r3 = R) ∧ 40 ≤ R ∧ R ≤ 100 := ⟨_, rfl, by omega, by omega⟩
  obtain ⟨n, ⟨n0, n1⟩, hodd, HF1, HF2, CN⟩ := flats_n s k j b ⟨s0, s1⟩ ⟨k0, by omega⟩ ⟨j0, by omega⟩ ⟨b0, b1⟩
  go_wp2_with fail
  rw [hb.out]
  clear i3 j3 hb
  refine (CN.out _).mono ?_
  rintro e w1 ⟨rfl, hb1⟩
  have B1 := Lib.hid hb1
  clear hb1
  have hm : n.tmod 2 = 1 := by rw [Int.tmod_eq_emod_of_nonneg (by omega)]; exact hodd
  have hm2 : IntKind.i64.wrap (n.tmod 2) = 1 := by rw [hm]; rfl
  obtain ⟨x0, x1⟩ := prodF (show 0 ≤ n + 1 by omega) (show n + 1 ≤ 66 by omega) j0 (show j ≤ 11 by omega)
  obtain ⟨x2, x3⟩ := prodF (show 0 ≤ n by omega) n1 (show 0 ≤ b by omega) b1
  obtain ⟨x4, x5⟩ := prodF (show 0 ≤ n + 3 by omega) (show n + 3 ≤ 68 by omega) j0 (show j ≤ 11 by omega)
  obtain ⟨x6, x7⟩ := prodF (show 0 ≤ n + 2 by omega) (show n + 2 ≤ 67 by omega) (show 0 ≤ b by omega) b1
  have f1 := HF1.out
  have f2 := HF2.out
  have f3 : ¬ s + 2 * k - (n + 1) * j < n * b := by omega
  have f4 : ¬ (n + 2) * b ≤ s + 2 * k - (n + 3) * j := by omega
  have HW := flats_w s k j n ⟨s0, s1⟩ ⟨k0, by omega⟩ ⟨j0, by omega⟩ ⟨n0, n1⟩ hodd
  rcases HW with CW | ⟨U1, V1, U2, V2, ⟨u0, u1⟩, ⟨v0, v1⟩, ⟨u2, u3⟩, ⟨v2, v3⟩, HI, CW⟩
  · go_wp2_with fail
    refine (CW.out _).mono ?_
    rintro e w2 ⟨rfl, hb2⟩
    have B2 := Lib.hid (balloc (balloc (bnext B1.out hb2) (.cells #[.int .i64 0, .int .i64 0] 28)) (.cells #[.int .i64 0, .int .i64 0] 28))
    clear hb2 x0 x1 x2 x3 x4 x5 x6 x7 f1 f2 f3 f4 hm hm2
    have HC2 := Lib.hid (HC.out.stays B2.out)
    go_wp2_with fail
    refine (at_any _ w.heap.size a len cap 4 (n + 1) (by omega) (by omega) (by omega) (by omega) HC2.out HL.out).mono ?_
    rintro e w0 ⟨x, i4, j4, rfl, rfl⟩
    obtain ⟨N, D, ⟨N0, N1⟩, ⟨D0, D1⟩, HE, CL1, CL2⟩ := flats_l k n x ⟨k0, by omega⟩ ⟨n0, n1⟩ hodd ⟨i4, by omega⟩
    go_wp2_with fail
    refine (CL1.out _).mono ?_
    rintro e w3 ⟨rfl, hb3⟩
    have G3 := Lib.hid (range_new w3 #[.int .i64 N, .int .i64 D] 28)
    have B3 := Lib.hid (bnext (bnext B2.out hb3) (balloc0 w3 (.cells #[.int .i64 N, .int .i64 D] 28)))
    obtain ⟨V3, hV3⟩ : ∃ V, w3.alloc (.cells #[.int .i64 N, .int .i64 D] 28) = V := ⟨_, rfl⟩
    rw [hV3] at G3 B3
    have HV3 := Lib.hid hV3
    clear hb3 hV3
    go_wp2_with fail
    rw [HV3.out]
    refine (CL2.out _).mono ?_
    rintro e w4 ⟨rfl, hb4⟩
    have B4 := Lib.hid (bnext B3.out hb4)
    have G4 := range_below G3.out hb4
    have c0 := G4 0 _ rfl
    have c1 := G4 1 _ rfl
    simp only [Nat.zero_add] at c0 c1
    have cz := World.block_lt_of_cell? _ _ c0
    clear hb4 G4
    obtain ⟨y0, y1⟩ := prodS N0 N1 (show 0 ≤ n by omega) n1
    obtain ⟨y2, y3⟩ := prodS (a := 2 * x - n) (A := 65) (by omega) (by omega) k0 (show k ≤ 150 by omega)
    have ea : IntKind.i64.wrap (N * n) = N * n := IntWalk.i64_in _ (by omega)
    have eb : IntKind.i64.wrap ((2 * x - n) * k) = (2 * x - n) * k := IntWalk.i64_in _ (by omega)
    have ec : IntKind.i64.wrap ((2 * x - n) * k * D) = N * n := by rw [← HE.out]; exact ea
    clear y0 y1 y2 y3
    go_wp2
    go_ret
    exact ⟨ret_bool (by simp <;> omega), balloc B4.out _⟩
  · go_wp2_with fail
    refine (CW.out _).mono ?_
    rintro e w2 ⟨rfl, hb2⟩
    have B2 := Lib.hid (balloc (balloc (bnext B1.out hb2) (.cells #[.int .i64 U1, .int .i64 V1] 28)) (.cells #[.int .i64 U2, .int .i64 V2] 28))
    clear hb2 x0 x1 x2 x3 x4 x5 x6 x7 f1 f2 f3 f4 hm hm2
    have HC2 := Lib.hid (HC.out.stays B2.out)
    have vv1 : V1 ≤ 65 := by omega
    have vv2 : V2 ≤ 65 := by omega
    obtain ⟨y0, y1⟩ := prodS u2 u3 (show 0 ≤ V1 by omega) vv1
    obtain ⟨y2, y3⟩ := prodF (show 0 ≤ U1 by omega) u1 (show 0 ≤ V2 by omega) vv2
    obtain ⟨y4, y5⟩ := prodF (show 0 ≤ 2 * k by omega) (show 2 * k ≤ 300 by omega) (show 0 ≤ V1 by omega) vv1
    obtain ⟨y6, y7⟩ := prodF y4 y5 (show 0 ≤ V2 by omega) vv2
    have ea : IntKind.i64.wrap (U2 * V1) = U2 * V1 := IntWalk.i64_in _ (by omega)
    have eb : IntKind.i64.wrap (U1 * V2) = U1 * V2 := IntWalk.i64_in _ (by omega)
    have ec : IntKind.i64.wrap (U2 * V1 - U1 * V2) = U2 * V1 - U1 * V2 := IntWalk.i64_in _ (by omega)
    have ed : IntKind.i64.wrap (2 * k * V1) = 2 * k * V1 := IntWalk.i64_in _ (by omega)
    have ee : IntKind.i64.wrap (2 * k * V1 * V2) = 2 * k * V1 * V2 := IntWalk.i64_in _ (by omega)
    have ef : IntKind.i64.wrap ((U2 * V1 - U1 * V2) * n) = 2 * k * V1 * V2 := by rw [HI.out]; exact ee
    clear y0 y1 y2 y3 y4 y5 y6 y7
    go_wp2_with fail
    clear ea eb ec ed ee ef u0 u1 v0 v1 u2 u3 v2 v3 vv1 vv2
    refine (at_any _ w.heap.size a len cap 4 (n + 1) (by omega) (by omega) (by omega) (by omega) HC2.out HL.out).mono ?_
    rintro e w0 ⟨x, i4, j4, rfl, rfl⟩
    obtain ⟨N, D, ⟨N0, N1⟩, ⟨D0, D1⟩, HE, CL1, CL2⟩ := flats_l k n x ⟨k0, by omega⟩ ⟨n0, n1⟩ hodd ⟨i4, by omega⟩
    go_wp2_with fail
    refine (CL1.out _).mono ?_
    rintro e w3 ⟨rfl, hb3⟩
    have G3 := Lib.hid (range_new w3 #[.int .i64 N, .int .i64 D] 28)
    have B3 := Lib.hid (bnext (bnext B2.out hb3) (balloc0 w3 (.cells #[.int .i64 N, .int .i64 D] 28)))
    obtain ⟨V3, hV3⟩ : ∃ V, w3.alloc (.cells #[.int .i64 N, .int .i64 D] 28) = V := ⟨_, rfl⟩
    rw [hV3] at G3 B3
    have HV3 := Lib.hid hV3
    clear hb3 hV3
    go_wp2_with fail
    rw [HV3.out]
    refine (CL2.out _).mono ?_
    rintro e w4 ⟨rfl, hb4⟩
    have B4 := Lib.hid (bnext B3.out hb4)
    have G4 := range_below G3.out hb4
    have c0 := G4 0 _ rfl
    have c1 := G4 1 _ rfl
    simp only [Nat.zero_add] at c0 c1
    have cz := World.block_lt_of_cell? _ _ c0
    clear hb4 G4
    obtain ⟨y0, y1⟩ := prodS N0 N1 (show 0 ≤ n by omega) n1
    obtain ⟨y2, y3⟩ := prodS (a := 2 * x - n) (A := 65) (by omega) (by omega) k0 (show k ≤ 150 by omega)
    have ea : IntKind.i64.wrap (N * n) = N * n := IntWalk.i64_in _ (by omega)
    have eb : IntKind.i64.wrap ((2 * x - n) * k) = (2 * x - n) * k := IntWalk.i64_in _ (by omega)
    have ec : IntKind.i64.wrap ((2 * x - n) * k * D) = N * n := by rw [← HE.out]; exact ea
    clear y0 y1 y2 y3
    go_wp2
    go_ret
    exact ⟨ret_bool (by simp <;> omega), balloc B4.out _⟩
end Go.Proofs.Ytdhikdaegmekbac
