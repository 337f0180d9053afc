/-
  FnRings: the walk.
-/
import Derived.Test.YtdhikdaegmekbabFRiP
namespace Go.Proofs.Ytdhikdaegmekbab
open Go.ChangeShapes Go.WideShapes Go.ChangeAt Go.RowKit Go.Joins

theorem prodR {a b A B : Int} (a0 : 0 ≤ a) (a1 : a ≤ A) (b0 : 0 ≤ b) (b1 : b ≤ B) : 0 ≤ a * b ∧ a * b ≤ A * B :=
  ⟨Int.mul_nonneg a0 b0, Int.mul_le_mul a1 b1 b0 (Int.le_trans a0 a1)⟩
theorem prodRS {a b A B : Int} (a0 : -A ≤ a) (a1 : a ≤ A) (b0 : 0 ≤ b) (b1 : b ≤ B) : -(A * B) ≤ a * b ∧ a * b ≤ A * B := by
  have A0 : 0 ≤ A := by omega
  by_cases h : 0 ≤ a
  · obtain ⟨p, q⟩ := prodR h a1 b0 b1
    have : 0 ≤ A * B := Int.mul_nonneg A0 (Int.le_trans b0 b1)
    omega
  · obtain ⟨p, q⟩ := prodR (show 0 ≤ -a by omega) (show -a ≤ A by omega) b0 b1
    rw [Int.neg_mul] at p q
    omega
set_option maxRecDepth 100000 in
set_option maxHeartbeats 25600000 in
theorem walk_FnRings (w : World) (a : Option Addr) (len cap : Nat) (hl : len ≤ 9223372036854775807) (hc : CodeAt w w.heap.size (.slice a len cap)) :
    Calls Try.prog 13 #[.slice a len cap] w fun e w' => e = .returned (.bool true) ∧ Below w.heap.size w w' := by
  have HC := Lib.hid hc
  have HL := Lib.hid hl
  clear hc hl
  by_cases h3 : (3000 : Int) < (len : Int)
  · have h3' : decide ((3000 : Int) < (len : Int)) = true := by simpa using h3
    go_enter Try.func13, Try.ntmps13
    go_wp2_with fail
    refine (long_any a len cap _).mono ?_
    rintro e w1 ⟨rfl, rfl⟩
    go_wp2_with fail
    go_ret
    exact ⟨rfl, Below.refl _ _⟩
  have h3' : decide ((3000 : Int) < (len : Int)) = false := by simpa using h3
  go_enter Try.func13, Try.ntmps13
  go_wp2_with fail
  refine (long_any a len cap _).mono ?_
  rintro e w0 ⟨rfl, rfl⟩
  go_wp2_with fail
  refine (a2_ring _ (.slice a len cap) HC.out ⟨a, len, cap, rfl⟩).mono ?_
  rintro e w1 ⟨R, D, B, J, hR, rfl, hb1⟩
  obtain ⟨n, E, N, L, I1, I2, O1, O2, T1, T2, ⟨n0, n1⟩, hodd, HE, ⟨e0, e1⟩, HF1, HF2, ⟨N0, N1⟩, ⟨L0, L1⟩, HN, ⟨i0, i1⟩, ⟨i2, i3⟩, ⟨o0, o1⟩, ⟨o2, o3⟩, ⟨t0, t1⟩, ⟨t2, t3⟩, HJ, HI, C1, C2, C3, C4, C5⟩ := rings_prep R D B J hR
  obtain ⟨⟨R0, R1⟩, -, ⟨B0, B1⟩, J0, J1⟩ := hR
  have G := Lib.hid (range_new w1 #[.int .i64 R, .int .i64 D, .int .i64 B, .int .i64 J] 60)
  have Q1 := Lib.hid (balloc hb1 (.cells #[.int .i64 R, .int .i64 D, .int .i64 B, .int .i64 J] 60))
  obtain ⟨V1, hV1⟩ : ∃ V, w1.alloc (.cells #[.int .i64 R, .int .i64 D, .int .i64 B, .int .i64 J] 60) = V := ⟨_, rfl⟩
  rw [hV1] at G Q1
  have HV1 := Lib.hid hV1
  clear hb1 hV1
  go_wp2_with fail
  rw [HV1.out]
  refine (C1.out _).mono ?_
  rintro e w2 ⟨rfl, hb2⟩
  have Q2 := Lib.hid (bnext Q1.out hb2)
  have G := Lib.hid (range_below G.out hb2)
  clear hb2
  have G0 := G.out 0 _ rfl
  have G1 := G.out 1 _ rfl
  have G2 := G.out 2 _ rfl
  have G3 := G.out 3 _ rfl
  simp only [Nat.zero_add] at G0 G1 G2 G3
  have Gz := World.block_lt_of_cell? _ _ G0
  go_wp2_with fail
  refine (C2.out _).mono ?_
  rintro e w3 ⟨rfl, hb3⟩
  have Q3' := Lib.hid (bnext Q2.out hb3)
  have G := Lib.hid (range_below G.out hb3)
  clear hb3 G0 G1 G2 G3 Gz
  have P := G
  have GL := Lib.hid (range_new w3 #[.int .i64 N, .int .i64 L] 26)
  have Q3 := Lib.hid (balloc Q3'.out (.cells #[.int .i64 N, .int .i64 L] 26))
  have G := Lib.hid (range_below G.out (balloc0 w3 (.cells #[.int .i64 N, .int .i64 L] 26)))
  obtain ⟨V3, hV3⟩ : ∃ V, w3.alloc (.cells #[.int .i64 N, .int .i64 L] 26) = V := ⟨_, rfl⟩
  rw [hV3] at GL Q3 G
  have HV3 := Lib.hid hV3
  clear hV3
  have P0 := P.out 0 _ rfl
  have P1 := P.out 1 _ rfl
  have P2 := P.out 2 _ rfl
  have P3 := P.out 3 _ rfl
  simp only [Nat.zero_add] at P0 P1 P2 P3
  have Pz := World.block_lt_of_cell? _ _ P0
  go_wp2_with fail
  rw [HV3.out]
  refine (C3.out _).mono ?_
  rintro e w4 ⟨rfl, hb4⟩
  have Q4' := Lib.hid (bnext Q3.out hb4)
  have G := Lib.hid (range_below G.out hb4)
  have GL := Lib.hid (range_below GL.out hb4)
  clear hb4 P0 P1 P2 P3 Pz P
  have P := G
  have GI := Lib.hid (range_below (range_new w4 #[.int .i64 I1, .int .i64 I2] 26) (balloc0 _ (.cells #[.int .i64 O1, .int .i64 O2] 26)))
  have GO' := range_new (w4.alloc (.cells #[.int .i64 I1, .int .i64 I2] 26)) #[.int .i64 O1, .int .i64 O2] 26
  rw [World.size_alloc] at GO'
  have GO := Lib.hid GO'
  have bb := balloc (balloc0 w4 (.cells #[.int .i64 I1, .int .i64 I2] 26)) (.cells #[.int .i64 O1, .int .i64 O2] 26)
  have Q4 := Lib.hid (bnext Q4'.out bb)
  have G := Lib.hid (range_below G.out bb)
  have GL := Lib.hid (range_below GL.out bb)
  obtain ⟨V4, hV4⟩ : ∃ V, (w4.alloc (.cells #[.int .i64 I1, .int .i64 I2] 26)).alloc (.cells #[.int .i64 O1, .int .i64 O2] 26) = V := ⟨_, rfl⟩
  rw [hV4] at GI GO Q4 G GL
  have HV4 := Lib.hid hV4
  clear hV4 bb GO'
  have P0 := P.out 0 _ rfl
  have P1 := P.out 1 _ rfl
  have P2 := P.out 2 _ rfl
  have P3 := P.out 3 _ rfl
  simp only [Nat.zero_add] at P0 P1 P2 P3
  have Pz := World.block_lt_of_cell? _ _ P0
  go_wp2_with fail
  rw [HV4.out]
  refine (C4.out _).mono ?_
  rintro e w5 ⟨rfl, hb5⟩
  have Q5' := Lib.hid (bnext Q4.out hb5)
  have G := Lib.hid (range_below G.out hb5)
  have GL := Lib.hid (range_below GL.out hb5)
  have GI := Lib.hid (range_below GI.out hb5)
  have GO := Lib.hid (range_below GO.out hb5)
  clear hb5 P0 P1 P2 P3 Pz P
  have b5 := balloc0 w5 (.cells #[.int .i64 T1, .int .i64 T2] 26)
  have Q5 := Lib.hid (bnext Q5'.out b5)
  have HC5 := Lib.hid (HC.out.stays Q5.out)
  have X5 := Lib.hid (range_below G.out b5)
  have Y5 := Lib.hid (range_below GO.out b5)
  clear b5
  have G0 := G.out 0 _ rfl
  have G1 := G.out 1 _ rfl
  have G2 := G.out 2 _ rfl
  have G3 := G.out 3 _ rfl
  simp only [Nat.zero_add] at G0 G1 G2 G3
  have Gz := World.block_lt_of_cell? _ _ G0
  have GL0 := GL.out 0 _ rfl
  have GL1 := GL.out 1 _ rfl
  simp only [Nat.zero_add] at GL0 GL1
  have GLz := World.block_lt_of_cell? _ _ GL0
  have GI0 := GI.out 0 _ rfl
  have GI1 := GI.out 1 _ rfl
  simp only [Nat.zero_add] at GI0 GI1
  have GIz := World.block_lt_of_cell? _ _ GI0
  have GO0 := GO.out 0 _ rfl
  have GO1 := GO.out 1 _ rfl
  simp only [Nat.zero_add] at GO0 GO1
  have GOz := World.block_lt_of_cell? _ _ GO0
  have hm : n.tmod 2 = 1 := by rw [Int.tmod_eq_emod_of_nonneg (by omega)]; exact hodd
  have hm2 : IntKind.i64.wrap (n.tmod 2) = 1 := by rw [hm]; rfl
  have wE : IntKind.i64.wrap (113 * (B + J)) = E := by rw [HE.out]; exact IntWalk.i64_in _ (by omega)
  have wE2 : 113 * (B + J) = E := HE.out
  have mx2 : max I1 (max O1 T1) ≤ 1000000 := by omega
  have mn2 : 0 ≤ min I1 (min O1 T1) := by omega
  obtain ⟨M1, hM1⟩ : ∃ M, max O1 T1 = M := ⟨_, rfl⟩
  rw [hM1] at mx2
  obtain ⟨M2, hM2⟩ : ∃ M, max I1 M1 = M := ⟨_, rfl⟩
  rw [hM2] at mx2
  obtain ⟨M3, hM3⟩ : ∃ M, min O1 T1 = M := ⟨_, rfl⟩
  rw [hM3] at mn2
  obtain ⟨M4, hM4⟩ : ∃ M, min I1 M3 = M := ⟨_, rfl⟩
  rw [hM4] at mn2
  obtain ⟨x0, x1⟩ := prodR (show 0 ≤ 355 * R by omega) (show 355 * R ≤ 568000 by omega) (show 0 ≤ L by omega) L1
  obtain ⟨x2, x3⟩ := prodR (show 0 ≤ n by omega) n1 (show 0 ≤ E by omega) e1
  obtain ⟨x4, x5⟩ := prodR (show 0 ≤ n + 2 by omega) (show n + 2 ≤ 102 by omega) (show 0 ≤ E by omega) e1
  obtain ⟨x6, x7⟩ := prodR (show 0 ≤ J by omega) J1 (show 0 ≤ I2 by omega) i3
  obtain ⟨x8, x9⟩ := prodR o0 o1 (show 0 ≤ I2 by omega) i3
  obtain ⟨y0, y1⟩ := prodR i0 i1 (show 0 ≤ O2 by omega) o3
  obtain ⟨y4, y5⟩ := prodR t0 t1 (show 0 ≤ I2 by omega) i3
  obtain ⟨y6, y7⟩ := prodR y4 y5 (show 0 ≤ O2 by omega) o3
  have ea : IntKind.i64.wrap (355 * R * L) = N * 113 := by rw [← HN.out]; exact IntWalk.i64_in _ (by omega)
  have eb : IntKind.i64.wrap (n * E) = n * E := IntWalk.i64_in _ (by omega)
  have ec : IntKind.i64.wrap ((n + 2) * E) = (n + 2) * E := IntWalk.i64_in _ (by omega)
  have ed : IntKind.i64.wrap (J * I2) = J * I2 := IntWalk.i64_in _ (by omega)
  have ee : IntKind.i64.wrap (O1 * I2) = O1 * I2 := IntWalk.i64_in _ (by omega)
  have ef : IntKind.i64.wrap (I1 * O2) = I1 * O2 := IntWalk.i64_in _ (by omega)
  have eg : IntKind.i64.wrap (O1 * I2 - I1 * O2) = O1 * I2 - I1 * O2 := IntWalk.i64_in _ (by omega)
  have eh : IntKind.i64.wrap (T1 * I2) = T1 * I2 := IntWalk.i64_in _ (by omega)
  have ei : IntKind.i64.wrap (T1 * I2 * O2) = T1 * I2 * O2 := IntWalk.i64_in _ (by omega)
  have ej : IntKind.i64.wrap ((O1 * I2 - I1 * O2) * T2) = T1 * I2 * O2 := by rw [HI.out]; exact ei
  have h1 := HF1.out
  have h2 : ¬ (n + 2) * E ≤ 355 * R := by have := HF2.out; omega
  have h4 := HJ.out
  clear x0 x1 x2 x3 x4 x5 x6 x7 x8 x9 y0 y1 y4 y5 y6 y7
  go_wp2_with fail
  all_goals
    try clear G0
    try clear G1
    try clear G2
    try clear G3
    try clear Gz
    try clear GL0
    try clear GL1
    try clear GLz
    try clear GI0
    try clear GI1
    try clear GIz
    try clear GO0
    try clear GO1
    try clear GOz
    try clear hm
    try clear hm2
    try clear wE
    try clear wE2
    try clear mx2
    try clear mn2
    try clear hM1
    try clear hM2
    try clear hM3
    try clear hM4
    try clear ea
    try clear eb
    try clear ec
    try clear ed
    try clear ee
    try clear ef
    try clear eg
    try clear eh
    try clear ei
    try clear ej
    try clear h1
    try clear h2
    try clear h4
    refine (at_any _ w.heap.size a len cap 11 100 (by omega) (by omega) (by omega) (by omega) HC5.out HL.out).mono ?_
    rintro e w0 ⟨r, ra, rb, rfl, rfl⟩
    obtain ⟨m, hm, m0, m1⟩ : ∃ R : Int, Hid (1 + r = R) ∧ 1 ≤ R ∧ R ≤ 100 := ⟨_, rfl, by omega, by omega⟩
    have X50 := X5.out 0 _ rfl
    have X51 := X5.out 1 _ rfl
    have X52 := X5.out 2 _ rfl
    have X53 := X5.out 3 _ rfl
    simp only [Nat.zero_add] at X50 X51 X52 X53
    have X5z := World.block_lt_of_cell? _ _ X50
    go_wp2_with fail
    rw [hm.out]
    refine (C5.out m _ m0 m1).mono ?_
    rintro e w6 ⟨rfl, hb6⟩
    have Q6 := Lib.hid (bnext Q5.out hb6)
    have Y6 := Lib.hid (range_below Y5.out hb6)
    clear hb6 ra rb X50 X51 X52 X53 X5z
    obtain ⟨x0, x1⟩ := prodR (show 0 ≤ m by omega) m1 (show 0 ≤ O2 by omega) o3
    have ea : IntKind.i64.wrap (m * O2) = m * O2 := IntWalk.i64_in _ (by omega)
    clear x0 x1
    have Y60 := Y6.out 0 _ rfl
    have Y61 := Y6.out 1 _ rfl
    simp only [Nat.zero_add] at Y60 Y61
    have Y6z := World.block_lt_of_cell? _ _ Y60
    go_wp2
    go_ret
    exact ⟨ret_bool (by simp <;> omega), Q6.out⟩
end Go.Proofs.Ytdhikdaegmekbab
