/-
  The answers on rings: inner length, number of bricks, joints, taper, whether it must taper: contracts of the program and of the model.
-/
import Derived.Test.YtdhikdaegmekbabArJ
namespace Go.Proofs.Ytdhikdaegmekbab
open Go.ChangeShapes Go.WideShapes Go.ChangeAt Go.RowKit Go.Joins


theorem arf1 {a b c a' b' c' : Int} (h1 : a = a') (h2 : b = b') (h3 : c = c') : Ending.returned (.tuple #[.agg #[.int .i64 a, .int .i64 b], .int .i64 c]) = .returned (.tuple #[.agg #[.int .i64 a', .int .i64 b'], .int .i64 c']) := by rw [h1, h2, h3]
theorem arf2 {a b c d k a' b' c' d' k' : Int} (h1 : a = a') (h2 : b = b') (h3 : c = c') (h4 : d = d') (h5 : k = k') : Ending.returned (.tuple #[.agg #[.int .i64 a, .int .i64 b], .agg #[.int .i64 c, .int .i64 d], .int .i64 k]) = .returned (.tuple #[.agg #[.int .i64 a', .int .i64 b'], .agg #[.int .i64 c', .int .i64 d'], .int .i64 k']) := by rw [h1, h2, h3, h4, h5]
theorem arf0 {a b a' b' : Int} (h1 : a = a') (h2 : b = b') : Ending.returned (.tuple #[.int .i64 a, .int .i64 b]) = .returned (.tuple #[.int .i64 a', .int .i64 b']) := by rw [h1, h2]
theorem arfb {a a' : Bool} {b b' : Int} (h1 : a = a') (h2 : b = b') : Ending.returned (.tuple #[.bool a, .int .i64 b]) = .returned (.tuple #[.bool a', .int .i64 b']) := by rw [h1, h2]
def iC (R D B J : Int) : Int := if okR R D B J = true then 0 else 1
def iN (R D B J : Int) : Int := if okR R D B J = true then lowN (355 * R) 113 else 0
def iD (R D B J : Int) : Int := if okR R D B J = true then lowD (355 * R) 113 else 0
def joN (X R D B J : Int) : Int := if rC R D B J = 0 then jN X B (rN R D B J) else 0
def joD (X R D B J : Int) : Int := if rC R D B J = 0 then jD X B (rN R D B J) else 0
def taN (R D B J : Int) : Int := if rC R D B J = 0 then lowN (355 * D) (113 * rN R D B J) else 0
def taD (R D B J : Int) : Int := if rC R D B J = 0 then lowD (355 * D) (113 * rN R D B J) else 0
def muC (R D B J m : Int) : Int := if okR R D B J = true then (if inB m 1 100 = true then rC R D B J else 2) else 1
def muB (R D B J m : Int) : Bool := decide (muC R D B J m = 0) && decide (m * jD (R + D) B (rN R D B J) < jN (R + D) B (rN R D B J))
set_option maxRecDepth 100000 in
set_option maxHeartbeats 6400000 in
theorem inlen_impl (R D B J : Int) (w : World) : Calls Try.prog 47 #[.agg #[.int .i64 R, .int .i64 D, .int .i64 B, .int .i64 J]] w fun e w' => e = .returned (.tuple #[.agg #[.int .i64 (iN R D B J), .int .i64 (iD R D B J)], .int .i64 (iC R D B J)]) ∧ Below w.heap.size w w' := by
  have VR := Lib.hid (ring_valid_impl R D B J)
  cases h1 : okR R D B J
  · rw [h1] at VR
    have H1 := Lib.hid h1
    clear h1
    have G0 := Lib.hid (range_new w #[.int .i64 R, .int .i64 D, .int .i64 B, .int .i64 J] 60)
    have E0 := Lib.hid (balloc0 w (.cells #[.int .i64 R, .int .i64 D, .int .i64 B, .int .i64 J] 60))
    have G0 := Lib.hid (World.rangeAt_alloc G0.out (.cells #[.int .i64 0, .int .i64 0] 26))
    have E0 := Lib.hid (balloc E0.out (.cells #[.int .i64 0, .int .i64 0] 26))
    have T0' := there_new (w.alloc (.cells #[.int .i64 R, .int .i64 D, .int .i64 B, .int .i64 J] 60)) #[.int .i64 0, .int .i64 0] 26 2 rfl
    rw [World.size_alloc] at T0'
    have T0_0 := Lib.hid T0'
    clear T0'
    go_enter Try.func47, Try.ntmps47
    go_wp2_with fail
    refine (VR.out _).mono ?_
    rintro e w1 ⟨rfl, hb1⟩
    have G1 := Lib.hid (range_below G0.out hb1)
    have E1 := Lib.hid (bnext E0.out hb1)
    have T0_1 := Lib.hid (there_below T0_0.out hb1)
    have z1 : w.heap.size ≤ w1.heap.size := by have := hb1.size; (try simp at this); omega
    clear hb1
    have k0 := G1.out 0 _ rfl
    have k1 := G1.out 1 _ rfl
    have k2 := G1.out 2 _ rfl
    have k3 := G1.out 3 _ rfl
    simp only [Nat.zero_add] at k0 k1 k2 k3
    obtain ⟨u00, x00, y00⟩ := there_at T0_1.out (show 0 < 2 by omega)
    obtain ⟨u01, x01, y01⟩ := there_at T0_1.out (show 1 < 2 by omega)
    go_wp2
    refine bodyPost_ret (v := .tuple #[.agg #[.int .i64 0, .int .i64 0], .int .i64 1]) (by simp [results, Try.results47, go_sem, x00, x01]) rfl ⟨arf1 (by simp [iN, H1.out]) (by simp [iD, H1.out]) (by simp [iC, H1.out]), ?_⟩
    exact ((E1.out).setCell (by simp) _).setCell (by simp) _
  · rw [h1] at VR
    have H1 := Lib.hid h1
    obtain ⟨⟨r0, r1⟩, -, -⟩ := okR_true.1 h1
    clear h1
    have HF := Lib.hid (half_impl R (by omega) (by omega))
    obtain ⟨N, hN⟩ : ∃ N, lowN (355 * R) 113 = N := ⟨_, rfl⟩
    obtain ⟨E, hE⟩ : ∃ E, lowD (355 * R) 113 = E := ⟨_, rfl⟩
    rw [hN, hE] at HF
    have F1 : Hid (N = iN R D B J ∧ E = iD R D B J ∧ (0 : Int) = iC R D B J) := ⟨by simp [iN, H1.out, hN], by simp [iD, H1.out, hE], by simp [iC, H1.out]⟩
    clear hN hE
    have G0 := Lib.hid (range_new w #[.int .i64 R, .int .i64 D, .int .i64 B, .int .i64 J] 60)
    have E0 := Lib.hid (balloc0 w (.cells #[.int .i64 R, .int .i64 D, .int .i64 B, .int .i64 J] 60))
    have G0 := Lib.hid (World.rangeAt_alloc G0.out (.cells #[.int .i64 0, .int .i64 0] 26))
    have E0 := Lib.hid (balloc E0.out (.cells #[.int .i64 0, .int .i64 0] 26))
    have T0' := there_new (w.alloc (.cells #[.int .i64 R, .int .i64 D, .int .i64 B, .int .i64 J] 60)) #[.int .i64 0, .int .i64 0] 26 2 rfl
    rw [World.size_alloc] at T0'
    have T0_0 := Lib.hid T0'
    clear T0'
    go_enter Try.func47, Try.ntmps47
    go_wp2_with fail
    refine (VR.out _).mono ?_
    rintro e w1 ⟨rfl, hb1⟩
    have G1 := Lib.hid (range_below G0.out hb1)
    have E1 := Lib.hid (bnext E0.out hb1)
    have T0_1 := Lib.hid (there_below T0_0.out hb1)
    have z1 : w.heap.size ≤ w1.heap.size := by have := hb1.size; (try simp at this); omega
    clear hb1
    have k0 := G1.out 0 _ rfl
    have k1 := G1.out 1 _ rfl
    have k2 := G1.out 2 _ rfl
    have k3 := G1.out 3 _ rfl
    simp only [Nat.zero_add] at k0 k1 k2 k3
    obtain ⟨u00, x00, y00⟩ := there_at T0_1.out (show 0 < 2 by omega)
    obtain ⟨u01, x01, y01⟩ := there_at T0_1.out (show 1 < 2 by omega)
    go_wp2_with fail
    refine (HF.out _).mono ?_
    rintro e w2 ⟨rfl, hb2⟩
    have G2 := Lib.hid (range_below G1.out hb2)
    have E2 := Lib.hid (bnext E1.out hb2)
    have T0_2 := Lib.hid (there_below T0_1.out hb2)
    have z2 : w1.heap.size ≤ w2.heap.size := by have := hb2.size; (try simp at this); omega
    clear hb2
    clear k0 k1 k2 k3 x00 y00 x01 y01
    have k0 := G2.out 0 _ rfl
    have k1 := G2.out 1 _ rfl
    have k2 := G2.out 2 _ rfl
    have k3 := G2.out 3 _ rfl
    simp only [Nat.zero_add] at k0 k1 k2 k3
    obtain ⟨u00, x00, y00⟩ := there_at T0_2.out (show 0 < 2 by omega)
    obtain ⟨u01, x01, y01⟩ := there_at T0_2.out (show 1 < 2 by omega)
    go_wp2
    refine bodyPost_ret (v := .tuple #[.agg #[.int .i64 N, .int .i64 E], .int .i64 0]) (by simp [results, Try.results47, go_sem, x00, x01]) rfl ⟨arf1 F1.out.1 F1.out.2.1 F1.out.2.2, ?_⟩
    exact ((E2.out).setCell (by simp) _).setCell (by simp) _
theorem bricksin_impl (R D B J : Int) (w : World) : Calls Try.prog 46 #[.agg #[.int .i64 R, .int .i64 D, .int .i64 B, .int .i64 J]] w fun e w' => e = .returned (.tuple #[.int .i64 (rN R D B J), .int .i64 (rC R D B J)]) ∧ Below w.heap.size w w' := by
  by_cases h : rC R D B J = 0
  · have LY := Lib.hid (lay_some R D B J h)
    rw [h]
    obtain ⟨n, hn⟩ : ∃ n, rN R D B J = n := ⟨_, rfl⟩
    rw [hn] at LY ⊢
    clear hn h
    have G0 := Lib.hid (range_new w #[.int .i64 R, .int .i64 D, .int .i64 B, .int .i64 J] 60)
    have E0 := Lib.hid (balloc0 w (.cells #[.int .i64 R, .int .i64 D, .int .i64 B, .int .i64 J] 60))
    go_enter Try.func46, Try.ntmps46
    go_wp2_with fail
    refine (LY.out _).mono ?_
    rintro e w1 ⟨rfl, hb1⟩
    have G1 := Lib.hid (range_below G0.out hb1)
    have E1 := Lib.hid (bnext E0.out hb1)
    have z1 : w.heap.size ≤ w1.heap.size := by have := hb1.size; (try simp at this); omega
    clear hb1
    have k0 := G1.out 0 _ rfl
    have k1 := G1.out 1 _ rfl
    have k2 := G1.out 2 _ rfl
    have k3 := G1.out 3 _ rfl
    simp only [Nat.zero_add] at k0 k1 k2 k3
    go_wp2
    refine bodyPost_ret (v := .tuple #[.int .i64 n, .int .i64 0]) (by simp [results, Try.results46, go_sem]) rfl ⟨rfl, ?_⟩
    exact balloc E1.out _
  · have LY := Lib.hid (lay_none R D B J h)
    have hn : rN R D B J = 0 := by rcases ring_cases R D B J with ⟨_, _, h3⟩ | ⟨_, _, _, h4⟩ | ⟨_, _, h3, _⟩ <;> omega
    rw [hn]
    obtain ⟨c, hc⟩ : ∃ c, rC R D B J = c := ⟨_, rfl⟩
    rw [hc] at LY ⊢
    clear hc h hn
    have G0 := Lib.hid (range_new w #[.int .i64 R, .int .i64 D, .int .i64 B, .int .i64 J] 60)
    have E0 := Lib.hid (balloc0 w (.cells #[.int .i64 R, .int .i64 D, .int .i64 B, .int .i64 J] 60))
    go_enter Try.func46, Try.ntmps46
    go_wp2_with fail
    refine (LY.out _).mono ?_
    rintro e w1 ⟨rfl, hb1⟩
    have G1 := Lib.hid (range_below G0.out hb1)
    have E1 := Lib.hid (bnext E0.out hb1)
    have z1 : w.heap.size ≤ w1.heap.size := by have := hb1.size; (try simp at this); omega
    clear hb1
    have k0 := G1.out 0 _ rfl
    have k1 := G1.out 1 _ rfl
    have k2 := G1.out 2 _ rfl
    have k3 := G1.out 3 _ rfl
    simp only [Nat.zero_add] at k0 k1 k2 k3
    go_wp2
    refine bodyPost_ret (v := .tuple #[.int .i64 0, .int .i64 c]) (by simp [results, Try.results46, go_sem]) rfl ⟨rfl, ?_⟩
    exact balloc E1.out _
end Go.Proofs.Ytdhikdaegmekbab
