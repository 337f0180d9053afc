/-
  Quantities of a format: its face, bricks for a square metre, mortar: the model's word and the program's.
-/
import Derived.Test.YtdhikdaegmekbabQn
import Derived.Test.YtdhikdaegmekbabC2b
import Derived.Test.YtdhikdaegmekbabFrac
import Derived.Test.YtdhikdaegmekbabSetM
import Derived.Deep.RegionWith
import Derived.Deep.RegionHeld3
namespace Go.Proofs.Ytdhikdaegmekbab
open Go.ChangeShapes Go.WideShapes Go.ChangeAt Go.RowKit Go.Joins

def faceQ (l ht j : Int) : Int := (l + j) * (ht + j)
theorem faceQ_range {l wd ht j : Int} (h : okB l wd ht j = true) : 3000 ≤ faceQ l ht j ∧ faceQ l ht j ≤ 88400 := by
  obtain ⟨⟨l1, l2⟩, ⟨w1, w2⟩, ⟨t1, t2⟩, ⟨j1, j2⟩, _⟩ := okB_true.1 h
  unfold faceQ
  constructor
  · exact Int.le_trans (by omega) (Int.mul_le_mul (show 100 ≤ l + j by omega) (show 30 ≤ ht + j by omega) (by omega) (by omega))
  · exact Int.le_trans (Int.mul_le_mul (show l + j ≤ 520 by omega) (show ht + j ≤ 170 by omega) (by omega) (by omega)) (by omega)
theorem face_impl (l wd ht j : Int) (h : okB l wd ht j = true) (w : World) : Calls Try.prog 71 #[.agg #[.int .i64 l, .int .i64 wd, .int .i64 ht, .int .i64 j]] w fun e w' => e = .returned (.int .i64 (faceQ l ht j)) ∧ Below w.heap.size w w' := by
  obtain ⟨⟨l1, l2⟩, ⟨w1', w2'⟩, ⟨t1, t2⟩, ⟨j1, j2⟩, _⟩ := okB_true.1 h
  obtain ⟨m0, m1⟩ := faceQ_range h
  unfold faceQ at m0 m1
  clear h
  go_enter Try.func71, Try.ntmps71
  go_wp2_with fail
  refine (with_joint l wd ht j (by omega) (by omega) (by omega) (by omega) _).mono ?_
  rintro e w1 ⟨rfl, hb1⟩
  have B1 := Lib.hid (bnext (balloc0 _ _) hb1)
  clear hb1
  go_wp2
  go_ret
  exact ⟨rfl, balloc B1.out _⟩
def okC (l wd ht j : Int) : Int := if okB l wd ht j = true then 0 else 1
def metN (l wd ht j : Int) : Int := if okB l wd ht j = true then lowN 1000000 (faceQ l ht j) else 0
def metD (l wd ht j : Int) : Int := if okB l wd ht j = true then lowD 1000000 (faceQ l ht j) else 0
theorem frc {a b c a' b' c' : Int} (h1 : a = a') (h2 : b = b') (h3 : c = c') : Ending.returned (.tuple #[.agg #[.int .i64 a, .int .i64 b], .int .i64 c]) = .returned (.tuple #[.agg #[.int .i64 a', .int .i64 b'], .int .i64 c']) := by rw [h1, h2, h3]
set_option maxHeartbeats 1600000 in
theorem metre_spec (l wd ht j : Int) (w : World) : Calls Try.prog 32 #[.agg #[.int .i64 l, .int .i64 wd, .int .i64 ht, .int .i64 j]] w fun e w' => e = .returned (.tuple #[.agg #[.int .i64 (metN l wd ht j), .int .i64 (metD l wd ht j)], .int .i64 (okC l wd ht j)]) ∧ Below w.heap.size w w' := by
  cases h1 : okB l wd ht j
  · go_enter Try.func32, Try.ntmps32
    go_wp2_with fail
    refine (l02ok l wd ht j _).mono ?_
    rintro e w1 ⟨rfl, hb1⟩
    obtain ⟨hc1, hf1⟩ := bcell hb1
    have hz1 : w.heap.size + 1 < w1.heap.size := by have := hb1.size; simp at this; omega
    go_wp2
    refine bodyPost_ret (v := .tuple #[.agg #[.int .i64 0, .int .i64 0], .int .i64 1]) (by simp [results, Try.results32, go_sem, hc1]) rfl ⟨frc (by simp [metN, h1]) (by simp [metD, h1]) (by simp [okC, h1]), ?_⟩
    exact ((bnext (balloc (balloc0 _ _) _) hb1).setCell (by simp) _).setCell (by simp) _
  · obtain ⟨⟨l1, l2⟩, ⟨w1', w2'⟩, ⟨t1, t2⟩, ⟨j1, j2⟩, _⟩ := okB_true.1 h1
    obtain ⟨m0, m1⟩ := faceQ_range h1
    have MK := Lib.hid (make_spec 1000000 (faceQ l ht j) (by omega) (by omega) (by omega) (by omega))
    have H1 := Lib.hid h1
    have e1 : (l + j) * (ht + j) = faceQ l ht j := rfl
    skip
    go_enter Try.func32, Try.ntmps32
    go_wp2_with fail
    refine (l02ok l wd ht j _).mono ?_
    rintro e w1 ⟨rfl, hb1⟩
    obtain ⟨hc1, hf1⟩ := bcell hb1
    have hz1 : w.heap.size + 1 < w1.heap.size := by have := hb1.size; simp at this; omega
    have B1 := Lib.hid (bnext (balloc (balloc0 w (.cells #[.int .i64 l, .int .i64 wd, .int .i64 ht, .int .i64 j] 41)) _) hb1)
    clear hb1
    rw [h1]
    clear h1
    go_wp2_with fail
    have B2 := B1
    refine (MK.out _).mono ?_
    rintro e w3 ⟨rfl, hb3⟩
    obtain ⟨hc3, hf3⟩ := bcell hb3
    have hz3 : w.heap.size + 1 < w3.heap.size := Nat.lt_of_lt_of_le hz1 hb3.size
    go_wp2
    refine bodyPost_ret (v := .tuple #[.agg #[.int .i64 (lowN 1000000 (faceQ l ht j)), .int .i64 (lowD 1000000 (faceQ l ht j))], .int .i64 0]) (by simp [results, Try.results32, go_sem, hc3, hc1, hz1]) rfl ⟨frc (by simp [metN, H1.out]) (by simp [metD, H1.out]) (by simp [okC, H1.out]), ?_⟩
    exact ((bnext B2.out hb3).setCell (by simp) _).setCell (by simp) _
set_option maxHeartbeats 1600000 in
theorem metre_impl (l wd ht j : Int) (w : World) : Calls Try.prog 33 #[.agg #[.int .i64 l, .int .i64 wd, .int .i64 ht, .int .i64 j]] w fun e w' => e = .returned (.tuple #[.agg #[.int .i64 (metN l wd ht j), .int .i64 (metD l wd ht j)], .int .i64 (okC l wd ht j)]) ∧ Below w.heap.size w w' := by
  cases h1 : okB l wd ht j
  · go_enter Try.func33, Try.ntmps33
    go_wp2_with fail
    refine (vf_any l wd ht j _).mono ?_
    rintro e w1 ⟨rfl, hb1⟩
    obtain ⟨hc1, hf1⟩ := bcell hb1
    have hz1 : w.heap.size + 1 < w1.heap.size := by have := hb1.size; simp at this; omega
    go_wp2
    refine bodyPost_ret (v := .tuple #[.agg #[.int .i64 0, .int .i64 0], .int .i64 1]) (by simp [results, Try.results33, go_sem, hc1]) rfl ⟨frc (by simp [metN, h1]) (by simp [metD, h1]) (by simp [okC, h1]), ?_⟩
    exact ((bnext (balloc (balloc0 _ _) _) hb1).setCell (by simp) _).setCell (by simp) _
  · obtain ⟨⟨l1, l2⟩, ⟨w1', w2'⟩, ⟨t1, t2⟩, ⟨j1, j2⟩, _⟩ := okB_true.1 h1
    obtain ⟨m0, m1⟩ := faceQ_range h1
    have MK := Lib.hid (lowest_impl 1000000 (faceQ l ht j) (by omega) (by omega) (by omega) (by omega))
    have H1 := Lib.hid h1
    have e1 : (l + j) * (ht + j) = faceQ l ht j := rfl
    have FC := Lib.hid (face_impl l wd ht j h1)
    go_enter Try.func33, Try.ntmps33
    go_wp2_with fail
    refine (vf_any l wd ht j _).mono ?_
    rintro e w1 ⟨rfl, hb1⟩
    obtain ⟨hc1, hf1⟩ := bcell hb1
    have hz1 : w.heap.size + 1 < w1.heap.size := by have := hb1.size; simp at this; omega
    have B1 := Lib.hid (bnext (balloc (balloc0 w (.cells #[.int .i64 l, .int .i64 wd, .int .i64 ht, .int .i64 j] 41)) _) hb1)
    clear hb1
    rw [h1]
    clear h1
    go_wp2_with fail
    refine (FC.out _).mono ?_
    rintro e w2 ⟨rfl, hb2⟩
    have B2 := Lib.hid (bnext B1.out hb2)
    obtain ⟨hc2, hf2⟩ := bcell hb2
    have hz2 : w.heap.size + 1 < w2.heap.size := Nat.lt_of_lt_of_le hz1 hb2.size
    clear hb2
    go_wp2_with fail
    refine (MK.out _).mono ?_
    rintro e w3 ⟨rfl, hb3⟩
    obtain ⟨hc3, hf3⟩ := bcell hb3
    have hz3 : w.heap.size + 1 < w3.heap.size := Nat.lt_of_lt_of_le hz2 hb3.size
    go_wp2
    refine bodyPost_ret (v := .tuple #[.agg #[.int .i64 (lowN 1000000 (faceQ l ht j)), .int .i64 (lowD 1000000 (faceQ l ht j))], .int .i64 0]) (by simp [results, Try.results33, go_sem, hc3, hc2, hz2, hc1, hz1]) rfl ⟨frc (by simp [metN, H1.out]) (by simp [metD, H1.out]) (by simp [okC, H1.out]), ?_⟩
    exact ((bnext B2.out hb3).setCell (by simp) _).setCell (by simp) _
def mvQ (l wd ht j : Int) : Int := (l + j) * (wd + j) * (ht + j) - l * wd * ht
theorem mvQ_range {l wd ht j : Int} (h : okB l wd ht j = true) : 0 ≤ mvQ l wd ht j ∧ mvQ l wd ht j ≤ 23868000 ∧ 0 ≤ l * wd ∧ l * wd ≤ 125000 ∧ 0 ≤ l * wd * ht ∧ l * wd * ht ≤ 18750000 ∧ 0 ≤ (l + j) * (wd + j) ∧ (l + j) * (wd + j) ≤ 140400 ∧ 0 ≤ (l + j) * (wd + j) * (ht + j) ∧ (l + j) * (wd + j) * (ht + j) ≤ 23868000 := by
  obtain ⟨⟨l1, l2⟩, ⟨w1, w2⟩, ⟨t1, t2⟩, ⟨j1, j2⟩, _⟩ := okB_true.1 h
  have a0 : 0 ≤ l * wd := Int.mul_nonneg (by omega) (by omega)
  have a1 : l * wd ≤ 125000 := Int.le_trans (Int.mul_le_mul l2 w2 (by omega) (by omega)) (by omega)
  have a2 : 0 ≤ l * wd * ht := Int.mul_nonneg a0 (by omega)
  have a3 : l * wd * ht ≤ 18750000 := Int.le_trans (Int.mul_le_mul a1 t2 (by omega) (by omega)) (by omega)
  have b0 : 0 ≤ (l + j) * (wd + j) := Int.mul_nonneg (by omega) (by omega)
  have b1 : (l + j) * (wd + j) ≤ 140400 := Int.le_trans (Int.mul_le_mul (show l + j ≤ 520 by omega) (show wd + j ≤ 270 by omega) (by omega) (by omega)) (by omega)
  have b2 : 0 ≤ (l + j) * (wd + j) * (ht + j) := Int.mul_nonneg b0 (by omega)
  have b3 : (l + j) * (wd + j) * (ht + j) ≤ 23868000 := Int.le_trans (Int.mul_le_mul b1 (show ht + j ≤ 170 by omega) (by omega) (by omega)) (by omega)
  have c0 : l * wd ≤ (l + j) * (wd + j) := Int.mul_le_mul (by omega) (by omega) (by omega) (by omega)
  have c1 : l * wd * ht ≤ (l + j) * (wd + j) * (ht + j) := Int.mul_le_mul c0 (by omega) (by omega) b0
  unfold mvQ
  refine ⟨by omega, by omega, a0, a1, a2, a3, b0, b1, b2, b3⟩
def morN (l wd ht j n : Int) : Int := if codeOf l wd ht j n 0 1000000 = 0 then lowN (mvQ l wd ht j * n) 1000000 else 0
def morD (l wd ht j n : Int) : Int := if codeOf l wd ht j n 0 1000000 = 0 then lowD (mvQ l wd ht j * n) 1000000 else 0
theorem code3 (l wd ht j n low high : Int) : (okB l wd ht j = false ∧ codeOf l wd ht j n low high = 1) ∨ (okB l wd ht j = true ∧ inB n low high = false ∧ codeOf l wd ht j n low high = 2) ∨ (okB l wd ht j = true ∧ inB n low high = true ∧ codeOf l wd ht j n low high = 0) := by
  cases h1 : okB l wd ht j
  · exact .inl ⟨rfl, codeOf_inv h1⟩
  · cases h2 : inB n low high
    · exact .inr (.inl ⟨rfl, rfl, codeOf_rng h1 (inB_false.1 h2)⟩)
    · exact .inr (.inr ⟨rfl, rfl, codeOf_ok h1 (inB_true.1 h2)⟩)
set_option maxRecDepth 100000 in
set_option maxHeartbeats 3200000 in
theorem mortar_spec (l wd ht j n : Int) (w : World) : Calls Try.prog 34 #[.agg #[.int .i64 l, .int .i64 wd, .int .i64 ht, .int .i64 j], .int .i64 n] w fun e w' => e = .returned (.tuple #[.agg #[.int .i64 (morN l wd ht j n), .int .i64 (morD l wd ht j n)], .int .i64 (codeOf l wd ht j n 0 1000000)]) ∧ Below w.heap.size w w' := by
  rcases code3 l wd ht j n 0 1000000 with ⟨h1, hc⟩ | ⟨h1, h2, hc⟩ | ⟨h1, h2, hc⟩
  · rw [hc]
    go_enter Try.func34, Try.ntmps34
    go_wp2_with fail
    refine (l02ok l wd ht j _).mono ?_
    rintro e w1 ⟨rfl, hb1⟩
    obtain ⟨hc1, hf1⟩ := bcell hb1
    have hz1 : w.heap.size + 1 < w1.heap.size := by have := hb1.size; simp at this; omega
    go_wp2
    refine bodyPost_ret (v := .tuple #[.agg #[.int .i64 0, .int .i64 0], .int .i64 1]) (by simp [results, Try.results34, go_sem, hc1]) rfl ⟨frc (by simp [morN, hc]) (by simp [morD, hc]) rfl, ?_⟩
    exact ((bnext (balloc (balloc0 _ _) _) hb1).setCell (by simp) _).setCell (by simp) _
  · rw [hc]
    go_enter Try.func34, Try.ntmps34
    go_wp2_with fail
    refine (l02ok l wd ht j _).mono ?_
    rintro e w1 ⟨rfl, hb1⟩
    obtain ⟨hc1, hf1⟩ := bcell hb1
    have hz1 : w.heap.size + 1 < w1.heap.size := by have := hb1.size; simp at this; omega
    go_wp2_with (go_at_call 72; refine (many_spec _ _).mono ?_; rintro e w' ⟨rfl, rfl⟩)
    refine bodyPost_ret (v := .tuple #[.agg #[.int .i64 0, .int .i64 0], .int .i64 2]) (by simp [results, Try.results34, go_sem, hc1]) rfl ⟨frc (by simp [morN, hc]) (by simp [morD, hc]) rfl, ?_⟩
    exact ((bnext (balloc (balloc0 _ _) _) hb1).setCell (by simp) _).setCell (by simp) _
  · rw [hc]
    obtain ⟨⟨l1, l2⟩, ⟨w1', w2'⟩, ⟨t1, t2⟩, ⟨j1, j2⟩, _⟩ := okB_true.1 h1
    obtain ⟨n0, n1⟩ := inB_true.1 h2
    obtain ⟨m0, m1, a0, a1, a2, a3, b0, b1, b2, b3⟩ := mvQ_range h1
    have q0 : 0 ≤ mvQ l wd ht j * n := Int.mul_nonneg m0 n0
    have q1 : mvQ l wd ht j * n ≤ 23868000000000 := Int.le_trans (Int.mul_le_mul m1 n1 (by omega) (by omega)) (by omega)
    have MK := Lib.hid (make_spec (mvQ l wd ht j * n) 1000000 (by omega) (by omega) (by omega) (by omega))
    have em : (l + j) * (wd + j) * (ht + j) - l * wd * ht = mvQ l wd ht j := rfl
    have e1 : IntKind.i64.wrap (mvQ l wd ht j * n) = mvQ l wd ht j * n := IntWalk.i64_in _ (by omega)
    go_enter Try.func34, Try.ntmps34
    go_wp2_with fail
    refine (l02ok l wd ht j _).mono ?_
    rintro e w1 ⟨rfl, hb1⟩
    obtain ⟨hc1, hf1⟩ := bcell hb1
    have hz1 : w.heap.size + 1 < w1.heap.size := by have := hb1.size; simp at this; omega
    have B1 := Lib.hid (bnext (balloc (balloc0 w (.cells #[.int .i64 l, .int .i64 wd, .int .i64 ht, .int .i64 j] 41)) _) hb1)
    clear hb1
    rw [h1]
    go_wp2_with (first | (go_at_call 72; refine (many_spec _ _).mono ?_; rintro e w' ⟨rfl, rfl⟩) | (go_at_call 63; refine (MK.out _).mono ?_; rintro e w3 ⟨rfl, hb3⟩; obtain ⟨hc3, hf3⟩ := bcell hb3; have hz3 : w.heap.size + 1 < w3.heap.size := Nat.lt_of_lt_of_le hz1 hb3.size; have B3 := Lib.hid (bnext B1.out hb3); clear hb3))
    refine bodyPost_ret (v := .tuple #[.agg #[.int .i64 (lowN (mvQ l wd ht j * n) 1000000), .int .i64 (lowD (mvQ l wd ht j * n) 1000000)], .int .i64 0]) (by simp [results, Try.results34, go_sem, hc3, hc1, hz1]) rfl ⟨frc (by simp [morN, hc]) (by simp [morD, hc]) rfl, ?_⟩
    exact (B3.out.setCell (by simp) _).setCell (by simp) _
set_option maxRecDepth 100000 in
set_option maxHeartbeats 3200000 in
theorem mortar_impl (l wd ht j n : Int) (w : World) : Calls Try.prog 35 #[.agg #[.int .i64 l, .int .i64 wd, .int .i64 ht, .int .i64 j], .int .i64 n] w fun e w' => e = .returned (.tuple #[.agg #[.int .i64 (morN l wd ht j n), .int .i64 (morD l wd ht j n)], .int .i64 (codeOf l wd ht j n 0 1000000)]) ∧ Below w.heap.size w w' := by
  rcases code3 l wd ht j n 0 1000000 with ⟨h1, hc⟩ | ⟨h1, h2, hc⟩ | ⟨h1, h2, hc⟩
  · rw [hc]
    go_enter Try.func35, Try.ntmps35
    go_wp2_with fail
    refine (code_impl l wd ht j n 0 1000000 _).mono ?_
    rintro e w1 ⟨rfl, hb1⟩
    obtain ⟨hc1, hf1⟩ := bcell hb1
    have hz1 : w.heap.size + 1 < w1.heap.size := by have := hb1.size; simp at this; omega
    rw [hc]
    go_wp2
    refine bodyPost_ret (v := .tuple #[.agg #[.int .i64 0, .int .i64 0], .int .i64 1]) (by simp [results, Try.results35, go_sem, hc1]) rfl ⟨frc (by simp [morN, hc]) (by simp [morD, hc]) rfl, ?_⟩
    exact ((bnext (balloc (balloc0 _ _) _) hb1).setCell (by simp) _).setCell (by simp) _
  · rw [hc]
    go_enter Try.func35, Try.ntmps35
    go_wp2_with fail
    refine (code_impl l wd ht j n 0 1000000 _).mono ?_
    rintro e w1 ⟨rfl, hb1⟩
    obtain ⟨hc1, hf1⟩ := bcell hb1
    have hz1 : w.heap.size + 1 < w1.heap.size := by have := hb1.size; simp at this; omega
    rw [hc]
    go_wp2
    refine bodyPost_ret (v := .tuple #[.agg #[.int .i64 0, .int .i64 0], .int .i64 2]) (by simp [results, Try.results35, go_sem, hc1]) rfl ⟨frc (by simp [morN, hc]) (by simp [morD, hc]) rfl, ?_⟩
    exact ((bnext (balloc (balloc0 _ _) _) hb1).setCell (by simp) _).setCell (by simp) _
  · rw [hc]
    obtain ⟨⟨l1, l2⟩, ⟨w1', w2'⟩, ⟨t1, t2⟩, ⟨j1, j2⟩, _⟩ := okB_true.1 h1
    obtain ⟨n0, n1⟩ := inB_true.1 h2
    obtain ⟨m0, m1, a0, a1, a2, a3, b0, b1, b2, b3⟩ := mvQ_range h1
    have q0 : 0 ≤ mvQ l wd ht j * n := Int.mul_nonneg m0 n0
    have q1 : mvQ l wd ht j * n ≤ 23868000000000 := Int.le_trans (Int.mul_le_mul m1 n1 (by omega) (by omega)) (by omega)
    have MK := Lib.hid (lowest_impl (mvQ l wd ht j * n) 1000000 (by omega) (by omega) (by omega) (by omega))
    have em : (l + j) * (wd + j) * (ht + j) - l * wd * ht = mvQ l wd ht j := rfl
    have e1 : IntKind.i64.wrap (mvQ l wd ht j * n) = mvQ l wd ht j * n := IntWalk.i64_in _ (by omega)
    have e2 : IntKind.i64.wrap (mvQ l wd ht j) = mvQ l wd ht j := IntWalk.i64_in _ (by omega)
    have WJ := Lib.hid (with_joint l wd ht j (by omega) (by omega) (by omega) (by omega))
    have V1 := Lib.hid (volume_impl (l + j) (wd + j) (ht + j) 0 (by omega) (by omega) (by omega))
    have V2 := Lib.hid (volume_impl l wd ht j (by omega) (by omega) (by omega))
    have F0 := FmBox.new w l wd ht j 41
    have T0 := there_new (w.alloc (.cells #[.int .i64 l, .int .i64 wd, .int .i64 ht, .int .i64 j] 41)) #[.int .i64 0, .int .i64 0] 26 2 rfl
    rw [World.size_alloc] at T0
    go_enter Try.func35, Try.ntmps35
    go_wp2_with fail
    refine (code_impl l wd ht j n 0 1000000 _).mono ?_
    rintro e w1 ⟨rfl, hb1⟩
    have F1 := Lib.hid ((F0.later (balloc0 _ _)).later hb1)
    have T1 := Lib.hid (there_below T0 hb1)
    have B1 := Lib.hid (bnext (balloc (balloc0 w (.cells #[.int .i64 l, .int .i64 wd, .int .i64 ht, .int .i64 j] 41)) _) hb1)
    clear hb1 F0 T0
    rw [hc]
    go_wp2_with fail
    refine wp_region_held_drew (S := fun W => FmBox w.heap.size l wd ht j W ∧ Below w.heap.size w W ∧ W.there (w.heap.size + 1) 0 2) (by kernel_rfl) ?_ (fun hHeld => ?_)
    · exact ⟨F1.out.drew, B1.out.drew, T1.out⟩
    refine wpAnyH_take (i := 0) (v := .agg #[.int .i64 l, .int .i64 wd, .int .i64 ht, .int .i64 j]) rfl (by kernel_rfl) (by kernel_rfl) (by kernel_rfl) (fun _ _ _ h => h) (Or.inl ⟨by kernel_rfl, ?_⟩) (by assumption) ?_
    · intro w hSw
      try dsimp only at hSw
      obtain ⟨⟨k0, k1, k2, k3⟩, -, -⟩ := hSw
      go_simp
    try simp only [Act.put, List.setIfInBounds_toArray, List.set_cons_zero, List.set_cons_succ, List.getElem_toArray, List.getElem_cons_zero]
    refine wpAnyH_take (i := 3) (v := .agg #[.int .i64 l, .int .i64 wd, .int .i64 ht, .int .i64 j]) rfl (by kernel_rfl) (by kernel_rfl) (by kernel_rfl) (fun _ _ _ h => h) (Or.inl ⟨by kernel_rfl, ?_⟩) (by assumption) ?_
    · intro w hSw
      try dsimp only at hSw
      obtain ⟨⟨k0, k1, k2, k3⟩, -, -⟩ := hSw
      go_simp
    try simp only [Act.put, List.setIfInBounds_toArray, List.set_cons_zero, List.set_cons_succ, List.getElem_toArray, List.getElem_cons_zero, List.getElem_cons_succ]
    refine wpAnyH_take (i := 6) (v := .int .i64 n) rfl (by kernel_rfl) (by kernel_rfl) (by kernel_rfl) (fun _ _ _ h => h) (Or.inl ⟨by kernel_rfl, ?_⟩) (by assumption) ?_
    · intro w hSw
      try dsimp only at hSw
      skip
      go_simp
    try simp only [Act.put, List.setIfInBounds_toArray, List.set_cons_zero, List.set_cons_succ, List.getElem_toArray, List.getElem_cons_zero, List.getElem_cons_succ]
    refine wpAnyH_ready (rs := [1]) (by kernel_rfl) (by simp) ?_
    refine AllReadyH.cons rfl (fun K hK => ?_) AllReadyH.nil
    go_simp
    go_at_call 74
    refine (WJ.out _).mono ?_
    rintro e w2 ⟨rfl, hb2⟩
    refine hK.out _ _ ?_ (fun hHeld' => ?_)
    · exact ⟨hHeld.1.later hb2, bnext hHeld.2.1 hb2, there_below hHeld.2.2 hb2⟩
    clear hK K hHeld
    have hHeld := hHeld'
    clear hHeld'
    clear hb2
    try simp only [Act.put, List.setIfInBounds_toArray, List.set_cons_zero, List.set_cons_succ, List.getElem_toArray, List.getElem_cons_zero, List.getElem_cons_succ]
    refine wpAnyH_ready (rs := [2]) (by kernel_rfl) (by simp) ?_
    refine AllReadyH.cons rfl (fun K hK => ?_) AllReadyH.nil
    go_simp
    go_at_call 75
    refine (V1.out _).mono ?_
    rintro e w3 ⟨rfl, hb3⟩
    refine hK.out _ _ ?_ (fun hHeld' => ?_)
    · exact ⟨hHeld.1.later hb3, bnext hHeld.2.1 hb3, there_below hHeld.2.2 hb3⟩
    clear hK K hHeld
    have hHeld := hHeld'
    clear hHeld'
    clear hb3
    try simp only [Act.put, List.setIfInBounds_toArray, List.set_cons_zero, List.set_cons_succ, List.getElem_toArray, List.getElem_cons_zero, List.getElem_cons_succ]
    refine wpAnyH_ready (rs := [4]) (by kernel_rfl) (by simp) ?_
    refine AllReadyH.cons rfl (fun K hK => ?_) AllReadyH.nil
    go_simp
    go_at_call 75
    refine (V2.out _).mono ?_
    rintro e w4 ⟨rfl, hb4⟩
    refine hK.out _ _ ?_ (fun hHeld' => ?_)
    · exact ⟨hHeld.1.later hb4, bnext hHeld.2.1 hb4, there_below hHeld.2.2 hb4⟩
    clear hK K hHeld
    have hHeld := hHeld'
    clear hHeld'
    clear hb4
    try simp only [Act.put, List.setIfInBounds_toArray, List.set_cons_zero, List.set_cons_succ, List.getElem_toArray, List.getElem_cons_zero, List.getElem_cons_succ]
    refine wpAnyH_take (i := 5) (v := .int .i64 (mvQ l wd ht j)) rfl (by kernel_rfl) (by kernel_rfl) (by kernel_rfl) (fun _ _ _ h => h) (Or.inl ⟨by kernel_rfl, ?_⟩) (by assumption) ?_
    · intro w hSw
      try dsimp only at hSw
      skip
      go_simp
      all_goals first | omega | exact IntWalk.i64_in _ (by omega) | exact em
    try simp only [Act.put, List.setIfInBounds_toArray, List.set_cons_zero, List.set_cons_succ, List.getElem_toArray, List.getElem_cons_zero, List.getElem_cons_succ]
    refine wpAnyH_take (i := 7) (v := .int .i64 (mvQ l wd ht j * n)) rfl (by kernel_rfl) (by kernel_rfl) (by kernel_rfl) (fun _ _ _ h => h) (Or.inl ⟨by kernel_rfl, ?_⟩) (by assumption) ?_
    · intro w hSw
      try dsimp only at hSw
      skip
      go_simp
      all_goals first | omega | exact IntWalk.i64_in _ (by omega) | exact em
    try simp only [Act.put, List.setIfInBounds_toArray, List.set_cons_zero, List.set_cons_succ, List.getElem_toArray, List.getElem_cons_zero, List.getElem_cons_succ]
    refine wpAnyH_ready (rs := [8]) (by kernel_rfl) (by simp) ?_
    refine AllReadyH.cons rfl (fun K hK => ?_) AllReadyH.nil
    go_simp
    go_at_call 65
    refine (MK.out _).mono ?_
    rintro e w5 ⟨rfl, hb5⟩
    refine hK.out _ _ ?_ (fun hHeld' => ?_)
    · exact ⟨hHeld.1.later hb5, bnext hHeld.2.1 hb5, there_below hHeld.2.2 hb5⟩
    clear hK K hHeld
    have hHeld := hHeld'
    clear hHeld'
    clear hb5
    try simp only [Act.put, List.setIfInBounds_toArray, List.set_cons_zero, List.set_cons_succ, List.getElem_toArray, List.getElem_cons_zero, List.getElem_cons_succ]
    refine wpAnyH_ready (rs := [9]) (by kernel_rfl) (by simp) ?_
    refine AllReadyH.cons rfl (fun K hK => ?_) AllReadyH.nil
    obtain ⟨u0, x0, y0⟩ := there_at hHeld.2.2 (show 0 < 2 by omega)
    obtain ⟨u1, x1, y1⟩ := there_at hHeld.2.2 (show 1 < 2 by omega)
    go_simp
    refine hK.out _ _ ?_ (fun hHeld' => ?_)
    · exact ⟨(hHeld.1.set (by omega)).set (by omega), (hHeld.2.1.setCell (by simp) _).setCell (by simp) _, there_setM (there_setM hHeld.2.2 _ _) _ _⟩
    clear hK K hHeld
    have hHeld := hHeld'
    clear hHeld'
    try simp only [Act.put, List.setIfInBounds_toArray, List.set_cons_zero, List.set_cons_succ, List.getElem_toArray, List.getElem_cons_zero, List.getElem_cons_succ]
    refine wpAnyH_take (i := 10) (v := .int .i64 0) rfl (by kernel_rfl) (by kernel_rfl) (by kernel_rfl) (fun _ _ _ h => h) (Or.inl ⟨by kernel_rfl, ?_⟩) (by assumption) ?_
    · intro w hSw
      try dsimp only at hSw
      skip
      go_simp
    try simp only [Act.put, List.setIfInBounds_toArray, List.set_cons_zero, List.set_cons_succ, List.getElem_toArray, List.getElem_cons_zero, List.getElem_cons_succ]
    refine wpAnyH_done (by kernel_rfl) ?_ _
    go_wp2
    refine bodyPost_ret (v := .tuple #[.agg #[.int .i64 (lowN (mvQ l wd ht j * n) 1000000), .int .i64 (lowD (mvQ l wd ht j * n) 1000000)], .int .i64 0]) (by simp [results, Try.results35, go_sem, x0, x1]) rfl ⟨frc (by simp [morN, hc]) (by simp [morD, hc]) rfl, hHeld.2.1⟩
end Go.Proofs.Ytdhikdaegmekbab
