/-
  Rods are compared as the model compares numbers of courses. Plain.
-/
import Derived.Test.YtlglijalhacmhabGx
import Derived.Test.YtlglijalhacmhabGf
namespace Go.Proofs.Ytlglijalhacmhab
open Go.ChangeShapes Go.WideShapes Go.ChangeAt Go.RowKit Go.Joins

theorem va_key (ht j H c : Int) (c0 : 1 ≤ c) : ∃ g : Int, 0 < g ∧ gszQ (H - c * (ht + j)) = g * vaN ht j H c ∧ c = g * vaD ht H c := by
  obtain ⟨g, g0, -, e1, e2, -⟩ := low_back (H - c * ht) c (by omega)
  refine ⟨g, g0, ?_, e2⟩
  have e3 : H - c * (ht + j) = g * (lowN (H - c * ht) c - j * lowD (H - c * ht) c) := by
    rw [Int.mul_sub, ← e1, Int.mul_left_comm, ← e2, Int.mul_add, Int.mul_comm j c]
    omega
  obtain ⟨z, hz⟩ : ∃ z, lowN (H - c * ht) c - j * lowD (H - c * ht) c = z := ⟨_, rfl⟩
  have hv : vaN ht j H c = (z.natAbs : Int) := by unfold vaN; rw [hz]
  rw [e3, hz, hv]
  have h1 : gszQ (g * z) = ((g * z).natAbs : Int) := by unfold gszQ; split <;> omega
  rw [h1, Int.natAbs_mul]
  push_cast
  rw [Int.natAbs_of_nonneg (Int.le_of_lt g0)]
/-- The program's 'less' of two rods is the model's 'nearer'. -/
theorem va_less (ht j H c b : Int) (c0 : 1 ≤ c) (b0 : 1 ≤ b) : cmpI (vaN ht j H c * vaD ht H b) (vaN ht j H b * vaD ht H c) < 0 ↔ gszQ (H - c * (ht + j)) * b < gszQ (H - b * (ht + j)) * c := by
  obtain ⟨g, g0, e1, e2⟩ := va_key ht j H c c0
  obtain ⟨h, h0, f1, f2⟩ := va_key ht j H b b0
  obtain ⟨N1, hN1⟩ : ∃ z, vaN ht j H c = z := ⟨_, rfl⟩
  obtain ⟨D1, hD1⟩ : ∃ z, vaD ht H c = z := ⟨_, rfl⟩
  obtain ⟨N2, hN2⟩ : ∃ z, vaN ht j H b = z := ⟨_, rfl⟩
  obtain ⟨D2, hD2⟩ : ∃ z, vaD ht H b = z := ⟨_, rfl⟩
  rw [hN1] at e1
  rw [hD1] at e2
  rw [hN2] at f1
  rw [hD2] at f2
  rw [hN1, hD1, hN2, hD2, e1, f1]
  have k1 : g * N1 * b = (g * h) * (N1 * D2) := by rw [f2]; grind
  have k2 : h * N2 * c = (g * h) * (N2 * D1) := by rw [e2]; grind
  rw [k1, k2]
  have gh : 0 < g * h := Int.mul_pos g0 h0
  have hc : cmpI (N1 * D2) (N2 * D1) < 0 ↔ N1 * D2 < N2 * D1 := by
    rcases Int.lt_trichotomy (N1 * D2) (N2 * D1) with x | x | x
    · rw [cmpI_lt x]; omega
    · rw [cmpI_eq x]; omega
    · rw [cmpI_gt x]; omega
  rw [hc]
  exact ⟨fun x => Int.mul_lt_mul_of_pos_left x gh, fun x => Int.lt_of_mul_lt_mul_left x (Int.le_of_lt gh)⟩
end Go.Proofs.Ytlglijalhacmhab
