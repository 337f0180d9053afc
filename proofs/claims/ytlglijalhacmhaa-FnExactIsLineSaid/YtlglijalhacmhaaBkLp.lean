/-
  Lines of thrust, plainly: what is asked of them. Nothing of the dump.
-/
import Derived.Test.YtlglijalhacmhaaBkP
namespace Go.Proofs.Ytlglijalhacmhaa
open Go.ChangeShapes Go.WideShapes Go.ChangeAt Go.RowKit Go.Joins

theorem ret_bi {a a' : Bool} {c c' : Int} (h1 : a = a') (h2 : c = c') : Ending.returned (.tuple #[.bool a, .int .i64 c]) = .returned (.tuple #[.bool a', .int .i64 c']) := by rw [h1, h2]
theorem ln_no1 {X : Bk} {P : List Int} {d : Int} (h : okBk X = false) : lnV X P d = false ∧ lnC X P d = 1 := by simp [lnV, lnC, h]
theorem ln_no2 {X : Bk} {P : List Int} {d : Int} (h : okBk X = true) (h2 : ¬ (P.length = X.L.length ∧ allB P (-100000000000) 100000000000 = true ∧ inB d 1 100000000 = true)) : lnV X P d = false ∧ lnC X P d = 2 := by
  have e : lnC X P d = 2 := by unfold lnC; rw [if_pos h, if_neg h2]
  exact ⟨by unfold lnV; rw [e]; rfl, e⟩
theorem ln_yes {X : Bk} {P : List Int} {d : Int} (h : okBk X = true) (h2 : P.length = X.L.length ∧ allB P (-100000000000) 100000000000 = true ∧ inB d 1 100000000 = true) : lnV X P d = isLn X P d ∧ lnC X P d = 0 := by
  have e : lnC X P d = 0 := by unfold lnC; rw [if_pos h, if_pos h2]
  exact ⟨by unfold lnV; rw [e]; simp, e⟩
theorem isLn_true {X : Bk} {P : List Int} {d : Int} : isLn X P d = true ↔ (∀ k, k < P.length → witB X P d k = true) ∧ bnd P 0 < 0 ∧ ∀ k, k < X.A.length - 1 → curB X P k = true := by
  simp only [isLn, Bool.and_eq_true, List.all_eq_true, List.mem_range, decide_eq_true_eq]
theorem isLn_all {X : Bk} {P : List Int} {d : Int} {k : Nat} (hk : k < P.length) (h : witB X P d k = false) : (List.range P.length).all (witB X P d) = false := by
  rw [List.all_eq_false]
  exact ⟨k, List.mem_range.2 hk, by rw [h]; simp⟩
theorem isLn_wit {X : Bk} {P : List Int} {d : Int} {k : Nat} (hk : k < P.length) (h : witB X P d k = false) : isLn X P d = false := by
  cases e : isLn X P d
  · rfl
  · have := (isLn_true.1 e).1 k hk; rw [h] at this; cases this
theorem isLn_bend {X : Bk} {P : List Int} {d : Int} (h : ¬ bnd P 0 < 0) : isLn X P d = false := by
  cases e : isLn X P d
  · rfl
  · exact absurd (isLn_true.1 e).2.1 h
theorem isLn_cur {X : Bk} {P : List Int} {d : Int} {k : Nat} (hk : k < X.A.length - 1) (h : curB X P k = false) : isLn X P d = false := by
  cases e : isLn X P d
  · rfl
  · have := (isLn_true.1 e).2.2 k hk; rw [h] at this; cases this
/-- Bounds of products with a denominator. -/
theorem mul_den {z d : Int} (h0 : -1000 ≤ z) (h1 : z ≤ 1000) (d0 : 1 ≤ d) (d1 : d ≤ 100000000) : -100000000000 ≤ z * d ∧ z * d ≤ 100000000000 := by
  have p1 : z * d ≤ 1000 * d := Int.mul_le_mul_of_nonneg_right h1 (by omega)
  have p2 : -1000 * d ≤ z * d := Int.mul_le_mul_of_nonneg_right h0 (by omega)
  omega
theorem mul_bend {x y : Int} (h0 : -400000000000 ≤ x) (h1 : x ≤ 400000000000) (d0 : 0 ≤ y) (d1 : y ≤ 2000) : -800000000000000 ≤ x * y ∧ x * y ≤ 800000000000000 := by
  have p1 : x * y ≤ 400000000000 * y := Int.mul_le_mul_of_nonneg_right h1 d0
  have p2 : -400000000000 * y ≤ x * y := Int.mul_le_mul_of_nonneg_right h0 d0
  omega
theorem bnd_range {P : List Int} (h : allB P (-100000000000) 100000000000 = true) {k : Nat} (hk : k + 2 < P.length) : -400000000000 ≤ bnd P k ∧ bnd P k ≤ 400000000000 := by
  have h1 := allB_getD h (k := k) (by omega)
  have h2 := allB_getD h (k := k + 1) (by omega)
  have h3 := allB_getD h hk
  unfold bnd
  omega
/-- What bends as the moments bends downwards everywhere if it does so at the first joint. -/
theorem cur_neg {X : Bk} {P : List Int} (ok : okBk X = true) (h0 : bnd P 0 < 0) {k : Nat} (hk : k < X.A.length - 1) (h : curB X P k = true) : bnd P k < 0 := by
  have h2 := (okBk_true.1 ok).1
  have a0 := okBk_load1 ok (k := 0) (by omega)
  have a1 := okBk_load1 ok (k := 1) (by omega)
  have a2 := okBk_load1 ok (k := k) (by omega)
  have a3 := okBk_load1 ok (k := k + 1) (by omega)
  have e : bnd P k * (X.A.getD 0 0 + X.A.getD 1 0) = bnd P 0 * (X.A.getD k 0 + X.A.getD (k + 1) 0) := by simpa [curB] using h
  have p : bnd P 0 * (X.A.getD k 0 + X.A.getD (k + 1) 0) < 0 := Int.mul_neg_of_neg_of_pos h0 (by omega)
  rw [← e] at p
  by_cases hb : bnd P k < 0
  · exact hb
  · have : 0 ≤ bnd P k * (X.A.getD 0 0 + X.A.getD 1 0) := Int.mul_nonneg (by omega) (by omega)
    omega
end Go.Proofs.Ytlglijalhacmhaa
