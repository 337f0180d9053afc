/-
  Rings and flat arches, plainly: what is valid, how many bricks, the answers of chapter 12. Nothing of the dump but fractions in lowest terms.
-/
import Derived.Test.YtdhikdaegmekbabFrac
namespace Go.Proofs.Ytdhikdaegmekbab
open Go.ChangeShapes Go.WideShapes Go.ChangeAt Go.RowKit Go.Joins

/-- the greatest odd number that is not greater; 0 if there is none -/
def oddQ (c : Int) : Int := if c < 1 then 0 else c - 1 + c % 2
theorem oddQ_none {c : Int} (h : c < 1) : oddQ c = 0 := by simp [oddQ, h]
theorem oddQ_some {c : Int} (h : ¬ c < 1) : oddQ c = c - 1 + c % 2 := by simp [oddQ, h]
theorem oddQ_at {c n : Int} (h1 : 1 ≤ n) (h2 : n ≤ c) (h3 : c < n + 2) (h4 : n % 2 = 1) : oddQ c = n := by
  rw [oddQ_some (by omega)]; omega
theorem oddQ_odd {c : Int} (h : 1 ≤ c) : oddQ c % 2 = 1 ∧ 1 ≤ oddQ c ∧ oddQ c ≤ c ∧ c ≤ oddQ c + 1 := by
  rw [oddQ_some (by omega)]; omega
theorem fits_div (T e n : Int) (he : 0 < e) : n * e ≤ T ↔ n ≤ T / e := (Int.le_ediv_iff_mul_le he).symm

/-- A ring is valid. -/
def okR (R D B J : Int) : Bool := inB R 50 5000 && (inB D 50 1000 && (inB B 30 250 && inB J 1 20))
theorem okR_true {R D B J : Int} : okR R D B J = true ↔ ((50 ≤ R ∧ R ≤ 5000) ∧ (50 ≤ D ∧ D ≤ 1000) ∧ (30 ≤ B ∧ B ≤ 250) ∧ (1 ≤ J ∧ J ≤ 20)) := by simp [okR, inB_true]
/-- As many bricks as have place, before they are made odd. -/
def cR (R B J : Int) : Int := 355 * R / (113 * (B + J))
def rN (R D B J : Int) : Int := if okR R D B J = true then oddQ (cR R B J) else 0
def rC (R D B J : Int) : Int := if okR R D B J = true then (if cR R B J < 1 then 3 else 0) else 1
theorem cR_range {R D B J : Int} (h : okR R D B J = true) : 0 ≤ cR R B J ∧ cR R B J ≤ 506 := by
  obtain ⟨⟨a, b⟩, -, ⟨c, d⟩, e, f⟩ := okR_true.1 h
  unfold cR
  refine ⟨Int.ediv_nonneg (by omega) (by omega), ?_⟩
  have h2 := (fits_div (355 * R) (113 * (B + J)) (355 * R / (113 * (B + J))) (by omega)).2 (Int.le_refl _)
  obtain ⟨q, hq⟩ : ∃ q, 355 * R / (113 * (B + J)) = q := ⟨_, rfl⟩
  rw [hq] at h2 ⊢
  by_cases h0 : q ≤ 506
  · exact h0
  · have h3 : 507 * (113 * 31) ≤ q * (113 * (B + J)) := Int.mul_le_mul (by omega) (by omega) (by omega) (by omega)
    omega
theorem ring_cases (R D B J : Int) : (okR R D B J = false ∧ rC R D B J = 1 ∧ rN R D B J = 0) ∨ (okR R D B J = true ∧ cR R B J < 1 ∧ rC R D B J = 3 ∧ rN R D B J = 0) ∨ (okR R D B J = true ∧ 1 ≤ cR R B J ∧ rC R D B J = 0 ∧ rN R D B J = oddQ (cR R B J) ∧ 1 ≤ rN R D B J ∧ rN R D B J ≤ 506 ∧ rN R D B J % 2 = 1) := by
  cases h : okR R D B J
  · exact .inl ⟨rfl, by simp [rC, h], by simp [rN, h]⟩
  · by_cases h1 : cR R B J < 1
    · exact .inr (.inl ⟨rfl, h1, by simp [rC, h, h1], by simp [rN, h, oddQ_none h1]⟩)
    · obtain ⟨-, r1⟩ := cR_range h
      obtain ⟨q0, q1, q2, q3⟩ := oddQ_odd (c := cR R B J) (by omega)
      have e : rN R D B J = oddQ (cR R B J) := by simp [rN, h]
      exact .inr (.inr ⟨rfl, by omega, by simp [rC, h, h1], e, by omega, by omega, by omega⟩)
/-- Whether n bricks have place. -/
theorem place_div {R D B J : Int} (h : okR R D B J = true) (n : Int) : (n * (B + J)) * 113 ≤ 355 * R ↔ n ≤ cR R B J := by
  obtain ⟨-, -, ⟨c, d⟩, e, f⟩ := okR_true.1 h
  rw [cR, ← fits_div (355 * R) (113 * (B + J)) n (by omega), show n * (113 * (B + J)) = n * (B + J) * 113 by rw [Int.mul_left_comm, Int.mul_comm]]
/-- Joints of a half circle: what the bricks leave. -/
def jN (X B n : Int) : Int := lowN (355 * X - 113 * n * B) (113 * n)
def jD (X B n : Int) : Int := lowD (355 * X - 113 * n * B) (113 * n)
end Go.Proofs.Ytdhikdaegmekbab
