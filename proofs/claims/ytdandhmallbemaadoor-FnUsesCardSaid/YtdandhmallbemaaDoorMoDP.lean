/-
  How far fired sizes are from those of a format: plain facts.
-/
import Derived.Test.YtdandhmallbemaaDoorMoP
import Derived.Test.YtdandhmallbemaaDoorBase
namespace Go.Proofs.YtdandhmallbemaaDoor
open Go.ChangeShapes Go.WideShapes Go.ChangeAt Go.RowKit Go.Joins

def absD (a b : Int) : Int := ((a - b).natAbs : Int)
theorem absD_range {a b : Int} (ha : 0 ≤ a ∧ a ≤ 1000) (hb : 0 ≤ b ∧ b ≤ 1000) : 0 ≤ absD a b ∧ absD a b ≤ 1000 := by unfold absD; omega
/-- The differences of a mould's sizes. -/
def diffL (c : Mo) (s l wd ht : Int) : List Int := [absD (firedF c.le s) l, absD (firedF c.wi s) wd, absD (firedF c.he s) ht]
theorem diffL_at {c : Mo} {s l wd ht x y : Int} {k : Nat} (hx : (firedL c s)[k]? = some x) (hy : [l, wd, ht][k]? = some y) : (diffL c s l wd ht)[k]? = some (absD x y) := by
  match k, hx, hy with
  | 0, hx, hy => simp [firedL] at hx; simp at hy; subst hx; subst hy; rfl
  | 1, hx, hy => simp [firedL] at hx; simp at hy; subst hx; subst hy; rfl
  | 2, hx, hy => simp [firedL] at hx; simp at hy; subst hx; subst hy; rfl
  | k + 3, hx, hy => simp at hy
theorem firedL_range {c : Mo} (h : c.ok = true) {s : Int} (s0 : 0 ≤ s) (s1 : s ≤ 200) {k : Nat} {x : Int} (hx : (firedL c s)[k]? = some x) : 0 ≤ x ∧ x ≤ 1000 := by
  obtain ⟨h0, h1, h2, _⟩ := Mo.ok_facts h
  have key : ∀ z : Int, 30 ≤ z ∧ z ≤ 800 → 0 ≤ firedF z s ∧ firedF z s ≤ 1000 := fun z hz => by
    have := fired_bounds (x := z) (s := s) (by omega) (by omega) s0 s1
    omega
  match k, hx with
  | 0, hx => simp [firedL] at hx; subst hx; exact key _ h0
  | 1, hx => simp [firedL] at hx; subst hx; exact key _ h1
  | 2, hx => simp [firedL] at hx; subst hx; exact key _ h2
  | k + 3, hx => simp [firedL] at hx
theorem okB_size {l wd ht j : Int} (h : okB l wd ht j = true) {k : Nat} {y : Int} (hy : [l, wd, ht][k]? = some y) : 0 ≤ y ∧ y ≤ 1000 := by
  obtain ⟨⟨l1, l2⟩, ⟨w1', w2'⟩, ⟨t1, t2⟩, _, _⟩ := okB_true.1 h
  match k, hy with
  | 0, hy => simp at hy; omega
  | 1, hy => simp at hy; omega
  | 2, hy => simp at hy; omega
  | k + 3, hy => simp at hy
theorem take_next {P : List Int} {k : Nat} {z : Int} (h : P[k]? = some z) : P.take k ++ [z] = P.take (k + 1) := by
  rw [List.take_add_one, h]; rfl
/-- The sum of the differences. -/
def offF (c : Mo) (s l wd ht : Int) : Int := absD (firedF c.le s) l + absD (firedF c.wi s) wd + absD (firedF c.he s) ht
end Go.Proofs.YtdandhmallbemaaDoor
