/-
  The first two lintels that meet, plainly. Nothing of the dump.
-/
import Derived.Test.YtplggghhhgmebaaFv
namespace Go.Proofs.Ytplggghhhgmebaa
open Go.ChangeShapes Go.WideShapes Go.ChangeAt Go.RowKit Go.Joins

def Og.lcl (z : Int) (c d : Og) : Bool := (c.hi == d.hi) && (decide (c.fr - z < d.tt + z) && decide (d.fr - z < c.tt + z))
/-- The pair i, k is the first one that clashes. -/
def FirstP (L : List Og) (z : Int) (p : Nat × Nat) : Prop := (∃ c d, p.1 < p.2 ∧ L[p.1]? = some c ∧ L[p.2]? = some d ∧ c.lcl z d = true) ∧ ∀ (i k : Nat) (c d : Og), i < k → L[i]? = some c → L[k]? = some d → (i < p.1 ∨ i = p.1 ∧ k < p.2) → c.lcl z d = false
theorem FirstP.one {L : List Og} {z : Int} {p q : Nat × Nat} (h : FirstP L z p) (k : FirstP L z q) : p = q := by
  obtain ⟨⟨c, d, h1, h2, h3, h4⟩, h5⟩ := h
  obtain ⟨⟨e, f, k1, k2, k3, k4⟩, k5⟩ := k
  have a : ¬ (p.1 < q.1 ∨ p.1 = q.1 ∧ p.2 < q.2) := fun hh => by rw [k5 _ _ _ _ h1 h2 h3 hh] at h4; cases h4
  have b : ¬ (q.1 < p.1 ∨ q.1 = p.1 ∧ q.2 < p.2) := fun hh => by rw [h5 _ _ _ _ k1 k2 k3 hh] at k4; cases k4
  obtain ⟨p1, p2⟩ := p
  obtain ⟨q1, q2⟩ := q
  simp only at a b
  have : p1 = q1 := by omega
  have : p2 = q2 := by omega
  simp [*]
open Classical in
noncomputable def lcR (L : List Og) (z : Int) : Option (Nat × Nat) := if h : ∃ p, FirstP L z p then some h.choose else none
theorem lcR_some {L : List Og} {z : Int} {p : Nat × Nat} (h : FirstP L z p) : lcR L z = some p := by
  unfold lcR
  have hx : ∃ p, FirstP L z p := ⟨p, h⟩
  rw [dif_pos hx, hx.choose_spec.one h]
theorem lcR_none {L : List Og} {z : Int} (h : ∀ (i k : Nat) (c d : Og), i < k → L[i]? = some c → L[k]? = some d → c.lcl z d = false) : lcR L z = none := by
  unfold lcR
  rw [dif_neg]
  rintro ⟨p, ⟨c, d, h1, h2, h3, h4⟩, _⟩
  rw [h _ _ _ _ h1 h2 h3] at h4
  cases h4
noncomputable def lcK (F C : Int) (L : List Og) (z : Int) : Int := if okFr F C L = true then (if inB z 0 20 = true then (match lcR L z with | some _ => 0 | none => 3) else 2) else 1
noncomputable def lcA (F C : Int) (L : List Og) (z : Int) : Int := if okFr F C L = true ∧ inB z 0 20 = true then (match lcR L z with | some p => (p.1 : Int) | none => 0) else 0
noncomputable def lcB (F C : Int) (L : List Og) (z : Int) : Int := if okFr F C L = true ∧ inB z 0 20 = true then (match lcR L z with | some p => (p.2 : Int) | none => 0) else 0
theorem lc_inv {F C : Int} {L : List Og} {z : Int} (h : okFr F C L = false) : lcA F C L z = 0 ∧ lcB F C L z = 0 ∧ lcK F C L z = 1 := by simp [lcA, lcB, lcK, h]
theorem lc_rng {F C : Int} {L : List Og} {z : Int} (h : okFr F C L = true) (h2 : inB z 0 20 = false) : lcA F C L z = 0 ∧ lcB F C L z = 0 ∧ lcK F C L z = 2 := by simp [lcA, lcB, lcK, h, h2]
theorem lc_some {F C : Int} {L : List Og} {z : Int} {i k : Nat} (h : okFr F C L = true) (h2 : inB z 0 20 = true) (hp : FirstP L z (i, k)) : lcA F C L z = i ∧ lcB F C L z = k ∧ lcK F C L z = 0 := by simp [lcA, lcB, lcK, h, h2, lcR_some hp]
theorem lc_none {F C : Int} {L : List Og} {z : Int} (h : okFr F C L = true) (h2 : inB z 0 20 = true) (hp : lcR L z = none) : lcA F C L z = 0 ∧ lcB F C L z = 0 ∧ lcK F C L z = 3 := by simp [lcA, lcB, lcK, h, h2, hp]
end Go.Proofs.Ytplggghhhgmebaa
