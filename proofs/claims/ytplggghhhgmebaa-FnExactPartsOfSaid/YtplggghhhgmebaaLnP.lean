/-
  Lintels, plainly. Nothing of the dump.
-/
import Derived.Test.YtplggghhhgmebaaFv
namespace Go.Proofs.Ytplggghhhgmebaa
open Go.ChangeShapes Go.WideShapes Go.ChangeAt Go.RowKit Go.Joins

/-- A lintel does not lie within the wall. -/
def Og.badLn (F C z : Int) (c : Og) : Bool := decide (c.fr - z < 0) || (decide (F < c.tt + z) || decide (c.hi = C))
noncomputable def lnK (F C : Int) (L : List Og) (k z : Int) : Int := if okFr F C L = true then (if inB k 0 ((L.length : Int) - 1) = true then (if inB z 0 20 = true then (if (L.getD k.toNat default).badLn F C z = true then 6 else 0) else 2) else 2) else 1
noncomputable def lnF (F C : Int) (L : List Og) (k z : Int) : Int := if lnK F C L k z = 0 then (L.getD k.toNat default).fr - z else 0
noncomputable def lnT (F C : Int) (L : List Og) (k z : Int) : Int := if lnK F C L k z = 0 then (L.getD k.toNat default).tt + z else 0
theorem ln_inv {F C : Int} {L : List Og} {k z : Int} (h : okFr F C L = false) : lnK F C L k z = 1 ∧ lnF F C L k z = 0 ∧ lnT F C L k z = 0 := by simp [lnK, lnF, lnT, h]
theorem ln_rng {F C : Int} {L : List Og} {k z : Int} (h : okFr F C L = true) (h2 : inB k 0 ((L.length : Int) - 1) = false ∨ inB z 0 20 = false) : lnK F C L k z = 2 ∧ lnF F C L k z = 0 ∧ lnT F C L k z = 0 := by
  have hk : lnK F C L k z = 2 := by
    rcases h2 with h2 | h2
    · simp [lnK, h, h2]
    · cases h3 : inB k 0 ((L.length : Int) - 1) <;> simp [lnK, h, h2, h3]
  simp [lnF, lnT, hk]
theorem ln_state {F C : Int} {L : List Og} {k : Nat} {z : Int} {c : Og} (h : okFr F C L = true) (h2 : inB (k : Int) 0 ((L.length : Int) - 1) = true) (h3 : inB z 0 20 = true) (hc : L[k]? = some c) (hb : c.badLn F C z = true) : lnK F C L k z = 6 ∧ lnF F C L k z = 0 ∧ lnT F C L k z = 0 := by
  have hk : lnK F C L k z = 6 := by simp only [lnK, h, h2, h3, if_true, Int.toNat_natCast, List.getD_eq_getElem?_getD, hc, Option.getD_some, hb]
  simp [lnF, lnT, hk]
theorem ln_ok {F C : Int} {L : List Og} {k : Nat} {z : Int} {c : Og} (h : okFr F C L = true) (h2 : inB (k : Int) 0 ((L.length : Int) - 1) = true) (h3 : inB z 0 20 = true) (hc : L[k]? = some c) (hb : c.badLn F C z = false) : lnK F C L k z = 0 ∧ lnF F C L k z = c.fr - z ∧ lnT F C L k z = c.tt + z := by
  have hk : lnK F C L k z = 0 := by simp [lnK, h, h2, h3, hc, hb]
  simp [lnF, lnT, hk, hc]
end Go.Proofs.Ytplggghhhgmebaa
