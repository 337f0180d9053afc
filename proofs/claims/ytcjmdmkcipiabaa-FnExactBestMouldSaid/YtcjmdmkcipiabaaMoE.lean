/-
  SameMoulds: the model's and the program's answer.
-/
import Derived.Test.YtcjmdmkcipiabaaMo
import Derived.Test.YtcjmdmkcipiabaaRow
import Derived.Deep.RegionWith
import Derived.Deep.QuietTactic
import Derived.BigQuiet
import Derived.Laws.StructEq
namespace Go.Proofs.Ytcjmdmkcipiabaa
open Go.ChangeShapes Go.WideShapes Go.ChangeAt Go.RowKit Go.Joins


/-- Two of them are the same. -/
def Mo.same (c d : Mo) : Bool := c.le == d.le && (c.wi == d.wi && (c.he == d.he && (c.us == d.us)))
/-- The first k of both lists are the same. -/
def sameMoTo (L M : List Mo) : Nat → Bool
  | 0 => true
  | k + 1 => sameMoTo L M k && (match L[k]?, M[k]? with | some c, some d => c.same d | _, _ => true)
def sameMoB (L M : List Mo) : Bool := decide (L.length = M.length) && sameMoTo L M L.length
theorem sameMoTo_step {L M : List Mo} {k : Nat} {c d : Mo} (hc : L[k]? = some c) (hd : M[k]? = some d) : sameMoTo L M (k + 1) = (sameMoTo L M k && c.same d) := by simp [sameMoTo, hc, hd]
theorem sameMoTo_false {L M : List Mo} {j k : Nat} (hjk : j ≤ k) (h : sameMoTo L M j = false) : sameMoTo L M k = false := by
  induction k with
  | zero => have : j = 0 := by omega
            subst this; exact h
  | succ k ih =>
    by_cases e : j = k + 1
    · subst e; exact h
    · simp only [sameMoTo]
      rw [ih (by omega)]
      rfl
end Go.Proofs.Ytcjmdmkcipiabaa
