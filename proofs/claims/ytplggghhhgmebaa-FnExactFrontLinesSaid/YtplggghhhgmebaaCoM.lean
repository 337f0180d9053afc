/-
  Marks that the laws write into rows of courses, and look for again.
-/
import Derived.Test.YtplggghhhgmebaaCoL
import Derived.Test.YtplggghhhgmebaaMark
namespace Go.Proofs.Ytplggghhhgmebaa
open Go.ChangeShapes Go.WideShapes Go.ChangeAt Go.RowKit Go.Joins


theorem there_set1c {w : World} {g o n : Nat} (T : w.there g o n) (k : Nat) (v : Value) : (w.setCell ⟨g, k, none⟩ v).there g o n := by
  have e : w.setCell ⟨g, k, none⟩ v = w.setCells g k [v] := by rw [World.setCells, World.setCells]
  rw [e]
  exact World.there_setCells T g k [v]
/-- The course of marks from K on. -/
def mco (K k : Nat) : Co := ⟨markB (K + 2 * k), markB (K + 2 * k + 1)⟩
def mcoL (K n : Nat) : List Co := (List.range n).map (mco K)
theorem mcoL_length (K n : Nat) : (mcoL K n).length = n := by simp [mcoL]
theorem mcoL_at {K n k : Nat} (h : k < n) : (mcoL K n)[k]? = some (mco K k) := by simp [mcoL, h]
end Go.Proofs.Ytplggghhhgmebaa
