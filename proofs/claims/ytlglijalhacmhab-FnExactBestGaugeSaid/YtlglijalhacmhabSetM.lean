/-
  A store keeps what is there.
-/
import Derived.Test.YtlglijalhacmhabIn
import Derived.Test.YtlglijalhacmhabRow
import Derived.Deep.MidRow
namespace Go.Proofs.Ytlglijalhacmhab
open Go.ChangeShapes Go.WideShapes Go.ChangeAt Go.RowKit Go.Joins

theorem there_setM {w : World} {g o n : Nat} (T : w.there g o n) (k : Nat) (v : Value) : (w.setCell ⟨g, k, none⟩ v).there g o n := by
  have e : w.setCell ⟨g, k, none⟩ v = w.setCells g k [v] := by rw [World.setCells, World.setCells]
  rw [e]
  exact World.there_setCells T g k [v]
end Go.Proofs.Ytlglijalhacmhab
