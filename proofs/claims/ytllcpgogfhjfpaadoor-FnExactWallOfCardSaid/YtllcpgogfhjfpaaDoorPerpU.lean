/-
  PerpendsOf, LapBetween, LapOfBond and HeadersIn: the model's answers.
-/
import Derived.Test.YtllcpgogfhjfpaaDoorPerpT
namespace Go.Proofs.YtllcpgogfhjfpaaDoor
open Go.ChangeShapes Go.WideShapes Go.ChangeAt Go.RowKit Go.Joins


theorem near_perps {L : List Co} {k u : Nat} (h : (crs L k).ok = true) (hu : 1 ≤ u) (hu2 : u ≤ 201) : Near (perpsV L k u) := fun i z hz => by
  have := perpsV_range h hu hz
  omega
def tup2 (v : Value) (c : Int) : Ending := .returned (.tuple #[v, .int .i64 c])
/-- What PerpendsOf hands back. -/
def PerpAns (w : World) (nm : ByteArray) (L : List Co) (course til : Int) (e : Ending) (w' : World) : Prop :=
  ∃ a cap, e = .returned (.tuple #[.slice a (perpV nm L course til).length cap, .int .i64 (bCode nm L course til)]) ∧ IntRes w.heap.size (perpV nm L course til) a w' ∧ Below w.heap.size w w'
end Go.Proofs.YtllcpgogfhjfpaaDoor
