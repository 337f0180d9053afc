/-
  A course that is laid: what it is, and the model's word.
-/
import Derived.Test.YtllcpgogfhjfpaaDoorPerpU
import Derived.Test.YtllcpgogfhjfpaaDoorWaS
import Derived.Test.YtllcpgogfhjfpaaDoorBy
namespace Go.Proofs.YtllcpgogfhjfpaaDoor
open Go.ChangeShapes Go.WideShapes Go.ChangeAt Go.RowKit Go.Joins


/-- What fills up a course. -/
def fillL (k : Nat) : List UInt8 := if k = 1 then [67] else if k = 2 then [66] else if k = 3 then [84] else []
/-- How many whole pieces a course has, and its pieces. -/
def layM (c : Co) (u : Nat) : Nat := perpM c (u + 1)
def layL (c : Co) (u : Nat) : List UInt8 := pieceL c (layM c u) ++ fillL (u - ends c (layM c u))
theorem lay_is {c : Co} (h : c.ok = true) (u : Nat) : PerpIs c (u + 1) (layM c u) := perp_some h (by omega)
theorem lay_eq {c : Co} (h : c.ok = true) {u m : Nat} (hm : PerpIs c (u + 1) m) : layM c u = m := perpM_eq h hm
theorem lay_left {c : Co} (h : c.ok = true) {u m : Nat} (hm : PerpIs c (u + 1) m) : ends c m ≤ u ∧ u - ends c m ≤ 3 := by
  obtain ⟨h1, h2⟩ := hm
  have := (ends_step h m).2
  omega
theorem fillL_length (k : Nat) : (fillL k).length ≤ 1 := by
  unfold fillL
  repeat' split
  all_goals simp
theorem layL_length {c : Co} (h : c.ok = true) (u : Nat) : (layL c u).length ≤ u + 2 := by
  have h1 := perp_le h (lay_is h u)
  have h2 := fillL_length (u - ends c (layM c u))
  unfold layL
  rw [List.length_append, pieceL_length]
  omega
theorem qsum_pieceL (c : Co) : ∀ m, qsum (pieceL c m) = ends c m
  | 0 => rfl
  | m + 1 => by rw [pieceL_succ, qsum_append, qsum_pieceL c m]; simp [qsum, ends]
end Go.Proofs.YtllcpgogfhjfpaaDoor
