/-
  The pieces and perpends of a course by the program.
-/
import Derived.Test.YtllcpgogfhjfpaaDoorPerpI
import Derived.Test.YtllcpgogfhjfpaaDoorBuildS
import Derived.Test.YtllcpgogfhjfpaaDoorPerpT
namespace Go.Proofs.YtllcpgogfhjfpaaDoor
open Go.ChangeShapes Go.WideShapes Go.ChangeAt Go.RowKit Go.Joins


theorem byteCells_snoc (c : Co) (i : Nat) : Lib.byteCells (pieceL c (i + 1)) = Lib.byteCells (pieceL c i) ++ [.int .u8 ((letterAt c i).toNat : Int)] := by
  rw [pieceL_succ]; simp [Lib.byteCells]
theorem intVals_snoc (c : Co) (i : Nat) : intVals (perpL c (i + 1)) = intVals (perpL c i) ++ [.int .i64 ((ends c (i + 1) : Nat) : Int)] := by
  rw [perpL_succ]; simp [intVals]
theorem row_res {w wr : World} {P : List Int} {v : Value} (h : wr.ownsRow w.heap.size 2 1 v P.length (intVals P)) : ∃ a cap, v = .slice a P.length cap ∧ IntRes w.heap.size P a wr := by
  rcases h.2 with ⟨hv, h0⟩ | ⟨g, cap, cur, hv, hB, hg, _⟩
  · have hP : P = [] := List.eq_nil_of_length_eq_zero h0
    subst hP
    exact ⟨_, _, hv, .inl rfl⟩
  · refine ⟨_, _, hv, .inr ⟨g, rfl, hB, fun k z hk => ?_, fun j hj => ?_, (Array.getElem?_eq_some_iff.1 hg).1⟩⟩
    · have hl := (List.getElem?_eq_some_iff.1 hk).1
      subst hv
      rw [Nat.zero_add, World.ownsRow.cellAt h k (by omega)]
      simp [intVals, hk]
    · subst hv
      rw [Nat.zero_add]
      refine ⟨?_, World.ownsRow.frozenAt h j⟩
      rw [World.ownsRow.cellAt h j (by omega), List.getElem?_eq_getElem (by simpa [intVals] using hj)]
      rfl
/-- Pieces and their ends are handed back. -/
def PiecesOut (w : World) (c : Co) (u : Nat) (e : Ending) (w' : World) : Prop :=
  ∃ m a cap, PerpIs c (u + 1) m ∧ e = .returned (.tuple #[.string ⟨(pieceL c m).toArray⟩, .slice a m cap]) ∧ IntRes w.heap.size (perpL c m) a w' ∧ Below w.heap.size w w'
end Go.Proofs.YtllcpgogfhjfpaaDoor
