/-
  The model's splitting of a text at a byte: the walk.
-/
import Derived.Test.YtpholgfkaolfjaaDoorBase
import Derived.Test.YtpholgfkaolfjaaDoorSplitP
import Derived.Laws.AppendOwn
import Derived.Laws.OwnMore
import Derived.OwnWalk
import Derived.Deep.DeepMust
import Derived.Lib.OthersKept
import Derived.Laws.Closers25b
namespace Go.Proofs.YtpholgfkaolfjaaDoor
open Go.ChangeShapes Go.WideShapes Go.ChangeAt Go.RowKit Go.Joins


theorem infoStr : (Tryd.prog.info? 9).map (fun i => (i.zero, i.size, i.bytes)) = some (some (.string ⟨#[]⟩), 1, 16) := by kernel_rfl
theorem litS_row (base : Nat) (wr : World) (c : Value) (hb : base ≤ wr.heap.size) : (wr.alloc (.cells #[c] 9)).ownsRow base 9 1 (.slice (some ⟨wr.heap.size, 0, none⟩) 1 1) 1 [c] :=
  ⟨rfl, .inr ⟨wr.heap.size, 1, #[c], rfl, hb, heap_alloc_new wr _, Nat.le_refl _, by decide, rfl, rfl⟩⟩
/-- What a row of parts holds. -/
def partVals (ps : List ByteArray) : List Value := ps.map Value.string
theorem partVals_one (ps : List ByteArray) : ∀ u ∈ partVals ps, u.oneCell' = true := by
  intro u hu
  obtain ⟨c, _, rfl⟩ := List.mem_map.1 hu
  rfl
/-- An own row of parts. -/
def PartsAt (w : World) (ps : List ByteArray) (g cap : Nat) (wr : World) : Prop :=
  wr.ownsRow w.heap.size 9 1 (.slice (some ⟨g, 0, none⟩) ps.length cap) ps.length (partVals ps) ∧ Below w.heap.size w wr ∧ w.heap.size + 1 ≤ wr.heap.size
theorem own_base {w : World} {B : Nat} {e : TypeId} {size n m cap g : Nat} {xs : List Value} (h : w.ownsRow B e size (.slice (some ⟨g, 0, none⟩) m cap) n xs) : B ≤ g := by
  obtain ⟨_, h | ⟨b, c, cs, hv, hb, _⟩⟩ := h
  · simp at h
  · simp at hv
    omega
theorem parts_start (w : World) : PartsAt w [] w.heap.size 0 (w.alloc (.cells #[] 9)) :=
  ⟨⟨rfl, .inr ⟨w.heap.size, 0, #[], rfl, Nat.le_refl _, heap_alloc_new w _, Nat.le_refl _, Nat.zero_le _, rfl, rfl⟩⟩, balloc0 _ _, by simp⟩
theorem parts_step {w wr w1 : World} {ps : List ByteArray} {g cap : Nat} {x : ByteArray} {v1 : Value} (h : PartsAt w ps g cap wr)
    (hown : w1.ownsRow w.heap.size 9 1 v1 (ps.length + 1) (partVals ps ++ [Value.string x])) (hg : (wr.alloc (.cells #[.string x] 9)).grownBy w1 (some g)) :
    ∃ g' cap', v1 = .slice (some ⟨g', 0, none⟩) (ps ++ [x]).length cap' ∧ PartsAt w (ps ++ [x]) g' cap' w1 := by
  obtain ⟨h1, h2, h3⟩ := h
  have hgb := own_base h1
  have hown' : w1.ownsRow w.heap.size 9 1 v1 (ps ++ [x]).length (partVals (ps ++ [x])) := by
    have e : partVals (ps ++ [x]) = partVals ps ++ [Value.string x] := by simp [partVals]
    rw [e, List.length_append]; exact hown
  obtain ⟨g', cap', rfl⟩ := ownsRow_form hown' (by simp)
  have hB : Below w.heap.size w (wr.alloc (.cells #[.string x] 9)) := balloc h2 _
  have hB1 : Below w.heap.size w w1 := hB.grown hg (by simp; omega) (fun k hk => by cases hk; exact hgb)
  refine ⟨g', cap', rfl, hown', hB1, ?_⟩
  have := hB1.size
  have h4 := hg.size
  simp at h4
  omega
theorem byt_at (s : ByteArray) (k : Nat) (h : k < s.size) : byt s k = (s[k]'h).toNat := by
  unfold byt
  simp [ByteArray.get!, getElem!_pos, h]; rfl

/-- The parts before the place. -/
def cutParts (s : ByteArray) (l : List (Nat × Nat)) : List ByteArray := l.map fun x => s.extract x.1 x.2
end Go.Proofs.YtpholgfkaolfjaaDoor
