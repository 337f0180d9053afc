/-
  The model's words of a text: the walk.
-/
import Derived.Test.YtikjielgnlgnjaaDoorSplitS
namespace Go.Proofs.YtikjielgnlgnjaaDoor
open Go.ChangeShapes Go.WideShapes Go.ChangeAt Go.RowKit Go.Joins

/-- A part that is not empty. -/
def nonE (x : ByteArray) : Bool := !x.toList.isEmpty
theorem nonE_size (x : ByteArray) : nonE x = decide (0 < x.size) := by
  unfold nonE
  rw [ByteArray.toList_eq]
  obtain ⟨⟨l⟩⟩ := x
  cases l <;> simp [ByteArray.size]
theorem cuts_range (s : ByteArray) (c : Nat) : ∀ (n pos b : Nat), b ≤ pos → ∀ x ∈ cutsC s c n pos b, x.1 ≤ x.2 ∧ x.2 ≤ pos + n
  | 0, pos, b, h, x, hx => by
    simp [cutsC] at hx
    subst hx
    exact ⟨h, by simp⟩
  | n + 1, pos, b, h, x, hx => by
    simp only [cutsC] at hx
    split at hx
    · rcases List.mem_cons.1 hx with rfl | hx
      · exact ⟨h, by simp⟩
      · have := cuts_range s c n (pos + 1) (pos + 1) (Nat.le_refl _) x hx
        omega
    · have := cuts_range s c n (pos + 1) b (by omega) x hx
      omega
theorem cuts_length (s : ByteArray) (c : Nat) : ∀ (n pos b : Nat), (cutsC s c n pos b).length ≤ n + 1
  | 0, pos, b => by simp [cutsC]
  | n + 1, pos, b => by
    simp only [cutsC]
    split
    · have := cuts_length s c n (pos + 1) (pos + 1)
      simp; omega
    · have := cuts_length s c n (pos + 1) b
      omega
theorem parts_words (s : ByteArray) : (cutParts s (cutsC s 32 s.size 0 0)).filter nonE = wordsOf s := by
  unfold cutParts wordsOf
  rw [List.filter_map]
  congr 1
  apply List.filter_congr
  intro x hx
  have h := cuts_range s 32 s.size 0 0 (Nat.le_refl _) x hx
  show nonE (s.extract x.1 x.2) = _
  rw [nonE_size, ByteArray.size_extract]
  congr 1
  exact propext ⟨fun h => by omega, fun h => by omega⟩
theorem parts_weaken {w wl wr : World} {L ps : List ByteArray} {gl capl g cap : Nat} (hl : PartsAt w L gl capl wl) (h : PartsAt wl ps g cap wr) : PartsAt w ps g cap wr := by
  obtain ⟨h1, h2, h3⟩ := h
  have hs := hl.2.1.size
  refine ⟨⟨h1.1, ?_⟩, bnext hl.2.1 h2, by omega⟩
  rcases h1.2 with h | ⟨a, c, cur, e1, e2, e3⟩
  · exact .inl h
  · exact .inr ⟨a, c, cur, e1, by omega, e3⟩
theorem parts_cell {w wl wr : World} {L : List ByteArray} {gl capl : Nat} (hl : PartsAt w L gl capl wl) (hb : Below wl.heap.size wl wr) (k : Nat) (x : ByteArray) (hx : L[k]? = some x) : wr.cell? ⟨gl, k, none⟩ = some (.string x) := by
  have h1 := hl.1.cells rfl k (.string x) (by simp [partVals, hx])
  have e : ((⟨gl, 0, none⟩ : Addr).add k) = ⟨gl, k, none⟩ := by simp [Addr.add]; omega
  rw [e] at h1
  have hlt : gl < wl.heap.size := World.block_lt_of_cell? wl _ h1
  exact (hb.cell (p := ⟨gl, k, none⟩) hlt).trans h1
end Go.Proofs.YtikjielgnlgnjaaDoor
