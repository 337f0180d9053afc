/-
  A row of bytes that grows, byte by byte, and the text of it.
-/
import Derived.Test.YtplggghhhgmebaaDec
import Derived.Test.YtplggghhhgmebaaInts
import Derived.Test.YtplggghhhgmebaaBuildW
namespace Go.Proofs.Ytplggghhhgmebaa
open Go.ChangeShapes Go.WideShapes Go.ChangeAt Go.RowKit Go.Joins

/-- What a row of bytes that grows holds. -/
def BytesAt (w : World) (ds : List UInt8) (g cap : Nat) (wr : World) : Prop :=
  wr.ownsRow w.heap.size 5 1 (.slice (some ⟨g, 0, none⟩) ds.length cap) ds.length (byteVals ds) ∧ Below w.heap.size w wr ∧ w.heap.size + 1 ≤ wr.heap.size
theorem bytes_start (w : World) : BytesAt w [] w.heap.size 0 (w.alloc (.cells #[] 5)) :=
  ⟨⟨rfl, .inr ⟨w.heap.size, 0, #[], rfl, Nat.le_refl _, heap_alloc_new w _, Nat.le_refl _, by decide, rfl, rfl⟩⟩, balloc0 _ _, by simp⟩
theorem bytes_step {w wr w1 : World} {ds : List UInt8} {g cap : Nat} {x : UInt8} {v1 : Value} (h : BytesAt w ds g cap wr) (hown : w1.ownsRow w.heap.size 5 1 v1 (ds.length + 1) (byteVals ds ++ [.int .u8 (x.toNat : Int)])) (hg : (wr.alloc (.cells #[.int .u8 (x.toNat : Int)] 5)).grownBy w1 (some g)) :
    ∃ g' cap', v1 = .slice (some ⟨g', 0, none⟩) (ds ++ [x]).length cap' ∧ BytesAt w (ds ++ [x]) g' cap' w1 := by
  obtain ⟨h1, h2, h3⟩ := h
  have hgb := own_base8 h1
  have e : byteVals (ds ++ [x]) = byteVals ds ++ [Value.int .u8 (x.toNat : Int)] := by simp [byteVals]
  obtain ⟨g', cap', hv⟩ := own_form8 hown (by omega)
  have hB : Below w.heap.size w (wr.alloc (.cells #[.int .u8 (x.toNat : Int)] 5)) := balloc h2 _
  have hB1 : Below w.heap.size w w1 := hB.grown hg (by simp; omega) (fun k hk => by cases hk; exact hgb)
  refine ⟨g', cap', by rw [hv]; simp, ?_, hB1, ?_⟩
  · rw [e, List.length_append]
    rw [hv] at hown
    exact hown
  · have := hB1.size
    have h4 := hg.size
    simp at h4
    omega
theorem bytes_stepN {w wr w1 : World} {ds : List UInt8} {g cap : Nat} {n : Int} {v1 : Value} (x : UInt8) (hn : n = (x.toNat : Int)) (h : BytesAt w ds g cap wr) (hown : w1.ownsRow w.heap.size 5 1 v1 (ds.length + 1) (byteVals ds ++ [.int .u8 n])) (hg : (wr.alloc (.cells #[.int .u8 n] 5)).grownBy w1 (some g)) :
    ∃ g' cap', v1 = .slice (some ⟨g', 0, none⟩) (ds ++ [x]).length cap' ∧ BytesAt w (ds ++ [x]) g' cap' w1 := by
  subst hn
  exact bytes_step h hown hg
theorem bytes_on {W0 w w' : World} {ds : List UInt8} {g cap : Nat} (h : BytesAt W0 ds g cap w) (hb : Below w.heap.size w w') : BytesAt W0 ds g cap w' := by
  refine ⟨⟨h.1.1, ?_⟩, h.2.1.trans (hb.mono (Nat.le_of_succ_le h.2.2)), Nat.le_trans h.2.2 hb.size⟩
  rcases h.1.2 with hn | ⟨g1, cap1, cur, hv, hB, hgg, rest⟩
  · exact .inl hn
  · exact .inr ⟨g1, cap1, cur, hv, hB, (hb.block g1 (Array.getElem?_eq_some_iff.1 hgg).1).trans hgg, rest⟩
/-- The text of the bytes. -/
theorem bytes_string {w wr : World} {g cap : Nat} {ds : List UInt8} (h : BytesAt w ds g cap wr) : (convert 92 9 (.slice (some ⟨g, 0, none⟩) ds.length cap)).run Try.prog wr = .ok (.string ⟨ds.toArray⟩) wr :=
  run_convert_bytes_back (P := Try.prog) wr 92 9 5 ⟨g, 0, none⟩ cap ds Try.underlying92 Try.underlying5 Try.underlying9 (fun j hj => h.1.cells rfl j _ (by simp [byteVals, List.getElem?_eq_getElem hj]))
theorem bytes_string1 {w wr : World} {g cap : Nat} {ds : List UInt8} {x : UInt8} (h : BytesAt w (ds ++ [x]) g cap wr) : ∃ T : ByteArray, Hid (T = ⟨(ds ++ [x]).toArray⟩) ∧ (convert 92 9 (.slice (some ⟨g, 0, none⟩) (ds.length + 1) cap)).run Try.prog wr = .ok (.string T) wr := by
  refine ⟨_, rfl, ?_⟩
  have := bytes_string h
  rw [List.length_append] at this
  exact this
theorem infoByteY : (Try.prog.info? 5).map (fun i => (i.zero, i.size, i.bytes)) = some (some (.int .u8 0), 1, 1) := by kernel_rfl
end Go.Proofs.Ytplggghhhgmebaa
