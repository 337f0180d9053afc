/-
  What the laws ask of rows of texts: equality, marks.
-/
import Derived.Test.YtnkaafpdlmmdfaaDoorSplitV
namespace Go.Proofs.YtnkaafpdlmmdfaaDoor
open Go.ChangeShapes Go.WideShapes Go.ChangeAt Go.RowKit Go.Joins
set_option maxHeartbeats 1600000 in
/-- Two rows that hold the same texts are equal. -/
theorem eq_parts (L : List ByteArray) (hL : L.length ≤ 1048577) (g cap g' cap' : Nat) (w : World) (h1 : ∀ k x, L[k]? = some x → w.cell? ⟨g, k, none⟩ = some (.string x)) (h2 : ∀ k x, L[k]? = some x → w.cell? ⟨g', k, none⟩ = some (.string x)) :
    Calls Tryd.prog 36 #[.slice (some ⟨g, 0, none⟩) L.length cap, .slice (some ⟨g', 0, none⟩) L.length cap'] w fun e w' => e = .returned (.bool true) ∧ Below w.heap.size w w' := by
  have H1 := Lib.hid h1
  have H2 := Lib.hid h2
  clear h1 h2
  go_enter Tryd.func36, Tryd.ntmps36
  go_wp2
  go_loopw [5] (fun i wr => ∃ k : Nat, k ≤ L.length ∧ i = .int .i64 k ∧ Hid (Below w.heap.size w wr)) (fun i _ => L.length - (intOf i).toNat)
  case atStart => exact ⟨0, Nat.zero_le _, rfl, Below.refl _ _⟩
  case round =>
    obtain ⟨k, hk, rfl, hB⟩ := hrel
    by_cases hlt : k < L.length
    · have hlt' : (k : Int) < (L.length : Int) := by omega
      have hk0 : (0 : Int) ≤ (k : Int) := by omega
      obtain ⟨x, hx⟩ : ∃ x, L[k]? = some x := ⟨_, List.getElem?_eq_getElem hlt⟩
      have c1 : wr.cell? ⟨g, k, none⟩ = some (.string x) := (hB.out.cell (World.block_lt_of_cell? w _ (H1.out k x hx))).trans (H1.out k x hx)
      have c2 : wr.cell? ⟨g', k, none⟩ = some (.string x) := (hB.out.cell (World.block_lt_of_cell? w _ (H2.out k x hx))).trans (H2.out k x hx)
      clear hx
      go_wp2
      go_region
      go_wp2
      go_roundw
      case rel => exact ⟨k + 1, by omega, by go_num, hB.out.drew⟩
      case measure => simp [intOf]; omega
    · have hge : ¬ (k : Int) < (L.length : Int) := by omega
      go_wp2
      go_ret
      exact ⟨rfl, hB.out⟩

end Go.Proofs.YtnkaafpdlmmdfaaDoor
