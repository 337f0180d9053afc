/-
  BondNames: the model, the program, the walk of the law.
-/
import Derived.Test.YtgffgcobgjngnaaDoorSpl2
import Derived.Test.YtgffgcobgjngnaaDoorMark2V
import Derived.Test.YtgffgcobgjngnaaDoorShelfC
import Derived.Lib.LaidTab
namespace Go.Proofs.YtgffgcobgjngnaaDoor
open Go.ChangeShapes Go.WideShapes Go.ChangeAt Go.RowKit Go.Joins


/-- The library's texts, and their names. -/
def libNames : List (List UInt8) := [[115, 116, 114, 101, 116, 99, 104, 101, 114, 32, 83, 32, 66, 43, 83], [104, 101, 97, 100, 101, 114, 32, 72, 32, 67, 43, 72], [101, 110, 103, 108, 105, 115, 104, 32, 83, 32, 72, 67, 43, 72], [102, 108, 101, 109, 105, 115, 104, 32, 83, 72, 32, 72, 67, 43, 83, 72], [103, 97, 114, 100, 101, 110, 32, 83, 32, 66, 43, 83, 32, 83, 32, 72, 67, 43, 72]]
def LTb : List ByteArray := [⟨#[115, 116, 114, 101, 116, 99, 104, 101, 114, 32, 83, 32, 66, 43, 83]⟩, ⟨#[104, 101, 97, 100, 101, 114, 32, 72, 32, 67, 43, 72]⟩, ⟨#[101, 110, 103, 108, 105, 115, 104, 32, 83, 32, 72, 67, 43, 72]⟩, ⟨#[102, 108, 101, 109, 105, 115, 104, 32, 83, 72, 32, 72, 67, 43, 83, 72]⟩, ⟨#[103, 97, 114, 100, 101, 110, 32, 83, 32, 66, 43, 83, 32, 83, 32, 72, 67, 43, 72]⟩]
def NLb : List ByteArray := [⟨#[115, 116, 114, 101, 116, 99, 104, 101, 114]⟩, ⟨#[104, 101, 97, 100, 101, 114]⟩, ⟨#[101, 110, 103, 108, 105, 115, 104]⟩, ⟨#[102, 108, 101, 109, 105, 115, 104]⟩, ⟨#[103, 97, 114, 100, 101, 110]⟩]
theorem first_part (k : Nat) (T : ByteArray) (h : LTb[k]? = some T) : ∃ N r, NLb[k]? = some N ∧ partsOf T 32 = N :: r ∧ T.size ≤ 100 := by
  match k, h with
  | 0, h =>
    cases h
    exact ⟨⟨#[115, 116, 114, 101, 116, 99, 104, 101, 114]⟩, [⟨#[83]⟩, ⟨#[66, 43, 83]⟩], rfl, partsOf_join (Q := [⟨#[115, 116, 114, 101, 116, 99, 104, 101, 114]⟩, ⟨#[83]⟩, ⟨#[66, 43, 83]⟩]) (by simp) (by decide) (by decide), by decide⟩
  | 1, h =>
    cases h
    exact ⟨⟨#[104, 101, 97, 100, 101, 114]⟩, [⟨#[72]⟩, ⟨#[67, 43, 72]⟩], rfl, partsOf_join (Q := [⟨#[104, 101, 97, 100, 101, 114]⟩, ⟨#[72]⟩, ⟨#[67, 43, 72]⟩]) (by simp) (by decide) (by decide), by decide⟩
  | 2, h =>
    cases h
    exact ⟨⟨#[101, 110, 103, 108, 105, 115, 104]⟩, [⟨#[83]⟩, ⟨#[72, 67, 43, 72]⟩], rfl, partsOf_join (Q := [⟨#[101, 110, 103, 108, 105, 115, 104]⟩, ⟨#[83]⟩, ⟨#[72, 67, 43, 72]⟩]) (by simp) (by decide) (by decide), by decide⟩
  | 3, h =>
    cases h
    exact ⟨⟨#[102, 108, 101, 109, 105, 115, 104]⟩, [⟨#[83, 72]⟩, ⟨#[72, 67, 43, 83, 72]⟩], rfl, partsOf_join (Q := [⟨#[102, 108, 101, 109, 105, 115, 104]⟩, ⟨#[83, 72]⟩, ⟨#[72, 67, 43, 83, 72]⟩]) (by simp) (by decide) (by decide), by decide⟩
  | 4, h =>
    cases h
    exact ⟨⟨#[103, 97, 114, 100, 101, 110]⟩, [⟨#[83]⟩, ⟨#[66, 43, 83]⟩, ⟨#[83]⟩, ⟨#[72, 67, 43, 72]⟩], rfl, partsOf_join (Q := [⟨#[103, 97, 114, 100, 101, 110]⟩, ⟨#[83]⟩, ⟨#[66, 43, 83]⟩, ⟨#[83]⟩, ⟨#[72, 67, 43, 72]⟩]) (by simp) (by decide) (by decide), by decide⟩
  | k + 5, h => simp [LTb] at h
/-- The cells of the library. -/
def LibAt (w : World) : Prop := w.cell? ⟨0, 0, none⟩ = some (.string ⟨#[115, 116, 114, 101, 116, 99, 104, 101, 114, 32, 83, 32, 66, 43, 83]⟩) ∧ w.cell? ⟨0, 1, none⟩ = some (.string ⟨#[104, 101, 97, 100, 101, 114, 32, 72, 32, 67, 43, 72]⟩) ∧ w.cell? ⟨0, 2, none⟩ = some (.string ⟨#[101, 110, 103, 108, 105, 115, 104, 32, 83, 32, 72, 67, 43, 72]⟩) ∧ w.cell? ⟨0, 3, none⟩ = some (.string ⟨#[102, 108, 101, 109, 105, 115, 104, 32, 83, 72, 32, 72, 67, 43, 83, 72]⟩) ∧ w.cell? ⟨0, 4, none⟩ = some (.string ⟨#[103, 97, 114, 100, 101, 110, 32, 83, 32, 66, 43, 83, 32, 83, 32, 72, 67, 43, 72]⟩)
theorem LibAt.later {w w' : World} (h : LibAt w) (hb : Below w.heap.size w w') : LibAt w' := by
  obtain ⟨h0, h1, h2, h3, h4⟩ := h
  exact ⟨(hb.cell (World.block_lt_of_cell? w _ h0)).trans h0, (hb.cell (World.block_lt_of_cell? w _ h1)).trans h1, (hb.cell (World.block_lt_of_cell? w _ h2)).trans h2, (hb.cell (World.block_lt_of_cell? w _ h3)).trans h3, (hb.cell (World.block_lt_of_cell? w _ h4)).trans h4⟩

theorem lib_spec (w : World) : Calls Tryd.prog 30 #[] w fun e w' => e = .returned (.slice (some ⟨w.heap.size, 0, none⟩) 5 5) ∧ w.alloc (.cells #[.string ⟨#[115, 116, 114, 101, 116, 99, 104, 101, 114, 32, 83, 32, 66, 43, 83]⟩, .string ⟨#[104, 101, 97, 100, 101, 114, 32, 72, 32, 67, 43, 72]⟩, .string ⟨#[101, 110, 103, 108, 105, 115, 104, 32, 83, 32, 72, 67, 43, 72]⟩, .string ⟨#[102, 108, 101, 109, 105, 115, 104, 32, 83, 72, 32, 72, 67, 43, 83, 72]⟩, .string ⟨#[103, 97, 114, 100, 101, 110, 32, 83, 32, 66, 43, 83, 32, 83, 32, 72, 67, 43, 72]⟩] 9) = w' := by
  go_enter Tryd.func30, Tryd.ntmps30
  go_wp2
  go_ret
  exact ⟨rfl, rfl⟩
theorem first_spec (T N : ByteArray) (r : List ByteArray) (hT : T.size ≤ 100) (hp : partsOf T 32 = N :: r) (w : World) : Calls Tryd.prog 48 #[.string T, .int .u8 32] w fun e w' => ∃ g n cap : Nat, e = .returned (.slice (some ⟨g, 0, none⟩) n cap) ∧ 1 ≤ n ∧ w'.cell? ⟨g, 0, none⟩ = some (.string N) ∧ Below w.heap.size w w' := by
  refine (split_spec T (by omega) 32 w).mono ?_
  rintro e w' ⟨g, cap, rfl, h1, h2, _⟩
  have hp' : cutParts T (cutsC T 32 T.size 0 0) = N :: r := hp
  rw [hp'] at h1 ⊢
  refine ⟨g, _, cap, rfl, by simp, ?_, h2⟩
  rw [World.ownsRow.cellAt h1 0 (by simp)]
  rfl
theorem lib_cells (w : World) (k : Nat) (T : ByteArray) (h : LTb[k]? = some T) : (w.alloc (.cells #[.string ⟨#[115, 116, 114, 101, 116, 99, 104, 101, 114, 32, 83, 32, 66, 43, 83]⟩, .string ⟨#[104, 101, 97, 100, 101, 114, 32, 72, 32, 67, 43, 72]⟩, .string ⟨#[101, 110, 103, 108, 105, 115, 104, 32, 83, 32, 72, 67, 43, 72]⟩, .string ⟨#[102, 108, 101, 109, 105, 115, 104, 32, 83, 72, 32, 72, 67, 43, 83, 72]⟩, .string ⟨#[103, 97, 114, 100, 101, 110, 32, 83, 32, 66, 43, 83, 32, 83, 32, 72, 67, 43, 72]⟩] 9)).cell? ⟨w.heap.size, k, none⟩ = some (.string T) := by
  rw [cell_of_row _ _ _ _ _ (0, 0) (heap_alloc_new w _)]
  match k, h with
  | 0, h => cases h; rfl
  | 1, h => cases h; rfl
  | 2, h => cases h; rfl
  | 3, h => cases h; rfl
  | 4, h => cases h; rfl
  | k + 5, h => simp [LTb] at h
theorem take_succN {L : List ByteArray} {k : Nat} {x : ByteArray} (h : L[k]? = some x) : L.take (k + 1) = L.take k ++ [x] := by
  rw [List.take_add_one, h]; rfl
/-- The names are handed back in a row of the call's own. -/
def NamesOut (w : World) (e : Ending) (w' : World) : Prop := ∃ g cap, e = .returned (.slice (some ⟨g, 0, none⟩) 5 cap) ∧ RowAt w.heap.size NLb g cap w' ∧ Below w.heap.size w w'
theorem row_mono {B B' g cap : Nat} {cs : List ByteArray} {w : World} (h : RowAt B cs g cap w) (hb : B' ≤ B) : RowAt B' cs g cap w := by
  refine ⟨h.1, ?_⟩
  rcases h.2 with hn | ⟨g, cap, cur, hv, hB, rest⟩
  · exact .inl hn
  · exact .inr ⟨g, cap, cur, hv, Nat.le_trans hb hB, rest⟩

/-- An own row of texts, which may be nil as long as nothing is in it. -/
def OwnS (w : World) (W : List ByteArray) (v : Value) (wr : World) : Prop := wr.ownsRow w.heap.size 9 1 v W.length (partVals W) ∧ Below w.heap.size w wr
theorem cut_0 (m : Int) (w : World) (hm : w.cell? ⟨2, 0, none⟩ = some (.int .i64 m)) : Calls Tryd.prog 50 #[.string ⟨#[115, 116, 114, 101, 116, 99, 104, 101, 114, 32, 83, 32, 66, 43, 83]⟩, .string ⟨#[32]⟩] w fun e w' => e = .returned (.tuple #[.string ⟨#[115, 116, 114, 101, 116, 99, 104, 101, 114]⟩, .string ⟨#[83, 32, 66, 43, 83]⟩, .bool true]) ∧ Below w.heap.size w w' := by
  refine (Tryd.strings_Cut ⟨#[115, 116, 114, 101, 116, 99, 104, 101, 114, 32, 83, 32, 66, 43, 83]⟩ ⟨#[32]⟩ m w (by decide) hm).mono ?_
  rintro e w' ⟨rfl, n, rfl⟩
  exact ⟨by rfl, below_drewN (Below.refl _ _) n⟩
theorem cut_1 (m : Int) (w : World) (hm : w.cell? ⟨2, 0, none⟩ = some (.int .i64 m)) : Calls Tryd.prog 50 #[.string ⟨#[104, 101, 97, 100, 101, 114, 32, 72, 32, 67, 43, 72]⟩, .string ⟨#[32]⟩] w fun e w' => e = .returned (.tuple #[.string ⟨#[104, 101, 97, 100, 101, 114]⟩, .string ⟨#[72, 32, 67, 43, 72]⟩, .bool true]) ∧ Below w.heap.size w w' := by
  refine (Tryd.strings_Cut ⟨#[104, 101, 97, 100, 101, 114, 32, 72, 32, 67, 43, 72]⟩ ⟨#[32]⟩ m w (by decide) hm).mono ?_
  rintro e w' ⟨rfl, n, rfl⟩
  exact ⟨by rfl, below_drewN (Below.refl _ _) n⟩
theorem cut_2 (m : Int) (w : World) (hm : w.cell? ⟨2, 0, none⟩ = some (.int .i64 m)) : Calls Tryd.prog 50 #[.string ⟨#[101, 110, 103, 108, 105, 115, 104, 32, 83, 32, 72, 67, 43, 72]⟩, .string ⟨#[32]⟩] w fun e w' => e = .returned (.tuple #[.string ⟨#[101, 110, 103, 108, 105, 115, 104]⟩, .string ⟨#[83, 32, 72, 67, 43, 72]⟩, .bool true]) ∧ Below w.heap.size w w' := by
  refine (Tryd.strings_Cut ⟨#[101, 110, 103, 108, 105, 115, 104, 32, 83, 32, 72, 67, 43, 72]⟩ ⟨#[32]⟩ m w (by decide) hm).mono ?_
  rintro e w' ⟨rfl, n, rfl⟩
  exact ⟨by rfl, below_drewN (Below.refl _ _) n⟩
theorem cut_3 (m : Int) (w : World) (hm : w.cell? ⟨2, 0, none⟩ = some (.int .i64 m)) : Calls Tryd.prog 50 #[.string ⟨#[102, 108, 101, 109, 105, 115, 104, 32, 83, 72, 32, 72, 67, 43, 83, 72]⟩, .string ⟨#[32]⟩] w fun e w' => e = .returned (.tuple #[.string ⟨#[102, 108, 101, 109, 105, 115, 104]⟩, .string ⟨#[83, 72, 32, 72, 67, 43, 83, 72]⟩, .bool true]) ∧ Below w.heap.size w w' := by
  refine (Tryd.strings_Cut ⟨#[102, 108, 101, 109, 105, 115, 104, 32, 83, 72, 32, 72, 67, 43, 83, 72]⟩ ⟨#[32]⟩ m w (by decide) hm).mono ?_
  rintro e w' ⟨rfl, n, rfl⟩
  exact ⟨by rfl, below_drewN (Below.refl _ _) n⟩
theorem cut_4 (m : Int) (w : World) (hm : w.cell? ⟨2, 0, none⟩ = some (.int .i64 m)) : Calls Tryd.prog 50 #[.string ⟨#[103, 97, 114, 100, 101, 110, 32, 83, 32, 66, 43, 83, 32, 83, 32, 72, 67, 43, 72]⟩, .string ⟨#[32]⟩] w fun e w' => e = .returned (.tuple #[.string ⟨#[103, 97, 114, 100, 101, 110]⟩, .string ⟨#[83, 32, 66, 43, 83, 32, 83, 32, 72, 67, 43, 72]⟩, .bool true]) ∧ Below w.heap.size w w' := by
  refine (Tryd.strings_Cut ⟨#[103, 97, 114, 100, 101, 110, 32, 83, 32, 66, 43, 83, 32, 83, 32, 72, 67, 43, 72]⟩ ⟨#[32]⟩ m w (by decide) hm).mono ?_
  rintro e w' ⟨rfl, n, rfl⟩
  exact ⟨by rfl, below_drewN (Below.refl _ _) n⟩
end Go.Proofs.YtgffgcobgjngnaaDoor
