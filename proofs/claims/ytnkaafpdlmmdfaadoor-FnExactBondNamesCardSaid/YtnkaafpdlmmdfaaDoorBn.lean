/-
  BondNames: the model, the program, the walk of the law.
-/
import Derived.Test.YtnkaafpdlmmdfaaDoorSpl2
import Derived.Test.YtnkaafpdlmmdfaaDoorMark2V
import Derived.Test.YtnkaafpdlmmdfaaDoorShelfC
import Derived.Lib.LaidTab
namespace Go.Proofs.YtnkaafpdlmmdfaaDoor
open Go.ChangeShapes Go.WideShapes Go.ChangeAt Go.RowKit Go.Joins

/-- The library's texts, and their names. -/
def libNames : List (List UInt8) := [[115, 116, 114, 101, 116, 99, 104, 101, 114, 32, 83, 32, 66, 43, 83], [104, 101, 97, 100, 101, 114, 32, 72, 32, 67, 43, 72], [101, 110, 103, 108, 105, 115, 104, 32, 83, 32, 72, 67, 43, 72], [102, 108, 101, 109, 105, 115, 104, 32, 83, 72, 32, 72, 67, 43, 83, 72], [103, 97, 114, 100, 101, 110, 32, 83, 32, 66, 43, 83, 32, 83, 32, 72, 67, 43, 72]]
def LTb : List ByteArray := [⟨#[115, 116, 114, 101, 116, 99, 104, 101, 114, 32, 83, 32, 66, 43, 83]⟩, ⟨#[104, 101, 97, 100, 101, 114, 32, 72, 32, 67, 43, 72]⟩, ⟨#[101, 110, 103, 108, 105, 115, 104, 32, 83, 32, 72, 67, 43, 72]⟩, ⟨#[102, 108, 101, 109, 105, 115, 104, 32, 83, 72, 32, 72, 67, 43, 83, 72]⟩, ⟨#[103, 97, 114, 100, 101, 110, 32, 83, 32, 66, 43, 83, 32, 83, 32, 72, 67, 43, 72]⟩]
def NLb : List ByteArray := [⟨#[115, 116, 114, 101, 116, 99, 104, 101, 114]⟩, ⟨#[104, 101, 97, 100, 101, 114]⟩, ⟨#[101, 110, 103, 108, 105, 115, 104]⟩, ⟨#[102, 108, 101, 109, 105, 115, 104]⟩, ⟨#[103, 97, 114, 100, 101, 110]⟩]
theorem first_part (k : Nat) (T : ByteArray) (h : LTb[k]? = some T) : ∃ N r, NLb[k]? = some N ∧ partsOf T 32 = N :: r ∧ T.size ≤ 100 := by
  match k, h with
  | 0, h =>
    cases h
    exact ⟨⟨#[115, 116, 114, 101, 116, 99, 104, 101, 114]⟩, [⟨#[83]⟩, ⟨#[66, 43, 83]⟩], rfl, partsOf_join (Q := [⟨#[115, 116, 114, 101, 116, 99, 104, 101, 114]⟩, ⟨#[83]⟩, ⟨#[66, 43, 83]⟩]) (by simp) (by decide) (by decide), by decide⟩
  | 1, h =>
    cases h
    exact ⟨⟨#[104, 101, 97, 100, 101, 114]⟩, [⟨#[72]⟩, ⟨#[67, 43, 72]⟩], rfl, partsOf_join (Q := [⟨#[104, 101, 97, 100, 101, 114]⟩, ⟨#[72]⟩, ⟨#[67, 43, 72]⟩]) (by simp) (by decide) (by decide), by decide⟩
  | 2, h =>
    cases h
    exact ⟨⟨#[101, 110, 103, 108, 105, 115, 104]⟩, [⟨#[83]⟩, ⟨#[72, 67, 43, 72]⟩], rfl, partsOf_join (Q := [⟨#[101, 110, 103, 108, 105, 115, 104]⟩, ⟨#[83]⟩, ⟨#[72, 67, 43, 72]⟩]) (by simp) (by decide) (by decide), by decide⟩
  | 3, h =>
    cases h
    exact ⟨⟨#[102, 108, 101, 109, 105, 115, 104]⟩, [⟨#[83, 72]⟩, ⟨#[72, 67, 43, 83, 72]⟩], rfl, partsOf_join (Q := [⟨#[102, 108, 101, 109, 105, 115, 104]⟩, ⟨#[83, 72]⟩, ⟨#[72, 67, 43, 83, 72]⟩]) (by simp) (by decide) (by decide), by decide⟩
  | 4, h =>
    cases h
    exact ⟨⟨#[103, 97, 114, 100, 101, 110]⟩, [⟨#[83]⟩, ⟨#[66, 43, 83]⟩, ⟨#[83]⟩, ⟨#[72, 67, 43, 72]⟩], rfl, partsOf_join (Q := [⟨#[103, 97, 114, 100, 101, 110]⟩, ⟨#[83]⟩, ⟨#[66, 43, 83]⟩, ⟨#[83]⟩, ⟨#[72, 67, 43, 72]⟩]) (by simp) (by decide) (by decide), by decide⟩
  | k + 5, h => simp [LTb] at h
/-- The cells of the library. -/
def LibAt (w : World) : Prop := w.cell? ⟨0, 0, none⟩ = some (.string ⟨#[115, 116, 114, 101, 116, 99, 104, 101, 114, 32, 83, 32, 66, 43, 83]⟩) ∧ w.cell? ⟨0, 1, none⟩ = some (.string ⟨#[104, 101, 97, 100, 101, 114, 32, 72, 32, 67, 43, 72]⟩) ∧ w.cell? ⟨0, 2, none⟩ = some (.string ⟨#[101, 110, 103, 108, 105, 115, 104, 32, 83, 32, 72, 67, 43, 72]⟩) ∧ w.cell? ⟨0, 3, none⟩ = some (.string ⟨#[102, 108, 101, 109, 105, 115, 104, 32, 83, 72, 32, 72, 67, 43, 83, 72]⟩) ∧ w.cell? ⟨0, 4, none⟩ = some (.string ⟨#[103, 97, 114, 100, 101, 110, 32, 83, 32, 66, 43, 83, 32, 83, 32, 72, 67, 43, 72]⟩)
theorem LibAt.later {w w' : World} (h : LibAt w) (hb : Below w.heap.size w w') : LibAt w' := by
  obtain ⟨h0, h1, h2, h3, h4⟩ := h
  exact ⟨(hb.cell (World.block_lt_of_cell? w _ h0)).trans h0, (hb.cell (World.block_lt_of_cell? w _ h1)).trans h1, (hb.cell (World.block_lt_of_cell? w _ h2)).trans h2, (hb.cell (World.block_lt_of_cell? w _ h3)).trans h3, (hb.cell (World.block_lt_of_cell? w _ h4)).trans h4⟩

theorem lib_spec (w : World) : Calls Tryd.prog 70 #[] w fun e w' => e = .returned (.slice (some ⟨w.heap.size, 0, none⟩) 5 5) ∧ w.alloc (.cells #[.string ⟨#[115, 116, 114, 101, 116, 99, 104, 101, 114, 32, 83, 32, 66, 43, 83]⟩, .string ⟨#[104, 101, 97, 100, 101, 114, 32, 72, 32, 67, 43, 72]⟩, .string ⟨#[101, 110, 103, 108, 105, 115, 104, 32, 83, 32, 72, 67, 43, 72]⟩, .string ⟨#[102, 108, 101, 109, 105, 115, 104, 32, 83, 72, 32, 72, 67, 43, 83, 72]⟩, .string ⟨#[103, 97, 114, 100, 101, 110, 32, 83, 32, 66, 43, 83, 32, 83, 32, 72, 67, 43, 72]⟩] 9) = w' := by
  go_enter Tryd.func70, Tryd.ntmps70
  go_wp2
  go_ret
  exact ⟨rfl, rfl⟩
theorem first_spec (T N : ByteArray) (r : List ByteArray) (hT : T.size ≤ 100) (hp : partsOf T 32 = N :: r) (w : World) : Calls Tryd.prog 72 #[.string T, .int .u8 32] w fun e w' => ∃ g n cap : Nat, e = .returned (.slice (some ⟨g, 0, none⟩) n cap) ∧ 1 ≤ n ∧ w'.cell? ⟨g, 0, none⟩ = some (.string N) ∧ Below w.heap.size w w' := by
  refine (split_spec T (by omega) 32 w).mono ?_
  rintro e w' ⟨g, cap, rfl, h1, h2, _⟩
  have hp' : cutParts T (cutsC T 32 T.size 0 0) = N :: r := hp
  rw [hp'] at h1 ⊢
  refine ⟨g, _, cap, rfl, by simp, ?_, h2⟩
  rw [World.ownsRow.cellAt h1 0 (by simp)]
  rfl
theorem lib_cells (w : World) (k : Nat) (T : ByteArray) (h : LTb[k]? = some T) : (w.alloc (.cells #[.string ⟨#[115, 116, 114, 101, 116, 99, 104, 101, 114, 32, 83, 32, 66, 43, 83]⟩, .string ⟨#[104, 101, 97, 100, 101, 114, 32, 72, 32, 67, 43, 72]⟩, .string ⟨#[101, 110, 103, 108, 105, 115, 104, 32, 83, 32, 72, 67, 43, 72]⟩, .string ⟨#[102, 108, 101, 109, 105, 115, 104, 32, 83, 72, 32, 72, 67, 43, 83, 72]⟩, .string ⟨#[103, 97, 114, 100, 101, 110, 32, 83, 32, 66, 43, 83, 32, 83, 32, 72, 67, 43, 72]⟩] 9)).cell? ⟨w.heap.size, k, none⟩ = some (.string T) := by
  rw [cell_of_row _ _ _ _ _ (0, 0) (heap_alloc_new w _)]
  match k, h with
  | 0, h => cases h; rfl
  | 1, h => cases h; rfl
  | 2, h => cases h; rfl
  | 3, h => cases h; rfl
  | 4, h => cases h; rfl
  | k + 5, h => simp [LTb] at h
theorem take_succN {L : List ByteArray} {k : Nat} {x : ByteArray} (h : L[k]? = some x) : L.take (k + 1) = L.take k ++ [x] := by
  rw [List.take_add_one, h]; rfl
/-- The names are handed back in a row of the call's own. -/
def NamesOut (w : World) (e : Ending) (w' : World) : Prop := ∃ g cap, e = .returned (.slice (some ⟨g, 0, none⟩) 5 cap) ∧ RowAt w.heap.size NLb g cap w' ∧ Below w.heap.size w w'
theorem row_mono {B B' g cap : Nat} {cs : List ByteArray} {w : World} (h : RowAt B cs g cap w) (hb : B' ≤ B) : RowAt B' cs g cap w := by
  refine ⟨h.1, ?_⟩
  rcases h.2 with hn | ⟨g, cap, cur, hv, hB, rest⟩
  · exact .inl hn
  · exact .inr ⟨g, cap, cur, hv, Nat.le_trans hb hB, rest⟩

set_option maxRecDepth 100000 in
set_option maxHeartbeats 3200000 in
theorem names_spec (w : World) : Calls Tryd.prog 34 #[] w (NamesOut w) := by
  obtain ⟨i0, hi, hz0, hz1, hz2⟩ := info_parts infoStr
  go_enter Tryd.func34, Tryd.ntmps34
  go_wp2_with fail
  refine (lib_spec w).mono ?_
  rintro e w1 ⟨rfl, hw1⟩
  have HL : Hid (∀ wx, Below w1.heap.size w1 wx → ∀ k T, LTb[k]? = some T → wx.cell? ⟨w.heap.size, k, none⟩ = some (.string T)) := fun wx hx k T hT => by
    have h := lib_cells w k T hT
    rw [hw1] at h
    exact (hx.cell (World.block_lt_of_cell? w1 _ h)).trans h
  have B1 : Hid (Below w.heap.size w w1) := by show Below w.heap.size w w1; rw [← hw1]; exact balloc0 _ _
  clear hw1
  go_wp2
  go_loopw [2, 3] (fun v i wr => ∃ (k g cap : Nat) (W : List ByteArray), k ≤ 5 ∧ v = .slice (some ⟨g, 0, none⟩) W.length cap ∧ i = .int .i64 (k : Int) ∧ Hid (W = NLb.take k) ∧ Hid (PartsAt w1 W g cap wr)) (fun _ i _ => 5 - (intOf i).toNat)
  case atStart => exact ⟨0, w1.heap.size, 0, [], by omega, rfl, rfl, rfl, parts_start w1⟩
  case round =>
    obtain ⟨k, g, cap, W, hk, rfl, rfl, hW, hD⟩ := hrel
    by_cases hlt : k < 5
    · have hlt' : (k : Int) < 5 := by omega
      have hk0 : (0 : Int) ≤ (k : Int) := by omega
      obtain ⟨T, hT⟩ : ∃ T, LTb[k]? = some T := ⟨_, List.getElem?_eq_getElem (show k < LTb.length from hlt)⟩
      obtain ⟨N, r, hN, hp, hs⟩ := first_part k T hT
      have c0 := HL.out wr hD.out.2.1 k T hT
      have SPc := Lib.hid (first_spec T N r hs hp)
      have HE : Hid (W ++ [N] = NLb.take (k + 1)) := by show W ++ [N] = _; rw [take_succN hN, hW.out]
      have hWl : W.length ≤ 5 := by rw [hW.out, List.length_take]; omega
      have hbase : w1.heap.size ≤ wr.heap.size := hD.out.2.1.size
      have c3 : Hid (W.length + 1 ≤ maxLen) := by show W.length + 1 ≤ maxLen; unfold maxLen; omega
      clear hT hN hp hs
      go_wp2_with fail
      refine (SPc.out _).mono ?_
      rintro e w2 ⟨g2, n2, cp2, rfl, hn2, hc2, hb2⟩
      have hn2' : (0 : Int) < (n2 : Int) := by omega
      have D2 : Hid (PartsAt w1 W g cap w2) := ⟨row_below hD.out.1 hb2, hD.out.2.1.trans (hb2.mono hbase), Nat.le_trans hD.out.2.2 hb2.size⟩
      have hbase2 : w1.heap.size ≤ w2.heap.size := D2.out.2.1.size
      clear hb2 c0
      go_wp2_with (at_builtin; go_must ((refine wpList_append_own _ rfl _ _ 49 rfl w1.heap.size 9 i0 (.string ⟨#[]⟩) 1 16 Tryd.underlying49 hi hz0 hz1 hz2 rfl (by decide) (.slice (some ⟨g, 0, none⟩) W.length cap) W.length (partVals W) rfl (D2.out.1.alloc _) ⟨w2.heap.size, 0, none⟩ 1 1 [.string N] rfl rfl ((litS_row w1.heap.size w2 _ hbase2).cells rfl) (by simp [Value.oneCell']) c3.out (by omega) (by simp; omega) ?_; intro v3 w3 hown3 hgrow3 _)))
      obtain ⟨g3, cap3, hv, hD3⟩ := parts_step D2.out hown3 hgrow3
      subst hv
      go_roundw
      case rel => exact ⟨k + 1, g3, cap3, W ++ [N], by omega, rfl, by go_num, HE.out, hD3⟩
      case measure => simp [intOf]; omega
    · have hge : ¬ (k : Int) < 5 := by omega
      have hk5 : k = 5 := by omega
      subst hk5
      have HWe : Hid (W = NLb) := hW.out
      have HR : Hid (RowAt w.heap.size NLb g cap wr) := by
        have h := hD.out.1
        rw [HWe.out] at h
        exact row_mono h B1.out.size
      have hl5 : W.length = 5 := by rw [HWe.out]; rfl
      rw [hl5]
      clear hl5
      go_wp2
      go_ret
      exact ⟨g, cap, rfl, HR.out, bnext B1.out hD.out.2.1⟩

/-- An own row of texts, which may be nil as long as nothing is in it. -/
def OwnS (w : World) (W : List ByteArray) (v : Value) (wr : World) : Prop := wr.ownsRow w.heap.size 9 1 v W.length (partVals W) ∧ Below w.heap.size w wr
theorem cut_0 (m : Int) (w : World) (hm : w.cell? ⟨2, 0, none⟩ = some (.int .i64 m)) : Calls Tryd.prog 73 #[.string ⟨#[115, 116, 114, 101, 116, 99, 104, 101, 114, 32, 83, 32, 66, 43, 83]⟩, .string ⟨#[32]⟩] w fun e w' => e = .returned (.tuple #[.string ⟨#[115, 116, 114, 101, 116, 99, 104, 101, 114]⟩, .string ⟨#[83, 32, 66, 43, 83]⟩, .bool true]) ∧ Below w.heap.size w w' := by
  refine (Tryd.strings_Cut ⟨#[115, 116, 114, 101, 116, 99, 104, 101, 114, 32, 83, 32, 66, 43, 83]⟩ ⟨#[32]⟩ m w (by decide) hm).mono ?_
  rintro e w' ⟨rfl, n, rfl⟩
  exact ⟨by rfl, below_drewN (Below.refl _ _) n⟩
theorem cut_1 (m : Int) (w : World) (hm : w.cell? ⟨2, 0, none⟩ = some (.int .i64 m)) : Calls Tryd.prog 73 #[.string ⟨#[104, 101, 97, 100, 101, 114, 32, 72, 32, 67, 43, 72]⟩, .string ⟨#[32]⟩] w fun e w' => e = .returned (.tuple #[.string ⟨#[104, 101, 97, 100, 101, 114]⟩, .string ⟨#[72, 32, 67, 43, 72]⟩, .bool true]) ∧ Below w.heap.size w w' := by
  refine (Tryd.strings_Cut ⟨#[104, 101, 97, 100, 101, 114, 32, 72, 32, 67, 43, 72]⟩ ⟨#[32]⟩ m w (by decide) hm).mono ?_
  rintro e w' ⟨rfl, n, rfl⟩
  exact ⟨by rfl, below_drewN (Below.refl _ _) n⟩
theorem cut_2 (m : Int) (w : World) (hm : w.cell? ⟨2, 0, none⟩ = some (.int .i64 m)) : Calls Tryd.prog 73 #[.string ⟨#[101, 110, 103, 108, 105, 115, 104, 32, 83, 32, 72, 67, 43, 72]⟩, .string ⟨#[32]⟩] w fun e w' => e = .returned (.tuple #[.string ⟨#[101, 110, 103, 108, 105, 115, 104]⟩, .string ⟨#[83, 32, 72, 67, 43, 72]⟩, .bool true]) ∧ Below w.heap.size w w' := by
  refine (Tryd.strings_Cut ⟨#[101, 110, 103, 108, 105, 115, 104, 32, 83, 32, 72, 67, 43, 72]⟩ ⟨#[32]⟩ m w (by decide) hm).mono ?_
  rintro e w' ⟨rfl, n, rfl⟩
  exact ⟨by rfl, below_drewN (Below.refl _ _) n⟩
theorem cut_3 (m : Int) (w : World) (hm : w.cell? ⟨2, 0, none⟩ = some (.int .i64 m)) : Calls Tryd.prog 73 #[.string ⟨#[102, 108, 101, 109, 105, 115, 104, 32, 83, 72, 32, 72, 67, 43, 83, 72]⟩, .string ⟨#[32]⟩] w fun e w' => e = .returned (.tuple #[.string ⟨#[102, 108, 101, 109, 105, 115, 104]⟩, .string ⟨#[83, 72, 32, 72, 67, 43, 83, 72]⟩, .bool true]) ∧ Below w.heap.size w w' := by
  refine (Tryd.strings_Cut ⟨#[102, 108, 101, 109, 105, 115, 104, 32, 83, 72, 32, 72, 67, 43, 83, 72]⟩ ⟨#[32]⟩ m w (by decide) hm).mono ?_
  rintro e w' ⟨rfl, n, rfl⟩
  exact ⟨by rfl, below_drewN (Below.refl _ _) n⟩
theorem cut_4 (m : Int) (w : World) (hm : w.cell? ⟨2, 0, none⟩ = some (.int .i64 m)) : Calls Tryd.prog 73 #[.string ⟨#[103, 97, 114, 100, 101, 110, 32, 83, 32, 66, 43, 83, 32, 83, 32, 72, 67, 43, 72]⟩, .string ⟨#[32]⟩] w fun e w' => e = .returned (.tuple #[.string ⟨#[103, 97, 114, 100, 101, 110]⟩, .string ⟨#[83, 32, 66, 43, 83, 32, 83, 32, 72, 67, 43, 72]⟩, .bool true]) ∧ Below w.heap.size w w' := by
  refine (Tryd.strings_Cut ⟨#[103, 97, 114, 100, 101, 110, 32, 83, 32, 66, 43, 83, 32, 83, 32, 72, 67, 43, 72]⟩ ⟨#[32]⟩ m w (by decide) hm).mono ?_
  rintro e w' ⟨rfl, n, rfl⟩
  exact ⟨by rfl, below_drewN (Below.refl _ _) n⟩

set_option maxRecDepth 100000 in
set_option maxHeartbeats 6400000 in
theorem names_impl (w : World) (hl : LibAt w) (m : Int) (hm : w.cell? ⟨2, 0, none⟩ = some (.int .i64 m)) : Calls Tryd.prog 35 #[] w (NamesOut w) := by
  obtain ⟨i0, hi, hz0, hz1, hz2⟩ := info_parts infoStr
  obtain ⟨l0, l1, l2, l3, l4⟩ := hl
  have HM : Hid (∀ wx, Below w.heap.size w wx → wx.cell? ⟨2, 0, none⟩ = some (.int .i64 m)) := fun wx h => (h.cell (p := ⟨2, 0, none⟩) (World.block_lt_of_cell? w _ hm)).trans hm
  clear hm
  have i0x : ∀ w : World, (Instr.index 89 (.agg #[.string ⟨#[115, 116, 114, 101, 116, 99, 104, 101, 114, 32, 83, 32, 66, 43, 83]⟩, .string ⟨#[104, 101, 97, 100, 101, 114, 32, 72, 32, 67, 43, 72]⟩, .string ⟨#[101, 110, 103, 108, 105, 115, 104, 32, 83, 32, 72, 67, 43, 72]⟩, .string ⟨#[102, 108, 101, 109, 105, 115, 104, 32, 83, 72, 32, 72, 67, 43, 83, 72]⟩, .string ⟨#[103, 97, 114, 100, 101, 110, 32, 83, 32, 66, 43, 83, 32, 83, 32, 72, 67, 43, 72]⟩]) (.int .i64 0)).run Tryd.prog w = .ok (.string ⟨#[115, 116, 114, 101, 116, 99, 104, 101, 114, 32, 83, 32, 66, 43, 83]⟩) w := fun _ => by kernel_rfl
  have i1x : ∀ w : World, (Instr.index 89 (.agg #[.string ⟨#[115, 116, 114, 101, 116, 99, 104, 101, 114, 32, 83, 32, 66, 43, 83]⟩, .string ⟨#[104, 101, 97, 100, 101, 114, 32, 72, 32, 67, 43, 72]⟩, .string ⟨#[101, 110, 103, 108, 105, 115, 104, 32, 83, 32, 72, 67, 43, 72]⟩, .string ⟨#[102, 108, 101, 109, 105, 115, 104, 32, 83, 72, 32, 72, 67, 43, 83, 72]⟩, .string ⟨#[103, 97, 114, 100, 101, 110, 32, 83, 32, 66, 43, 83, 32, 83, 32, 72, 67, 43, 72]⟩]) (.int .i64 1)).run Tryd.prog w = .ok (.string ⟨#[104, 101, 97, 100, 101, 114, 32, 72, 32, 67, 43, 72]⟩) w := fun _ => by kernel_rfl
  have i2x : ∀ w : World, (Instr.index 89 (.agg #[.string ⟨#[115, 116, 114, 101, 116, 99, 104, 101, 114, 32, 83, 32, 66, 43, 83]⟩, .string ⟨#[104, 101, 97, 100, 101, 114, 32, 72, 32, 67, 43, 72]⟩, .string ⟨#[101, 110, 103, 108, 105, 115, 104, 32, 83, 32, 72, 67, 43, 72]⟩, .string ⟨#[102, 108, 101, 109, 105, 115, 104, 32, 83, 72, 32, 72, 67, 43, 83, 72]⟩, .string ⟨#[103, 97, 114, 100, 101, 110, 32, 83, 32, 66, 43, 83, 32, 83, 32, 72, 67, 43, 72]⟩]) (.int .i64 2)).run Tryd.prog w = .ok (.string ⟨#[101, 110, 103, 108, 105, 115, 104, 32, 83, 32, 72, 67, 43, 72]⟩) w := fun _ => by kernel_rfl
  have i3x : ∀ w : World, (Instr.index 89 (.agg #[.string ⟨#[115, 116, 114, 101, 116, 99, 104, 101, 114, 32, 83, 32, 66, 43, 83]⟩, .string ⟨#[104, 101, 97, 100, 101, 114, 32, 72, 32, 67, 43, 72]⟩, .string ⟨#[101, 110, 103, 108, 105, 115, 104, 32, 83, 32, 72, 67, 43, 72]⟩, .string ⟨#[102, 108, 101, 109, 105, 115, 104, 32, 83, 72, 32, 72, 67, 43, 83, 72]⟩, .string ⟨#[103, 97, 114, 100, 101, 110, 32, 83, 32, 66, 43, 83, 32, 83, 32, 72, 67, 43, 72]⟩]) (.int .i64 3)).run Tryd.prog w = .ok (.string ⟨#[102, 108, 101, 109, 105, 115, 104, 32, 83, 72, 32, 72, 67, 43, 83, 72]⟩) w := fun _ => by kernel_rfl
  have i4x : ∀ w : World, (Instr.index 89 (.agg #[.string ⟨#[115, 116, 114, 101, 116, 99, 104, 101, 114, 32, 83, 32, 66, 43, 83]⟩, .string ⟨#[104, 101, 97, 100, 101, 114, 32, 72, 32, 67, 43, 72]⟩, .string ⟨#[101, 110, 103, 108, 105, 115, 104, 32, 83, 32, 72, 67, 43, 72]⟩, .string ⟨#[102, 108, 101, 109, 105, 115, 104, 32, 83, 72, 32, 72, 67, 43, 83, 72]⟩, .string ⟨#[103, 97, 114, 100, 101, 110, 32, 83, 32, 66, 43, 83, 32, 83, 32, 72, 67, 43, 72]⟩]) (.int .i64 4)).run Tryd.prog w = .ok (.string ⟨#[103, 97, 114, 100, 101, 110, 32, 83, 32, 66, 43, 83, 32, 83, 32, 72, 67, 43, 72]⟩) w := fun _ => by kernel_rfl
  go_enter Tryd.func35, Tryd.ntmps35
  go_wp2
  clear l0 l1 l2 l3 l4
  go_loopw [1, 8] (fun v i wr => ∃ (k : Nat) (ao : Option Addr) (cap : Nat) (W : List ByteArray), k ≤ 5 ∧ v = .slice ao k cap ∧ i = .int .i64 (k : Int) ∧ Hid (W = NLb.take k) ∧ Hid (wr.ownsRow w.heap.size 9 1 (.slice ao k cap) k (partVals W)) ∧ Hid (Below w.heap.size w wr)) (fun _ i _ => 5 - (intOf i).toNat)
  case atStart => exact ⟨0, none, 0, [], by omega, rfl, rfl, rfl, ⟨rfl, .inl ⟨rfl, rfl⟩⟩, Below.refl _ _⟩
  case round =>
    obtain ⟨k, ao, cap, W, hk, rfl, rfl, hW, hO, hB⟩ := hrel
    have hbase : w.heap.size ≤ wr.heap.size := hB.out.size
    by_cases hlt : k < 5
    · have hh : k = 0 ∨ k = 1 ∨ k = 2 ∨ k = 3 ∨ k = 4 := by omega
      clear hlt
      rcases hh with rfl | rfl | rfl | rfl | rfl
      · have CT := Lib.hid (cut_0 m wr (HM.out wr hB.out))
        have HE : Hid (W ++ [⟨#[115, 116, 114, 101, 116, 99, 104, 101, 114]⟩] = NLb.take 1) := by show W ++ _ = _; rw [hW.out]; rfl
        have c3 : Hid (0 + 1 ≤ maxLen) := by show 0 + 1 ≤ maxLen; unfold maxLen; omega
        go_wp2_with (first | (go_at_call 73; refine CT.out.mono ?_; rintro e w2 ⟨rfl, hb2⟩; have O2 := Lib.hid (own_belowP hO.out hb2); have B2 : Hid (Below w.heap.size w w2) := hB.out.trans (hb2.mono hbase); have hbase2 : w.heap.size ≤ w2.heap.size := B2.out.size; clear hb2) | (at_builtin; go_must ((refine wpList_append_own _ rfl _ _ 49 rfl w.heap.size 9 i0 (.string ⟨#[]⟩) 1 16 Tryd.underlying49 hi hz0 hz1 hz2 rfl (by decide) (.slice ao 0 cap) 0 (partVals W) rfl (O2.out.alloc _) ⟨w2.heap.size, 0, none⟩ 1 1 [.string ⟨#[115, 116, 114, 101, 116, 99, 104, 101, 114]⟩] rfl rfl ((litS_row w.heap.size w2 _ hbase2).cells rfl) (by simp [Value.oneCell']) c3.out (by omega) (by simp; omega) ?_; intro v3 w3 hown3 hgrow3 _; obtain ⟨g3, cap3, hv3⟩ : ∃ g c, v3 = .slice (some ⟨g, 0, none⟩) 1 c := (by rcases hown3.2 with ⟨_, h0⟩ | ⟨g, c, cur, hv, _⟩; (exfalso; omega); (exact ⟨g, c, hv⟩)); subst hv3; have O3 := Lib.hid hown3; have B3 : Hid (Below w.heap.size w w3) := (B2.out.alloc hbase2 _).grown hgrow3 (by simp; omega) (fun q hq => (O2.out.lt q hq).1); clear hown3 hgrow3))))
        go_roundw
        case rel =>
          refine ⟨1, some ⟨g3, 0, none⟩, cap3, W ++ [⟨#[115, 116, 114, 101, 116, 99, 104, 101, 114]⟩], by omega, rfl, rfl, HE, ?_, B3⟩
          have e : partVals (W ++ [⟨#[115, 116, 114, 101, 116, 99, 104, 101, 114]⟩]) = partVals W ++ [.string ⟨#[115, 116, 114, 101, 116, 99, 104, 101, 114]⟩] := by simp [partVals]
          show World.ownsRow _ _ _ _ _ _ _
          rw [e]
          exact O3.out
        case measure => simp [intOf]
      · have CT := Lib.hid (cut_1 m wr (HM.out wr hB.out))
        have HE : Hid (W ++ [⟨#[104, 101, 97, 100, 101, 114]⟩] = NLb.take 2) := by show W ++ _ = _; rw [hW.out]; rfl
        have c3 : Hid (1 + 1 ≤ maxLen) := by show 1 + 1 ≤ maxLen; unfold maxLen; omega
        go_wp2_with (first | (go_at_call 73; refine CT.out.mono ?_; rintro e w2 ⟨rfl, hb2⟩; have O2 := Lib.hid (own_belowP hO.out hb2); have B2 : Hid (Below w.heap.size w w2) := hB.out.trans (hb2.mono hbase); have hbase2 : w.heap.size ≤ w2.heap.size := B2.out.size; clear hb2) | (at_builtin; go_must ((refine wpList_append_own _ rfl _ _ 49 rfl w.heap.size 9 i0 (.string ⟨#[]⟩) 1 16 Tryd.underlying49 hi hz0 hz1 hz2 rfl (by decide) (.slice ao 1 cap) 1 (partVals W) rfl (O2.out.alloc _) ⟨w2.heap.size, 0, none⟩ 1 1 [.string ⟨#[104, 101, 97, 100, 101, 114]⟩] rfl rfl ((litS_row w.heap.size w2 _ hbase2).cells rfl) (by simp [Value.oneCell']) c3.out (by omega) (by simp; omega) ?_; intro v3 w3 hown3 hgrow3 _; obtain ⟨g3, cap3, hv3⟩ : ∃ g c, v3 = .slice (some ⟨g, 0, none⟩) 2 c := (by rcases hown3.2 with ⟨_, h0⟩ | ⟨g, c, cur, hv, _⟩; (exfalso; omega); (exact ⟨g, c, hv⟩)); subst hv3; have O3 := Lib.hid hown3; have B3 : Hid (Below w.heap.size w w3) := (B2.out.alloc hbase2 _).grown hgrow3 (by simp; omega) (fun q hq => (O2.out.lt q hq).1); clear hown3 hgrow3))))
        go_roundw
        case rel =>
          refine ⟨2, some ⟨g3, 0, none⟩, cap3, W ++ [⟨#[104, 101, 97, 100, 101, 114]⟩], by omega, rfl, rfl, HE, ?_, B3⟩
          have e : partVals (W ++ [⟨#[104, 101, 97, 100, 101, 114]⟩]) = partVals W ++ [.string ⟨#[104, 101, 97, 100, 101, 114]⟩] := by simp [partVals]
          show World.ownsRow _ _ _ _ _ _ _
          rw [e]
          exact O3.out
        case measure => simp [intOf]
      · have CT := Lib.hid (cut_2 m wr (HM.out wr hB.out))
        have HE : Hid (W ++ [⟨#[101, 110, 103, 108, 105, 115, 104]⟩] = NLb.take 3) := by show W ++ _ = _; rw [hW.out]; rfl
        have c3 : Hid (2 + 1 ≤ maxLen) := by show 2 + 1 ≤ maxLen; unfold maxLen; omega
        go_wp2_with (first | (go_at_call 73; refine CT.out.mono ?_; rintro e w2 ⟨rfl, hb2⟩; have O2 := Lib.hid (own_belowP hO.out hb2); have B2 : Hid (Below w.heap.size w w2) := hB.out.trans (hb2.mono hbase); have hbase2 : w.heap.size ≤ w2.heap.size := B2.out.size; clear hb2) | (at_builtin; go_must ((refine wpList_append_own _ rfl _ _ 49 rfl w.heap.size 9 i0 (.string ⟨#[]⟩) 1 16 Tryd.underlying49 hi hz0 hz1 hz2 rfl (by decide) (.slice ao 2 cap) 2 (partVals W) rfl (O2.out.alloc _) ⟨w2.heap.size, 0, none⟩ 1 1 [.string ⟨#[101, 110, 103, 108, 105, 115, 104]⟩] rfl rfl ((litS_row w.heap.size w2 _ hbase2).cells rfl) (by simp [Value.oneCell']) c3.out (by omega) (by simp; omega) ?_; intro v3 w3 hown3 hgrow3 _; obtain ⟨g3, cap3, hv3⟩ : ∃ g c, v3 = .slice (some ⟨g, 0, none⟩) 3 c := (by rcases hown3.2 with ⟨_, h0⟩ | ⟨g, c, cur, hv, _⟩; (exfalso; omega); (exact ⟨g, c, hv⟩)); subst hv3; have O3 := Lib.hid hown3; have B3 : Hid (Below w.heap.size w w3) := (B2.out.alloc hbase2 _).grown hgrow3 (by simp; omega) (fun q hq => (O2.out.lt q hq).1); clear hown3 hgrow3))))
        go_roundw
        case rel =>
          refine ⟨3, some ⟨g3, 0, none⟩, cap3, W ++ [⟨#[101, 110, 103, 108, 105, 115, 104]⟩], by omega, rfl, rfl, HE, ?_, B3⟩
          have e : partVals (W ++ [⟨#[101, 110, 103, 108, 105, 115, 104]⟩]) = partVals W ++ [.string ⟨#[101, 110, 103, 108, 105, 115, 104]⟩] := by simp [partVals]
          show World.ownsRow _ _ _ _ _ _ _
          rw [e]
          exact O3.out
        case measure => simp [intOf]
      · have CT := Lib.hid (cut_3 m wr (HM.out wr hB.out))
        have HE : Hid (W ++ [⟨#[102, 108, 101, 109, 105, 115, 104]⟩] = NLb.take 4) := by show W ++ _ = _; rw [hW.out]; rfl
        have c3 : Hid (3 + 1 ≤ maxLen) := by show 3 + 1 ≤ maxLen; unfold maxLen; omega
        go_wp2_with (first | (go_at_call 73; refine CT.out.mono ?_; rintro e w2 ⟨rfl, hb2⟩; have O2 := Lib.hid (own_belowP hO.out hb2); have B2 : Hid (Below w.heap.size w w2) := hB.out.trans (hb2.mono hbase); have hbase2 : w.heap.size ≤ w2.heap.size := B2.out.size; clear hb2) | (at_builtin; go_must ((refine wpList_append_own _ rfl _ _ 49 rfl w.heap.size 9 i0 (.string ⟨#[]⟩) 1 16 Tryd.underlying49 hi hz0 hz1 hz2 rfl (by decide) (.slice ao 3 cap) 3 (partVals W) rfl (O2.out.alloc _) ⟨w2.heap.size, 0, none⟩ 1 1 [.string ⟨#[102, 108, 101, 109, 105, 115, 104]⟩] rfl rfl ((litS_row w.heap.size w2 _ hbase2).cells rfl) (by simp [Value.oneCell']) c3.out (by omega) (by simp; omega) ?_; intro v3 w3 hown3 hgrow3 _; obtain ⟨g3, cap3, hv3⟩ : ∃ g c, v3 = .slice (some ⟨g, 0, none⟩) 4 c := (by rcases hown3.2 with ⟨_, h0⟩ | ⟨g, c, cur, hv, _⟩; (exfalso; omega); (exact ⟨g, c, hv⟩)); subst hv3; have O3 := Lib.hid hown3; have B3 : Hid (Below w.heap.size w w3) := (B2.out.alloc hbase2 _).grown hgrow3 (by simp; omega) (fun q hq => (O2.out.lt q hq).1); clear hown3 hgrow3))))
        go_roundw
        case rel =>
          refine ⟨4, some ⟨g3, 0, none⟩, cap3, W ++ [⟨#[102, 108, 101, 109, 105, 115, 104]⟩], by omega, rfl, rfl, HE, ?_, B3⟩
          have e : partVals (W ++ [⟨#[102, 108, 101, 109, 105, 115, 104]⟩]) = partVals W ++ [.string ⟨#[102, 108, 101, 109, 105, 115, 104]⟩] := by simp [partVals]
          show World.ownsRow _ _ _ _ _ _ _
          rw [e]
          exact O3.out
        case measure => simp [intOf]
      · have CT := Lib.hid (cut_4 m wr (HM.out wr hB.out))
        have HE : Hid (W ++ [⟨#[103, 97, 114, 100, 101, 110]⟩] = NLb.take 5) := by show W ++ _ = _; rw [hW.out]; rfl
        have c3 : Hid (4 + 1 ≤ maxLen) := by show 4 + 1 ≤ maxLen; unfold maxLen; omega
        go_wp2_with (first | (go_at_call 73; refine CT.out.mono ?_; rintro e w2 ⟨rfl, hb2⟩; have O2 := Lib.hid (own_belowP hO.out hb2); have B2 : Hid (Below w.heap.size w w2) := hB.out.trans (hb2.mono hbase); have hbase2 : w.heap.size ≤ w2.heap.size := B2.out.size; clear hb2) | (at_builtin; go_must ((refine wpList_append_own _ rfl _ _ 49 rfl w.heap.size 9 i0 (.string ⟨#[]⟩) 1 16 Tryd.underlying49 hi hz0 hz1 hz2 rfl (by decide) (.slice ao 4 cap) 4 (partVals W) rfl (O2.out.alloc _) ⟨w2.heap.size, 0, none⟩ 1 1 [.string ⟨#[103, 97, 114, 100, 101, 110]⟩] rfl rfl ((litS_row w.heap.size w2 _ hbase2).cells rfl) (by simp [Value.oneCell']) c3.out (by omega) (by simp; omega) ?_; intro v3 w3 hown3 hgrow3 _; obtain ⟨g3, cap3, hv3⟩ : ∃ g c, v3 = .slice (some ⟨g, 0, none⟩) 5 c := (by rcases hown3.2 with ⟨_, h0⟩ | ⟨g, c, cur, hv, _⟩; (exfalso; omega); (exact ⟨g, c, hv⟩)); subst hv3; have O3 := Lib.hid hown3; have B3 : Hid (Below w.heap.size w w3) := (B2.out.alloc hbase2 _).grown hgrow3 (by simp; omega) (fun q hq => (O2.out.lt q hq).1); clear hown3 hgrow3))))
        go_roundw
        case rel =>
          refine ⟨5, some ⟨g3, 0, none⟩, cap3, W ++ [⟨#[103, 97, 114, 100, 101, 110]⟩], by omega, rfl, rfl, HE, ?_, B3⟩
          have e : partVals (W ++ [⟨#[103, 97, 114, 100, 101, 110]⟩]) = partVals W ++ [.string ⟨#[103, 97, 114, 100, 101, 110]⟩] := by simp [partVals]
          show World.ownsRow _ _ _ _ _ _ _
          rw [e]
          exact O3.out
        case measure => simp [intOf]
    · have hge : ¬ (k : Int) < 5 := by omega
      have hk5 : k = 5 := by omega
      subst hk5
      have HWe : Hid (W = NLb) := hW.out
      obtain ⟨g, c, hv, HR⟩ : ∃ g c, (Value.slice ao 5 cap = .slice (some ⟨g, 0, none⟩) 5 c) ∧ Hid (RowAt w.heap.size NLb g c wr) := by
        have h := hO.out
        rw [HWe.out] at h
        rcases h.2 with ⟨_, h0⟩ | ⟨g, c, cur, hv, rest⟩
        · omega
        · exact ⟨g, c, hv, by rw [hv] at h; exact h⟩
      cases hv
      go_wp2
      go_ret
      exact ⟨g, cap, rfl, HR.out, hB.out⟩

set_option maxRecDepth 100000 in
set_option maxHeartbeats 3200000 in
theorem walk_FnExactBondNames (w : World) (hl : LibAt w) (m : Int) (hm : w.cell? ⟨2, 0, none⟩ = some (.int .i64 m)) : Calls Tryd.prog 9 #[] w fun e w' => e = .returned (.bool true) ∧ Below w.heap.size w w' := by
  have HI : Hid (∀ wx, Below w.heap.size w wx → Calls Tryd.prog 35 #[] wx (NamesOut wx)) := fun wx hx => names_impl wx ⟨(hx.cell (World.block_lt_of_cell? w _ hl.1)).trans hl.1, (hx.cell (World.block_lt_of_cell? w _ hl.2.1)).trans hl.2.1, (hx.cell (World.block_lt_of_cell? w _ hl.2.2.1)).trans hl.2.2.1, (hx.cell (World.block_lt_of_cell? w _ hl.2.2.2.1)).trans hl.2.2.2.1, (hx.cell (World.block_lt_of_cell? w _ hl.2.2.2.2)).trans hl.2.2.2.2⟩ m ((hx.cell (p := ⟨2, 0, none⟩) (World.block_lt_of_cell? w _ hm)).trans hm)
  clear hl hm
  go_enter Tryd.func9, Tryd.ntmps9
  go_wp2_with fail
  refine (names_spec w).mono ?_
  rintro e w1 ⟨g, cap, rfl, r1, b1⟩
  have R1 := Lib.hid r1
  have B1 := Lib.hid b1
  clear r1 b1
  go_wp2_with fail
  refine (HI.out _ B1.out).mono ?_
  rintro e w2 ⟨g', cap', rfl, r2, b2⟩
  have R2 := Lib.hid r2
  have B2 := Lib.hid b2
  have R12 : Hid (RowAt w.heap.size NLb g cap w2) := row_below R1.out b2
  clear r2 b2
  go_wp2_with fail
  refine (eq_parts NLb (by decide) g' cap' g cap _ (fun k x hx => (row_facts R2.out hx).1) (fun k x hx => (row_facts R12.out hx).1)).mono ?_
  rintro e w3 ⟨rfl, hb3⟩
  have B13 : Hid (Below w1.heap.size w1 w3) := bnext B2.out hb3
  have R23 : Hid (RowAt w1.heap.size NLb g' cap' w3) := row_below R2.out hb3
  clear hb3
  go_wp2_with fail
  refine (mark_parts NLb (by decide) 1 (by omega) (by omega) w1.heap.size g' cap' _ B13.out.size R23.out).mono ?_
  rintro e w4 ⟨rfl, hb4, cs, hcs, hmk, hr4⟩
  have B14 : Hid (Below w1.heap.size w1 w4) := B13.out.trans hb4
  have R4 := Lib.hid hr4
  have R14 : Hid (RowAt w.heap.size NLb g cap w4) := row_below R1.out B14.out
  have hcs5 : cs.length = 5 := hcs
  have HD : Hid (∀ w, RowAt w1.heap.size cs g' cap' w → Calls Tryd.prog 38 #[.slice (some ⟨g', 0, none⟩) 5 cap', .int .i64 1] w fun e w' => e = .returned (.int .i64 6) ∧ Below w.heap.size w w') := by
    intro w hr
    have h := held_parts cs (by omega) 1 (by omega) (by omega) (fun j hj => hmk j (by omega)) w1.heap.size g' cap' w hr
    rw [hcs5] at h
    exact h
  clear hb4 hmk hr4 hcs hcs5
  go_wp2_with fail
  refine (HD.out _ R4.out).mono ?_
  rintro e w5 ⟨rfl, hb5⟩
  have B5 := Lib.hid hb5
  clear hb5
  go_wp2_with fail
  refine (HI.out _ (bnext (bnext B1.out B14.out) B5.out)).mono ?_
  rintro e w6 ⟨g6, cap6, rfl, r6, b6⟩
  have R6 := Lib.hid r6
  have B46 : Hid (Below w4.heap.size w4 w6) := bnext B5.out b6
  have R16 : Hid (RowAt w.heap.size NLb g cap w6) := row_below R14.out B46.out
  have R46 : Hid (RowAt w1.heap.size cs g' cap' w6) := row_below R4.out B46.out
  clear r6 b6
  go_wp2_with fail
  refine (eq_parts NLb (by decide) g6 cap6 g cap _ (fun k x hx => (row_facts R6.out hx).1) (fun k x hx => (row_facts R16.out hx).1)).mono ?_
  rintro e w7 ⟨rfl, hb7⟩
  have B7 := Lib.hid hb7
  clear hb7
  go_wp2_with fail
  refine (HD.out _ (row_below R46.out B7.out)).mono ?_
  rintro e w8 ⟨rfl, hb8⟩
  have BB : Hid (Below w.heap.size w w8) := bnext (bnext (bnext (bnext B1.out B14.out) B46.out) B7.out) hb8
  clear hb8
  go_wp2
  go_ret
  exact ⟨rfl, BB.out⟩
end Go.Proofs.YtnkaafpdlmmdfaaDoor
