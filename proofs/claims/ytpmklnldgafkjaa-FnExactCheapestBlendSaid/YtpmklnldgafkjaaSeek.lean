/-
  The model's search for blends: what its block holds, step by step.
-/
import Derived.Test.YtpmklnldgafkjaaKept
import Derived.Test.YtpmklnldgafkjaaApp
import Derived.Test.YtpmklnldgafkjaaLeast
namespace Go.Proofs.Ytpmklnldgafkjaa
open Go.ChangeShapes Go.WideShapes Go.ChangeAt Go.RowKit Go.Joins

theorem int_cells {w : World} {b o : Nat} {P : List Int} (h : IntAt w b o P) : ∀ j u, (intVals P)[j]? = some u → w.cell? ((⟨b, o, none⟩ : Addr).add j) = some u := by
  intro j u hu
  rw [Addr.add_mid]
  unfold intVals at hu
  rw [List.getElem?_map] at hu
  obtain ⟨z, hz, rfl⟩ := Option.map_eq_some_iff.1 hu
  exact h j z hz
theorem int_of_own {w : World} {B : Nat} {g cap : Nat} {P : List Int} (h : w.ownsRow B 2 1 (.slice (some ⟨g, 0, none⟩) P.length cap) P.length (intVals P)) : IntAt w g 0 P := fun k z hk => by
  have hl := (List.getElem?_eq_some_iff.1 hk).1
  rw [Nat.zero_add, World.ownsRow.cellAt h k (by omega)]
  simp [intVals, hk]
theorem own_of_row {w : World} {B : Nat} {g cap : Nat} {P : List Int} (h : w.ownsRow B 2 1 (.slice (some ⟨g, 0, none⟩) P.length cap) P.length (intVals P)) : IntOwn B P g w := by
  refine ⟨own_base8 h, int_of_own h, fun j hj => ?_, ?_⟩
  · rw [Nat.zero_add]
    refine ⟨?_, World.ownsRow.frozenAt h j⟩
    rw [World.ownsRow.cellAt h j (by omega), List.getElem?_eq_getElem (by simpa [intVals] using hj)]
    rfl
  · obtain ⟨_, h0 | ⟨b, c, cs, hv, _, hh, _⟩⟩ := h
    · simp at h0
    · simp at hv
      rw [hv.1]
      exact (Array.getElem?_eq_some_iff.1 hh).1

set_option maxRecDepth 100000 in
set_option maxHeartbeats 800000 in
/-- A copy of numbers in a new row. -/
theorem own_spec (Q : List Int) (g cp : Nat) (h1 : 1 ≤ Q.length) (hl : Q.length ≤ 1048576) (w : World) (h : IntAt w g 0 Q) :
    Calls Try.prog 128 #[.slice (some ⟨g, 0, none⟩) Q.length cp] w fun e w' => ∃ g' cp', e = .returned (.slice (some ⟨g', 0, none⟩) Q.length cp') ∧ IntOwn w.heap.size Q g' w' ∧ Below w.heap.size w w' := by
  have HC := Lib.hid (int_cells (h.later (balloc0 w (.cells #[] 2))))
  have HS := Lib.hid (nums_start w).1
  have hql : (intVals Q).length = Q.length * 1 := by simp [intVals]
  have hone := Lib.hid (intVals_one Q)
  have m1 : Hid (0 + Q.length ≤ maxLen) := by show 0 + Q.length ≤ maxLen; unfold maxLen; omega
  obtain ⟨i0, hi, hz0, hz1, hz2⟩ := info_parts infoInt
  clear h
  go_enter Try.func128, Try.ntmps128
  go_wp2_with (at_builtin; (refine wpList_append_own _ rfl _ _ 39 rfl w.heap.size 2 i0 (.int .i64 0) 1 8 Try.underlying39 hi hz0 hz1 hz2 rfl (by decide) (.slice (some ⟨w.heap.size, 0, none⟩) 0 0) 0 [] rfl HS.out ⟨g, 0, none⟩ Q.length cp (intVals Q) rfl hql HC.out hone.out m1.out (by omega) (by simp) ?_); intro v1 w1 hown hgrow _)
  have hown1 : w1.ownsRow w.heap.size 2 1 v1 Q.length (intVals Q) := by simpa using hown
  obtain ⟨g1, c1, hv⟩ := own_form8 hown1 (by omega)
  subst hv
  go_ret
  exact ⟨g1, c1, rfl, own_of_row hown1, (balloc0 w _).grown hgrow (by simp) (fun k hk => by cases hk; exact Nat.le_refl _)⟩

/-- The block of the search. -/
def seekBlk (L : List Cl) (a : Option Addr) (cap bx g cp n : Nat) (vb : Value) (ls : Int) (k : Nat) : Array Value :=
  #[.slice a L.length cap, .pointer (some ⟨bx, 0, none⟩), .slice (some ⟨g, 0, none⟩) n cp, vb, .int .i64 ls, .int .i64 k]
/-- The best blend so far, in a row of its own. -/
def BestAt (B : Nat) (f : List Int → Int) (K : List (List Int)) (g bb : Nat) (vb : Value) (ls : Int) (w : World) : Prop :=
  match bestOf f K with
  | none => vb = .slice none 0 0 ∧ ls = -1
  | some P => (ls = f P ∧ 0 ≤ ls) ∧ ∃ h ch, vb = .slice (some ⟨h, 0, none⟩) P.length ch ∧ IntOwn B P h w ∧ h ≠ g ∧ h ≠ bb
structure Seek (w0 : World) (L : List Cl) (a : Option Addr) (cap bx bb : Nat) (Q : List Int) (K : List (List Int)) (g cp : Nat) (vb : Value) (ls : Int) (w : World) : Prop where
  blk : w.heap[bb]? = some (.cells (seekBlk L a cap bx g cp Q.length vb ls K.length) 98 (0, 0))
  row : w.ownsRow w0.heap.size 2 1 (.slice (some ⟨g, 0, none⟩) Q.length cp) Q.length (intVals Q)
  bel : Below w0.heap.size w0 w
  hb : w0.heap.size ≤ bb
  best : BestAt w0.heap.size (total Cl.pr L) K g bb vb ls w
def SeekE (w0 : World) (L : List Cl) (a : Option Addr) (cap bx bb : Nat) (Q : List Int) (K : List (List Int)) (w : World) : Prop := ∃ g cp vb ls, Seek w0 L a cap bx bb Q K g cp vb ls w

theorem set_grown (w : World) (b j : Nat) (u : Value) : w.grownBy (w.setCell ⟨b, j, none⟩ u) (some b) :=
  ⟨rfl, rfl, rfl, by simp [World.setCell], fun k _ hk => heap_setCell_other w ⟨b, j, none⟩ k u (fun e => hk (by simp [e]))⟩
theorem below_grown {w w' : World} (h : Below w.heap.size w w') : w.grownBy w' none := ⟨h.os, h.tape, h.output, h.size, fun k hk _ => h.block k hk⟩
theorem IntOwn.grown {B : Nat} {P : List Int} {h : Nat} {w w' : World} {row : Option Nat} (ho : IntOwn B P h w) (hg : w.grownBy w' row) (hne : some h ≠ row) : IntOwn B P h w' := by
  have hbk := hg.block h ho.2.2.2 hne
  refine ⟨ho.1, fun k z hk => ?_, fun j hj => ?_, Nat.lt_of_lt_of_le ho.2.2.2 hg.size⟩
  · rw [World.cell?_of_block (w := w) (a := ⟨h, 0 + k, none⟩) hbk]
    exact ho.2.1 k z hk
  · obtain ⟨h1, h2⟩ := ho.2.2.1 j hj
    exact ⟨by rw [World.cell?_of_block (w := w) (a := ⟨h, 0 + j, none⟩) hbk]; exact h1, by rw [World.frozen?_of_block (w := w) (a := ⟨h, 0 + j, none⟩) hbk]; exact h2⟩
theorem BestAt.grown {B : Nat} {f : List Int → Int} {K : List (List Int)} {g bb : Nat} {vb : Value} {ls : Int} {w w' : World} {row : Option Nat} (h : BestAt B f K g bb vb ls w) (hg : w.grownBy w' row) (hr : row = none ∨ row = some g ∨ row = some bb) : BestAt B f K g bb vb ls w' := by
  unfold BestAt at h ⊢
  split
  · rename_i e; rw [e] at h; exact h
  · rename_i P e
    rw [e] at h
    obtain ⟨h1, h', ch, h2, h3, h4, h5⟩ := h
    refine ⟨h1, h', ch, h2, h3.grown hg ?_, h4, h5⟩
    rcases hr with rfl | rfl | rfl <;> simp [h4, h5]
section
variable {w0 : World} {L : List Cl} {a : Option Addr} {cap bx bb : Nat} {Q : List Int} {K : List (List Int)} {g cp : Nat} {vb : Value} {ls : Int} {w w' : World}
theorem Seek.heapg (h : Seek w0 L a cap bx bb Q K g cp vb ls w) : ∃ cur, w.heap[g]? = some (.cells cur 2 (0, 0)) ∧ Q.length ≤ cp ∧ w0.heap.size ≤ g := by
  obtain ⟨_, h0 | ⟨b, c, cs, hv, hb, hh, hn, _⟩⟩ := h.row
  · simp at h0
  · simp at hv
    obtain ⟨rfl, rfl⟩ := hv
    exact ⟨cs, hh, hn, hb⟩
theorem Seek.ne (h : Seek w0 L a cap bx bb Q K g cp vb ls w) : g ≠ bb := by
  intro e
  obtain ⟨cur, h1, _⟩ := h.heapg
  have h2 := h.blk
  rw [e, h2] at h1
  simp at h1
theorem Seek.later (h : Seek w0 L a cap bx bb Q K g cp vb ls w) (hb : Below w.heap.size w w') : Seek w0 L a cap bx bb Q K g cp vb ls w' := by
  have hg := below_grown hb
  have hlt := (Array.getElem?_eq_some_iff.1 h.blk).1
  exact ⟨(hb.block bb hlt).trans h.blk, h.row.kept hg (.inr (by simp [Value.ownBlock])), h.bel.trans (hb.mono h.bel.size), h.hb, h.best.grown hg (.inl rfl)⟩
theorem Seek.drewN (h : Seek w0 L a cap bx bb Q K g cp vb ls w) (n : Nat) : Seek w0 L a cap bx bb Q K g cp vb ls (w.drewN n) := h.later (below_drewN (Below.refl _ _) n)
theorem Seek.cells (h : Seek w0 L a cap bx bb Q K g cp vb ls w) : w.cell? ⟨bb, 0, none⟩ = some (.slice a L.length cap) ∧ w.cell? ⟨bb, 1, none⟩ = some (.pointer (some ⟨bx, 0, none⟩)) ∧ w.cell? ⟨bb, 2, none⟩ = some (.slice (some ⟨g, 0, none⟩) Q.length cp) ∧ w.cell? ⟨bb, 3, none⟩ = some vb ∧ w.cell? ⟨bb, 4, none⟩ = some (.int .i64 ls) ∧ w.cell? ⟨bb, 5, none⟩ = some (.int .i64 (K.length : Nat)) := by
  refine ⟨?_, ?_, ?_, ?_, ?_, ?_⟩ <;> (rw [cell_of_row w bb _ _ _ (0, 0) h.blk]; rfl)
theorem Seek.free (h : Seek w0 L a cap bx bb Q K g cp vb ls w) (j : Nat) : w.frozen? ⟨bb, j, none⟩ = false := frozen_of_row w bb j _ _ h.blk
/-- One number more behind the parts. -/
theorem Seek.push {w1 : World} {x : Int} {v1 : Value} (h : Seek w0 L a cap bx bb Q K g cp vb ls w) (hown : w1.ownsRow w0.heap.size 2 1 v1 (Q.length + 1) (intVals Q ++ [.int .i64 x]))
    (hg : (w.alloc (.cells #[.int .i64 x] 2)).grownBy w1 (some g)) (hf : v1.ownBlock = some g ∨ v1.ownBlock = some (w.alloc (.cells #[.int .i64 x] 2)).heap.size) :
    ∃ g' cp', v1 = .slice (some ⟨g', 0, none⟩) (Q.length + 1) cp' ∧ w1.cell? ⟨bb, 2, none⟩ = some (.slice (some ⟨g, 0, none⟩) Q.length cp) ∧ w1.frozen? ⟨bb, 2, none⟩ = false ∧
      Seek w0 L a cap bx bb (Q ++ [x]) K g' cp' vb ls (w1.setCell ⟨bb, 2, none⟩ (.slice (some ⟨g', 0, none⟩) (Q.length + 1) cp')) := by
  have hne := h.ne
  have hlt := (Array.getElem?_eq_some_iff.1 h.blk).1
  have h1 := h.later (balloc0 w (.cells #[.int .i64 x] 2))
  obtain ⟨g', cp', hv⟩ := own_form8 hown (by omega)
  have hbk : w1.heap[bb]? = some (.cells (seekBlk L a cap bx g cp Q.length vb ls K.length) 98 (0, 0)) := (hg.block bb (by simp; omega) (by simp; exact fun e => hne e.symm)).trans h1.blk
  have e : intVals (Q ++ [x]) = intVals Q ++ [Value.int .i64 x] := by simp [intVals]
  subst hv
  have hgb : g' ≠ bb := by
    intro e2
    obtain ⟨_, h0 | ⟨b, c, cs, hv2, hb2, hh2, _⟩⟩ := hown
    · simp at h0
    · simp at hv2
      rw [← hv2.1, e2, hbk] at hh2
      simp at hh2
  have hB1 : Below w0.heap.size w0 w1 := h1.bel.grown hg h1.bel.size (fun k hk => by cases hk; exact (h.heapg).choose_spec.2.2)
  have hs := set_grown w1 bb 2 (.slice (some ⟨g', 0, none⟩) (Q.length + 1) cp')
  refine ⟨g', cp', rfl, ?_, frozen_of_row w1 bb 2 _ _ hbk, ?_⟩
  · rw [cell_of_row w1 bb _ _ _ (0, 0) hbk]; rfl
  · refine ⟨?_, ?_, hB1.grown hs hB1.size (fun k hk => by cases hk; exact h.hb), h.hb, ?_⟩
    · rw [heap_setCell_same w1 bb 2 _ _ _ hbk, List.length_append]
      rfl
    · rw [e, List.length_append]
      exact hown.kept hs (.inr (by simp [Value.ownBlock]; exact hgb))
    · have hb := h1.best
      unfold BestAt at hb ⊢
      split
      · rename_i e3; rw [e3] at hb; exact hb
      · rename_i P e3
        rw [e3] at hb
        obtain ⟨q1, h', ch, q2, q3, q4, q5⟩ := hb
        have hlt' : h' < (w.alloc (.cells #[.int .i64 x] 2)).heap.size := q3.2.2.2
        refine ⟨q1, h', ch, q2, (q3.grown hg (by simp [q4])).grown hs (by simp [q5]), ?_, q5⟩
        rcases hf with hf | hf
        · simp [Value.ownBlock] at hf; omega
        · simp [Value.ownBlock] at hf hlt'
          -- h' is older than the new row, or the row is older than the copy
          intro e4
          have hm := h.best
          unfold BestAt at hm
          rw [e3] at hm
          obtain ⟨_, h2, ch2, r2, r3, _, _⟩ := hm
          rw [q2] at r2
          simp at r2
/-- The parts without their last number. -/
theorem Seek.pop {x : Int} (h : Seek w0 L a cap bx bb (Q ++ [x]) K g cp vb ls w) : Seek w0 L a cap bx bb Q K g cp vb ls (w.setCell ⟨bb, 2, none⟩ (.slice (some ⟨g, 0, none⟩) Q.length cp)) := by
  have hs := set_grown w bb 2 (.slice (some ⟨g, 0, none⟩) Q.length cp)
  have hne := h.ne
  refine ⟨?_, ?_, h.bel.grown hs h.bel.size (fun k hk => by cases hk; exact h.hb), h.hb, h.best.grown hs (.inr (.inr rfl))⟩
  · rw [heap_setCell_same w bb 2 _ _ _ h.blk]
    rfl
  · have hr := h.row.kept hs (.inr (by simp [Value.ownBlock]; exact hne))
    obtain ⟨h1, h0 | ⟨b, c, cs, hv, hb, hh, hn, hc, hz, ht⟩⟩ := hr
    · simp at h0
    · simp only [Value.slice.injEq, Option.some.injEq, Addr.mk.injEq, and_true, true_and] at hv
      obtain ⟨rfl, rfl⟩ := hv
      refine ⟨by simp [intVals], .inr ⟨g, cp, cs, rfl, hb, hh, ?_, hc, hz, ?_⟩⟩
      · rw [List.length_append] at hn
        simp at hn
        omega
      · have h2 := congrArg (List.take (Q.length * 1)) ht
        rw [List.take_take] at h2
        rw [Nat.min_eq_left (by rw [List.length_append]; omega)] at h2
        rw [h2]
        simp [intVals]
end
end Go.Proofs.Ytpmklnldgafkjaa
