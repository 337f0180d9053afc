/-
  The program's blends that are kept: what its memory holds, step by step.
-/
import Derived.Test.YtpmklnldgafkjaaKept
import Derived.Test.YtpmklnldgafkjaaSeek
import Derived.Test.YtpmklnldgafkjaaFaultI
import Derived.WalkSpells
namespace Go.Proofs.Ytpmklnldgafkjaa
open Go.ChangeShapes Go.WideShapes Go.ChangeAt Go.RowKit Go.Joins

theorem infoRow : (Try.prog.info? 39).map (fun i => (i.zero, i.size, i.bytes)) = some (some (.slice none 0 0), 1, 24) := by kernel_rfl

theorem nes {a b : Nat} (h : a ≠ b) : some a ≠ some b := fun e => h (Option.some.inj e)
/-- The boxes, the row of parts, and the kept rows. -/
structure Keep (w0 : World) (L : List Cl) (a : Option Addr) (cap : Nat) (x : Li) (Q : List Int) (K : List (List Int)) (vk : Value) (w : World) : Prop where
  list : w.heap[w0.heap.size]? = some (.cells #[.slice a L.length cap] 25 (0, 0))
  lim : w.heap[w0.heap.size + 1]? = some (.cells #[.int .i64 x.lo, .int .i64 x.hi, .int .i64 x.ml, .int .i64 x.ms] 52 (0, 0))
  box : w.heap[w0.heap.size + 1 + 1]? = some (.cells #[vk] 100 (0, 0))
  row : ∃ cur, w.heap[w0.heap.size + 1 + 1 + 1]? = some (.cells cur 2 (0, 0)) ∧ cur.size = L.length ∧ cur.toList.take Q.length = intVals Q
  kept : ∃ rows : List Value, w.ownsRow (w0.heap.size + 4) 39 1 vk K.length rows ∧ ∀ (j : Nat) (P : List Int), K[j]? = some P → ∃ h ch, rows[j]? = some (.slice (some ⟨h, 0, none⟩) P.length ch) ∧ IntOwn (w0.heap.size + 4) P h w ∧ vk.ownBlock ≠ some h
  bel : Below w0.heap.size w0 w
  hQ : Q.length ≤ L.length
  hz : w0.heap.size + 4 ≤ w.heap.size

section
variable {w0 : World} {L : List Cl} {a : Option Addr} {cap : Nat} {x : Li} {Q : List Int} {K : List (List Int)} {vk : Value} {w w' : World}
theorem Keep.later (h : Keep w0 L a cap x Q K vk w) (hb : Below w.heap.size w w') : Keep w0 L a cap x Q K vk w' := by
  have hg := below_grown hb
  have hz := h.hz
  obtain ⟨cur, r1, r2⟩ := h.row
  obtain ⟨rows, k1, k2⟩ := h.kept
  refine ⟨(hb.block _ (by omega)).trans h.list, (hb.block _ (by omega)).trans h.lim, (hb.block _ (by omega)).trans h.box, ⟨cur, (hb.block _ (by omega)).trans r1, r2⟩, ⟨rows, k1.kept hg (by cases e : vk.ownBlock <;> simp), fun j P hj => ?_⟩, h.bel.trans (hb.mono h.bel.size), h.hQ, Nat.le_trans hz hb.size⟩
  obtain ⟨h', ch, e1, e2, e3⟩ := k2 j P hj
  exact ⟨h', ch, e1, e2.later hb, e3⟩
theorem Keep.cells (h : Keep w0 L a cap x Q K vk w) : w.cell? ⟨w0.heap.size, 0, none⟩ = some (.slice a L.length cap) ∧ w.cell? ⟨w0.heap.size + 1, 0, none⟩ = some (.int .i64 x.lo) ∧ w.cell? ⟨w0.heap.size + 1, 1, none⟩ = some (.int .i64 x.hi) ∧ w.cell? ⟨w0.heap.size + 1, 2, none⟩ = some (.int .i64 x.ml) ∧ w.cell? ⟨w0.heap.size + 1, 3, none⟩ = some (.int .i64 x.ms) ∧ w.cell? ⟨w0.heap.size + 1 + 1, 0, none⟩ = some vk := by
  refine ⟨?_, ?_, ?_, ?_, ?_, ?_⟩
  · rw [cell_of_row w _ _ _ _ (0, 0) h.list]; rfl
  · rw [cell_of_row w _ _ _ _ (0, 0) h.lim]; rfl
  · rw [cell_of_row w _ _ _ _ (0, 0) h.lim]; rfl
  · rw [cell_of_row w _ _ _ _ (0, 0) h.lim]; rfl
  · rw [cell_of_row w _ _ _ _ (0, 0) h.lim]; rfl
  · rw [cell_of_row w _ _ _ _ (0, 0) h.box]; rfl
theorem Keep.ints (h : Keep w0 L a cap x Q K vk w) : IntAt w (w0.heap.size + 1 + 1 + 1) 0 Q := by
  obtain ⟨cur, r1, r2, r3⟩ := h.row
  intro k z hk
  have hl := (List.getElem?_eq_some_iff.1 hk).1
  have h1 : (cur.toList.take Q.length)[k]? = some (.int .i64 z) := by rw [r3]; simp [intVals, hk]
  rw [List.getElem?_take_of_lt hl] at h1
  rw [Nat.zero_add, cell_of_row w _ _ _ _ (0, 0) r1]
  simpa using h1
theorem Keep.fresh (h : Keep w0 L a cap x Q K vk w) {g : Nat} (hg : w.heap.size ≤ g) : vk.ownBlock ≠ some g := by
  obtain ⟨rows, k1, _⟩ := h.kept
  intro e
  have := (k1.lt g e).2
  omega
theorem Keep.spot (h : Keep w0 L a cap x Q K vk w) (hl : Q.length < L.length) : ∃ u, w.cell? ⟨w0.heap.size + 1 + 1 + 1, Q.length, none⟩ = some u ∧ w.frozen? ⟨w0.heap.size + 1 + 1 + 1, Q.length, none⟩ = false := by
  obtain ⟨cur, r1, r2, r3⟩ := h.row
  exact ⟨cur[Q.length]'(by omega), by rw [cell_of_row w _ _ _ _ (0, 0) r1]; exact Array.getElem?_eq_getElem (by omega), frozen_of_row w _ _ _ _ r1⟩
/-- One number more in the row of parts. -/
theorem Keep.store (h : Keep w0 L a cap x Q K vk w) (hl : Q.length < L.length) (z : Int) : Keep w0 L a cap x (Q ++ [z]) K vk (w.setCell ⟨w0.heap.size + 1 + 1 + 1, Q.length, none⟩ (.int .i64 z)) := by
  have hs := set_grown w (w0.heap.size + 1 + 1 + 1) Q.length (.int .i64 z)
  have hz := h.hz
  obtain ⟨cur, r1, r2, r3⟩ := h.row
  obtain ⟨rows, k1, k2⟩ := h.kept
  have hvk : vk.ownBlock = none ∨ vk.ownBlock ≠ some (w0.heap.size + 1 + 1 + 1) := by
    cases e : vk.ownBlock with
    | none => exact .inl rfl
    | some k => exact .inr (by have := (k1.lt k e).1; simp; omega)
  refine ⟨(hs.block _ (by omega) (nes (by omega))).trans h.list, (hs.block _ (by omega) (nes (by omega))).trans h.lim, (hs.block _ (by omega) (nes (by omega))).trans h.box, ⟨_, heap_setCell_same w _ Q.length _ _ _ r1, by simpa using r2, ?_⟩, ⟨rows, k1.kept hs hvk, fun j P hj => ?_⟩, h.bel.grown hs h.bel.size (fun k hk => by cases hk; omega), by rw [List.length_append]; simp; omega, Nat.le_trans hz hs.size⟩
  · have hc : Q.length < cur.toList.length := by simp; omega
    rw [Array.toList_setIfInBounds, List.length_append]
    show (cur.toList.set Q.length (.int .i64 z)).take (Q.length + 1) = _
    rw [List.take_add_one, List.getElem?_set_self hc, List.take_set_of_le (Nat.le_refl _), r3]
    simp [intVals]
  · obtain ⟨h', ch, e1, e2, e3⟩ := k2 j P hj
    exact ⟨h', ch, e1, e2.grown hs (by have := e2.1; simp; omega), e3⟩
theorem Keep.cut {z : Int} (h : Keep w0 L a cap x (Q ++ [z]) K vk w) : Keep w0 L a cap x Q K vk w := by
  obtain ⟨cur, r1, r2, r3⟩ := h.row
  have hQ := h.hQ
  rw [List.length_append] at hQ
  refine ⟨h.list, h.lim, h.box, ⟨cur, r1, r2, ?_⟩, h.kept, h.bel, by omega, h.hz⟩
  have h2 := congrArg (List.take Q.length) r3
  rw [List.take_take, Nat.min_eq_left (by rw [List.length_append]; omega)] at h2
  rw [h2]
  simp [intVals]
/-- One row more that is kept. -/
theorem Keep.more {w1 : World} {v1 : Value} {h' ch : Nat} (h : Keep w0 L a cap x Q K vk w) (rows : List Value) (k1 : w.ownsRow (w0.heap.size + 4) 39 1 vk K.length rows)
    (k2 : ∀ (j : Nat) (P : List Int), K[j]? = some P → ∃ h ch, rows[j]? = some (.slice (some ⟨h, 0, none⟩) P.length ch) ∧ IntOwn (w0.heap.size + 4) P h w ∧ vk.ownBlock ≠ some h)
    (ho : IntOwn (w0.heap.size + 4) Q h' w) (hne : vk.ownBlock ≠ some h') (lit : Obj)
    (hown : w1.ownsRow (w0.heap.size + 4) 39 1 v1 (K.length + 1) (rows ++ [.slice (some ⟨h', 0, none⟩) Q.length ch])) (hg : (w.alloc lit).grownBy w1 vk.ownBlock) (hf : v1.ownBlock = vk.ownBlock ∨ v1.ownBlock = some (w.alloc lit).heap.size) :
    w1.cell? ⟨w0.heap.size + 1 + 1, 0, none⟩ = some vk ∧ w1.frozen? ⟨w0.heap.size + 1 + 1, 0, none⟩ = false ∧ Keep w0 L a cap x Q (K ++ [Q]) v1 (w1.setCell ⟨w0.heap.size + 1 + 1, 0, none⟩ v1) := by
  have hz := h.hz
  have ha := h.later (balloc0 w lit)
  have hza : (w.alloc lit).heap.size = w.heap.size + 1 := by simp
  have hold : ∀ k, k < w0.heap.size + 4 → w1.heap[k]? = (w.alloc lit).heap[k]? := fun k hk => hg.block k (by omega) (by
    intro e
    have := (k1.lt k e.symm).1
    omega)
  obtain ⟨cur, r1, r2, r3⟩ := ha.row
  have hs := set_grown w1 (w0.heap.size + 1 + 1) 0 v1
  have bx := (hold _ (by omega)).trans ha.box
  have hv1 : ∀ k, v1.ownBlock = some k → w0.heap.size + 4 ≤ k := fun k hk => (hown.lt k hk).1
  refine ⟨by rw [cell_of_row w1 _ _ _ _ (0, 0) bx]; rfl, frozen_of_row w1 _ _ _ _ bx, ?_⟩
  refine ⟨(hs.block _ (by have := hg.size; omega) (nes (by omega))).trans ((hold _ (by omega)).trans ha.list), (hs.block _ (by have := hg.size; omega) (nes (by omega))).trans ((hold _ (by omega)).trans ha.lim), ?_, ⟨cur, (hs.block _ (by have := hg.size; omega) (nes (by omega))).trans ((hold _ (by omega)).trans r1), r2, r3⟩, ⟨rows ++ [.slice (some ⟨h', 0, none⟩) Q.length ch], ?_, fun j P hj => ?_⟩, ?_, h.hQ, ?_⟩
  · rw [heap_setCell_same w1 _ 0 _ _ _ bx]
    rfl
  · rw [List.length_append]
    refine hown.kept hs ?_
    cases e : v1.ownBlock with
    | none => exact .inl rfl
    | some k => exact .inr (by have := hv1 k e; simp; omega)
  · have hlen : rows.length = K.length := by have := k1.1; omega
    have key : ∀ (P' : List Int) (q : Nat), IntOwn (w0.heap.size + 4) P' q w → vk.ownBlock ≠ some q → IntOwn (w0.heap.size + 4) P' q (w1.setCell ⟨w0.heap.size + 1 + 1, 0, none⟩ v1) ∧ v1.ownBlock ≠ some q := by
      intro P' q hq hn
      refine ⟨((hq.later (balloc0 w lit)).grown hg (fun e => hn e.symm)).grown hs (by have := hq.1; simp; omega), fun e => ?_⟩
      rcases hf with hf | hf
      · exact hn (hf.symm.trans e)
      · rw [hf] at e
        have := hq.2.2.2
        simp at e
        omega
    by_cases hjk : j < K.length
    · rw [List.getElem?_append_left hjk] at hj
      obtain ⟨q, cq, e1, e2, e3⟩ := k2 j P hj
      have := key P q e2 e3
      exact ⟨q, cq, by rw [List.getElem?_append_left (by omega)]; exact e1, this.1, this.2⟩
    · have hl := (List.getElem?_eq_some_iff.1 hj).1
      rw [List.length_append] at hl
      simp at hl
      have hjl : j = K.length := by omega
      subst hjl
      simp at hj
      subst hj
      have := key Q h' ho hne
      exact ⟨h', ch, by rw [← hlen]; simp, this.1, this.2⟩
  · have h1 : Below w0.heap.size w0 w1 := ha.bel.grown hg ha.bel.size (fun k hk => by have := (k1.lt k hk).1; omega)
    exact h1.grown hs h1.size (fun k hk => by cases hk; omega)
  · have := hg.size
    have := hs.size
    omega
end
end Go.Proofs.Ytpmklnldgafkjaa
