/-
  Rows of pairs of numbers: they grow, they are read; what the laws ask of them: equality, marks.
-/
import Derived.Test.YtllcpgogfhjfpaaDoorHoL
import Derived.Maps.AppendAt
namespace Go.Proofs.YtllcpgogfhjfpaaDoor
open Go.ChangeShapes Go.WideShapes Go.ChangeAt Go.RowKit Go.Joins


def slVals (bs : List Nat) : List Value := bs.map fun b => .slice (some ⟨b, 0, none⟩) 2 2
theorem slVals_snoc (bs : List Nat) (b : Nat) : slVals bs ++ [.slice (some ⟨b, 0, none⟩) 2 2] = slVals (bs ++ [b]) := by simp [slVals]
theorem infoInts : (Tryd.prog.info? 31).map (fun i => (i.zero, i.size, i.bytes)) = some (some (.slice none 0 0), 1, 24) := by kernel_rfl
theorem below_grown {w w' : World} (h : Below w.heap.size w w') : w.grownBy w' none := ⟨h.os, h.tape, h.output, h.size, fun k hk _ => h.block k hk⟩
/-- A row of the call's own of rows of two numbers, each one a row of the call's own. -/
def PrRow (B : Nat) (v : Value) (Q : List (Int × Int)) (bs : List Nat) (w : World) : Prop :=
  w.ownsRow B 31 1 v Q.length (slVals bs) ∧ bs.length = Q.length ∧ (∀ (i j b : Nat), bs[i]? = some b → bs[j]? = some b → i = j) ∧
    ∀ (k b : Nat) (q : Int × Int), bs[k]? = some b → Q[k]? = some q → B ≤ b ∧ w.heap[b]? = some (.cells #[.int .i64 q.1, .int .i64 q.2] 2 (0, 0))
theorem PrRow.nil (B : Nat) (w : World) : PrRow B (.slice none 0 0) [] [] w := ⟨World.ownsRow_nil _ _ _ _, rfl, fun i j b h => by simp at h, fun k b q h => by simp at h⟩
theorem PrRow.grown {B : Nat} {v : Value} {Q : List (Int × Int)} {bs : List Nat} {w w' : World} (h : PrRow B v Q bs w) (hg : w.grownBy w' none) : PrRow B v Q bs w' :=
  ⟨h.1.kept hg (by cases hv : v.ownBlock <;> simp), h.2.1, h.2.2.1, fun k b q hb hq => by
    obtain ⟨h1, h2⟩ := h.2.2.2 k b q hb hq
    exact ⟨h1, (hg.block b (Array.getElem?_eq_some_iff.1 h2).1 (by simp)).trans h2⟩⟩
theorem PrRow.later {B : Nat} {v : Value} {Q : List (Int × Int)} {bs : List Nat} {w w' : World} (h : PrRow B v Q bs w) (hb : Below w.heap.size w w') : PrRow B v Q bs w' := h.grown (below_grown hb)
theorem PrRow.alloc {B : Nat} {v : Value} {Q : List (Int × Int)} {bs : List Nat} {w : World} (h : PrRow B v Q bs w) (o : Obj) : PrRow B v Q bs (w.alloc o) := h.later (balloc0 _ _)
/-- No row of two is the row itself. -/
theorem PrRow.off {B : Nat} {v : Value} {Q : List (Int × Int)} {bs : List Nat} {w : World} (h : PrRow B v Q bs w) {k b : Nat} (hk : bs[k]? = some b) : v.ownBlock ≠ some b := by
  intro hv
  have hlt : k < Q.length := by have := (List.getElem?_eq_some_iff.1 hk).1; have := h.2.1; omega
  obtain ⟨_, h2⟩ := h.2.2.2 k b _ hk (List.getElem?_eq_getElem hlt)
  rcases h.1.2 with ⟨rfl, _⟩ | ⟨g, cap, cur, rfl, _, hg, _⟩
  · simp [Value.ownBlock] at hv
  · simp only [Value.ownBlock, Option.some.injEq] at hv
    subst hv
    rw [h2] at hg
    simp at hg
/-- One pair more. -/
theorem PrRow.push {B : Nat} {v v1 : Value} {Q : List (Int × Int)} {bs : List Nat} {wr w1 w2 : World} {x y : Int} {b : Nat} (h : PrRow B v Q bs wr) (hB : B ≤ wr.heap.size) (hb : b = wr.heap.size)
    (h1 : wr.grownBy w1 none) (hn : w1.heap[b]? = some (.cells #[.int .i64 x, .int .i64 y] 2 (0, 0)))
    (hown : w2.ownsRow B 31 1 v1 (Q.length + 1) (slVals bs ++ [.slice (some ⟨b, 0, none⟩) 2 2])) (hg : w1.grownBy w2 v.ownBlock) : PrRow B v1 (Q ++ [(x, y)]) (bs ++ [b]) w2 := by
  have hl := h.2.1
  have hlow : ∀ (k c : Nat), bs[k]? = some c → c < wr.heap.size := fun k c hk => by
    have hlt : k < Q.length := by have := (List.getElem?_eq_some_iff.1 hk).1; omega
    obtain ⟨_, h2⟩ := h.2.2.2 k c _ hk (List.getElem?_eq_getElem hlt)
    exact (Array.getElem?_eq_some_iff.1 h2).1
  have hbl : b < w1.heap.size := (Array.getElem?_eq_some_iff.1 hn).1
  have hvb : v.ownBlock ≠ some b := by
    intro hv
    have := (h.1.lt b hv).2
    omega
  refine ⟨by rw [slVals_snoc] at hown; simpa using hown, by simp [hl], fun i j c hi hj => ?_, fun k c q hk hq => ?_⟩
  · rw [List.getElem?_append] at hi hj
    split at hi <;> split at hj
    · exact h.2.2.1 i j c hi hj
    · have := hlow i c hi
      rcases hjj : j - bs.length with _ | m
      · rw [hjj] at hj; simp at hj; omega
      · rw [hjj] at hj; simp at hj
    · have := hlow j c hj
      rcases hii : i - bs.length with _ | m
      · rw [hii] at hi; simp at hi; omega
      · rw [hii] at hi; simp at hi
    · rcases hii : i - bs.length with _ | m
      · rcases hjj : j - bs.length with _ | m
        · omega
        · rw [hjj] at hj; simp at hj
      · rw [hii] at hi; simp at hi
  · rw [List.getElem?_append] at hk hq
    by_cases hlt : k < bs.length
    · rw [if_pos hlt] at hk
      rw [if_pos (by omega)] at hq
      obtain ⟨g1, g2⟩ := h.2.2.2 k c q hk hq
      have hc := hlow k c hk
      refine ⟨g1, ?_⟩
      rw [hg.block c (by have := h1.size; omega) (by have := h.off hk; exact fun e => this e.symm), h1.block c hc (by simp)]
      exact g2
    · rw [if_neg hlt] at hk
      rw [if_neg (by omega)] at hq
      rcases hkk : k - bs.length with _ | m
      · have hkq : k - Q.length = 0 := by omega
        rw [hkk] at hk
        rw [hkq] at hq
        simp at hk hq
        subst hk hq
        exact ⟨by omega, (hg.block _ hbl (fun e => hvb e.symm)).trans hn⟩
      · rw [hkk] at hk; simp at hk
/-- Rows of two numbers lie behind a slice. -/
def PrLie (v : Value) (Q : List (Int × Int)) (w : World) : Prop := (∃ a cap, v = .slice a Q.length cap) ∧ ∀ (k : Nat) (q : Int × Int), Q[k]? = some q → ∃ g cap b, v = .slice (some ⟨g, 0, none⟩) Q.length cap ∧ w.cell? ⟨g, k, none⟩ = some (.slice (some ⟨b, 0, none⟩) 2 2) ∧ IntAt w b 0 [q.1, q.2]
theorem PrLie.later {v : Value} {Q : List (Int × Int)} {w w' : World} (h : PrLie v Q w) (hb : Below w.heap.size w w') : PrLie v Q w' := ⟨h.1, fun k q hk => by
  obtain ⟨g, cap, b, h1, h2, h3⟩ := h.2 k q hk
  exact ⟨g, cap, b, h1, (hb.cell (World.block_lt_of_cell? w _ h2)).trans h2, h3.later hb⟩⟩
theorem ints2_at {w : World} {b : Nat} {x y : Int} (h : w.heap[b]? = some (.cells #[.int .i64 x, .int .i64 y] 2 (0, 0))) : IntAt w b 0 [x, y] := fun k z hk => by
  match k, hk with
  | 0, hk => cases hk; exact (cell_of_block h 0).trans rfl
  | 1, hk => cases hk; exact (cell_of_block h 1).trans rfl
theorem ints2_own {B : Nat} {w : World} {b : Nat} {x y : Int} (hB : B ≤ b) (h : w.heap[b]? = some (.cells #[.int .i64 x, .int .i64 y] 2 (0, 0))) : IntOwn B [x, y] b w :=
  ⟨hB, ints2_at h, fun j hj => by
    rw [Nat.zero_add]
    refine ⟨?_, unfrozen_of_block h j⟩
    match j, hj with
    | 0, _ => rw [(cell_of_block h 0).trans rfl]; rfl
    | 1, _ => rw [(cell_of_block h 1).trans rfl]; rfl, (Array.getElem?_eq_some_iff.1 h).1⟩
theorem PrRow.form {B : Nat} {v : Value} {Q : List (Int × Int)} {bs : List Nat} {w : World} (h : PrRow B v Q bs w) : (∃ a cap, v = .slice a Q.length cap) ∧ (0 < Q.length → ∃ g cap, v = .slice (some ⟨g, 0, none⟩) Q.length cap) := by
  rcases h.1.2 with ⟨rfl, h0⟩ | ⟨g, cap, cur, rfl, _⟩
  · exact ⟨⟨_, _, by rw [h0]⟩, fun hq => by omega⟩
  · exact ⟨⟨_, _, rfl⟩, fun _ => ⟨_, _, rfl⟩⟩
theorem PrRow.lies {B : Nat} {v : Value} {Q : List (Int × Int)} {bs : List Nat} {w : World} (h : PrRow B v Q bs w) : PrLie v Q w := ⟨h.form.1, fun k q hk => by
  have hlt := (List.getElem?_eq_some_iff.1 hk).1
  obtain ⟨g, cap, rfl⟩ := h.form.2 (by omega)
  have hb : bs[k]? = some (bs[k]'(by have := h.2.1; omega)) := List.getElem?_eq_getElem _
  obtain ⟨_, h2⟩ := h.2.2.2 k _ q hb hk
  refine ⟨g, cap, _, rfl, ?_, ints2_at h2⟩
  rw [World.ownsRow.cellAt h.1 k (by omega)]
  simp [slVals, hb]⟩
/-- Rows of two numbers that lie low. -/
def PrLow (B : Nat) (v : Value) (Q : List (Int × Int)) (w : World) : Prop := (∃ a cap, v = .slice a Q.length cap) ∧ ∀ (k : Nat) (q : Int × Int), Q[k]? = some q → ∃ g cap b, v = .slice (some ⟨g, 0, none⟩) Q.length cap ∧ g < B ∧ b < B ∧ w.cell? ⟨g, k, none⟩ = some (.slice (some ⟨b, 0, none⟩) 2 2) ∧ IntAt w b 0 [q.1, q.2]
theorem PrLow.of {v : Value} {Q : List (Int × Int)} {w : World} (h : PrLie v Q w) : PrLow w.heap.size v Q w := ⟨h.1, fun k q hk => by
  obtain ⟨g, cap, b, h1, h2, h3⟩ := h.2 k q hk
  exact ⟨g, cap, b, h1, World.block_lt_of_cell? w _ h2, World.block_lt_of_cell? w _ (h3 0 _ rfl), h2, h3⟩⟩
theorem PrLow.lies {B : Nat} {v : Value} {Q : List (Int × Int)} {w : World} (h : PrLow B v Q w) : PrLie v Q w := ⟨h.1, fun k q hk => by
  obtain ⟨g, cap, b, h1, _, _, h2, h3⟩ := h.2 k q hk
  exact ⟨g, cap, b, h1, h2, h3⟩⟩
theorem PrLow.later {B : Nat} {v : Value} {Q : List (Int × Int)} {w w' : World} (h : PrLow B v Q w) (hb : Below w.heap.size w w') : PrLow B v Q w' := ⟨h.1, fun k q hk => by
  obtain ⟨g, cap, b, h1, g1, b1, h2, h3⟩ := h.2 k q hk
  exact ⟨g, cap, b, h1, g1, b1, (hb.cell (World.block_lt_of_cell? w _ h2)).trans h2, h3.later hb⟩⟩
theorem PrLow.below {B n : Nat} {v : Value} {Q : List (Int × Int)} {w w' : World} (h : PrLow B v Q w) (hb : Below n w w') (hn : B ≤ n) : PrLow B v Q w' := ⟨h.1, fun k q hk => by
  obtain ⟨g, cap, b, h1, g1, b1, h2, h3⟩ := h.2 k q hk
  exact ⟨g, cap, b, h1, g1, b1, (hb.cell (p := ⟨g, k, none⟩) (by show g < n; omega)).trans h2, fun j z hj => (hb.cell (p := ⟨b, 0 + j, none⟩) (by show b < n; omega)).trans (h3 j z hj)⟩⟩
theorem PrLow.only {B g0 : Nat} {v : Value} {Q : List (Int × Int)} {w w' : World} (h : PrLow B v Q w) (ho : Only g0 w w') (hg : B ≤ g0) : PrLow B v Q w' := ⟨h.1, fun k q hk => by
  obtain ⟨g, cap, b, h1, g1, b1, h2, h3⟩ := h.2 k q hk
  refine ⟨g, cap, b, h1, g1, b1, ?_, fun j z hj => ?_⟩
  · rw [World.cell?_of_block (w := w) (a := ⟨g, k, none⟩) (ho.block g (World.block_lt_of_cell? w _ h2) (fun e => by cases e; omega))]
    exact h2
  · have h4 := h3 j z hj
    rw [World.cell?_of_block (w := w) (a := ⟨b, 0 + j, none⟩) (ho.block b (World.block_lt_of_cell? w _ h4) (fun e => by cases e; omega))]
    exact h4⟩
theorem PrRow.only {B g0 : Nat} {v : Value} {Q : List (Int × Int)} {bs : List Nat} {w w' : World} (h : PrRow B v Q bs w) (ho : Only g0 w w') (hg : g0 < B) : PrRow B v Q bs w' := by
  refine ⟨?_, h.2.1, h.2.2.1, fun k b q hb hq => ?_⟩
  · refine h.1.kept (row := some g0) ⟨ho.os, ho.tape, ho.output, ho.size, fun k hk hne => ho.block k hk (fun e => hne (by rw [e]))⟩ (.inr ?_)
    intro hv
    have := (h.1.lt g0 hv).1
    omega
  · obtain ⟨h1, h2⟩ := h.2.2.2 k b q hb hq
    exact ⟨h1, (ho.block b (Array.getElem?_eq_some_iff.1 h2).1 (fun e => by cases e; omega)).trans h2⟩

/-- The marks of pairs from K on. -/
def marksP (K n : Nat) : List (Int × Int) := (List.range n).map fun j => (((K + 2 * j : Nat) : Int), ((K + 2 * j + 1 : Nat) : Int))
theorem marksP_length (K n : Nat) : (marksP K n).length = n := by simp [marksP]
theorem marksP_at {K n k : Nat} (h : k < n) : (marksP K n)[k]? = some (((K + 2 * k : Nat) : Int), ((K + 2 * k + 1 : Nat) : Int)) := by simp [marksP, h]
theorem marksL_two (K : Nat) : marksL K 2 = [((K : Nat) : Int), ((K + 1 : Nat) : Int)] := by simp [marksL, List.range_succ]
theorem ints_only {w w' : World} {b c o : Nat} {P : List Int} (h : IntAt w b o P) (ho : Only c w w') (hne : b ≠ c) : IntAt w' b o P := fun k z hk => by
  have h4 := h k z hk
  rw [World.cell?_of_block (w := w) (a := ⟨b, o + k, none⟩) (ho.block b (World.block_lt_of_cell? w _ h4) (fun e => hne (by cases e; rfl)))]
  exact h4
end Go.Proofs.YtllcpgogfhjfpaaDoor
