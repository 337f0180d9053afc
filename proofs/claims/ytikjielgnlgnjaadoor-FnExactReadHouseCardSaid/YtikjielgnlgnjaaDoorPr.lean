/-
  Rows of pairs of numbers: they grow, they are read; what the laws ask of them: equality, marks.
-/
import Derived.Test.YtikjielgnlgnjaaDoorHoL
import Derived.Maps.AppendAt
namespace Go.Proofs.YtikjielgnlgnjaaDoor
open Go.ChangeShapes Go.WideShapes Go.ChangeAt Go.RowKit Go.Joins

def slVals (bs : List Nat) : List Value := bs.map fun b => .slice (some ⟨b, 0, none⟩) 2 2
theorem slVals_snoc (bs : List Nat) (b : Nat) : slVals bs ++ [.slice (some ⟨b, 0, none⟩) 2 2] = slVals (bs ++ [b]) := by simp [slVals]
theorem infoInts : (Tryd.prog.info? 22).map (fun i => (i.zero, i.size, i.bytes)) = some (some (.slice none 0 0), 1, 24) := by kernel_rfl
theorem below_grown {w w' : World} (h : Below w.heap.size w w') : w.grownBy w' none := ⟨h.os, h.tape, h.output, h.size, fun k hk _ => h.block k hk⟩
/-- A row of the call's own of rows of two numbers, each one a row of the call's own. -/
def PrRow (B : Nat) (v : Value) (Q : List (Int × Int)) (bs : List Nat) (w : World) : Prop :=
  w.ownsRow B 22 1 v Q.length (slVals bs) ∧ bs.length = Q.length ∧ (∀ (i j b : Nat), bs[i]? = some b → bs[j]? = some b → i = j) ∧
    ∀ (k b : Nat) (q : Int × Int), bs[k]? = some b → Q[k]? = some q → B ≤ b ∧ w.heap[b]? = some (.cells #[.int .i64 q.1, .int .i64 q.2] 2 (0, 0))
theorem PrRow.nil (B : Nat) (w : World) : PrRow B (.slice none 0 0) [] [] w := ⟨World.ownsRow_nil _ _ _ _, rfl, fun i j b h => by simp at h, fun k b q h => by simp at h⟩
theorem PrRow.grown {B : Nat} {v : Value} {Q : List (Int × Int)} {bs : List Nat} {w w' : World} (h : PrRow B v Q bs w) (hg : w.grownBy w' none) : PrRow B v Q bs w' :=
  ⟨h.1.kept hg (by cases hv : v.ownBlock <;> simp), h.2.1, h.2.2.1, fun k b q hb hq => by
    obtain ⟨h1, h2⟩ := h.2.2.2 k b q hb hq
    exact ⟨h1, (hg.block b (Array.getElem?_eq_some_iff.1 h2).1 (by simp)).trans h2⟩⟩
theorem PrRow.later {B : Nat} {v : Value} {Q : List (Int × Int)} {bs : List Nat} {w w' : World} (h : PrRow B v Q bs w) (hb : Below w.heap.size w w') : PrRow B v Q bs w' := h.grown (below_grown hb)
theorem PrRow.alloc {B : Nat} {v : Value} {Q : List (Int × Int)} {bs : List Nat} {w : World} (h : PrRow B v Q bs w) (o : Obj) : PrRow B v Q bs (w.alloc o) := h.later (balloc0 _ _)
/-- No row of two is the row itself. -/
theorem PrRow.off {B : Nat} {v : Value} {Q : List (Int × Int)} {bs : List Nat} {w : World} (h : PrRow B v Q bs w) {k b : Nat} (hk : bs[k]? = some b) : v.ownBlock ≠ some b := by
  intro hv
  have hlt : k < Q.length := by have := (List.getElem?_eq_some_iff.1 hk).1; have := h.2.1; omega
  obtain ⟨_, h2⟩ := h.2.2.2 k b _ hk (List.getElem?_eq_getElem hlt)
  rcases h.1.2 with ⟨rfl, _⟩ | ⟨g, cap, cur, rfl, _, hg, _⟩
  · simp [Value.ownBlock] at hv
  · simp only [Value.ownBlock, Option.some.injEq] at hv
    subst hv
    rw [h2] at hg
    simp at hg
/-- One pair more. -/
theorem PrRow.push {B : Nat} {v v1 : Value} {Q : List (Int × Int)} {bs : List Nat} {wr w1 w2 : World} {x y : Int} {b : Nat} (h : PrRow B v Q bs wr) (hB : B ≤ wr.heap.size) (hb : b = wr.heap.size)
    (h1 : wr.grownBy w1 none) (hn : w1.heap[b]? = some (.cells #[.int .i64 x, .int .i64 y] 2 (0, 0)))
    (hown : w2.ownsRow B 22 1 v1 (Q.length + 1) (slVals bs ++ [.slice (some ⟨b, 0, none⟩) 2 2])) (hg : w1.grownBy w2 v.ownBlock) : PrRow B v1 (Q ++ [(x, y)]) (bs ++ [b]) w2 := by
  have hl := h.2.1
  have hlow : ∀ (k c : Nat), bs[k]? = some c → c < wr.heap.size := fun k c hk => by
    have hlt : k < Q.length := by have := (List.getElem?_eq_some_iff.1 hk).1; omega
    obtain ⟨_, h2⟩ := h.2.2.2 k c _ hk (List.getElem?_eq_getElem hlt)
    exact (Array.getElem?_eq_some_iff.1 h2).1
  have hbl : b < w1.heap.size := (Array.getElem?_eq_some_iff.1 hn).1
  have hvb : v.ownBlock ≠ some b := by
    intro hv
    have := (h.1.lt b hv).2
    omega
  refine ⟨by rw [slVals_snoc] at hown; simpa using hown, by simp [hl], fun i j c hi hj => ?_, fun k c q hk hq => ?_⟩
  · rw [List.getElem?_append] at hi hj
    split at hi <;> split at hj
    · exact h.2.2.1 i j c hi hj
    · have := hlow i c hi
      rcases hjj : j - bs.length with _ | m
      · rw [hjj] at hj; simp at hj; omega
      · rw [hjj] at hj; simp at hj
    · have := hlow j c hj
      rcases hii : i - bs.length with _ | m
      · rw [hii] at hi; simp at hi; omega
      · rw [hii] at hi; simp at hi
    · rcases hii : i - bs.length with _ | m
      · rcases hjj : j - bs.length with _ | m
        · omega
        · rw [hjj] at hj; simp at hj
      · rw [hii] at hi; simp at hi
  · rw [List.getElem?_append] at hk hq
    by_cases hlt : k < bs.length
    · rw [if_pos hlt] at hk
      rw [if_pos (by omega)] at hq
      obtain ⟨g1, g2⟩ := h.2.2.2 k c q hk hq
      have hc := hlow k c hk
      refine ⟨g1, ?_⟩
      rw [hg.block c (by have := h1.size; omega) (by have := h.off hk; exact fun e => this e.symm), h1.block c hc (by simp)]
      exact g2
    · rw [if_neg hlt] at hk
      rw [if_neg (by omega)] at hq
      rcases hkk : k - bs.length with _ | m
      · have hkq : k - Q.length = 0 := by omega
        rw [hkk] at hk
        rw [hkq] at hq
        simp at hk hq
        subst hk hq
        exact ⟨by omega, (hg.block _ hbl (fun e => hvb e.symm)).trans hn⟩
      · rw [hkk] at hk; simp at hk
/-- Rows of two numbers lie behind a slice. -/
def PrLie (v : Value) (Q : List (Int × Int)) (w : World) : Prop := (∃ a cap, v = .slice a Q.length cap) ∧ ∀ (k : Nat) (q : Int × Int), Q[k]? = some q → ∃ g cap b, v = .slice (some ⟨g, 0, none⟩) Q.length cap ∧ w.cell? ⟨g, k, none⟩ = some (.slice (some ⟨b, 0, none⟩) 2 2) ∧ IntAt w b 0 [q.1, q.2]
theorem PrLie.later {v : Value} {Q : List (Int × Int)} {w w' : World} (h : PrLie v Q w) (hb : Below w.heap.size w w') : PrLie v Q w' := ⟨h.1, fun k q hk => by
  obtain ⟨g, cap, b, h1, h2, h3⟩ := h.2 k q hk
  exact ⟨g, cap, b, h1, (hb.cell (World.block_lt_of_cell? w _ h2)).trans h2, h3.later hb⟩⟩
theorem ints2_at {w : World} {b : Nat} {x y : Int} (h : w.heap[b]? = some (.cells #[.int .i64 x, .int .i64 y] 2 (0, 0))) : IntAt w b 0 [x, y] := fun k z hk => by
  match k, hk with
  | 0, hk => cases hk; exact (cell_of_block h 0).trans rfl
  | 1, hk => cases hk; exact (cell_of_block h 1).trans rfl
theorem ints2_own {B : Nat} {w : World} {b : Nat} {x y : Int} (hB : B ≤ b) (h : w.heap[b]? = some (.cells #[.int .i64 x, .int .i64 y] 2 (0, 0))) : IntOwn B [x, y] b w :=
  ⟨hB, ints2_at h, fun j hj => by
    rw [Nat.zero_add]
    refine ⟨?_, unfrozen_of_block h j⟩
    match j, hj with
    | 0, _ => rw [(cell_of_block h 0).trans rfl]; rfl
    | 1, _ => rw [(cell_of_block h 1).trans rfl]; rfl, (Array.getElem?_eq_some_iff.1 h).1⟩
theorem PrRow.form {B : Nat} {v : Value} {Q : List (Int × Int)} {bs : List Nat} {w : World} (h : PrRow B v Q bs w) : (∃ a cap, v = .slice a Q.length cap) ∧ (0 < Q.length → ∃ g cap, v = .slice (some ⟨g, 0, none⟩) Q.length cap) := by
  rcases h.1.2 with ⟨rfl, h0⟩ | ⟨g, cap, cur, rfl, _⟩
  · exact ⟨⟨_, _, by rw [h0]⟩, fun hq => by omega⟩
  · exact ⟨⟨_, _, rfl⟩, fun _ => ⟨_, _, rfl⟩⟩
theorem PrRow.lies {B : Nat} {v : Value} {Q : List (Int × Int)} {bs : List Nat} {w : World} (h : PrRow B v Q bs w) : PrLie v Q w := ⟨h.form.1, fun k q hk => by
  have hlt := (List.getElem?_eq_some_iff.1 hk).1
  obtain ⟨g, cap, rfl⟩ := h.form.2 (by omega)
  have hb : bs[k]? = some (bs[k]'(by have := h.2.1; omega)) := List.getElem?_eq_getElem _
  obtain ⟨_, h2⟩ := h.2.2.2 k _ q hb hk
  refine ⟨g, cap, _, rfl, ?_, ints2_at h2⟩
  rw [World.ownsRow.cellAt h.1 k (by omega)]
  simp [slVals, hb]⟩
/-- Rows of two numbers that lie low. -/
def PrLow (B : Nat) (v : Value) (Q : List (Int × Int)) (w : World) : Prop := (∃ a cap, v = .slice a Q.length cap) ∧ ∀ (k : Nat) (q : Int × Int), Q[k]? = some q → ∃ g cap b, v = .slice (some ⟨g, 0, none⟩) Q.length cap ∧ g < B ∧ b < B ∧ w.cell? ⟨g, k, none⟩ = some (.slice (some ⟨b, 0, none⟩) 2 2) ∧ IntAt w b 0 [q.1, q.2]
theorem PrLow.of {v : Value} {Q : List (Int × Int)} {w : World} (h : PrLie v Q w) : PrLow w.heap.size v Q w := ⟨h.1, fun k q hk => by
  obtain ⟨g, cap, b, h1, h2, h3⟩ := h.2 k q hk
  exact ⟨g, cap, b, h1, World.block_lt_of_cell? w _ h2, World.block_lt_of_cell? w _ (h3 0 _ rfl), h2, h3⟩⟩
theorem PrLow.lies {B : Nat} {v : Value} {Q : List (Int × Int)} {w : World} (h : PrLow B v Q w) : PrLie v Q w := ⟨h.1, fun k q hk => by
  obtain ⟨g, cap, b, h1, _, _, h2, h3⟩ := h.2 k q hk
  exact ⟨g, cap, b, h1, h2, h3⟩⟩
theorem PrLow.later {B : Nat} {v : Value} {Q : List (Int × Int)} {w w' : World} (h : PrLow B v Q w) (hb : Below w.heap.size w w') : PrLow B v Q w' := ⟨h.1, fun k q hk => by
  obtain ⟨g, cap, b, h1, g1, b1, h2, h3⟩ := h.2 k q hk
  exact ⟨g, cap, b, h1, g1, b1, (hb.cell (World.block_lt_of_cell? w _ h2)).trans h2, h3.later hb⟩⟩
theorem PrLow.below {B n : Nat} {v : Value} {Q : List (Int × Int)} {w w' : World} (h : PrLow B v Q w) (hb : Below n w w') (hn : B ≤ n) : PrLow B v Q w' := ⟨h.1, fun k q hk => by
  obtain ⟨g, cap, b, h1, g1, b1, h2, h3⟩ := h.2 k q hk
  exact ⟨g, cap, b, h1, g1, b1, (hb.cell (p := ⟨g, k, none⟩) (by show g < n; omega)).trans h2, fun j z hj => (hb.cell (p := ⟨b, 0 + j, none⟩) (by show b < n; omega)).trans (h3 j z hj)⟩⟩
theorem PrLow.only {B g0 : Nat} {v : Value} {Q : List (Int × Int)} {w w' : World} (h : PrLow B v Q w) (ho : Only g0 w w') (hg : B ≤ g0) : PrLow B v Q w' := ⟨h.1, fun k q hk => by
  obtain ⟨g, cap, b, h1, g1, b1, h2, h3⟩ := h.2 k q hk
  refine ⟨g, cap, b, h1, g1, b1, ?_, fun j z hj => ?_⟩
  · rw [World.cell?_of_block (w := w) (a := ⟨g, k, none⟩) (ho.block g (World.block_lt_of_cell? w _ h2) (fun e => by cases e; omega))]
    exact h2
  · have h4 := h3 j z hj
    rw [World.cell?_of_block (w := w) (a := ⟨b, 0 + j, none⟩) (ho.block b (World.block_lt_of_cell? w _ h4) (fun e => by cases e; omega))]
    exact h4⟩
theorem PrRow.only {B g0 : Nat} {v : Value} {Q : List (Int × Int)} {bs : List Nat} {w w' : World} (h : PrRow B v Q bs w) (ho : Only g0 w w') (hg : g0 < B) : PrRow B v Q bs w' := by
  refine ⟨?_, h.2.1, h.2.2.1, fun k b q hb hq => ?_⟩
  · refine h.1.kept (row := some g0) ⟨ho.os, ho.tape, ho.output, ho.size, fun k hk hne => ho.block k hk (fun e => hne (by rw [e]))⟩ (.inr ?_)
    intro hv
    have := (h.1.lt g0 hv).1
    omega
  · obtain ⟨h1, h2⟩ := h.2.2.2 k b q hb hq
    exact ⟨h1, (ho.block b (Array.getElem?_eq_some_iff.1 h2).1 (fun e => by cases e; omega)).trans h2⟩

set_option maxRecDepth 100000 in
set_option maxHeartbeats 3200000 in
theorem eq_prs (Q : List (Int × Int)) (v v' : Value) (hl : Q.length ≤ 1048577) (w : World) (h : PrLie v Q w) (h' : PrLie v' Q w) :
    Calls Tryd.prog 34 #[v, v'] w fun e w' => e = .returned (.bool true) ∧ Below w.heap.size w w' := by
  obtain ⟨⟨a, cap, rfl⟩, h⟩ := h
  obtain ⟨⟨a', cap', rfl⟩, h'⟩ := h'
  have HA : Hid (∀ wx, Below w.heap.size w wx → PrLie (.slice a Q.length cap) Q wx) := fun wx hx => PrLie.later ⟨⟨_, _, rfl⟩, h⟩ hx
  have HA' : Hid (∀ wx, Below w.heap.size w wx → PrLie (.slice a' Q.length cap') Q wx) := fun wx hx => PrLie.later ⟨⟨_, _, rfl⟩, h'⟩ hx
  clear h h'
  go_enter Tryd.func34, Tryd.ntmps34
  go_wp2
  go_loopw [5] (fun i wr => ∃ k : Nat, k ≤ Q.length ∧ i = .int .i64 k ∧ Hid (Below w.heap.size w wr)) (fun i _ => Q.length - (intOf i).toNat)
  case atStart => exact ⟨0, Nat.zero_le _, rfl, Below.refl _ _⟩
  case round =>
    obtain ⟨k, hk, rfl, hB⟩ := hrel
    by_cases hlt : k < Q.length
    · have hlt' : (k : Int) < (Q.length : Int) := by omega
      have hk0 : (0 : Int) ≤ (k : Int) := by omega
      obtain ⟨g, c, b, e1, c0, i0⟩ := (HA.out wr hB.out).2 k _ (List.getElem?_eq_getElem hlt)
      obtain ⟨g', c', b', e1', c0', i0'⟩ := (HA'.out wr hB.out).2 k _ (List.getElem?_eq_getElem hlt)
      simp only [Value.slice.injEq] at e1 e1'
      obtain ⟨rfl, _, rfl⟩ := e1
      obtain ⟨rfl, _, rfl⟩ := e1'
      obtain ⟨q, hq⟩ : ∃ q, Q[k]'hlt = q := ⟨_, rfl⟩
      rw [hq] at i0 i0'
      clear hq
      have C := Lib.hid (fun wx (hx : Below wr.heap.size wr wx) => eq_ints [q.1, q.2] (some ⟨b, 0, none⟩) (some ⟨b', 0, none⟩) 2 2 (by simp) wx (.inr ⟨b, 0, rfl, i0.later hx⟩) (.inr ⟨b', 0, rfl, i0'.later hx⟩))
      have c1 : wr.drew.cell? ⟨g, k, none⟩ = some (.slice (some ⟨b, 0, none⟩) 2 2) := c0
      have c1' : wr.drew.cell? ⟨g', k, none⟩ = some (.slice (some ⟨b', 0, none⟩) 2 2) := c0'
      clear i0 i0'
      go_wp2_with fail
      go_region_with (go_at_call 28; refine (C.out _ (Below.refl _ wr).drew).mono ?_; rintro e w1 ⟨rfl, hb1⟩; have B1 := Lib.hid hb1; clear hb1)
      all_goals
        go_wp2
        go_roundw
        case rel => exact ⟨k + 1, by omega, by go_num, bnext hB.out.drew B1.out⟩
        case measure => simp [intOf]; omega
    · have hge : ¬ (k : Int) < (Q.length : Int) := by omega
      go_wp2
      go_ret
      exact ⟨rfl, hB.out⟩
/-- The marks of pairs from K on. -/
def marksP (K n : Nat) : List (Int × Int) := (List.range n).map fun j => (((K + 2 * j : Nat) : Int), ((K + 2 * j + 1 : Nat) : Int))
theorem marksP_length (K n : Nat) : (marksP K n).length = n := by simp [marksP]
theorem marksP_at {K n k : Nat} (h : k < n) : (marksP K n)[k]? = some (((K + 2 * k : Nat) : Int), ((K + 2 * k + 1 : Nat) : Int)) := by simp [marksP, h]
theorem marksL_two (K : Nat) : marksL K 2 = [((K : Nat) : Int), ((K + 1 : Nat) : Int)] := by simp [marksL, List.range_succ]
theorem ints_only {w w' : World} {b c o : Nat} {P : List Int} (h : IntAt w b o P) (ho : Only c w w') (hne : b ≠ c) : IntAt w' b o P := fun k z hk => by
  have h4 := h k z hk
  rw [World.cell?_of_block (w := w) (a := ⟨b, o + k, none⟩) (ho.block b (World.block_lt_of_cell? w _ h4) (fun e => hne (by cases e; rfl)))]
  exact h4
set_option maxRecDepth 100000 in
set_option maxHeartbeats 3200000 in
theorem mark_prs (Q : List (Int × Int)) (hn : Q.length ≤ 1048577) (K : Nat) (hK2 : K ≤ 1000000) (B : Nat) (v : Value) (bs : List Nat) (w : World) (hB : B ≤ w.heap.size) (h : PrRow B v Q bs w) :
    Calls Tryd.prog 35 #[v, .int .i64 K] w fun e w' => e = .returned (.int .i64 ((K + 2 * Q.length : Nat) : Int)) ∧ Below B w w' ∧ PrLie v (marksP K Q.length) w' := by
  obtain ⟨a, cap, rfl⟩ := h.form.1
  have HL := Lib.hid h.2.1
  have HI := Lib.hid h.2.2.1
  have H0 : Hid (∀ (k b : Nat) (q : Int × Int), bs[k]? = some b → Q[k]? = some q → IntOwn B [q.1, q.2] b w) := fun k b q hb hq => by
    obtain ⟨h1, h2⟩ := h.2.2.2 k b q hb hq
    exact ints2_own h1 h2
  have HG : Hid (∀ (k b : Nat), bs[k]? = some b → ∃ g, a = some ⟨g, 0, none⟩ ∧ b ≠ g ∧ w.cell? ⟨g, k, none⟩ = some (.slice (some ⟨b, 0, none⟩) 2 2)) := fun k b hb => by
    have hlt : k < Q.length := by have := (List.getElem?_eq_some_iff.1 hb).1; have := h.2.1; omega
    obtain ⟨g, c, hv⟩ := h.form.2 (by omega)
    simp only [Value.slice.injEq] at hv
    obtain ⟨rfl, _, rfl⟩ := hv
    refine ⟨g, rfl, fun e => h.off hb (by simp [Value.ownBlock, e]), ?_⟩
    rw [World.ownsRow.cellAt h.1 k (by omega)]
    simp [slVals, hb]
  clear h
  go_enter Tryd.func35, Tryd.ntmps35
  go_wp2
  go_loopw [1, 5] (fun u i wr => ∃ (k : Nat), k ≤ Q.length ∧ u = .int .i64 ((K + 2 * k : Nat) : Int) ∧ i = .int .i64 k ∧ Hid (∀ (j b : Nat), j < k → bs[j]? = some b → IntAt wr b 0 [((K + 2 * j : Nat) : Int), ((K + 2 * j + 1 : Nat) : Int)]) ∧ Hid (∀ (j b : Nat) (q : Int × Int), k ≤ j → bs[j]? = some b → Q[j]? = some q → IntOwn B [q.1, q.2] b wr) ∧ Hid (∀ (k b : Nat), bs[k]? = some b → ∃ g, a = some ⟨g, 0, none⟩ ∧ b ≠ g ∧ wr.cell? ⟨g, k, none⟩ = some (.slice (some ⟨b, 0, none⟩) 2 2)) ∧ Hid (Below B w wr)) (fun _ i _ => Q.length - (intOf i).toNat)
  case atStart => exact ⟨0, Nat.zero_le _, rfl, rfl, fun j b hj => by omega, fun j b q _ => H0.out j b q, HG.out, Below.refl _ _⟩
  case round =>
    obtain ⟨k, hk, rfl, rfl, hM, hU, hG, hb⟩ := hrel
    by_cases hlt : k < Q.length
    · have hlt' : (k : Int) < (Q.length : Int) := by omega
      have hk0 : (0 : Int) ≤ (k : Int) := by omega
      have hbk : bs[k]? = some (bs[k]'(by have := HL.out; omega)) := List.getElem?_eq_getElem _
      obtain ⟨b, hbe⟩ : ∃ b, bs[k]'(by have := HL.out; omega) = b := ⟨_, rfl⟩
      rw [hbe] at hbk
      obtain ⟨g, rfl, hne, c0⟩ := hG.out k b hbk
      have HBK := Lib.hid hbk
      have O := hU.out k b _ (Nat.le_refl _) hbk (List.getElem?_eq_getElem hlt)
      obtain ⟨q, hq⟩ : ∃ q, Q[k]'hlt = q := ⟨_, rfl⟩
      rw [hq] at O
      clear hq hbe hbk
      have C := Lib.hid (fun wx (hx : Below wr.heap.size wr wx) => mark_ints [q.1, q.2] (by simp) (K + 2 * k) (by have := hn; omega) B b 2 wx (O.later hx))
      have hbB := O.1
      clear O
      go_wp2_with fail
      refine (C.out _ (Below.refl _ _)).mono ?_
      rintro e w1 ⟨rfl, ho, hm⟩
      have ME : Hid (IntAt w1 b 0 [((K + 2 * k : Nat) : Int), ((K + 2 * k + 1 : Nat) : Int)]) := by
        have := hm.2.1
        rwa [show marksL (K + 2 * k) [q.1, q.2].length = marksL (K + 2 * k) 2 from rfl, marksL_two] at this
      have M1 : Hid (∀ (j b : Nat), j < k + 1 → bs[j]? = some b → IntAt w1 b 0 [((K + 2 * j : Nat) : Int), ((K + 2 * j + 1 : Nat) : Int)]) := fun j c hj hc => by
        by_cases e : j = k
        · subst e
          have := HBK.out
          rw [hc] at this
          cases this
          exact ME.out
        · exact ints_only (hM.out j c (by omega) hc) ho (fun e2 => e (by subst e2; exact HI.out j k c hc HBK.out))
      have U1 : Hid (∀ (j b : Nat) (q : Int × Int), k + 1 ≤ j → bs[j]? = some b → Q[j]? = some q → IntOwn B [q.1, q.2] b w1) := fun j c q hj hc hq =>
        (hU.out j c q (by omega) hc hq).only ho (fun e2 => by subst e2; have := HI.out j k c hc HBK.out; omega)
      have G1 : Hid (∀ (j c : Nat), bs[j]? = some c → ∃ g', (some (⟨g, 0, none⟩ : Addr)) = some ⟨g', 0, none⟩ ∧ c ≠ g' ∧ w1.cell? ⟨g', j, none⟩ = some (.slice (some ⟨c, 0, none⟩) 2 2)) := fun j c hc => by
        obtain ⟨g', e1, e2, e3⟩ := hG.out j c hc
        cases e1
        refine ⟨g, rfl, e2, ?_⟩
        rw [World.cell?_of_block (w := wr) (a := ⟨g, j, none⟩) (ho.block g (World.block_lt_of_cell? wr _ e3) (fun e => hne (by cases e; rfl)))]
        exact e3
      have B1 : Hid (Below B w w1) := hb.out.trans (ho.base hbB (Nat.le_trans hB hb.out.size))
      clear ho hm
      go_wp2
      go_roundw
      case rel => exact ⟨k + 1, by omega, by simp; omega, by go_num, M1.out, U1.out, G1.out, B1.out⟩
      case measure => simp [intOf]; omega
    · have hge : ¬ (k : Int) < (Q.length : Int) := by omega
      have hkn : k = Q.length := by omega
      subst hkn
      go_wp2
      go_ret
      refine ⟨rfl, hb.out, ⟨a, cap, by rw [marksP_length]⟩, fun j q hj => ?_⟩
      have hl := (List.getElem?_eq_some_iff.1 hj).1
      rw [marksP_length] at hl
      rw [marksP_at hl] at hj
      cases hj
      have hbj : bs[j]? = some (bs[j]'(by have := HL.out; omega)) := List.getElem?_eq_getElem _
      obtain ⟨g, rfl, _, e3⟩ := hG.out j _ hbj
      exact ⟨g, cap, _, by rw [marksP_length], e3, hM.out j _ hl hbj⟩
set_option maxRecDepth 100000 in
set_option maxHeartbeats 3200000 in
theorem held_prs (n : Nat) (hn : n ≤ 1048577) (K : Nat) (hK2 : K ≤ 1000000) (v : Value) (w : World) (h : PrLie v (marksP K n) w) :
    Calls Tryd.prog 36 #[v, .int .i64 K] w fun e w' => e = .returned (.int .i64 ((K + 2 * n : Nat) : Int)) ∧ Below w.heap.size w w' := by
  obtain ⟨⟨a, cap, rfl⟩, h⟩ := h
  have H : Hid (∀ wx, Below w.heap.size w wx → PrLie (.slice a (marksP K n).length cap) (marksP K n) wx) := fun wx hx => PrLie.later ⟨⟨_, _, rfl⟩, h⟩ hx
  clear h
  rw [marksP_length] at H ⊢
  go_enter Tryd.func36, Tryd.ntmps36
  go_wp2
  go_loopw [1, 5] (fun u i wr => ∃ (k : Nat), k ≤ n ∧ u = .int .i64 ((K + 2 * k : Nat) : Int) ∧ i = .int .i64 k ∧ Hid (Below w.heap.size w wr)) (fun _ i _ => n - (intOf i).toNat)
  case atStart => exact ⟨0, Nat.zero_le _, rfl, rfl, Below.refl _ _⟩
  case round =>
    obtain ⟨k, hk, rfl, rfl, hb⟩ := hrel
    by_cases hlt : k < n
    · have hlt' : (k : Int) < (n : Int) := by omega
      have hk0 : (0 : Int) ≤ (k : Int) := by omega
      obtain ⟨g, c, b, e1, c0, i0⟩ := (H.out wr hb.out).2 k _ (marksP_at hlt)
      simp only [Value.slice.injEq] at e1
      obtain ⟨rfl, -, rfl⟩ := e1
      have C := Lib.hid (fun wx (hx : Below wr.heap.size wr wx) => held_ints 2 (by omega) (K + 2 * k) (by omega) b 2 wx (by rw [marksL_two]; exact i0.later hx))
      clear i0
      go_wp2_with fail
      refine (C.out _ (Below.refl _ _)).mono ?_
      rintro e w1 ⟨rfl, hb1⟩
      have B1 := Lib.hid (bnext hb.out hb1)
      clear hb1
      have hnn : ¬ ((K + 2 * k + 2 : Nat) : Int) < 0 := by omega
      go_wp2
      go_roundw
      case rel => exact ⟨k + 1, by omega, by simp; omega, by go_num, B1.out⟩
      case measure => simp [intOf]; omega
    · have hge : ¬ (k : Int) < (n : Int) := by omega
      have hkn : k = n := by omega
      subst hkn
      go_wp2
      go_ret
      exact ⟨rfl, hb.out⟩
end Go.Proofs.YtikjielgnlgnjaaDoor
