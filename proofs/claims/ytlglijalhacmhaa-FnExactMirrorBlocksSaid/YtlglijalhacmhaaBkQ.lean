/-
  Three rows of numbers that grow in one box.
-/
import Derived.Test.YtlglijalhacmhaaBkM
import Derived.Test.YtlglijalhacmhaaApp
namespace Go.Proofs.Ytlglijalhacmhaa
open Go.ChangeShapes Go.WideShapes Go.ChangeAt Go.RowKit Go.Joins

def Apart (u v : Option Nat) : Prop := u = none ∨ v = none ∨ u ≠ v
theorem IRow.keep {B : Nat} {D : List Int} {a : Option Addr} {cp : Nat} {w w' : World} {o : Option Nat} (h : IRow B D a cp w) (hg : w.grownBy w' o) (hne : Apart (Value.slice a D.length cp).ownBlock o) : IRow B D a cp w' := by
  refine ⟨h.1, ?_⟩
  rcases h.2 with hn | ⟨g, cap, cur, hv, hB, hgg, rest⟩
  · exact .inl hn
  · refine .inr ⟨g, cap, cur, hv, hB, (hg.block g (Array.getElem?_eq_some_iff.1 hgg).1 (fun e => ?_)).trans hgg, rest⟩
    obtain ⟨rfl, -⟩ : a = some ⟨g, 0, none⟩ ∧ cp = cap := by simpa using hv
    rcases hne with h1 | h1 | h1
    · cases h1
    · rw [h1] at e; cases e
    · exact h1 e
theorem IRow.set {B : Nat} {D : List Int} {a : Option Addr} {cp b o : Nat} {u : Value} {w : World} (h : IRow B D a cp w) (hb : b < B) : IRow B D a cp (w.setCell ⟨b, o, none⟩ u) := ownsRow_setCell_below h hb u
theorem IRow.own_lt {B : Nat} {D : List Int} {a : Option Addr} {cp : Nat} {w : World} (h : IRow B D a cp w) {k : Nat} (e : (Value.slice a D.length cp).ownBlock = some k) : B ≤ k ∧ k < w.heap.size := by
  rcases h.2 with ⟨hn, _⟩ | ⟨g, cap, cur, hv, hB, hgg, rest⟩
  · simp at hn
    rw [hn.1] at e
    cases e
  · obtain ⟨rfl, -⟩ : a = some ⟨g, 0, none⟩ ∧ cp = cap := by simpa using hv
    cases e
    exact ⟨hB, (Array.getElem?_eq_some_iff.1 hgg).1⟩
/-- The box of the argument (n), the box of the answer (n4), its three rows. -/
def MirAt (w : World) (n n4 : Nat) (X : Bk) (a b c : Option Addr) (ca cb cc : Nat) (D0 D1 D2 : List Int) (a0 a1 a2 : Option Addr) (c0 c1 c2 : Nat) (wr : World) : Prop :=
  BkBox n X a b c ca cb cc wr ∧ wr.heap[n4]? = some (.cells #[.slice a0 D0.length c0, .slice a1 D1.length c1, .slice a2 D2.length c2] 27 (0, 0)) ∧ IRow (n4 + 1) D0 a0 c0 wr ∧ IRow (n4 + 1) D1 a1 c1 wr ∧ IRow (n4 + 1) D2 a2 c2 wr ∧
  Apart (.slice a0 D0.length c0 : Value).ownBlock (.slice a1 D1.length c1 : Value).ownBlock ∧ Apart (.slice a0 D0.length c0 : Value).ownBlock (.slice a2 D2.length c2 : Value).ownBlock ∧ Apart (.slice a1 D1.length c1 : Value).ownBlock (.slice a2 D2.length c2 : Value).ownBlock ∧ Below w.heap.size w wr ∧ w.heap.size ≤ n4 ∧ n + 1 < n4 ∧ n4 + 1 ≤ wr.heap.size ∧ wr.heap[n + 1]? = some (.cells #[.slice none 0 0, .slice none 0 0, .slice none 0 0] 27 (0, 0))
theorem MirAt.drewN {w : World} {n n4 : Nat} {X : Bk} {a b c : Option Addr} {ca cb cc : Nat} {D0 D1 D2 : List Int} {a0 a1 a2 : Option Addr} {c0 c1 c2 : Nat} {wr : World} (h : MirAt w n n4 X a b c ca cb cc D0 D1 D2 a0 a1 a2 c0 c1 c2 wr) (m : Nat) : MirAt w n n4 X a b c ca cb cc D0 D1 D2 a0 a1 a2 c0 c1 c2 (wr.drewN m) := by
  obtain ⟨h1, h2, h3, h4, h5, h6, h7, h8, h9, h10⟩ := h
  exact ⟨h1, h2, h3, h4, h5, h6, h7, h8, below_drewN h9 m, h10⟩
theorem MirAt.drew {w : World} {n n4 : Nat} {X : Bk} {a b c : Option Addr} {ca cb cc : Nat} {D0 D1 D2 : List Int} {a0 a1 a2 : Option Addr} {c0 c1 c2 : Nat} {wr : World} (h : MirAt w n n4 X a b c ca cb cc D0 D1 D2 a0 a1 a2 c0 c1 c2 wr) : MirAt w n n4 X a b c ca cb cc D0 D1 D2 a0 a1 a2 c0 c1 c2 wr.drew := by
  obtain ⟨h1, h2, h3, h4, h5, h6, h7, h8, h9, h10⟩ := h
  exact ⟨h1, h2, h3, h4, h5, h6, h7, h8, h9.drew, h10⟩
theorem apart_symm {u v : Option Nat} (h : Apart u v) : Apart v u := by
  rcases h with h | h | h
  · exact .inr (.inl h)
  · exact .inl h
  · exact .inr (.inr (Ne.symm h))
set_option maxHeartbeats 1600000 in
theorem MirAt.push0 {w : World} {n n4 : Nat} {X : Bk} {a b c : Option Addr} {ca cb cc : Nat} {D0 D1 D2 : List Int} {a0 a1 a2 : Option Addr} {c0 c1 c2 : Nat} {wr : World} (h : MirAt w n n4 X a b c ca cb cc D0 D1 D2 a0 a1 a2 c0 c1 c2 wr) {z : Int} {v : Value} {w3 : World} (hown : w3.ownsRow (n4 + 1) 2 1 v (D0.length + 1) (intVals D0 ++ [.int .i64 z])) (hg : (wr.alloc (.cells #[.int .i64 z] 2)).grownBy w3 (.slice a0 D0.length c0 : Value).ownBlock)
    (hb : v.ownBlock = (.slice a0 D0.length c0 : Value).ownBlock ∨ v.ownBlock = some (wr.alloc (.cells #[.int .i64 z] 2)).heap.size) : ∃ g cp, v = .slice (some ⟨g, 0, none⟩) (D0 ++ [z]).length cp ∧ w3.frozen? ⟨n4, 0, none⟩ = false ∧ (w3.cell? ⟨n4, 0, none⟩).isSome = true ∧ MirAt w n n4 X a b c ca cb cc (D0 ++ [z]) D1 D2 (some ⟨g, 0, none⟩) a1 a2 cp c1 c2 (w3.setCell ⟨n4, 0, none⟩ v) := by
  obtain ⟨h1, h2, h3, h4, h5, h6, h7, h8, h9, h10, h11, h12, h13⟩ := h
  obtain ⟨g, cp, rfl, o⟩ := IRow.snoc hown
  have hV : (wr.alloc (.cells #[.int .i64 z] 2)).heap.size = wr.heap.size + 1 := by simp
  have IQ := h3
  have hlow : ∀ k, (.slice a0 D0.length c0 : Value).ownBlock = some k → n4 + 1 ≤ k := fun k e => (IQ.own_lt e).1
  have b0 := balloc0 wr (.cells #[.int .i64 z] 2)
  have hn4 : some n4 ≠ (.slice a0 D0.length c0 : Value).ownBlock := fun e => by have := hlow n4 e.symm; omega
  have er : w3.heap[n + 1]? = some (.cells #[.slice none 0 0, .slice none 0 0, .slice none 0 0] 27 (0, 0)) := (hg.block (n + 1) (by omega) (fun e => by have := hlow (n + 1) e.symm; omega)).trans ((b0.block (n + 1) (by omega)).trans h13)
  have hn : some n ≠ (.slice a0 D0.length c0 : Value).ownBlock := fun e => by have := hlow n e.symm; omega
  have e4 : w3.heap[n4]? = some (.cells #[.slice a0 D0.length c0, .slice a1 D1.length c1, .slice a2 D2.length c2] 27 (0, 0)) := (hg.block n4 (by omega) hn4).trans ((b0.block n4 (by omega)).trans h2)
  have en : BkBox n X a b c ca cb cc w3 := by
    have k1 := h1.later b0
    have hbk := hg.block n (by omega) hn
    exact ⟨(World.cell?_of_block (a := ⟨n, 0, none⟩) hbk).trans k1.1, (World.cell?_of_block (a := ⟨n, 1, none⟩) hbk).trans k1.2.1, (World.cell?_of_block (a := ⟨n, 2, none⟩) hbk).trans k1.2.2⟩
  have I1 : IRow (n4 + 1) D1 a1 c1 w3 := (h4.later b0).keep hg (apart_symm h6)
  have N1 : Apart (.slice a1 D1.length c1 : Value).ownBlock (.slice (some ⟨g, 0, none⟩) (D0 ++ [z]).length cp : Value).ownBlock := by
    rcases hb with hb | hb
    · rw [hb]; exact (apart_symm h6)
    · rw [hb]
      by_cases e : (.slice a1 D1.length c1 : Value).ownBlock = some (wr.alloc (.cells #[.int .i64 z] 2)).heap.size
      · have := (h4.own_lt e).2; omega
      · exact .inr (.inr e)
  have I2 : IRow (n4 + 1) D2 a2 c2 w3 := (h5.later b0).keep hg (apart_symm h7)
  have N2 : Apart (.slice a2 D2.length c2 : Value).ownBlock (.slice (some ⟨g, 0, none⟩) (D0 ++ [z]).length cp : Value).ownBlock := by
    rcases hb with hb | hb
    · rw [hb]; exact (apart_symm h7)
    · rw [hb]
      by_cases e : (.slice a2 D2.length c2 : Value).ownBlock = some (wr.alloc (.cells #[.int .i64 z] 2)).heap.size
      · have := (h5.own_lt e).2; omega
      · exact .inr (.inr e)
  refine ⟨g, cp, rfl, unfrozen_of_block e4 0, ?_, ?_, heap_setCell_same _ _ _ _ _ _ e4, o.set (by omega), I1.set (by omega), I2.set (by omega), apart_symm N1, apart_symm N2, h8, ?_, h10, h11, ?_, (heap_setCell_other _ _ _ _ (by show n + 1 ≠ n4; omega)).trans er⟩
  · rw [cell_of_block e4 0]; rfl
  · exact ⟨(World.cell?_setCell_far _ _ _ _ (by show n4 ≠ n; omega)).trans en.1, (World.cell?_setCell_far _ _ _ _ (by show n4 ≠ n; omega)).trans en.2.1, (World.cell?_setCell_far _ _ _ _ (by show n4 ≠ n; omega)).trans en.2.2⟩
  · exact ((h9.alloc (by omega) _).grown hg (by omega) (fun k e => by have := hlow k e; omega)).setCell (p := ⟨n4, 0, none⟩) h10 _
  · have := hg.size
    simp
    omega
set_option maxHeartbeats 1600000 in
theorem MirAt.push1 {w : World} {n n4 : Nat} {X : Bk} {a b c : Option Addr} {ca cb cc : Nat} {D0 D1 D2 : List Int} {a0 a1 a2 : Option Addr} {c0 c1 c2 : Nat} {wr : World} (h : MirAt w n n4 X a b c ca cb cc D0 D1 D2 a0 a1 a2 c0 c1 c2 wr) {z : Int} {v : Value} {w3 : World} (hown : w3.ownsRow (n4 + 1) 2 1 v (D1.length + 1) (intVals D1 ++ [.int .i64 z])) (hg : (wr.alloc (.cells #[.int .i64 z] 2)).grownBy w3 (.slice a1 D1.length c1 : Value).ownBlock)
    (hb : v.ownBlock = (.slice a1 D1.length c1 : Value).ownBlock ∨ v.ownBlock = some (wr.alloc (.cells #[.int .i64 z] 2)).heap.size) : ∃ g cp, v = .slice (some ⟨g, 0, none⟩) (D1 ++ [z]).length cp ∧ w3.frozen? ⟨n4, 1, none⟩ = false ∧ (w3.cell? ⟨n4, 1, none⟩).isSome = true ∧ MirAt w n n4 X a b c ca cb cc D0 (D1 ++ [z]) D2 a0 (some ⟨g, 0, none⟩) a2 c0 cp c2 (w3.setCell ⟨n4, 1, none⟩ v) := by
  obtain ⟨h1, h2, h3, h4, h5, h6, h7, h8, h9, h10, h11, h12, h13⟩ := h
  obtain ⟨g, cp, rfl, o⟩ := IRow.snoc hown
  have hV : (wr.alloc (.cells #[.int .i64 z] 2)).heap.size = wr.heap.size + 1 := by simp
  have IQ := h4
  have hlow : ∀ k, (.slice a1 D1.length c1 : Value).ownBlock = some k → n4 + 1 ≤ k := fun k e => (IQ.own_lt e).1
  have b0 := balloc0 wr (.cells #[.int .i64 z] 2)
  have hn4 : some n4 ≠ (.slice a1 D1.length c1 : Value).ownBlock := fun e => by have := hlow n4 e.symm; omega
  have er : w3.heap[n + 1]? = some (.cells #[.slice none 0 0, .slice none 0 0, .slice none 0 0] 27 (0, 0)) := (hg.block (n + 1) (by omega) (fun e => by have := hlow (n + 1) e.symm; omega)).trans ((b0.block (n + 1) (by omega)).trans h13)
  have hn : some n ≠ (.slice a1 D1.length c1 : Value).ownBlock := fun e => by have := hlow n e.symm; omega
  have e4 : w3.heap[n4]? = some (.cells #[.slice a0 D0.length c0, .slice a1 D1.length c1, .slice a2 D2.length c2] 27 (0, 0)) := (hg.block n4 (by omega) hn4).trans ((b0.block n4 (by omega)).trans h2)
  have en : BkBox n X a b c ca cb cc w3 := by
    have k1 := h1.later b0
    have hbk := hg.block n (by omega) hn
    exact ⟨(World.cell?_of_block (a := ⟨n, 0, none⟩) hbk).trans k1.1, (World.cell?_of_block (a := ⟨n, 1, none⟩) hbk).trans k1.2.1, (World.cell?_of_block (a := ⟨n, 2, none⟩) hbk).trans k1.2.2⟩
  have I0 : IRow (n4 + 1) D0 a0 c0 w3 := (h3.later b0).keep hg h6
  have N0 : Apart (.slice a0 D0.length c0 : Value).ownBlock (.slice (some ⟨g, 0, none⟩) (D1 ++ [z]).length cp : Value).ownBlock := by
    rcases hb with hb | hb
    · rw [hb]; exact h6
    · rw [hb]
      by_cases e : (.slice a0 D0.length c0 : Value).ownBlock = some (wr.alloc (.cells #[.int .i64 z] 2)).heap.size
      · have := (h3.own_lt e).2; omega
      · exact .inr (.inr e)
  have I2 : IRow (n4 + 1) D2 a2 c2 w3 := (h5.later b0).keep hg (apart_symm h8)
  have N2 : Apart (.slice a2 D2.length c2 : Value).ownBlock (.slice (some ⟨g, 0, none⟩) (D1 ++ [z]).length cp : Value).ownBlock := by
    rcases hb with hb | hb
    · rw [hb]; exact (apart_symm h8)
    · rw [hb]
      by_cases e : (.slice a2 D2.length c2 : Value).ownBlock = some (wr.alloc (.cells #[.int .i64 z] 2)).heap.size
      · have := (h5.own_lt e).2; omega
      · exact .inr (.inr e)
  refine ⟨g, cp, rfl, unfrozen_of_block e4 1, ?_, ?_, heap_setCell_same _ _ _ _ _ _ e4, I0.set (by omega), o.set (by omega), I2.set (by omega), N0, h7, apart_symm N2, ?_, h10, h11, ?_, (heap_setCell_other _ _ _ _ (by show n + 1 ≠ n4; omega)).trans er⟩
  · rw [cell_of_block e4 1]; rfl
  · exact ⟨(World.cell?_setCell_far _ _ _ _ (by show n4 ≠ n; omega)).trans en.1, (World.cell?_setCell_far _ _ _ _ (by show n4 ≠ n; omega)).trans en.2.1, (World.cell?_setCell_far _ _ _ _ (by show n4 ≠ n; omega)).trans en.2.2⟩
  · exact ((h9.alloc (by omega) _).grown hg (by omega) (fun k e => by have := hlow k e; omega)).setCell (p := ⟨n4, 1, none⟩) h10 _
  · have := hg.size
    simp
    omega
set_option maxHeartbeats 1600000 in
theorem MirAt.push2 {w : World} {n n4 : Nat} {X : Bk} {a b c : Option Addr} {ca cb cc : Nat} {D0 D1 D2 : List Int} {a0 a1 a2 : Option Addr} {c0 c1 c2 : Nat} {wr : World} (h : MirAt w n n4 X a b c ca cb cc D0 D1 D2 a0 a1 a2 c0 c1 c2 wr) {z : Int} {v : Value} {w3 : World} (hown : w3.ownsRow (n4 + 1) 2 1 v (D2.length + 1) (intVals D2 ++ [.int .i64 z])) (hg : (wr.alloc (.cells #[.int .i64 z] 2)).grownBy w3 (.slice a2 D2.length c2 : Value).ownBlock)
    (hb : v.ownBlock = (.slice a2 D2.length c2 : Value).ownBlock ∨ v.ownBlock = some (wr.alloc (.cells #[.int .i64 z] 2)).heap.size) : ∃ g cp, v = .slice (some ⟨g, 0, none⟩) (D2 ++ [z]).length cp ∧ w3.frozen? ⟨n4, 2, none⟩ = false ∧ (w3.cell? ⟨n4, 2, none⟩).isSome = true ∧ MirAt w n n4 X a b c ca cb cc D0 D1 (D2 ++ [z]) a0 a1 (some ⟨g, 0, none⟩) c0 c1 cp (w3.setCell ⟨n4, 2, none⟩ v) := by
  obtain ⟨h1, h2, h3, h4, h5, h6, h7, h8, h9, h10, h11, h12, h13⟩ := h
  obtain ⟨g, cp, rfl, o⟩ := IRow.snoc hown
  have hV : (wr.alloc (.cells #[.int .i64 z] 2)).heap.size = wr.heap.size + 1 := by simp
  have IQ := h5
  have hlow : ∀ k, (.slice a2 D2.length c2 : Value).ownBlock = some k → n4 + 1 ≤ k := fun k e => (IQ.own_lt e).1
  have b0 := balloc0 wr (.cells #[.int .i64 z] 2)
  have hn4 : some n4 ≠ (.slice a2 D2.length c2 : Value).ownBlock := fun e => by have := hlow n4 e.symm; omega
  have er : w3.heap[n + 1]? = some (.cells #[.slice none 0 0, .slice none 0 0, .slice none 0 0] 27 (0, 0)) := (hg.block (n + 1) (by omega) (fun e => by have := hlow (n + 1) e.symm; omega)).trans ((b0.block (n + 1) (by omega)).trans h13)
  have hn : some n ≠ (.slice a2 D2.length c2 : Value).ownBlock := fun e => by have := hlow n e.symm; omega
  have e4 : w3.heap[n4]? = some (.cells #[.slice a0 D0.length c0, .slice a1 D1.length c1, .slice a2 D2.length c2] 27 (0, 0)) := (hg.block n4 (by omega) hn4).trans ((b0.block n4 (by omega)).trans h2)
  have en : BkBox n X a b c ca cb cc w3 := by
    have k1 := h1.later b0
    have hbk := hg.block n (by omega) hn
    exact ⟨(World.cell?_of_block (a := ⟨n, 0, none⟩) hbk).trans k1.1, (World.cell?_of_block (a := ⟨n, 1, none⟩) hbk).trans k1.2.1, (World.cell?_of_block (a := ⟨n, 2, none⟩) hbk).trans k1.2.2⟩
  have I0 : IRow (n4 + 1) D0 a0 c0 w3 := (h3.later b0).keep hg h7
  have N0 : Apart (.slice a0 D0.length c0 : Value).ownBlock (.slice (some ⟨g, 0, none⟩) (D2 ++ [z]).length cp : Value).ownBlock := by
    rcases hb with hb | hb
    · rw [hb]; exact h7
    · rw [hb]
      by_cases e : (.slice a0 D0.length c0 : Value).ownBlock = some (wr.alloc (.cells #[.int .i64 z] 2)).heap.size
      · have := (h3.own_lt e).2; omega
      · exact .inr (.inr e)
  have I1 : IRow (n4 + 1) D1 a1 c1 w3 := (h4.later b0).keep hg h8
  have N1 : Apart (.slice a1 D1.length c1 : Value).ownBlock (.slice (some ⟨g, 0, none⟩) (D2 ++ [z]).length cp : Value).ownBlock := by
    rcases hb with hb | hb
    · rw [hb]; exact h8
    · rw [hb]
      by_cases e : (.slice a1 D1.length c1 : Value).ownBlock = some (wr.alloc (.cells #[.int .i64 z] 2)).heap.size
      · have := (h4.own_lt e).2; omega
      · exact .inr (.inr e)
  refine ⟨g, cp, rfl, unfrozen_of_block e4 2, ?_, ?_, heap_setCell_same _ _ _ _ _ _ e4, I0.set (by omega), I1.set (by omega), o.set (by omega), h6, N0, N1, ?_, h10, h11, ?_, (heap_setCell_other _ _ _ _ (by show n + 1 ≠ n4; omega)).trans er⟩
  · rw [cell_of_block e4 2]; rfl
  · exact ⟨(World.cell?_setCell_far _ _ _ _ (by show n4 ≠ n; omega)).trans en.1, (World.cell?_setCell_far _ _ _ _ (by show n4 ≠ n; omega)).trans en.2.1, (World.cell?_setCell_far _ _ _ _ (by show n4 ≠ n; omega)).trans en.2.2⟩
  · exact ((h9.alloc (by omega) _).grown hg (by omega) (fun k e => by have := hlow k e; omega)).setCell (p := ⟨n4, 2, none⟩) h10 _
  · have := hg.size
    simp
    omega
end Go.Proofs.Ytlglijalhacmhaa
