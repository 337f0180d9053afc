/-
  Rows of numbers of the call's own, and the marks that the laws write into them (out of the texts on clays, without clays).
-/
import Derived.Test.YtmbmbkagmkmhlabDoorRow
import Derived.Test.YtmbmbkagmkmhlabDoorIn
import Derived.Deep.RegionWith
import Derived.Deep.OwnRows
import Derived.OwnWalk
import Derived.Deep.MidRow
import Derived.Deep.DeepMust
import Derived.Laws.OwnMore
namespace Go.Proofs.YtmbmbkagmkmhlabDoor
open Go.ChangeShapes Go.WideShapes Go.ChangeAt Go.RowKit Go.Joins


/-- Numbers lie in block b from offset o on. -/
def IntAt (w : World) (b o : Nat) (P : List Int) : Prop := ∀ (k : Nat) (z : Int), P[k]? = some z → w.cell? ⟨b, o + k, none⟩ = some (.int .i64 z)
theorem IntAt.later {w w' : World} {b o : Nat} {P : List Int} (h : IntAt w b o P) (hb : Below w.heap.size w w') : IntAt w' b o P := fun k z hk => by
  have h1 := h k z hk
  rw [hb.cell (p := ⟨b, o + k, none⟩) (World.block_lt_of_cell? w _ h1)]
  exact h1
/-- What is told of a slice of numbers: nothing is in it, or they lie there. -/
def IntArg (w : World) (a : Option Addr) (P : List Int) : Prop := P = [] ∨ ∃ b o, a = some ⟨b, o, none⟩ ∧ IntAt w b o P
theorem IntArg.later {w w' : World} {a : Option Addr} {P : List Int} (h : IntArg w a P) (hb : Below w.heap.size w w') : IntArg w' a P := by
  rcases h with h | ⟨b, o, h1, h2⟩
  · exact .inl h
  · exact .inr ⟨b, o, h1, h2.later hb⟩
theorem IntArg.at {w : World} {a : Option Addr} {P : List Int} (h : IntArg w a P) {k : Nat} (hk : k < P.length) : ∃ b o z, a = some ⟨b, o, none⟩ ∧ P[k]? = some z ∧ IntAt w b o P := by
  rcases h with h | ⟨b, o, h1, h2⟩
  · subst h; simp at hk
  · exact ⟨b, o, _, h1, List.getElem?_eq_getElem hk, h2⟩
theorem IntArg.lies {w : World} {b o : Nat} {P : List Int} (h : IntArg w (some ⟨b, o, none⟩) P) : IntAt w b o P := by
  rcases h with h | ⟨b', o', h1, h2⟩
  · subst h; intro k c hk; simp at hk
  · cases h1; exact h2
/-- A row of the call's own that holds these numbers: it may be written. -/
def IntOwn (B : Nat) (P : List Int) (g : Nat) (w : World) : Prop := B ≤ g ∧ IntAt w g 0 P ∧ w.there g 0 P.length ∧ g < w.heap.size
theorem IntOwn.arg {B : Nat} {P : List Int} {g : Nat} {w : World} (h : IntOwn B P g w) : IntArg w (some ⟨g, 0, none⟩) P := .inr ⟨g, 0, rfl, h.2.1⟩
theorem IntOwn.later {B : Nat} {P : List Int} {g : Nat} {w w' : World} (h : IntOwn B P g w) (hb : Below w.heap.size w w') : IntOwn B P g w' := ⟨h.1, h.2.1.later hb, there_below h.2.2.1 hb, Nat.lt_of_lt_of_le h.2.2.2 hb.size⟩
theorem infoInt : (Tryd.prog.info? 2).map (fun i => (i.zero, i.size, i.bytes)) = some (some (.int .i64 0), 1, 8) := by kernel_rfl
def intVals (P : List Int) : List Value := P.map (Value.int .i64)
theorem intVals_one (P : List Int) : ∀ u ∈ intVals P, u.oneCell' = true := by
  intro u hu
  obtain ⟨c, _, rfl⟩ := List.mem_map.1 hu
  rfl
/-- What a row of numbers that grows holds. -/
def NumsAt (w : World) (ps : List Int) (g cap : Nat) (wr : World) : Prop :=
  wr.ownsRow w.heap.size 2 1 (.slice (some ⟨g, 0, none⟩) ps.length cap) ps.length (intVals ps) ∧ Below w.heap.size w wr ∧ w.heap.size + 1 ≤ wr.heap.size
theorem own_base8 {w : World} {B : Nat} {e : TypeId} {size n m cap g : Nat} {xs : List Value} (h : w.ownsRow B e size (.slice (some ⟨g, 0, none⟩) m cap) n xs) : B ≤ g := by
  obtain ⟨_, h | ⟨b, c, cs, hv, hb, _⟩⟩ := h
  · simp at h
  · simp at hv
    omega
theorem own_form8 {w : World} {B : Nat} {e : TypeId} {size n : Nat} {v : Value} {xs : List Value} (h : w.ownsRow B e size v n xs) (hn : n ≠ 0) : ∃ g cap, v = .slice (some ⟨g, 0, none⟩) n cap := by
  rcases h.2 with ⟨_, h0⟩ | ⟨g, cap, cur, hv, _⟩
  · exact absurd h0 hn
  · exact ⟨g, cap, hv⟩
theorem nums_step {w wr w1 : World} {ps : List Int} {g cap : Nat} {x : Int} {v1 : Value} (h : NumsAt w ps g cap wr) (hown : w1.ownsRow w.heap.size 2 1 v1 (ps.length + 1) (intVals ps ++ [.int .i64 x])) (hg : (wr.alloc (.cells #[.int .i64 x] 2)).grownBy w1 (some g)) :
    ∃ g' cap', v1 = .slice (some ⟨g', 0, none⟩) (ps ++ [x]).length cap' ∧ NumsAt w (ps ++ [x]) g' cap' w1 := by
  obtain ⟨h1, h2, h3⟩ := h
  have hgb := own_base8 h1
  have e : intVals (ps ++ [x]) = intVals ps ++ [Value.int .i64 x] := by simp [intVals]
  obtain ⟨g', cap', hv⟩ := own_form8 hown (by omega)
  have hB : Below w.heap.size w (wr.alloc (.cells #[.int .i64 x] 2)) := balloc h2 _
  have hB1 : Below w.heap.size w w1 := hB.grown hg (by simp; omega) (fun k hk => by cases hk; exact hgb)
  refine ⟨g', cap', by rw [hv]; simp, ?_, hB1, ?_⟩
  · rw [e, List.length_append]
    rw [hv] at hown
    exact hown
  · have := hB1.size
    have h4 := hg.size
    simp at h4
    omega
theorem nums_start (w : World) : NumsAt w [] w.heap.size 0 (w.alloc (.cells #[] 2)) :=
  ⟨⟨rfl, .inr ⟨w.heap.size, 0, #[], rfl, Nat.le_refl _, heap_alloc_new w _, Nat.le_refl _, by decide, rfl, rfl⟩⟩, balloc0 _ _, by simp⟩
theorem NumsAt.own {w wr : World} {ps : List Int} {g cap : Nat} (h : NumsAt w ps g cap wr) : IntOwn w.heap.size ps g wr := by
  refine ⟨own_base8 h.1, fun k z hk => ?_, fun j hj => ?_, ?_⟩
  · have hl := (List.getElem?_eq_some_iff.1 hk).1
    rw [Nat.zero_add, World.ownsRow.cellAt h.1 k (by omega)]
    simp [intVals, hk]
  · rw [Nat.zero_add]
    refine ⟨?_, World.ownsRow.frozenAt h.1 j⟩
    rw [World.ownsRow.cellAt h.1 j (by omega), List.getElem?_eq_getElem (by simpa [intVals] using hj)]
    rfl
  · obtain ⟨_, h0 | ⟨b, c, cs, hv, _, hh, _⟩⟩ := h.1
    · simp at h0
    · simp at hv
      rw [hv.1]
      exact (Array.getElem?_eq_some_iff.1 hh).1
theorem lit8 (base : Nat) (wr : World) (c : Value) (hb : base ≤ wr.heap.size) : (wr.alloc (.cells #[c] 2)).ownsRow base 2 1 (.slice (some ⟨wr.heap.size, 0, none⟩) 1 1) 1 [c] :=
  ⟨rfl, .inr ⟨wr.heap.size, 1, #[c], rfl, hb, heap_alloc_new wr _, Nat.le_refl _, by decide, rfl, rfl⟩⟩
/-- The marks from K on. -/
def marksL (K n : Nat) : List Int := (List.range n).map fun j => ((K + j : Nat) : Int)
theorem marksL_length (K n : Nat) : (marksL K n).length = n := by simp [marksL]
theorem marksL_at {K n k : Nat} (h : k < n) : (marksL K n)[k]? = some ((K + k : Nat) : Int) := by simp [marksL, h]
/-- A slice of numbers that is handed back: nothing is in it, or it is a row of the call's own. -/
def IntRes (B : Nat) (Q : List Int) (a : Option Addr) (w : World) : Prop := Q = [] ∨ ∃ g, a = some ⟨g, 0, none⟩ ∧ IntOwn B Q g w
theorem IntRes.later {B : Nat} {Q : List Int} {a : Option Addr} {w w' : World} (h : IntRes B Q a w) (hb : Below w.heap.size w w') : IntRes B Q a w' := by
  rcases h with h | ⟨g, h1, h2⟩
  · exact .inl h
  · exact .inr ⟨g, h1, h2.later hb⟩
theorem IntRes.arg {B : Nat} {Q : List Int} {a : Option Addr} {w : World} (h : IntRes B Q a w) : IntArg w a Q := by
  rcases h with h | ⟨g, h1, h2⟩
  · exact .inl h
  · rw [h1]; exact h2.arg
/-- It is not the row that was written. -/
theorem IntRes.only {B b : Nat} {Q : List Int} {a : Option Addr} {w w' : World} (h : IntRes B Q a w) (hb : Only b w w') (hne : b < B) : IntRes B Q a w' := by
  rcases h with h | ⟨g, h1, h2⟩
  · exact .inl h
  · have hgb : g ≠ b := by have := h2.1; omega
    refine .inr ⟨g, h1, h2.1, fun k z hk => ?_, hb.there hgb h2.2.2.1, Nat.lt_of_lt_of_le h2.2.2.2 hb.size⟩
    have h3 := h2.2.1 k z hk
    rw [World.cell?_of_block (w := w) (a := ⟨g, 0 + k, none⟩) (hb.block g h2.2.2.2 (fun e => hgb (by cases e; rfl)))]
    exact h3
end Go.Proofs.YtmbmbkagmkmhlabDoor
