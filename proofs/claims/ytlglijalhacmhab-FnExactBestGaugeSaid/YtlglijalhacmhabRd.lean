/-
  Rows of rod as plain data: where a list lies in memory, rows of the call's own. Nothing of the dump but the type's row.
-/
import Derived.Test.YtlglijalhacmhabIn
import Derived.Test.YtlglijalhacmhabRow
import Derived.Deep.MidRow
import Derived.Deep.DeepMust
import Derived.Deep.OwnRows
import Derived.OwnWalk
import Derived.Laws.AppendOwn
import Derived.Laws.OwnMore
namespace Go.Proofs.Ytlglijalhacmhab
open Go.ChangeShapes Go.WideShapes Go.ChangeAt Go.RowKit Go.Joins

structure Rd where
  h : Int
  c : Int

instance : Inhabited Rd := ⟨⟨0, 0⟩⟩
def Rd.vals (c : Rd) : List Value := [.int .i64 c.h, .int .i64 c.c]
theorem Rd.ext' {c d : Rd} (hh : c.h = d.h) (hc : c.c = d.c) : c = d := by
  cases c; cases d
  simp_all

def RdAt (w : World) (b o : Nat) (L : List Rd) : Prop := ∀ k c, L[k]? = some c → w.rangeAt b (o + k * 2) c.vals
theorem RdAt.carry {w w' : World} {b o : Nat} {L : List Rd} (h : RdAt w b o L) (hc : ∀ p, w.cell? ⟨b, p, none⟩ ≠ none → w'.cell? ⟨b, p, none⟩ = w.cell? ⟨b, p, none⟩) : RdAt w' b o L :=
  fun k c hk j v hv => by
    have h1 := h k c hk j v hv
    rw [hc _ (by rw [h1]; simp)]
    exact h1
theorem RdAt.below {w w' : World} {b o n : Nat} {L : List Rd} (h : RdAt w b o L) (hb : Below n w w') (hn : b < n) : RdAt w' b o L :=
  h.carry (fun p _ => hb.cell (p := ⟨b, p, none⟩) hn)
theorem RdAt.later {w w' : World} {b o : Nat} {L : List Rd} (h : RdAt w b o L) (hb : Below w.heap.size w w') : RdAt w' b o L :=
  h.carry (fun p hp => hb.cell (p := ⟨b, p, none⟩) (by
    obtain ⟨v, hv⟩ := Option.ne_none_iff_exists'.1 hp
    exact World.block_lt_of_cell? w _ hv))
theorem RdAt.cells {w : World} {b o k : Nat} {L : List Rd} {c : Rd} (h : RdAt w b o L) (hk : L[k]? = some c) :
    w.cell? ⟨b, o + k * 2, none⟩ = some (.int .i64 c.h) ∧ w.cell? ⟨b, o + k * 2 + 1, none⟩ = some (.int .i64 c.c) :=
  ⟨h k c hk 0 _ rfl, h k c hk 1 _ rfl⟩

def RdArg (w : World) (a : Option Addr) (L : List Rd) : Prop := L = [] ∨ ∃ b o, a = some ⟨b, o, none⟩ ∧ RdAt w b o L
theorem RdArg.later {w w' : World} {a : Option Addr} {L : List Rd} (h : RdArg w a L) (hb : Below w.heap.size w w') : RdArg w' a L := by
  rcases h with h | ⟨b, o, h1, h2⟩
  · exact .inl h
  · exact .inr ⟨b, o, h1, h2.later hb⟩
theorem RdArg.at {w : World} {a : Option Addr} {L : List Rd} (h : RdArg w a L) {k : Nat} (hk : k < L.length) : ∃ b o c, a = some ⟨b, o, none⟩ ∧ L[k]? = some c ∧ RdAt w b o L := by
  rcases h with h | ⟨b, o, h1, h2⟩
  · subst h; simp at hk
  · exact ⟨b, o, _, h1, List.getElem?_eq_getElem hk, h2⟩
theorem RdArg.lies {w : World} {b o : Nat} {L : List Rd} (h : RdArg w (some ⟨b, o, none⟩) L) : RdAt w b o L := by
  rcases h with h | ⟨b', o', h1, h2⟩
  · subst h; intro k c hk; simp at hk
  · cases h1; exact h2
theorem RdArg.only {M : List Rd} {a : Option Addr} {b : Nat} {w w' : World} (h : RdArg w a M) (hb : Only b w w') (hB : ∀ g o, ¬ M = [] → a = some ⟨g, o, none⟩ → g ≠ b) : RdArg w' a M := by
  by_cases hq : M = []
  · exact .inl hq
  rcases h with h | ⟨g, o, h1, h2⟩
  · exact .inl h
  · exact .inr ⟨g, o, h1, fun k c hk => hb.range (hB g o hq h1) (h2 k c hk)⟩
theorem RdArg.base {M : List Rd} {a : Option Addr} {B : Nat} {w w' : World} (h : RdArg w a M) (hb : Below B w w') (hB : ∀ g o, ¬ M = [] → a = some ⟨g, o, none⟩ → g < B) : RdArg w' a M := by
  by_cases hq : M = []
  · exact .inl hq
  rcases h with h | ⟨g, o, h1, h2⟩
  · exact .inl h
  · exact .inr ⟨g, o, h1, h2.below hb (hB g o hq h1)⟩

/-- A row of the call's own that holds these: it may be written. -/
def RdOwn (B : Nat) (L : List Rd) (g : Nat) (w : World) : Prop := B ≤ g ∧ RdAt w g 0 L ∧ w.there g 0 (L.length * 2) ∧ g < w.heap.size
theorem RdOwn.arg {B : Nat} {L : List Rd} {g : Nat} {w : World} (h : RdOwn B L g w) : RdArg w (some ⟨g, 0, none⟩) L := .inr ⟨g, 0, rfl, h.2.1⟩
theorem RdOwn.later {B : Nat} {L : List Rd} {g : Nat} {w w' : World} (h : RdOwn B L g w) (hb : Below w.heap.size w w') : RdOwn B L g w' := ⟨h.1, h.2.1.later hb, there_below h.2.2.1 hb, Nat.lt_of_lt_of_le h.2.2.2 hb.size⟩
theorem RdOwn.only {B b : Nat} {L : List Rd} {g : Nat} {w w' : World} (h : RdOwn B L g w) (hb : Only b w w') (hne : g ≠ b) : RdOwn B L g w' :=
  ⟨h.1, fun k c hk => hb.range hne (h.2.1 k c hk), hb.there hne h.2.2.1, Nat.lt_of_lt_of_le h.2.2.2 hb.size⟩
theorem RdOwn.drew {B : Nat} {L : List Rd} {g : Nat} {w : World} (h : RdOwn B L g w) : RdOwn B L g w.drew := h
/-- A slice that is handed back: nothing is in it, or it is a row of the call's own. -/
def RdRes (B : Nat) (M : List Rd) (a : Option Addr) (w : World) : Prop := M = [] ∨ ∃ g, a = some ⟨g, 0, none⟩ ∧ RdOwn B M g w
theorem RdRes.later {B : Nat} {M : List Rd} {a : Option Addr} {w w' : World} (h : RdRes B M a w) (hb : Below w.heap.size w w') : RdRes B M a w' := by
  rcases h with h | ⟨g, h1, h2⟩
  · exact .inl h
  · exact .inr ⟨g, h1, h2.later hb⟩
theorem RdRes.arg {B : Nat} {M : List Rd} {a : Option Addr} {w : World} (h : RdRes B M a w) : RdArg w a M := by
  rcases h with h | ⟨g, h1, h2⟩
  · exact .inl h
  · rw [h1]; exact h2.arg
theorem RdRes.lt {B : Nat} {M : List Rd} {a : Option Addr} {w : World} (h : RdRes B M a w) : ∀ g o, ¬ M = [] → a = some ⟨g, o, none⟩ → g < w.heap.size := by
  intro g o hq ha
  rcases h with h | ⟨g', h1, h2⟩
  · exact absurd h hq
  · rw [h1] at ha
    cases ha
    exact h2.2.2.2
theorem RdRes.ge {B : Nat} {M : List Rd} {a : Option Addr} {w : World} (h : RdRes B M a w) : ∀ g o, ¬ M = [] → a = some ⟨g, o, none⟩ → B ≤ g := by
  intro g o hq ha
  rcases h with h | ⟨g', h1, h2⟩
  · exact absurd h hq
  · rw [h1] at ha
    cases ha
    exact h2.1
theorem RdRes.only {B b : Nat} {M : List Rd} {a : Option Addr} {w w' : World} (h : RdRes B M a w) (hb : Only b w w') (hne : b < B) : RdRes B M a w' := by
  rcases h with h | ⟨g, h1, h2⟩
  · exact .inl h
  · have hgb : g ≠ b := by have := h2.1; omega
    exact .inr ⟨g, h1, h2.only hb hgb⟩
theorem RdRes.mono {B B' : Nat} {M : List Rd} {a : Option Addr} {w : World} (h : RdRes B M a w) (hB : B' ≤ B) : RdRes B' M a w := by
  rcases h with h | ⟨g, h1, h2⟩
  · exact .inl h
  · exact .inr ⟨g, h1, Nat.le_trans hB h2.1, h2.2⟩

/-- The cells of all, one behind the other. -/
def rdVals (L : List Rd) : List Value := L.flatMap Rd.vals
theorem rdVals_length (L : List Rd) : (rdVals L).length = L.length * 2 := by
  induction L with
  | nil => rfl
  | cons c L ih =>
    show (c.vals ++ rdVals L).length = _
    rw [List.length_append, ih, List.length_cons]
    show 2 + _ = _
    omega
theorem rdVals_get {L : List Rd} {k j : Nat} {c : Rd} {v : Value} (hk : L[k]? = some c) (hv : c.vals[j]? = some v) : (rdVals L)[k * 2 + j]? = some v := by
  have hj : j < 2 := (List.getElem?_eq_some_iff.1 hv).1
  induction L generalizing k with
  | nil => simp at hk
  | cons d L ih =>
    show (d.vals ++ rdVals L)[k * 2 + j]? = some v
    cases k with
    | zero =>
      have e : d = c := by simpa using hk
      subst e
      rw [List.getElem?_append_left (by show 0 * 2 + j < 2; omega)]
      simpa using hv
    | succ k =>
      rw [List.getElem?_append_right (by show 2 ≤ _; omega)]
      have e : (k + 1) * 2 + j - d.vals.length = k * 2 + j := by show (k + 1) * 2 + j - 2 = _; omega
      rw [e]
      exact ih (by simpa using hk)
theorem rdVals_one (L : List Rd) : ∀ u ∈ rdVals L, u.oneCell' = true := by
  intro u hu
  obtain ⟨c, _, hc⟩ := List.mem_flatMap.1 hu
  simp [Rd.vals] at hc
  rcases hc with rfl | rfl <;> rfl
theorem rdVals_cells {L : List Rd} {w : World} {b o : Nat} (h : RdAt w b o L) : ∀ j u, (rdVals L)[j]? = some u → w.cell? ((⟨b, o, none⟩ : Addr).add j) = some u := by
  intro j u hu
  have hj : j < L.length * 2 := by have := (List.getElem?_eq_some_iff.1 hu).1; rwa [rdVals_length] at this
  obtain ⟨c, hc⟩ : ∃ c, L[j / 2]? = some c := ⟨_, List.getElem?_eq_getElem (by omega)⟩
  have hm : j % 2 < c.vals.length := by show j % 2 < 2; omega
  have hv : c.vals[j % 2]? = some (c.vals[j % 2]'hm) := List.getElem?_eq_getElem hm
  have h1 := rdVals_get hc hv
  have e : j / 2 * 2 + j % 2 = j := by omega
  rw [e, hu] at h1
  cases h1
  rw [Addr.add_mid]
  have h2 := h (j / 2) c hc (j % 2) _ hv
  rwa [Nat.add_assoc, e] at h2
theorem rdVals_snoc (L : List Rd) (c : Rd) : rdVals L ++ c.vals = rdVals (L ++ [c]) := by simp [rdVals]
theorem rdVals_append (L M : List Rd) : rdVals L ++ rdVals M = rdVals (L ++ M) := by simp [rdVals]
theorem own_rds {w : World} {B m : Nat} {v : Value} {M : List Rd} (hn : m = M.length) (h0 : m ≠ 0) (h : w.ownsRow B 96 2 v m (rdVals M)) : ∃ g cap, v = .slice (some ⟨g, 0, none⟩) m cap ∧ RdOwn B M g w := by
  rcases h.2 with ⟨_, hz⟩ | ⟨g, cap, cur, hv, hB, hh, _⟩
  · exact absurd hz h0
  · subst hv
    refine ⟨g, cap, rfl, hB, fun k c hk j u hu => ?_, fun j hj => ?_, (Array.getElem?_eq_some_iff.1 hh).1⟩
    · have hl := (List.getElem?_eq_some_iff.1 hk).1
      have hj : j < 2 := (List.getElem?_eq_some_iff.1 hu).1
      rw [Nat.zero_add, World.ownsRow.cellAt h _ (by omega)]
      exact rdVals_get hk hu
    · rw [Nat.zero_add]
      refine ⟨?_, World.ownsRow.frozenAt h j⟩
      rw [World.ownsRow.cellAt h j (by omega), List.getElem?_eq_getElem (by rw [rdVals_length]; omega)]
      rfl
theorem own_rdform {w : World} {B : Nat} {v : Value} {M : List Rd} (h : w.ownsRow B 96 2 v M.length (rdVals M)) : ∃ a cap, v = .slice a M.length cap ∧ RdRes B M a w := by
  by_cases h0 : M.length = 0
  · rcases h.2 with ⟨hv, hz⟩ | ⟨g, cap, cur, hv, _⟩
    · exact ⟨_, _, by rw [hv, hz], .inl (List.eq_nil_of_length_eq_zero h0)⟩
    · exact ⟨_, _, hv, .inl (List.eq_nil_of_length_eq_zero h0)⟩
  · obtain ⟨g, cap, hv, ho⟩ := own_rds rfl h0 h
    exact ⟨_, _, hv, .inr ⟨g, rfl, ho⟩⟩
theorem own_rdStart (w : World) : (w.alloc (.cells #[] 96)).ownsRow w.heap.size 96 2 (.slice (some ⟨w.heap.size, 0, none⟩) 0 0) 0 [] :=
  ⟨rfl, .inr ⟨w.heap.size, 0, #[], rfl, Nat.le_refl _, heap_alloc_new w _, Nat.le_refl _, by decide, rfl, rfl⟩⟩
theorem own_rdBlock {w : World} {B m : Nat} {v : Value} {xs : List Value} (h : w.ownsRow B 96 2 v m xs) : ∀ k, v.ownBlock = some k → B ≤ k := by
  intro k hk
  rcases h.2 with ⟨hv, _⟩ | ⟨g, cap, cur, hv, hB, _⟩
  · rw [hv] at hk; simp [Value.ownBlock] at hk
  · rw [hv] at hk; simp [Value.ownBlock] at hk; omega
theorem boxedRd {w : World} {b o : Nat} {c : Rd} (h : w.rangeAt b o c.vals) : w.cell? ⟨b, o, none⟩ = some (.int .i64 c.h) ∧ w.cell? ⟨b, o + 1, none⟩ = some (.int .i64 c.c) :=
  ⟨h 0 _ rfl, h 1 _ rfl⟩
theorem lit_rd (base : Nat) (wr : World) (c : Rd) (hb : base ≤ wr.heap.size) : (wr.alloc (.cells #[.int .i64 c.h, .int .i64 c.c] 96)).ownsRow base 96 2 (.slice (some ⟨wr.heap.size, 0, none⟩) 1 1) 1 c.vals :=
  ⟨rfl, .inr ⟨wr.heap.size, 1, _, rfl, hb, heap_alloc_new wr _, Nat.le_refl _, by decide, rfl, rfl⟩⟩
theorem one_rd {w : World} {g o : Nat} {c : Rd} (h : w.rangeAt g o c.vals) : RdAt w g o [c] := fun k d hk => by
  have hl := (List.getElem?_eq_some_iff.1 hk).1
  have h0 : k = 0 := by simp at hl; omega
  subst h0
  have e : d = c := by simpa using hk.symm
  subst e
  simpa using h
/-- One in a box of its own. -/
theorem box_rd (w : World) (c : Rd) : ∀ wx, Below (w.alloc (.cells #[.int .i64 c.h, .int .i64 c.c] 96)).heap.size (w.alloc (.cells #[.int .i64 c.h, .int .i64 c.c] 96)) wx → wx.cell? ⟨w.heap.size, 0, none⟩ = some (.int .i64 c.h) ∧ wx.cell? ⟨w.heap.size, 1, none⟩ = some (.int .i64 c.c) := by
  intro wx h
  have hr : (w.alloc (.cells #[.int .i64 c.h, .int .i64 c.c] 96)).rangeAt w.heap.size 0 c.vals := range_new w #[.int .i64 c.h, .int .i64 c.c] 96
  have := boxedRd (range_below hr h)
  simpa using this
theorem infoRd : (Try.prog.info? 96).map (fun i => (i.zero, i.size, i.bytes)) = some (some (.agg #[.int .i64 0, .int .i64 0]), 2, 16) := by kernel_rfl
theorem sizeRd : (Try.prog.info? 96).map (·.size) = some 2 := by kernel_rfl
end Go.Proofs.Ytlglijalhacmhab
