/-
  Moulds as plain data: where a list lies in memory, rows of the call's own. Nothing of the dump but the type's row.
-/
import Derived.Test.YtdandhmallbemaaDoorIn
import Derived.Test.YtdandhmallbemaaDoorRow
import Derived.Deep.MidRow
import Derived.Deep.DeepMust
import Derived.Deep.OwnRows
import Derived.OwnWalk
import Derived.Laws.AppendOwn
import Derived.Laws.OwnMore
namespace Go.Proofs.YtdandhmallbemaaDoor
open Go.ChangeShapes Go.WideShapes Go.ChangeAt Go.RowKit Go.Joins

structure Mo where
  le : Int
  wi : Int
  he : Int
  us : Int

instance : Inhabited Mo := ⟨⟨0, 0, 0, 0⟩⟩
def Mo.vals (c : Mo) : List Value := [.int .i64 c.le, .int .i64 c.wi, .int .i64 c.he, .int .i64 c.us]
theorem Mo.ext' {c d : Mo} (hle : c.le = d.le) (hwi : c.wi = d.wi) (hhe : c.he = d.he) (hus : c.us = d.us) : c = d := by
  cases c; cases d
  simp_all

def MoAt (w : World) (b o : Nat) (L : List Mo) : Prop := ∀ k c, L[k]? = some c → w.rangeAt b (o + k * 4) c.vals
theorem MoAt.carry {w w' : World} {b o : Nat} {L : List Mo} (h : MoAt w b o L) (hc : ∀ p, w.cell? ⟨b, p, none⟩ ≠ none → w'.cell? ⟨b, p, none⟩ = w.cell? ⟨b, p, none⟩) : MoAt w' b o L :=
  fun k c hk j v hv => by
    have h1 := h k c hk j v hv
    rw [hc _ (by rw [h1]; simp)]
    exact h1
theorem MoAt.below {w w' : World} {b o n : Nat} {L : List Mo} (h : MoAt w b o L) (hb : Below n w w') (hn : b < n) : MoAt w' b o L :=
  h.carry (fun p _ => hb.cell (p := ⟨b, p, none⟩) hn)
theorem MoAt.later {w w' : World} {b o : Nat} {L : List Mo} (h : MoAt w b o L) (hb : Below w.heap.size w w') : MoAt w' b o L :=
  h.carry (fun p hp => hb.cell (p := ⟨b, p, none⟩) (by
    obtain ⟨v, hv⟩ := Option.ne_none_iff_exists'.1 hp
    exact World.block_lt_of_cell? w _ hv))
theorem MoAt.cells {w : World} {b o k : Nat} {L : List Mo} {c : Mo} (h : MoAt w b o L) (hk : L[k]? = some c) :
    w.cell? ⟨b, o + k * 4, none⟩ = some (.int .i64 c.le) ∧ w.cell? ⟨b, o + k * 4 + 1, none⟩ = some (.int .i64 c.wi) ∧ w.cell? ⟨b, o + k * 4 + 2, none⟩ = some (.int .i64 c.he) ∧ w.cell? ⟨b, o + k * 4 + 3, none⟩ = some (.int .i64 c.us) :=
  ⟨h k c hk 0 _ rfl, h k c hk 1 _ rfl, h k c hk 2 _ rfl, h k c hk 3 _ rfl⟩

def MoArg (w : World) (a : Option Addr) (L : List Mo) : Prop := L = [] ∨ ∃ b o, a = some ⟨b, o, none⟩ ∧ MoAt w b o L
theorem MoArg.later {w w' : World} {a : Option Addr} {L : List Mo} (h : MoArg w a L) (hb : Below w.heap.size w w') : MoArg w' a L := by
  rcases h with h | ⟨b, o, h1, h2⟩
  · exact .inl h
  · exact .inr ⟨b, o, h1, h2.later hb⟩
theorem MoArg.at {w : World} {a : Option Addr} {L : List Mo} (h : MoArg w a L) {k : Nat} (hk : k < L.length) : ∃ b o c, a = some ⟨b, o, none⟩ ∧ L[k]? = some c ∧ MoAt w b o L := by
  rcases h with h | ⟨b, o, h1, h2⟩
  · subst h; simp at hk
  · exact ⟨b, o, _, h1, List.getElem?_eq_getElem hk, h2⟩
theorem MoArg.lies {w : World} {b o : Nat} {L : List Mo} (h : MoArg w (some ⟨b, o, none⟩) L) : MoAt w b o L := by
  rcases h with h | ⟨b', o', h1, h2⟩
  · subst h; intro k c hk; simp at hk
  · cases h1; exact h2
theorem MoArg.only {M : List Mo} {a : Option Addr} {b : Nat} {w w' : World} (h : MoArg w a M) (hb : Only b w w') (hB : ∀ g o, ¬ M = [] → a = some ⟨g, o, none⟩ → g ≠ b) : MoArg w' a M := by
  by_cases hq : M = []
  · exact .inl hq
  rcases h with h | ⟨g, o, h1, h2⟩
  · exact .inl h
  · exact .inr ⟨g, o, h1, fun k c hk => hb.range (hB g o hq h1) (h2 k c hk)⟩
theorem MoArg.base {M : List Mo} {a : Option Addr} {B : Nat} {w w' : World} (h : MoArg w a M) (hb : Below B w w') (hB : ∀ g o, ¬ M = [] → a = some ⟨g, o, none⟩ → g < B) : MoArg w' a M := by
  by_cases hq : M = []
  · exact .inl hq
  rcases h with h | ⟨g, o, h1, h2⟩
  · exact .inl h
  · exact .inr ⟨g, o, h1, h2.below hb (hB g o hq h1)⟩

/-- A row of the call's own that holds these: it may be written. -/
def MoOwn (B : Nat) (L : List Mo) (g : Nat) (w : World) : Prop := B ≤ g ∧ MoAt w g 0 L ∧ w.there g 0 (L.length * 4) ∧ g < w.heap.size
theorem MoOwn.arg {B : Nat} {L : List Mo} {g : Nat} {w : World} (h : MoOwn B L g w) : MoArg w (some ⟨g, 0, none⟩) L := .inr ⟨g, 0, rfl, h.2.1⟩
theorem MoOwn.later {B : Nat} {L : List Mo} {g : Nat} {w w' : World} (h : MoOwn B L g w) (hb : Below w.heap.size w w') : MoOwn B L g w' := ⟨h.1, h.2.1.later hb, there_below h.2.2.1 hb, Nat.lt_of_lt_of_le h.2.2.2 hb.size⟩
/-- A slice that is handed back: nothing is in it, or it is a row of the call's own. -/
def MoRes (B : Nat) (M : List Mo) (a : Option Addr) (w : World) : Prop := M = [] ∨ ∃ g, a = some ⟨g, 0, none⟩ ∧ MoOwn B M g w
theorem MoRes.later {B : Nat} {M : List Mo} {a : Option Addr} {w w' : World} (h : MoRes B M a w) (hb : Below w.heap.size w w') : MoRes B M a w' := by
  rcases h with h | ⟨g, h1, h2⟩
  · exact .inl h
  · exact .inr ⟨g, h1, h2.later hb⟩
theorem MoRes.arg {B : Nat} {M : List Mo} {a : Option Addr} {w : World} (h : MoRes B M a w) : MoArg w a M := by
  rcases h with h | ⟨g, h1, h2⟩
  · exact .inl h
  · rw [h1]; exact h2.arg
theorem MoRes.lt {B : Nat} {M : List Mo} {a : Option Addr} {w : World} (h : MoRes B M a w) : ∀ g o, ¬ M = [] → a = some ⟨g, o, none⟩ → g < w.heap.size := by
  intro g o hq ha
  rcases h with h | ⟨g', h1, h2⟩
  · exact absurd h hq
  · rw [h1] at ha
    cases ha
    exact h2.2.2.2
theorem MoRes.only {B b : Nat} {M : List Mo} {a : Option Addr} {w w' : World} (h : MoRes B M a w) (hb : Only b w w') (hne : b < B) : MoRes B M a w' := by
  rcases h with h | ⟨g, h1, h2⟩
  · exact .inl h
  · have hgb : g ≠ b := by have := h2.1; omega
    exact .inr ⟨g, h1, h2.1, fun k c hk => hb.range hgb (h2.2.1 k c hk), hb.there hgb h2.2.2.1, Nat.lt_of_lt_of_le h2.2.2.2 hb.size⟩
theorem MoRes.mono {B B' : Nat} {M : List Mo} {a : Option Addr} {w : World} (h : MoRes B M a w) (hB : B' ≤ B) : MoRes B' M a w := by
  rcases h with h | ⟨g, h1, h2⟩
  · exact .inl h
  · exact .inr ⟨g, h1, Nat.le_trans hB h2.1, h2.2⟩

/-- The cells of all, one behind the other. -/
def mouldVals (L : List Mo) : List Value := L.flatMap Mo.vals
theorem mouldVals_length (L : List Mo) : (mouldVals L).length = L.length * 4 := by
  induction L with
  | nil => rfl
  | cons c L ih =>
    show (c.vals ++ mouldVals L).length = _
    rw [List.length_append, ih, List.length_cons]
    show 4 + _ = _
    omega
theorem mouldVals_get {L : List Mo} {k j : Nat} {c : Mo} {v : Value} (hk : L[k]? = some c) (hv : c.vals[j]? = some v) : (mouldVals L)[k * 4 + j]? = some v := by
  have hj : j < 4 := (List.getElem?_eq_some_iff.1 hv).1
  induction L generalizing k with
  | nil => simp at hk
  | cons d L ih =>
    show (d.vals ++ mouldVals L)[k * 4 + j]? = some v
    cases k with
    | zero =>
      have e : d = c := by simpa using hk
      subst e
      rw [List.getElem?_append_left (by show 0 * 4 + j < 4; omega)]
      simpa using hv
    | succ k =>
      rw [List.getElem?_append_right (by show 4 ≤ _; omega)]
      have e : (k + 1) * 4 + j - d.vals.length = k * 4 + j := by show (k + 1) * 4 + j - 4 = _; omega
      rw [e]
      exact ih (by simpa using hk)
theorem mouldVals_one (L : List Mo) : ∀ u ∈ mouldVals L, u.oneCell' = true := by
  intro u hu
  obtain ⟨c, _, hc⟩ := List.mem_flatMap.1 hu
  simp [Mo.vals] at hc
  rcases hc with rfl | rfl | rfl | rfl <;> rfl
theorem mouldVals_cells {L : List Mo} {w : World} {b o : Nat} (h : MoAt w b o L) : ∀ j u, (mouldVals L)[j]? = some u → w.cell? ((⟨b, o, none⟩ : Addr).add j) = some u := by
  intro j u hu
  have hj : j < L.length * 4 := by have := (List.getElem?_eq_some_iff.1 hu).1; rwa [mouldVals_length] at this
  obtain ⟨c, hc⟩ : ∃ c, L[j / 4]? = some c := ⟨_, List.getElem?_eq_getElem (by omega)⟩
  have hm : j % 4 < c.vals.length := by show j % 4 < 4; omega
  have hv : c.vals[j % 4]? = some (c.vals[j % 4]'hm) := List.getElem?_eq_getElem hm
  have h1 := mouldVals_get hc hv
  have e : j / 4 * 4 + j % 4 = j := by omega
  rw [e, hu] at h1
  cases h1
  rw [Addr.add_mid]
  have h2 := h (j / 4) c hc (j % 4) _ hv
  rwa [Nat.add_assoc, e] at h2
theorem mouldVals_snoc (L : List Mo) (c : Mo) : mouldVals L ++ c.vals = mouldVals (L ++ [c]) := by simp [mouldVals]
theorem own_moulds {w : World} {B n : Nat} {v : Value} {M : List Mo} (hn : n = M.length) (h0 : n ≠ 0) (h : w.ownsRow B 47 4 v n (mouldVals M)) : ∃ g cap, v = .slice (some ⟨g, 0, none⟩) n cap ∧ MoOwn B M g w := by
  rcases h.2 with ⟨_, hz⟩ | ⟨g, cap, cur, hv, hB, hh, _⟩
  · exact absurd hz h0
  · subst hv
    refine ⟨g, cap, rfl, hB, fun k c hk j u hu => ?_, fun j hj => ?_, (Array.getElem?_eq_some_iff.1 hh).1⟩
    · have hl := (List.getElem?_eq_some_iff.1 hk).1
      have hj : j < 4 := (List.getElem?_eq_some_iff.1 hu).1
      rw [Nat.zero_add, World.ownsRow.cellAt h _ (by omega)]
      exact mouldVals_get hk hu
    · rw [Nat.zero_add]
      refine ⟨?_, World.ownsRow.frozenAt h j⟩
      rw [World.ownsRow.cellAt h j (by omega), List.getElem?_eq_getElem (by rw [mouldVals_length]; exact hj)]
      rfl
theorem own_mouldStart (w : World) : (w.alloc (.cells #[] 47)).ownsRow w.heap.size 47 4 (.slice (some ⟨w.heap.size, 0, none⟩) 0 0) 0 [] :=
  ⟨rfl, .inr ⟨w.heap.size, 0, #[], rfl, Nat.le_refl _, heap_alloc_new w _, Nat.le_refl _, by decide, rfl, rfl⟩⟩
theorem own_mouldBlock {w : World} {B n : Nat} {v : Value} {xs : List Value} (h : w.ownsRow B 47 4 v n xs) : ∀ k, v.ownBlock = some k → B ≤ k := by
  intro k hk
  rcases h.2 with ⟨hv, _⟩ | ⟨g, cap, cur, hv, hB, _⟩
  · rw [hv] at hk; simp [Value.ownBlock] at hk
  · rw [hv] at hk; simp [Value.ownBlock] at hk; omega
theorem boxedMo {w : World} {b o : Nat} {c : Mo} (h : w.rangeAt b o c.vals) : w.cell? ⟨b, o, none⟩ = some (.int .i64 c.le) ∧ w.cell? ⟨b, o + 1, none⟩ = some (.int .i64 c.wi) ∧ w.cell? ⟨b, o + 2, none⟩ = some (.int .i64 c.he) ∧ w.cell? ⟨b, o + 3, none⟩ = some (.int .i64 c.us) :=
  ⟨h 0 _ rfl, h 1 _ rfl, h 2 _ rfl, h 3 _ rfl⟩
theorem lit_mould (base : Nat) (wr : World) (c : Mo) (hb : base ≤ wr.heap.size) : (wr.alloc (.cells #[.int .i64 c.le, .int .i64 c.wi, .int .i64 c.he, .int .i64 c.us] 47)).ownsRow base 47 4 (.slice (some ⟨wr.heap.size, 0, none⟩) 1 1) 1 c.vals :=
  ⟨rfl, .inr ⟨wr.heap.size, 1, _, rfl, hb, heap_alloc_new wr _, Nat.le_refl _, by decide, rfl, rfl⟩⟩
theorem one_mould {w : World} {g o : Nat} {c : Mo} (h : w.rangeAt g o c.vals) : MoAt w g o [c] := fun k d hk => by
  have hl := (List.getElem?_eq_some_iff.1 hk).1
  have h0 : k = 0 := by simp at hl; omega
  subst h0
  have e : d = c := by simpa using hk.symm
  subst e
  simpa using h
theorem infoMould : (Tryd.prog.info? 47).map (fun i => (i.zero, i.size, i.bytes)) = some (some (.agg #[.int .i64 0, .int .i64 0, .int .i64 0, .int .i64 0]), 4, 32) := by kernel_rfl
theorem sizeMould : (Tryd.prog.info? 47).map (·.size) = some 4 := by kernel_rfl
end Go.Proofs.YtdandhmallbemaaDoor
