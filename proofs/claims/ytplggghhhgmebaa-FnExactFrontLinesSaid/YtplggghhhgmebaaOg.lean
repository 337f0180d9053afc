/-
  Rows of Opening as plain data: where a list lies in memory, rows of the call's own. Nothing of the dump but the type's row.
-/
import Derived.Test.YtplggghhhgmebaaIn
import Derived.Test.YtplggghhhgmebaaRow
import Derived.Deep.MidRow
import Derived.Deep.DeepMust
import Derived.Deep.OwnRows
import Derived.OwnWalk
import Derived.Laws.AppendOwn
import Derived.Laws.OwnMore
namespace Go.Proofs.Ytplggghhhgmebaa
open Go.ChangeShapes Go.WideShapes Go.ChangeAt Go.RowKit Go.Joins

structure Og where
  fr : Int
  tt : Int
  lo : Int
  hi : Int

instance : Inhabited Og := ⟨⟨0, 0, 0, 0⟩⟩
def Og.vals (c : Og) : List Value := [.int .i64 c.fr, .int .i64 c.tt, .int .i64 c.lo, .int .i64 c.hi]
theorem Og.ext' {c d : Og} (hfr : c.fr = d.fr) (htt : c.tt = d.tt) (hlo : c.lo = d.lo) (hhi : c.hi = d.hi) : c = d := by
  cases c; cases d
  simp_all

def OgAt (w : World) (b o : Nat) (L : List Og) : Prop := ∀ k c, L[k]? = some c → w.rangeAt b (o + k * 4) c.vals
theorem OgAt.carry {w w' : World} {b o : Nat} {L : List Og} (h : OgAt w b o L) (hc : ∀ p, w.cell? ⟨b, p, none⟩ ≠ none → w'.cell? ⟨b, p, none⟩ = w.cell? ⟨b, p, none⟩) : OgAt w' b o L :=
  fun k c hk j v hv => by
    have h1 := h k c hk j v hv
    rw [hc _ (by rw [h1]; simp)]
    exact h1
theorem OgAt.below {w w' : World} {b o n : Nat} {L : List Og} (h : OgAt w b o L) (hb : Below n w w') (hn : b < n) : OgAt w' b o L :=
  h.carry (fun p _ => hb.cell (p := ⟨b, p, none⟩) hn)
theorem OgAt.later {w w' : World} {b o : Nat} {L : List Og} (h : OgAt w b o L) (hb : Below w.heap.size w w') : OgAt w' b o L :=
  h.carry (fun p hp => hb.cell (p := ⟨b, p, none⟩) (by
    obtain ⟨v, hv⟩ := Option.ne_none_iff_exists'.1 hp
    exact World.block_lt_of_cell? w _ hv))
theorem OgAt.cells {w : World} {b o k : Nat} {L : List Og} {c : Og} (h : OgAt w b o L) (hk : L[k]? = some c) :
    w.cell? ⟨b, o + k * 4, none⟩ = some (.int .i64 c.fr) ∧ w.cell? ⟨b, o + k * 4 + 1, none⟩ = some (.int .i64 c.tt) ∧ w.cell? ⟨b, o + k * 4 + 2, none⟩ = some (.int .i64 c.lo) ∧ w.cell? ⟨b, o + k * 4 + 3, none⟩ = some (.int .i64 c.hi) :=
  ⟨h k c hk 0 _ rfl, h k c hk 1 _ rfl, h k c hk 2 _ rfl, h k c hk 3 _ rfl⟩

def OgArg (w : World) (a : Option Addr) (L : List Og) : Prop := L = [] ∨ ∃ b o, a = some ⟨b, o, none⟩ ∧ OgAt w b o L
theorem OgArg.later {w w' : World} {a : Option Addr} {L : List Og} (h : OgArg w a L) (hb : Below w.heap.size w w') : OgArg w' a L := by
  rcases h with h | ⟨b, o, h1, h2⟩
  · exact .inl h
  · exact .inr ⟨b, o, h1, h2.later hb⟩
theorem OgArg.at {w : World} {a : Option Addr} {L : List Og} (h : OgArg w a L) {k : Nat} (hk : k < L.length) : ∃ b o c, a = some ⟨b, o, none⟩ ∧ L[k]? = some c ∧ OgAt w b o L := by
  rcases h with h | ⟨b, o, h1, h2⟩
  · subst h; simp at hk
  · exact ⟨b, o, _, h1, List.getElem?_eq_getElem hk, h2⟩
theorem OgArg.lies {w : World} {b o : Nat} {L : List Og} (h : OgArg w (some ⟨b, o, none⟩) L) : OgAt w b o L := by
  rcases h with h | ⟨b', o', h1, h2⟩
  · subst h; intro k c hk; simp at hk
  · cases h1; exact h2
theorem OgArg.only {M : List Og} {a : Option Addr} {b : Nat} {w w' : World} (h : OgArg w a M) (hb : Only b w w') (hB : ∀ g o, ¬ M = [] → a = some ⟨g, o, none⟩ → g ≠ b) : OgArg w' a M := by
  by_cases hq : M = []
  · exact .inl hq
  rcases h with h | ⟨g, o, h1, h2⟩
  · exact .inl h
  · exact .inr ⟨g, o, h1, fun k c hk => hb.range (hB g o hq h1) (h2 k c hk)⟩
theorem OgArg.base {M : List Og} {a : Option Addr} {B : Nat} {w w' : World} (h : OgArg w a M) (hb : Below B w w') (hB : ∀ g o, ¬ M = [] → a = some ⟨g, o, none⟩ → g < B) : OgArg w' a M := by
  by_cases hq : M = []
  · exact .inl hq
  rcases h with h | ⟨g, o, h1, h2⟩
  · exact .inl h
  · exact .inr ⟨g, o, h1, h2.below hb (hB g o hq h1)⟩

/-- A row of the call's own that holds these: it may be written. -/
def OgOwn (B : Nat) (L : List Og) (g : Nat) (w : World) : Prop := B ≤ g ∧ OgAt w g 0 L ∧ w.there g 0 (L.length * 4) ∧ g < w.heap.size
theorem OgOwn.arg {B : Nat} {L : List Og} {g : Nat} {w : World} (h : OgOwn B L g w) : OgArg w (some ⟨g, 0, none⟩) L := .inr ⟨g, 0, rfl, h.2.1⟩
theorem OgOwn.later {B : Nat} {L : List Og} {g : Nat} {w w' : World} (h : OgOwn B L g w) (hb : Below w.heap.size w w') : OgOwn B L g w' := ⟨h.1, h.2.1.later hb, there_below h.2.2.1 hb, Nat.lt_of_lt_of_le h.2.2.2 hb.size⟩
theorem OgOwn.only {B b : Nat} {L : List Og} {g : Nat} {w w' : World} (h : OgOwn B L g w) (hb : Only b w w') (hne : g ≠ b) : OgOwn B L g w' :=
  ⟨h.1, fun k c hk => hb.range hne (h.2.1 k c hk), hb.there hne h.2.2.1, Nat.lt_of_lt_of_le h.2.2.2 hb.size⟩
theorem OgOwn.drew {B : Nat} {L : List Og} {g : Nat} {w : World} (h : OgOwn B L g w) : OgOwn B L g w.drew := h
/-- A slice that is handed back: nothing is in it, or it is a row of the call's own. -/
def OgRes (B : Nat) (M : List Og) (a : Option Addr) (w : World) : Prop := M = [] ∨ ∃ g, a = some ⟨g, 0, none⟩ ∧ OgOwn B M g w
theorem OgRes.later {B : Nat} {M : List Og} {a : Option Addr} {w w' : World} (h : OgRes B M a w) (hb : Below w.heap.size w w') : OgRes B M a w' := by
  rcases h with h | ⟨g, h1, h2⟩
  · exact .inl h
  · exact .inr ⟨g, h1, h2.later hb⟩
theorem OgRes.arg {B : Nat} {M : List Og} {a : Option Addr} {w : World} (h : OgRes B M a w) : OgArg w a M := by
  rcases h with h | ⟨g, h1, h2⟩
  · exact .inl h
  · rw [h1]; exact h2.arg
theorem OgRes.lt {B : Nat} {M : List Og} {a : Option Addr} {w : World} (h : OgRes B M a w) : ∀ g o, ¬ M = [] → a = some ⟨g, o, none⟩ → g < w.heap.size := by
  intro g o hq ha
  rcases h with h | ⟨g', h1, h2⟩
  · exact absurd h hq
  · rw [h1] at ha
    cases ha
    exact h2.2.2.2
theorem OgRes.ge {B : Nat} {M : List Og} {a : Option Addr} {w : World} (h : OgRes B M a w) : ∀ g o, ¬ M = [] → a = some ⟨g, o, none⟩ → B ≤ g := by
  intro g o hq ha
  rcases h with h | ⟨g', h1, h2⟩
  · exact absurd h hq
  · rw [h1] at ha
    cases ha
    exact h2.1
theorem OgRes.only {B b : Nat} {M : List Og} {a : Option Addr} {w w' : World} (h : OgRes B M a w) (hb : Only b w w') (hne : b < B) : OgRes B M a w' := by
  rcases h with h | ⟨g, h1, h2⟩
  · exact .inl h
  · have hgb : g ≠ b := by have := h2.1; omega
    exact .inr ⟨g, h1, h2.only hb hgb⟩
theorem OgRes.mono {B B' : Nat} {M : List Og} {a : Option Addr} {w : World} (h : OgRes B M a w) (hB : B' ≤ B) : OgRes B' M a w := by
  rcases h with h | ⟨g, h1, h2⟩
  · exact .inl h
  · exact .inr ⟨g, h1, Nat.le_trans hB h2.1, h2.2⟩

/-- The cells of all, one behind the other. -/
def ogVals (L : List Og) : List Value := L.flatMap Og.vals
theorem ogVals_length (L : List Og) : (ogVals L).length = L.length * 4 := by
  induction L with
  | nil => rfl
  | cons c L ih =>
    show (c.vals ++ ogVals L).length = _
    rw [List.length_append, ih, List.length_cons]
    show 4 + _ = _
    omega
theorem ogVals_get {L : List Og} {k j : Nat} {c : Og} {v : Value} (hk : L[k]? = some c) (hv : c.vals[j]? = some v) : (ogVals L)[k * 4 + j]? = some v := by
  have hj : j < 4 := (List.getElem?_eq_some_iff.1 hv).1
  induction L generalizing k with
  | nil => simp at hk
  | cons d L ih =>
    show (d.vals ++ ogVals L)[k * 4 + j]? = some v
    cases k with
    | zero =>
      have e : d = c := by simpa using hk
      subst e
      rw [List.getElem?_append_left (by show 0 * 4 + j < 4; omega)]
      simpa using hv
    | succ k =>
      rw [List.getElem?_append_right (by show 4 ≤ _; omega)]
      have e : (k + 1) * 4 + j - d.vals.length = k * 4 + j := by show (k + 1) * 4 + j - 4 = _; omega
      rw [e]
      exact ih (by simpa using hk)
theorem ogVals_one (L : List Og) : ∀ u ∈ ogVals L, u.oneCell' = true := by
  intro u hu
  obtain ⟨c, _, hc⟩ := List.mem_flatMap.1 hu
  simp [Og.vals] at hc
  rcases hc with rfl | rfl | rfl | rfl <;> rfl
theorem ogVals_cells {L : List Og} {w : World} {b o : Nat} (h : OgAt w b o L) : ∀ j u, (ogVals L)[j]? = some u → w.cell? ((⟨b, o, none⟩ : Addr).add j) = some u := by
  intro j u hu
  have hj : j < L.length * 4 := by have := (List.getElem?_eq_some_iff.1 hu).1; rwa [ogVals_length] at this
  obtain ⟨c, hc⟩ : ∃ c, L[j / 4]? = some c := ⟨_, List.getElem?_eq_getElem (by omega)⟩
  have hm : j % 4 < c.vals.length := by show j % 4 < 4; omega
  have hv : c.vals[j % 4]? = some (c.vals[j % 4]'hm) := List.getElem?_eq_getElem hm
  have h1 := ogVals_get hc hv
  have e : j / 4 * 4 + j % 4 = j := by omega
  rw [e, hu] at h1
  cases h1
  rw [Addr.add_mid]
  have h2 := h (j / 4) c hc (j % 4) _ hv
  rwa [Nat.add_assoc, e] at h2
theorem ogVals_snoc (L : List Og) (c : Og) : ogVals L ++ c.vals = ogVals (L ++ [c]) := by simp [ogVals]
theorem ogVals_append (L M : List Og) : ogVals L ++ ogVals M = ogVals (L ++ M) := by simp [ogVals]
theorem own_ogs {w : World} {B m : Nat} {v : Value} {M : List Og} (hn : m = M.length) (h0 : m ≠ 0) (h : w.ownsRow B 38 4 v m (ogVals M)) : ∃ g cap, v = .slice (some ⟨g, 0, none⟩) m cap ∧ OgOwn B M g w := by
  rcases h.2 with ⟨_, hz⟩ | ⟨g, cap, cur, hv, hB, hh, _⟩
  · exact absurd hz h0
  · subst hv
    refine ⟨g, cap, rfl, hB, fun k c hk j u hu => ?_, fun j hj => ?_, (Array.getElem?_eq_some_iff.1 hh).1⟩
    · have hl := (List.getElem?_eq_some_iff.1 hk).1
      have hj : j < 4 := (List.getElem?_eq_some_iff.1 hu).1
      rw [Nat.zero_add, World.ownsRow.cellAt h _ (by omega)]
      exact ogVals_get hk hu
    · rw [Nat.zero_add]
      refine ⟨?_, World.ownsRow.frozenAt h j⟩
      rw [World.ownsRow.cellAt h j (by omega), List.getElem?_eq_getElem (by rw [ogVals_length]; omega)]
      rfl
theorem own_ogform {w : World} {B : Nat} {v : Value} {M : List Og} (h : w.ownsRow B 38 4 v M.length (ogVals M)) : ∃ a cap, v = .slice a M.length cap ∧ OgRes B M a w := by
  by_cases h0 : M.length = 0
  · rcases h.2 with ⟨hv, hz⟩ | ⟨g, cap, cur, hv, _⟩
    · exact ⟨_, _, by rw [hv, hz], .inl (List.eq_nil_of_length_eq_zero h0)⟩
    · exact ⟨_, _, hv, .inl (List.eq_nil_of_length_eq_zero h0)⟩
  · obtain ⟨g, cap, hv, ho⟩ := own_ogs rfl h0 h
    exact ⟨_, _, hv, .inr ⟨g, rfl, ho⟩⟩
theorem own_ogStart (w : World) : (w.alloc (.cells #[] 38)).ownsRow w.heap.size 38 4 (.slice (some ⟨w.heap.size, 0, none⟩) 0 0) 0 [] :=
  ⟨rfl, .inr ⟨w.heap.size, 0, #[], rfl, Nat.le_refl _, heap_alloc_new w _, Nat.le_refl _, by decide, rfl, rfl⟩⟩
theorem own_ogBlock {w : World} {B m : Nat} {v : Value} {xs : List Value} (h : w.ownsRow B 38 4 v m xs) : ∀ k, v.ownBlock = some k → B ≤ k := by
  intro k hk
  rcases h.2 with ⟨hv, _⟩ | ⟨g, cap, cur, hv, hB, _⟩
  · rw [hv] at hk; simp [Value.ownBlock] at hk
  · rw [hv] at hk; simp [Value.ownBlock] at hk; omega
theorem boxedOg {w : World} {b o : Nat} {c : Og} (h : w.rangeAt b o c.vals) : w.cell? ⟨b, o, none⟩ = some (.int .i64 c.fr) ∧ w.cell? ⟨b, o + 1, none⟩ = some (.int .i64 c.tt) ∧ w.cell? ⟨b, o + 2, none⟩ = some (.int .i64 c.lo) ∧ w.cell? ⟨b, o + 3, none⟩ = some (.int .i64 c.hi) :=
  ⟨h 0 _ rfl, h 1 _ rfl, h 2 _ rfl, h 3 _ rfl⟩
theorem lit_og (base : Nat) (wr : World) (c : Og) (hb : base ≤ wr.heap.size) : (wr.alloc (.cells #[.int .i64 c.fr, .int .i64 c.tt, .int .i64 c.lo, .int .i64 c.hi] 38)).ownsRow base 38 4 (.slice (some ⟨wr.heap.size, 0, none⟩) 1 1) 1 c.vals :=
  ⟨rfl, .inr ⟨wr.heap.size, 1, _, rfl, hb, heap_alloc_new wr _, Nat.le_refl _, by decide, rfl, rfl⟩⟩
theorem one_og {w : World} {g o : Nat} {c : Og} (h : w.rangeAt g o c.vals) : OgAt w g o [c] := fun k d hk => by
  have hl := (List.getElem?_eq_some_iff.1 hk).1
  have h0 : k = 0 := by simp at hl; omega
  subst h0
  have e : d = c := by simpa using hk.symm
  subst e
  simpa using h
/-- One in a box of its own. -/
theorem box_og (w : World) (c : Og) : ∀ wx, Below (w.alloc (.cells #[.int .i64 c.fr, .int .i64 c.tt, .int .i64 c.lo, .int .i64 c.hi] 38)).heap.size (w.alloc (.cells #[.int .i64 c.fr, .int .i64 c.tt, .int .i64 c.lo, .int .i64 c.hi] 38)) wx → wx.cell? ⟨w.heap.size, 0, none⟩ = some (.int .i64 c.fr) ∧ wx.cell? ⟨w.heap.size, 1, none⟩ = some (.int .i64 c.tt) ∧ wx.cell? ⟨w.heap.size, 2, none⟩ = some (.int .i64 c.lo) ∧ wx.cell? ⟨w.heap.size, 3, none⟩ = some (.int .i64 c.hi) := by
  intro wx h
  have hr : (w.alloc (.cells #[.int .i64 c.fr, .int .i64 c.tt, .int .i64 c.lo, .int .i64 c.hi] 38)).rangeAt w.heap.size 0 c.vals := range_new w #[.int .i64 c.fr, .int .i64 c.tt, .int .i64 c.lo, .int .i64 c.hi] 38
  have := boxedOg (range_below hr h)
  simpa using this
theorem infoOg : (Try.prog.info? 38).map (fun i => (i.zero, i.size, i.bytes)) = some (some (.agg #[.int .i64 0, .int .i64 0, .int .i64 0, .int .i64 0]), 4, 32) := by kernel_rfl
theorem sizeOg : (Try.prog.info? 38).map (·.size) = some 4 := by kernel_rfl
end Go.Proofs.Ytplggghhhgmebaa
