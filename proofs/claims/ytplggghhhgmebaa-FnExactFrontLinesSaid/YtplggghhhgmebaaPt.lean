/-
  Rows of Part as plain data: where a list lies in memory, rows of the call's own. Nothing of the dump but the type's row.
-/
import Derived.Test.YtplggghhhgmebaaIn
import Derived.Test.YtplggghhhgmebaaRow
import Derived.Deep.MidRow
import Derived.Deep.DeepMust
import Derived.Deep.OwnRows
import Derived.OwnWalk
import Derived.Laws.AppendOwn
import Derived.Laws.OwnMore
namespace Go.Proofs.Ytplggghhhgmebaa
open Go.ChangeShapes Go.WideShapes Go.ChangeAt Go.RowKit Go.Joins

structure Pt where
  fr : Int
  tt : Int

instance : Inhabited Pt := ⟨⟨0, 0⟩⟩
def Pt.vals (c : Pt) : List Value := [.int .i64 c.fr, .int .i64 c.tt]
theorem Pt.ext' {c d : Pt} (hfr : c.fr = d.fr) (htt : c.tt = d.tt) : c = d := by
  cases c; cases d
  simp_all

def PtAt (w : World) (b o : Nat) (L : List Pt) : Prop := ∀ k c, L[k]? = some c → w.rangeAt b (o + k * 2) c.vals
theorem PtAt.carry {w w' : World} {b o : Nat} {L : List Pt} (h : PtAt w b o L) (hc : ∀ p, w.cell? ⟨b, p, none⟩ ≠ none → w'.cell? ⟨b, p, none⟩ = w.cell? ⟨b, p, none⟩) : PtAt w' b o L :=
  fun k c hk j v hv => by
    have h1 := h k c hk j v hv
    rw [hc _ (by rw [h1]; simp)]
    exact h1
theorem PtAt.below {w w' : World} {b o n : Nat} {L : List Pt} (h : PtAt w b o L) (hb : Below n w w') (hn : b < n) : PtAt w' b o L :=
  h.carry (fun p _ => hb.cell (p := ⟨b, p, none⟩) hn)
theorem PtAt.later {w w' : World} {b o : Nat} {L : List Pt} (h : PtAt w b o L) (hb : Below w.heap.size w w') : PtAt w' b o L :=
  h.carry (fun p hp => hb.cell (p := ⟨b, p, none⟩) (by
    obtain ⟨v, hv⟩ := Option.ne_none_iff_exists'.1 hp
    exact World.block_lt_of_cell? w _ hv))
theorem PtAt.cells {w : World} {b o k : Nat} {L : List Pt} {c : Pt} (h : PtAt w b o L) (hk : L[k]? = some c) :
    w.cell? ⟨b, o + k * 2, none⟩ = some (.int .i64 c.fr) ∧ w.cell? ⟨b, o + k * 2 + 1, none⟩ = some (.int .i64 c.tt) :=
  ⟨h k c hk 0 _ rfl, h k c hk 1 _ rfl⟩

def PtArg (w : World) (a : Option Addr) (L : List Pt) : Prop := L = [] ∨ ∃ b o, a = some ⟨b, o, none⟩ ∧ PtAt w b o L
theorem PtArg.later {w w' : World} {a : Option Addr} {L : List Pt} (h : PtArg w a L) (hb : Below w.heap.size w w') : PtArg w' a L := by
  rcases h with h | ⟨b, o, h1, h2⟩
  · exact .inl h
  · exact .inr ⟨b, o, h1, h2.later hb⟩
theorem PtArg.at {w : World} {a : Option Addr} {L : List Pt} (h : PtArg w a L) {k : Nat} (hk : k < L.length) : ∃ b o c, a = some ⟨b, o, none⟩ ∧ L[k]? = some c ∧ PtAt w b o L := by
  rcases h with h | ⟨b, o, h1, h2⟩
  · subst h; simp at hk
  · exact ⟨b, o, _, h1, List.getElem?_eq_getElem hk, h2⟩
theorem PtArg.lies {w : World} {b o : Nat} {L : List Pt} (h : PtArg w (some ⟨b, o, none⟩) L) : PtAt w b o L := by
  rcases h with h | ⟨b', o', h1, h2⟩
  · subst h; intro k c hk; simp at hk
  · cases h1; exact h2
theorem PtArg.only {M : List Pt} {a : Option Addr} {b : Nat} {w w' : World} (h : PtArg w a M) (hb : Only b w w') (hB : ∀ g o, ¬ M = [] → a = some ⟨g, o, none⟩ → g ≠ b) : PtArg w' a M := by
  by_cases hq : M = []
  · exact .inl hq
  rcases h with h | ⟨g, o, h1, h2⟩
  · exact .inl h
  · exact .inr ⟨g, o, h1, fun k c hk => hb.range (hB g o hq h1) (h2 k c hk)⟩
theorem PtArg.base {M : List Pt} {a : Option Addr} {B : Nat} {w w' : World} (h : PtArg w a M) (hb : Below B w w') (hB : ∀ g o, ¬ M = [] → a = some ⟨g, o, none⟩ → g < B) : PtArg w' a M := by
  by_cases hq : M = []
  · exact .inl hq
  rcases h with h | ⟨g, o, h1, h2⟩
  · exact .inl h
  · exact .inr ⟨g, o, h1, h2.below hb (hB g o hq h1)⟩

/-- A row of the call's own that holds these: it may be written. -/
def PtOwn (B : Nat) (L : List Pt) (g : Nat) (w : World) : Prop := B ≤ g ∧ PtAt w g 0 L ∧ w.there g 0 (L.length * 2) ∧ g < w.heap.size
theorem PtOwn.arg {B : Nat} {L : List Pt} {g : Nat} {w : World} (h : PtOwn B L g w) : PtArg w (some ⟨g, 0, none⟩) L := .inr ⟨g, 0, rfl, h.2.1⟩
theorem PtOwn.later {B : Nat} {L : List Pt} {g : Nat} {w w' : World} (h : PtOwn B L g w) (hb : Below w.heap.size w w') : PtOwn B L g w' := ⟨h.1, h.2.1.later hb, there_below h.2.2.1 hb, Nat.lt_of_lt_of_le h.2.2.2 hb.size⟩
theorem PtOwn.only {B b : Nat} {L : List Pt} {g : Nat} {w w' : World} (h : PtOwn B L g w) (hb : Only b w w') (hne : g ≠ b) : PtOwn B L g w' :=
  ⟨h.1, fun k c hk => hb.range hne (h.2.1 k c hk), hb.there hne h.2.2.1, Nat.lt_of_lt_of_le h.2.2.2 hb.size⟩
theorem PtOwn.drew {B : Nat} {L : List Pt} {g : Nat} {w : World} (h : PtOwn B L g w) : PtOwn B L g w.drew := h
/-- A slice that is handed back: nothing is in it, or it is a row of the call's own. -/
def PtRes (B : Nat) (M : List Pt) (a : Option Addr) (w : World) : Prop := M = [] ∨ ∃ g, a = some ⟨g, 0, none⟩ ∧ PtOwn B M g w
theorem PtRes.later {B : Nat} {M : List Pt} {a : Option Addr} {w w' : World} (h : PtRes B M a w) (hb : Below w.heap.size w w') : PtRes B M a w' := by
  rcases h with h | ⟨g, h1, h2⟩
  · exact .inl h
  · exact .inr ⟨g, h1, h2.later hb⟩
theorem PtRes.arg {B : Nat} {M : List Pt} {a : Option Addr} {w : World} (h : PtRes B M a w) : PtArg w a M := by
  rcases h with h | ⟨g, h1, h2⟩
  · exact .inl h
  · rw [h1]; exact h2.arg
theorem PtRes.lt {B : Nat} {M : List Pt} {a : Option Addr} {w : World} (h : PtRes B M a w) : ∀ g o, ¬ M = [] → a = some ⟨g, o, none⟩ → g < w.heap.size := by
  intro g o hq ha
  rcases h with h | ⟨g', h1, h2⟩
  · exact absurd h hq
  · rw [h1] at ha
    cases ha
    exact h2.2.2.2
theorem PtRes.ge {B : Nat} {M : List Pt} {a : Option Addr} {w : World} (h : PtRes B M a w) : ∀ g o, ¬ M = [] → a = some ⟨g, o, none⟩ → B ≤ g := by
  intro g o hq ha
  rcases h with h | ⟨g', h1, h2⟩
  · exact absurd h hq
  · rw [h1] at ha
    cases ha
    exact h2.1
theorem PtRes.only {B b : Nat} {M : List Pt} {a : Option Addr} {w w' : World} (h : PtRes B M a w) (hb : Only b w w') (hne : b < B) : PtRes B M a w' := by
  rcases h with h | ⟨g, h1, h2⟩
  · exact .inl h
  · have hgb : g ≠ b := by have := h2.1; omega
    exact .inr ⟨g, h1, h2.only hb hgb⟩
theorem PtRes.mono {B B' : Nat} {M : List Pt} {a : Option Addr} {w : World} (h : PtRes B M a w) (hB : B' ≤ B) : PtRes B' M a w := by
  rcases h with h | ⟨g, h1, h2⟩
  · exact .inl h
  · exact .inr ⟨g, h1, Nat.le_trans hB h2.1, h2.2⟩

/-- The cells of all, one behind the other. -/
def ptVals (L : List Pt) : List Value := L.flatMap Pt.vals
theorem ptVals_length (L : List Pt) : (ptVals L).length = L.length * 2 := by
  induction L with
  | nil => rfl
  | cons c L ih =>
    show (c.vals ++ ptVals L).length = _
    rw [List.length_append, ih, List.length_cons]
    show 2 + _ = _
    omega
theorem ptVals_get {L : List Pt} {k j : Nat} {c : Pt} {v : Value} (hk : L[k]? = some c) (hv : c.vals[j]? = some v) : (ptVals L)[k * 2 + j]? = some v := by
  have hj : j < 2 := (List.getElem?_eq_some_iff.1 hv).1
  induction L generalizing k with
  | nil => simp at hk
  | cons d L ih =>
    show (d.vals ++ ptVals L)[k * 2 + j]? = some v
    cases k with
    | zero =>
      have e : d = c := by simpa using hk
      subst e
      rw [List.getElem?_append_left (by show 0 * 2 + j < 2; omega)]
      simpa using hv
    | succ k =>
      rw [List.getElem?_append_right (by show 2 ≤ _; omega)]
      have e : (k + 1) * 2 + j - d.vals.length = k * 2 + j := by show (k + 1) * 2 + j - 2 = _; omega
      rw [e]
      exact ih (by simpa using hk)
theorem ptVals_one (L : List Pt) : ∀ u ∈ ptVals L, u.oneCell' = true := by
  intro u hu
  obtain ⟨c, _, hc⟩ := List.mem_flatMap.1 hu
  simp [Pt.vals] at hc
  rcases hc with rfl | rfl <;> rfl
theorem ptVals_cells {L : List Pt} {w : World} {b o : Nat} (h : PtAt w b o L) : ∀ j u, (ptVals L)[j]? = some u → w.cell? ((⟨b, o, none⟩ : Addr).add j) = some u := by
  intro j u hu
  have hj : j < L.length * 2 := by have := (List.getElem?_eq_some_iff.1 hu).1; rwa [ptVals_length] at this
  obtain ⟨c, hc⟩ : ∃ c, L[j / 2]? = some c := ⟨_, List.getElem?_eq_getElem (by omega)⟩
  have hm : j % 2 < c.vals.length := by show j % 2 < 2; omega
  have hv : c.vals[j % 2]? = some (c.vals[j % 2]'hm) := List.getElem?_eq_getElem hm
  have h1 := ptVals_get hc hv
  have e : j / 2 * 2 + j % 2 = j := by omega
  rw [e, hu] at h1
  cases h1
  rw [Addr.add_mid]
  have h2 := h (j / 2) c hc (j % 2) _ hv
  rwa [Nat.add_assoc, e] at h2
theorem ptVals_snoc (L : List Pt) (c : Pt) : ptVals L ++ c.vals = ptVals (L ++ [c]) := by simp [ptVals]
theorem ptVals_append (L M : List Pt) : ptVals L ++ ptVals M = ptVals (L ++ M) := by simp [ptVals]
theorem own_pts {w : World} {B m : Nat} {v : Value} {M : List Pt} (hn : m = M.length) (h0 : m ≠ 0) (h : w.ownsRow B 51 2 v m (ptVals M)) : ∃ g cap, v = .slice (some ⟨g, 0, none⟩) m cap ∧ PtOwn B M g w := by
  rcases h.2 with ⟨_, hz⟩ | ⟨g, cap, cur, hv, hB, hh, _⟩
  · exact absurd hz h0
  · subst hv
    refine ⟨g, cap, rfl, hB, fun k c hk j u hu => ?_, fun j hj => ?_, (Array.getElem?_eq_some_iff.1 hh).1⟩
    · have hl := (List.getElem?_eq_some_iff.1 hk).1
      have hj : j < 2 := (List.getElem?_eq_some_iff.1 hu).1
      rw [Nat.zero_add, World.ownsRow.cellAt h _ (by omega)]
      exact ptVals_get hk hu
    · rw [Nat.zero_add]
      refine ⟨?_, World.ownsRow.frozenAt h j⟩
      rw [World.ownsRow.cellAt h j (by omega), List.getElem?_eq_getElem (by rw [ptVals_length]; omega)]
      rfl
theorem own_ptform {w : World} {B : Nat} {v : Value} {M : List Pt} (h : w.ownsRow B 51 2 v M.length (ptVals M)) : ∃ a cap, v = .slice a M.length cap ∧ PtRes B M a w := by
  by_cases h0 : M.length = 0
  · rcases h.2 with ⟨hv, hz⟩ | ⟨g, cap, cur, hv, _⟩
    · exact ⟨_, _, by rw [hv, hz], .inl (List.eq_nil_of_length_eq_zero h0)⟩
    · exact ⟨_, _, hv, .inl (List.eq_nil_of_length_eq_zero h0)⟩
  · obtain ⟨g, cap, hv, ho⟩ := own_pts rfl h0 h
    exact ⟨_, _, hv, .inr ⟨g, rfl, ho⟩⟩
theorem own_ptStart (w : World) : (w.alloc (.cells #[] 51)).ownsRow w.heap.size 51 2 (.slice (some ⟨w.heap.size, 0, none⟩) 0 0) 0 [] :=
  ⟨rfl, .inr ⟨w.heap.size, 0, #[], rfl, Nat.le_refl _, heap_alloc_new w _, Nat.le_refl _, by decide, rfl, rfl⟩⟩
theorem own_ptBlock {w : World} {B m : Nat} {v : Value} {xs : List Value} (h : w.ownsRow B 51 2 v m xs) : ∀ k, v.ownBlock = some k → B ≤ k := by
  intro k hk
  rcases h.2 with ⟨hv, _⟩ | ⟨g, cap, cur, hv, hB, _⟩
  · rw [hv] at hk; simp [Value.ownBlock] at hk
  · rw [hv] at hk; simp [Value.ownBlock] at hk; omega
theorem boxedPt {w : World} {b o : Nat} {c : Pt} (h : w.rangeAt b o c.vals) : w.cell? ⟨b, o, none⟩ = some (.int .i64 c.fr) ∧ w.cell? ⟨b, o + 1, none⟩ = some (.int .i64 c.tt) :=
  ⟨h 0 _ rfl, h 1 _ rfl⟩
theorem lit_pt (base : Nat) (wr : World) (c : Pt) (hb : base ≤ wr.heap.size) : (wr.alloc (.cells #[.int .i64 c.fr, .int .i64 c.tt] 51)).ownsRow base 51 2 (.slice (some ⟨wr.heap.size, 0, none⟩) 1 1) 1 c.vals :=
  ⟨rfl, .inr ⟨wr.heap.size, 1, _, rfl, hb, heap_alloc_new wr _, Nat.le_refl _, by decide, rfl, rfl⟩⟩
theorem one_pt {w : World} {g o : Nat} {c : Pt} (h : w.rangeAt g o c.vals) : PtAt w g o [c] := fun k d hk => by
  have hl := (List.getElem?_eq_some_iff.1 hk).1
  have h0 : k = 0 := by simp at hl; omega
  subst h0
  have e : d = c := by simpa using hk.symm
  subst e
  simpa using h
/-- One in a box of its own. -/
theorem box_pt (w : World) (c : Pt) : ∀ wx, Below (w.alloc (.cells #[.int .i64 c.fr, .int .i64 c.tt] 51)).heap.size (w.alloc (.cells #[.int .i64 c.fr, .int .i64 c.tt] 51)) wx → wx.cell? ⟨w.heap.size, 0, none⟩ = some (.int .i64 c.fr) ∧ wx.cell? ⟨w.heap.size, 1, none⟩ = some (.int .i64 c.tt) := by
  intro wx h
  have hr : (w.alloc (.cells #[.int .i64 c.fr, .int .i64 c.tt] 51)).rangeAt w.heap.size 0 c.vals := range_new w #[.int .i64 c.fr, .int .i64 c.tt] 51
  have := boxedPt (range_below hr h)
  simpa using this
theorem infoPt : (Try.prog.info? 51).map (fun i => (i.zero, i.size, i.bytes)) = some (some (.agg #[.int .i64 0, .int .i64 0]), 2, 16) := by kernel_rfl
theorem sizePt : (Try.prog.info? 51).map (·.size) = some 2 := by kernel_rfl
end Go.Proofs.Ytplggghhhgmebaa
