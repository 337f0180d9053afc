/-
  Rows of Piece as plain data: where a list lies in memory, rows of the call's own. Nothing of the dump but the type's row.
-/
import Derived.Test.YtmbmbkagmkmhlabIn
import Derived.Test.YtmbmbkagmkmhlabRow
import Derived.Deep.MidRow
import Derived.Deep.DeepMust
import Derived.Deep.OwnRows
import Derived.OwnWalk
import Derived.Laws.AppendOwn
import Derived.Laws.OwnMore
namespace Go.Proofs.Ytmbmbkagmkmhlab
open Go.ChangeShapes Go.WideShapes Go.ChangeAt Go.RowKit Go.Joins

structure Pc where
  le : Int
  he : Int
  ha : Int

instance : Inhabited Pc := ⟨⟨0, 0, 0⟩⟩
def Pc.vals (c : Pc) : List Value := [.int .i64 c.le, .int .i64 c.he, .int .i64 c.ha]
theorem Pc.ext' {c d : Pc} (hle : c.le = d.le) (hhe : c.he = d.he) (hha : c.ha = d.ha) : c = d := by
  cases c; cases d
  simp_all

def PcAt (w : World) (b o : Nat) (L : List Pc) : Prop := ∀ k c, L[k]? = some c → w.rangeAt b (o + k * 3) c.vals
theorem PcAt.carry {w w' : World} {b o : Nat} {L : List Pc} (h : PcAt w b o L) (hc : ∀ p, w.cell? ⟨b, p, none⟩ ≠ none → w'.cell? ⟨b, p, none⟩ = w.cell? ⟨b, p, none⟩) : PcAt w' b o L :=
  fun k c hk j v hv => by
    have h1 := h k c hk j v hv
    rw [hc _ (by rw [h1]; simp)]
    exact h1
theorem PcAt.below {w w' : World} {b o n : Nat} {L : List Pc} (h : PcAt w b o L) (hb : Below n w w') (hn : b < n) : PcAt w' b o L :=
  h.carry (fun p _ => hb.cell (p := ⟨b, p, none⟩) hn)
theorem PcAt.later {w w' : World} {b o : Nat} {L : List Pc} (h : PcAt w b o L) (hb : Below w.heap.size w w') : PcAt w' b o L :=
  h.carry (fun p hp => hb.cell (p := ⟨b, p, none⟩) (by
    obtain ⟨v, hv⟩ := Option.ne_none_iff_exists'.1 hp
    exact World.block_lt_of_cell? w _ hv))
theorem PcAt.cells {w : World} {b o k : Nat} {L : List Pc} {c : Pc} (h : PcAt w b o L) (hk : L[k]? = some c) :
    w.cell? ⟨b, o + k * 3, none⟩ = some (.int .i64 c.le) ∧ w.cell? ⟨b, o + k * 3 + 1, none⟩ = some (.int .i64 c.he) ∧ w.cell? ⟨b, o + k * 3 + 2, none⟩ = some (.int .i64 c.ha) :=
  ⟨h k c hk 0 _ rfl, h k c hk 1 _ rfl, h k c hk 2 _ rfl⟩

def PcArg (w : World) (a : Option Addr) (L : List Pc) : Prop := L = [] ∨ ∃ b o, a = some ⟨b, o, none⟩ ∧ PcAt w b o L
theorem PcArg.later {w w' : World} {a : Option Addr} {L : List Pc} (h : PcArg w a L) (hb : Below w.heap.size w w') : PcArg w' a L := by
  rcases h with h | ⟨b, o, h1, h2⟩
  · exact .inl h
  · exact .inr ⟨b, o, h1, h2.later hb⟩
theorem PcArg.at {w : World} {a : Option Addr} {L : List Pc} (h : PcArg w a L) {k : Nat} (hk : k < L.length) : ∃ b o c, a = some ⟨b, o, none⟩ ∧ L[k]? = some c ∧ PcAt w b o L := by
  rcases h with h | ⟨b, o, h1, h2⟩
  · subst h; simp at hk
  · exact ⟨b, o, _, h1, List.getElem?_eq_getElem hk, h2⟩
theorem PcArg.lies {w : World} {b o : Nat} {L : List Pc} (h : PcArg w (some ⟨b, o, none⟩) L) : PcAt w b o L := by
  rcases h with h | ⟨b', o', h1, h2⟩
  · subst h; intro k c hk; simp at hk
  · cases h1; exact h2
theorem PcArg.only {M : List Pc} {a : Option Addr} {b : Nat} {w w' : World} (h : PcArg w a M) (hb : Only b w w') (hB : ∀ g o, ¬ M = [] → a = some ⟨g, o, none⟩ → g ≠ b) : PcArg w' a M := by
  by_cases hq : M = []
  · exact .inl hq
  rcases h with h | ⟨g, o, h1, h2⟩
  · exact .inl h
  · exact .inr ⟨g, o, h1, fun k c hk => hb.range (hB g o hq h1) (h2 k c hk)⟩
theorem PcArg.base {M : List Pc} {a : Option Addr} {B : Nat} {w w' : World} (h : PcArg w a M) (hb : Below B w w') (hB : ∀ g o, ¬ M = [] → a = some ⟨g, o, none⟩ → g < B) : PcArg w' a M := by
  by_cases hq : M = []
  · exact .inl hq
  rcases h with h | ⟨g, o, h1, h2⟩
  · exact .inl h
  · exact .inr ⟨g, o, h1, h2.below hb (hB g o hq h1)⟩

/-- A row of the call's own that holds these: it may be written. -/
def PcOwn (B : Nat) (L : List Pc) (g : Nat) (w : World) : Prop := B ≤ g ∧ PcAt w g 0 L ∧ w.there g 0 (L.length * 3) ∧ g < w.heap.size
theorem PcOwn.arg {B : Nat} {L : List Pc} {g : Nat} {w : World} (h : PcOwn B L g w) : PcArg w (some ⟨g, 0, none⟩) L := .inr ⟨g, 0, rfl, h.2.1⟩
theorem PcOwn.later {B : Nat} {L : List Pc} {g : Nat} {w w' : World} (h : PcOwn B L g w) (hb : Below w.heap.size w w') : PcOwn B L g w' := ⟨h.1, h.2.1.later hb, there_below h.2.2.1 hb, Nat.lt_of_lt_of_le h.2.2.2 hb.size⟩
theorem PcOwn.only {B b : Nat} {L : List Pc} {g : Nat} {w w' : World} (h : PcOwn B L g w) (hb : Only b w w') (hne : g ≠ b) : PcOwn B L g w' :=
  ⟨h.1, fun k c hk => hb.range hne (h.2.1 k c hk), hb.there hne h.2.2.1, Nat.lt_of_lt_of_le h.2.2.2 hb.size⟩
theorem PcOwn.drew {B : Nat} {L : List Pc} {g : Nat} {w : World} (h : PcOwn B L g w) : PcOwn B L g w.drew := h
/-- A slice that is handed back: nothing is in it, or it is a row of the call's own. -/
def PcRes (B : Nat) (M : List Pc) (a : Option Addr) (w : World) : Prop := M = [] ∨ ∃ g, a = some ⟨g, 0, none⟩ ∧ PcOwn B M g w
theorem PcRes.later {B : Nat} {M : List Pc} {a : Option Addr} {w w' : World} (h : PcRes B M a w) (hb : Below w.heap.size w w') : PcRes B M a w' := by
  rcases h with h | ⟨g, h1, h2⟩
  · exact .inl h
  · exact .inr ⟨g, h1, h2.later hb⟩
theorem PcRes.arg {B : Nat} {M : List Pc} {a : Option Addr} {w : World} (h : PcRes B M a w) : PcArg w a M := by
  rcases h with h | ⟨g, h1, h2⟩
  · exact .inl h
  · rw [h1]; exact h2.arg
theorem PcRes.lt {B : Nat} {M : List Pc} {a : Option Addr} {w : World} (h : PcRes B M a w) : ∀ g o, ¬ M = [] → a = some ⟨g, o, none⟩ → g < w.heap.size := by
  intro g o hq ha
  rcases h with h | ⟨g', h1, h2⟩
  · exact absurd h hq
  · rw [h1] at ha
    cases ha
    exact h2.2.2.2
theorem PcRes.ge {B : Nat} {M : List Pc} {a : Option Addr} {w : World} (h : PcRes B M a w) : ∀ g o, ¬ M = [] → a = some ⟨g, o, none⟩ → B ≤ g := by
  intro g o hq ha
  rcases h with h | ⟨g', h1, h2⟩
  · exact absurd h hq
  · rw [h1] at ha
    cases ha
    exact h2.1
theorem PcRes.only {B b : Nat} {M : List Pc} {a : Option Addr} {w w' : World} (h : PcRes B M a w) (hb : Only b w w') (hne : b < B) : PcRes B M a w' := by
  rcases h with h | ⟨g, h1, h2⟩
  · exact .inl h
  · have hgb : g ≠ b := by have := h2.1; omega
    exact .inr ⟨g, h1, h2.only hb hgb⟩
theorem PcRes.mono {B B' : Nat} {M : List Pc} {a : Option Addr} {w : World} (h : PcRes B M a w) (hB : B' ≤ B) : PcRes B' M a w := by
  rcases h with h | ⟨g, h1, h2⟩
  · exact .inl h
  · exact .inr ⟨g, h1, Nat.le_trans hB h2.1, h2.2⟩

/-- The cells of all, one behind the other. -/
def pcVals (L : List Pc) : List Value := L.flatMap Pc.vals
theorem pcVals_length (L : List Pc) : (pcVals L).length = L.length * 3 := by
  induction L with
  | nil => rfl
  | cons c L ih =>
    show (c.vals ++ pcVals L).length = _
    rw [List.length_append, ih, List.length_cons]
    show 3 + _ = _
    omega
theorem pcVals_get {L : List Pc} {k j : Nat} {c : Pc} {v : Value} (hk : L[k]? = some c) (hv : c.vals[j]? = some v) : (pcVals L)[k * 3 + j]? = some v := by
  have hj : j < 3 := (List.getElem?_eq_some_iff.1 hv).1
  induction L generalizing k with
  | nil => simp at hk
  | cons d L ih =>
    show (d.vals ++ pcVals L)[k * 3 + j]? = some v
    cases k with
    | zero =>
      have e : d = c := by simpa using hk
      subst e
      rw [List.getElem?_append_left (by show 0 * 3 + j < 3; omega)]
      simpa using hv
    | succ k =>
      rw [List.getElem?_append_right (by show 3 ≤ _; omega)]
      have e : (k + 1) * 3 + j - d.vals.length = k * 3 + j := by show (k + 1) * 3 + j - 3 = _; omega
      rw [e]
      exact ih (by simpa using hk)
theorem pcVals_one (L : List Pc) : ∀ u ∈ pcVals L, u.oneCell' = true := by
  intro u hu
  obtain ⟨c, _, hc⟩ := List.mem_flatMap.1 hu
  simp [Pc.vals] at hc
  rcases hc with rfl | rfl | rfl <;> rfl
theorem pcVals_cells {L : List Pc} {w : World} {b o : Nat} (h : PcAt w b o L) : ∀ j u, (pcVals L)[j]? = some u → w.cell? ((⟨b, o, none⟩ : Addr).add j) = some u := by
  intro j u hu
  have hj : j < L.length * 3 := by have := (List.getElem?_eq_some_iff.1 hu).1; rwa [pcVals_length] at this
  obtain ⟨c, hc⟩ : ∃ c, L[j / 3]? = some c := ⟨_, List.getElem?_eq_getElem (by omega)⟩
  have hm : j % 3 < c.vals.length := by show j % 3 < 3; omega
  have hv : c.vals[j % 3]? = some (c.vals[j % 3]'hm) := List.getElem?_eq_getElem hm
  have h1 := pcVals_get hc hv
  have e : j / 3 * 3 + j % 3 = j := by omega
  rw [e, hu] at h1
  cases h1
  rw [Addr.add_mid]
  have h2 := h (j / 3) c hc (j % 3) _ hv
  rwa [Nat.add_assoc, e] at h2
theorem pcVals_snoc (L : List Pc) (c : Pc) : pcVals L ++ c.vals = pcVals (L ++ [c]) := by simp [pcVals]
theorem pcVals_append (L M : List Pc) : pcVals L ++ pcVals M = pcVals (L ++ M) := by simp [pcVals]
theorem own_pcs {w : World} {B m : Nat} {v : Value} {M : List Pc} (hn : m = M.length) (h0 : m ≠ 0) (h : w.ownsRow B 37 3 v m (pcVals M)) : ∃ g cap, v = .slice (some ⟨g, 0, none⟩) m cap ∧ PcOwn B M g w := by
  rcases h.2 with ⟨_, hz⟩ | ⟨g, cap, cur, hv, hB, hh, _⟩
  · exact absurd hz h0
  · subst hv
    refine ⟨g, cap, rfl, hB, fun k c hk j u hu => ?_, fun j hj => ?_, (Array.getElem?_eq_some_iff.1 hh).1⟩
    · have hl := (List.getElem?_eq_some_iff.1 hk).1
      have hj : j < 3 := (List.getElem?_eq_some_iff.1 hu).1
      rw [Nat.zero_add, World.ownsRow.cellAt h _ (by omega)]
      exact pcVals_get hk hu
    · rw [Nat.zero_add]
      refine ⟨?_, World.ownsRow.frozenAt h j⟩
      rw [World.ownsRow.cellAt h j (by omega), List.getElem?_eq_getElem (by rw [pcVals_length]; omega)]
      rfl
theorem own_pcform {w : World} {B : Nat} {v : Value} {M : List Pc} (h : w.ownsRow B 37 3 v M.length (pcVals M)) : ∃ a cap, v = .slice a M.length cap ∧ PcRes B M a w := by
  by_cases h0 : M.length = 0
  · rcases h.2 with ⟨hv, hz⟩ | ⟨g, cap, cur, hv, _⟩
    · exact ⟨_, _, by rw [hv, hz], .inl (List.eq_nil_of_length_eq_zero h0)⟩
    · exact ⟨_, _, hv, .inl (List.eq_nil_of_length_eq_zero h0)⟩
  · obtain ⟨g, cap, hv, ho⟩ := own_pcs rfl h0 h
    exact ⟨_, _, hv, .inr ⟨g, rfl, ho⟩⟩
theorem own_pcStart (w : World) : (w.alloc (.cells #[] 37)).ownsRow w.heap.size 37 3 (.slice (some ⟨w.heap.size, 0, none⟩) 0 0) 0 [] :=
  ⟨rfl, .inr ⟨w.heap.size, 0, #[], rfl, Nat.le_refl _, heap_alloc_new w _, Nat.le_refl _, by decide, rfl, rfl⟩⟩
theorem own_pcBlock {w : World} {B m : Nat} {v : Value} {xs : List Value} (h : w.ownsRow B 37 3 v m xs) : ∀ k, v.ownBlock = some k → B ≤ k := by
  intro k hk
  rcases h.2 with ⟨hv, _⟩ | ⟨g, cap, cur, hv, hB, _⟩
  · rw [hv] at hk; simp [Value.ownBlock] at hk
  · rw [hv] at hk; simp [Value.ownBlock] at hk; omega
theorem boxedPc {w : World} {b o : Nat} {c : Pc} (h : w.rangeAt b o c.vals) : w.cell? ⟨b, o, none⟩ = some (.int .i64 c.le) ∧ w.cell? ⟨b, o + 1, none⟩ = some (.int .i64 c.he) ∧ w.cell? ⟨b, o + 2, none⟩ = some (.int .i64 c.ha) :=
  ⟨h 0 _ rfl, h 1 _ rfl, h 2 _ rfl⟩
theorem lit_pc (base : Nat) (wr : World) (c : Pc) (hb : base ≤ wr.heap.size) : (wr.alloc (.cells #[.int .i64 c.le, .int .i64 c.he, .int .i64 c.ha] 37)).ownsRow base 37 3 (.slice (some ⟨wr.heap.size, 0, none⟩) 1 1) 1 c.vals :=
  ⟨rfl, .inr ⟨wr.heap.size, 1, _, rfl, hb, heap_alloc_new wr _, Nat.le_refl _, by decide, rfl, rfl⟩⟩
theorem one_pc {w : World} {g o : Nat} {c : Pc} (h : w.rangeAt g o c.vals) : PcAt w g o [c] := fun k d hk => by
  have hl := (List.getElem?_eq_some_iff.1 hk).1
  have h0 : k = 0 := by simp at hl; omega
  subst h0
  have e : d = c := by simpa using hk.symm
  subst e
  simpa using h
/-- One in a box of its own. -/
theorem box_pc (w : World) (c : Pc) : ∀ wx, Below (w.alloc (.cells #[.int .i64 c.le, .int .i64 c.he, .int .i64 c.ha] 37)).heap.size (w.alloc (.cells #[.int .i64 c.le, .int .i64 c.he, .int .i64 c.ha] 37)) wx → wx.cell? ⟨w.heap.size, 0, none⟩ = some (.int .i64 c.le) ∧ wx.cell? ⟨w.heap.size, 1, none⟩ = some (.int .i64 c.he) ∧ wx.cell? ⟨w.heap.size, 2, none⟩ = some (.int .i64 c.ha) := by
  intro wx h
  have hr : (w.alloc (.cells #[.int .i64 c.le, .int .i64 c.he, .int .i64 c.ha] 37)).rangeAt w.heap.size 0 c.vals := range_new w #[.int .i64 c.le, .int .i64 c.he, .int .i64 c.ha] 37
  have := boxedPc (range_below hr h)
  simpa using this
theorem infoPc : (Try.prog.info? 37).map (fun i => (i.zero, i.size, i.bytes)) = some (some (.agg #[.int .i64 0, .int .i64 0, .int .i64 0]), 3, 24) := by kernel_rfl
theorem sizePc : (Try.prog.info? 37).map (·.size) = some 3 := by kernel_rfl
end Go.Proofs.Ytmbmbkagmkmhlab
