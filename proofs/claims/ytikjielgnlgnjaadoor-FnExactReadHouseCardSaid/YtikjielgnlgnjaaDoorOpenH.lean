/-
  The frame that all laws share: behind a call that answers true, and turns nothing of what was there, arguments and listed variables read as they did.
-/
import Derived.Test.YtikjielgnlgnjaaDoorDecI
import Derived.OpenVars
import Derived.Test.YtikjielgnlgnjaaDoorHo
import Derived.Test.YtikjielgnlgnjaaDoorInts
import Derived.Deep.Slices
import Derived.Deep.Fields
namespace Go.Proofs.YtikjielgnlgnjaaDoor
open Go.ChangeShapes Go.WideShapes Go.ChangeAt Go.RowKit Go.Joins

/-- Each parameter's type can be read and is a row of the table. -/
def parsRowed (P : Program) (ts : List TypeId) : Bool := ts.all fun t => P.readableRec t && decide (t < P.types.size)

theorem trodAll_below {H : Type} {enc : TypeId × Value → H} {P : Program} (hl : laidOutB P = true) {W W' : World} (hb : Below W.heap.size W W') :
    ∀ {ts : List TypeId} {vs : List Value} {ds : List (DataW H)} {ps : List MemPlace}, parsRowed P ts = true → (∀ x ∈ ps, x.block < W.heap.size) → DataW.TrodAll enc P W 0 (fun _ => true) true ts vs ds ps →
      DataW.TrodAll enc P W' 0 (fun b => decide (b < W.heap.size)) true ts vs ds ps
  | [], [], [], _, _, _, h => h
  | [], [], _ :: _, _, _, _, h => h.elim
  | [], _ :: _, _, _, _, _, h => h.elim
  | _ :: _, [], _, _, _, _, h => h.elim
  | _ :: _, _ :: _, [], _, _, _, h => h.elim
  | t :: ts, v :: vs, d :: ds, ps, hr, hlt, h => by
    obtain ⟨p, q, h1, h2, rfl⟩ := h
    simp only [parsRowed, List.all_cons, Bool.and_eq_true, decide_eq_true_eq] at hr
    exact ⟨p, q, Below.trod hl hr.1.1 hr.1.2 h1 hb (fun x hx => hlt x (List.mem_append.2 (.inl hx))), trodAll_below hl hb (by simpa [parsRowed] using hr.2) (fun x hx => hlt x (List.mem_append.2 (.inr hx))) h2, rfl⟩

theorem post_true {H : Type} {enc : TypeId × Value → H} {P : Program} {f : Func} {s : ChangeSpec} {fresh handsOn : Bool} {W W' : World} {args : Array Value} {ds gs : List (DataW H)} {before : List MemPlace} {tb : TypeId}
    (hl : laidOutB P = true) (hr : parsRowed P f.params.toList = true) (hv : varsRowed P s.vars = true) (ht : P.underlying tb = some .bool) (hres : f.resultTypes = #[tb])
    (hW : DataW.Whole enc P f.params.toList s.vars false W args.toList ds gs before) (hfn : s.fn H (ds ++ gs) = { results := [.lit (.bool true)], args := ds, vars := gs }) (hb : Below W.heap.size W W') :
    s.post enc P f false fresh handsOn false W args (.bool true) W' := by
  have hlt : ∀ x ∈ before, x.block < W.heap.size := fun x hx => hW.lt x hx
  obtain ⟨p, q, hA, hV, hpq, hz, hn⟩ := hW
  refine ⟨ds, gs, before, [], p, q, ⟨p, q, hA, hV, hpq, hz, hn⟩, ?_, ?_, ?_, hb.frame _, fun h => by cases h⟩
  · rw [hfn, hres]
    exact trodAll_cons_mk (shut_bool ht true) trodAll_mk0
  · rw [hfn]
    exact trodAll_below hl hb hr (fun x hx => hlt x (by rw [hpq]; exact List.mem_append.2 (.inl hx))) hA
  · rw [hfn]
    exact Below.trodVars hl hb hv hV

theorem laidOut : laidOutB Tryd.prog = true := by kernel_rfl
end Go.Proofs.YtikjielgnlgnjaaDoor
/-
  An argument that is a plan of a building, read as plain data.
-/
namespace Go.Proofs.YtikjielgnlgnjaaDoor
open Go.ChangeShapes Go.WideShapes Go.ChangeAt Go.RowKit Go.Joins Go.Deep

theorem pair_ofH {α : Type} {l : List α} (h : l.length = 2) : ∃ a b, l = [a, b] := by
  match l, h with
  | [a, b], _ => exact ⟨a, b, rfl⟩
theorem cells_house : Tryd.prog.cellsOf 24 = 2 := by kernel_rfl
theorem cells_strH : Tryd.prog.cellsOf 9 = 1 := by kernel_rfl
theorem cells_intH : Tryd.prog.cellsOf 2 = 1 := by kernel_rfl
theorem cells_intsH : Tryd.prog.cellsOf 22 = 1 := by kernel_rfl

section
variable {H : Type} {enc : TypeId × Value → H} {w : World} {base : Nat} {sp : Nat → Bool} {held : Bool}
/-- A slice of numbers that reads as data. -/
theorem ints_of {n : Nat} {cs : List Value} {x : DataW H × List MemPlace} (h : DataW.trod enc Tryd.prog w base sp held n 22 cs = some x) :
    ∃ (L : List Int) (a : Option Addr) (cap : Nat), cs = [.slice a L.length cap] ∧ IntArg w a L ∧ L.length ≤ maxLen := by
  rcases open_slice Tryd.underlying22 h with ⟨hcs, _⟩ | ⟨a', len, cap, m, n', D, Pl, hcs, hb, hl, hm, hmm, hx, hi⟩
  · exact ⟨[], _, _, hcs, .inl rfl, Nat.zero_le _⟩
  · have hlm : len ≤ m := by rw [hmm]; split <;> omega
    have hc : ∀ i, i < len → ∃ c : Int, w.cell? (a'.add (i * 1 + 0)) = some (.int .i64 c) := by
      intro i hil
      obtain ⟨cs', hcell, ht⟩ := hi i (by omega)
      obtain ⟨c, rfl, _, _⟩ := DataW.trod_int Tryd.underlying2 ht
      obtain ⟨_, _, hat⟩ := World.cells?_some hcell
      rw [cells_intH] at hat
      refine ⟨c, ?_⟩
      rw [← add_add, hat 0 (by omega)]
      rfl
    obtain ⟨f, hf⟩ := choose_lt hc
    refine ⟨(List.range len).map f, some a', cap, by simpa using hcs, ?_, by simp; omega⟩
    by_cases h0 : len = 0
    · left; subst h0; rfl
    · right
      have h1 := hf 0 (by omega)
      obtain ⟨b, o, sub⟩ := a'
      cases sub with
      | some z =>
        exfalso
        simp only [Addr.add, World.cell?] at h1
        split at h1 <;> simp at h1
        all_goals (split at h1 <;> simp at h1)
      | none =>
        refine ⟨b, o, rfl, fun k c hk => ?_⟩
        have hkl : k < len := by
          have := (List.getElem?_eq_some_iff.1 hk).1
          simpa using this
        have e : c = f k := by simpa [hkl] using hk.symm
        subst e
        have := hf k hkl
        rw [Addr.add_mid] at this
        simpa using this
theorem house_of {n : Nat} {cs : List Value} {x : DataW H × List MemPlace} (h : DataW.trod enc Tryd.prog w base sp held n 24 cs = some x) :
    ∃ (P : List Int) (T : ByteArray) (a : Option Addr) (cap : Nat), cs = [.slice a P.length cap, .string T] ∧ T.size ≤ maxLen ∧ IntArg w a P ∧ P.length ≤ maxLen := by
  obtain ⟨y0, y1, m, _, hlen, f0, f1⟩ := trod_struct2 Tryd.underlying24 h
  have hlen := hlen.trans cells_house
  obtain ⟨c0, c1, rfl⟩ := pair_ofH hlen
  rw [cells_intsH] at f0
  rw [cells_strH] at f1
  obtain ⟨L, a, cap, g0, hA, hL⟩ := ints_of f0
  obtain ⟨s, g1, _, hs⟩ := DataW.trod_string Tryd.underlying9 f1
  simp at g0 g1
  subst g0 g1
  exact ⟨L, s, a, cap, rfl, hs, hA, hL⟩
end
end Go.Proofs.YtikjielgnlgnjaaDoor
