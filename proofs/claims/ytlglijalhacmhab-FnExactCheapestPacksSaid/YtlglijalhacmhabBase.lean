/-
  Plain helpers of this seat: what a law's frame asks, and small lemmas that the walks share. Nothing of the dump but the program's own knob.
-/
import Derived.Test.YtlglijalhacmhabRows
import Derived.WalkKit
import Derived.WalkLawsBesides
import Derived.ProofKit
import Derived.OpenShut
import Derived.Below
import Derived.Lib.Hide
import Derived.Lib.SmallJoins
namespace Go.Proofs.Ytlglijalhacmhab
open Go.ChangeShapes Go.WideShapes Go.ChangeAt Go.RowKit Go.Joins

theorem ret_int {k : IntKind} {a b : Int} (h : a = b) : Ending.returned (.int k a) = .returned (.int k b) := by rw [h]
theorem ret_bool {a b : Bool} (h : a = b) : Ending.returned (.bool a) = .returned (.bool b) := by rw [h]

/-- Old cells and marks read as before. -/
theorem bcell {W w1 : World} (hb : Below W.heap.size W w1) : (∀ b o, b < W.heap.size → w1.cell? ⟨b, o, none⟩ = W.cell? ⟨b, o, none⟩) ∧ (∀ b o, b < W.heap.size → w1.frozen? ⟨b, o, none⟩ = W.frozen? ⟨b, o, none⟩) :=
  ⟨fun b o h => hb.cell (p := ⟨b, o, none⟩) h, fun b o h => hb.frozen (p := ⟨b, o, none⟩) h⟩

/-- What a row without 'again' asks of the world behind the call: of what was there nothing has turned. -/
theorem post_of_below {H : Type} {enc : TypeId × Value → H} {P : Program} {f : Func} {s : ChangeSpec} {apart fresh handsOn : Bool} {W W' : World} {args : Array Value} {v : Value} {ds gs : List (DataW H)} {before pa pv : List MemPlace}
    (hW : DataW.Whole enc P f.params.toList s.vars apart W args.toList ds gs before)
    (hres : ∀ (b : Nat) (sp : Nat → Bool) (hd : Bool), DataW.TrodAll enc P W' b sp hd f.resultTypes.toList (v.resultList f.resultTypes.size) (s.fn H (ds ++ gs)).results [])
    (hargs : ∀ sp : Nat → Bool, (∀ p ∈ before, sp p.block = true) → DataW.TrodAll enc P W' 0 sp true f.params.toList args.toList (s.fn H (ds ++ gs)).args pa)
    (hvars : ∀ sp : Nat → Bool, (∀ p ∈ before, sp p.block = true) → DataW.TrodVars enc P W' sp s.vars (s.fn H (ds ++ gs)).vars pv)
    (_hps : before = pa ++ pv) (hb : Below W.heap.size W W') :
    s.post enc P f apart fresh handsOn false W args v W' := by
  have hold : ∀ p ∈ before, (fun b => decide (b < W.heap.size)) p.block = true := fun p hp => by simpa using hW.lt p hp
  exact ⟨ds, gs, before, [], pa, pv, hW, hres _ _ _, hargs _ hold, hvars _ hold, hb.frame _, fun h => by cases h⟩

/-- One step more, one block more. -/
theorem bnext {w w1 w2 : World} (h : Below w.heap.size w w1) (k : Below w1.heap.size w1 w2) : Below w.heap.size w w2 := h.trans (k.mono h.size)
theorem balloc {w w1 : World} (h : Below w.heap.size w w1) (o : Obj) : Below w.heap.size w (w1.alloc o) := h.alloc h.size o
theorem balloc0 (w : World) (o : Obj) : Below w.heap.size w (w.alloc o) := balloc (Below.refl _ _) o

theorem own : ownKnob Try.prog.godebug = none := by kernel_rfl

/-- A number within bounds, as the exact model asks it. -/
def inB (n low high : Int) : Bool := decide (low ≤ n) && decide (n ≤ high)
theorem inB_true {n low high : Int} : inB n low high = true ↔ low ≤ n ∧ n ≤ high := by simp [inB]
theorem inB_false {n low high : Int} : inB n low high = false ↔ ¬ (low ≤ n ∧ n ≤ high) := by
  rw [← inB_true]; cases inB n low high <;> simp
/-- A format is valid. -/
def okB (l w h j : Int) : Bool := inB l 100 500 && (inB w 50 250 && (inB h 30 150 && (inB j 0 20 && decide (w < l))))
theorem okB_true {l w h j : Int} : okB l w h j = true ↔ ((100 ≤ l ∧ l ≤ 500) ∧ (50 ≤ w ∧ w ≤ 250) ∧ (30 ≤ h ∧ h ≤ 150) ∧ (0 ≤ j ∧ j ≤ 20) ∧ w < l) := by
  simp [okB, inB_true]

/-- The code of a format and a number: 1 (invalid), 2 (range), 0. -/
def codeOf (l w h j n low high : Int) : Int := if okB l w h j = true then (if inB n low high = true then 0 else 2) else 1
theorem codeOf_inv {l w h j n low high : Int} (h1 : okB l w h j = false) : codeOf l w h j n low high = 1 := by simp [codeOf, h1]
theorem codeOf_rng {l w h j n low high : Int} (h1 : okB l w h j = true) (h2 : ¬ (low ≤ n ∧ n ≤ high)) : codeOf l w h j n low high = 2 := by
  have h3 := inB_false.2 h2
  simp [codeOf, h1, h3]
theorem codeOf_ok {l w h j n low high : Int} (h1 : okB l w h j = true) (h2 : low ≤ n ∧ n ≤ high) : codeOf l w h j n low high = 0 := by
  have h3 := inB_true.2 h2
  simp [codeOf, h1, h3]

end Go.Proofs.Ytlglijalhacmhab
