/-
  Plain helpers of this seat: what a law's frame asks, and small lemmas that the walks share. Nothing of the dump but the program's own knob.
-/
import Derived.Test.YtikjielgnlgnjaaDoorRows
import Derived.WalkKit
import Derived.WalkLawsBesides
import Derived.ProofKit
import Derived.OpenShut
import Derived.Below
import Derived.Lib.Hide
import Derived.Lib.SmallJoins
import Derived.Test.YtikjielgnlgnjaaDoorShelf
import Derived.Deep.DeepHandedRow
import Derived.Lib.LaidTab
import Derived.Lib.AppendIntMem
import Derived.Lib.ItoaLen
namespace Go.Proofs.YtikjielgnlgnjaaDoor
open Go.ChangeShapes Go.WideShapes Go.ChangeAt Go.RowKit Go.Joins

theorem ret_int {k : IntKind} {a b : Int} (h : a = b) : Ending.returned (.int k a) = .returned (.int k b) := by rw [h]
theorem ret_bool {a b : Bool} (h : a = b) : Ending.returned (.bool a) = .returned (.bool b) := by rw [h]

/-- Old cells and marks read as before. -/
theorem bcell {W w1 : World} (hb : Below W.heap.size W w1) : (∀ b o, b < W.heap.size → w1.cell? ⟨b, o, none⟩ = W.cell? ⟨b, o, none⟩) ∧ (∀ b o, b < W.heap.size → w1.frozen? ⟨b, o, none⟩ = W.frozen? ⟨b, o, none⟩) :=
  ⟨fun b o h => hb.cell (p := ⟨b, o, none⟩) h, fun b o h => hb.frozen (p := ⟨b, o, none⟩) h⟩

/-- What a row without 'again' asks of the world behind the call: of what was there nothing has turned. -/
theorem post_of_below {H : Type} {enc : TypeId × Value → H} {P : Program} {f : Func} {s : ChangeSpec} {apart fresh handsOn : Bool} {W W' : World} {args : Array Value} {v : Value} {ds gs : List (DataW H)} {before pa pv : List MemPlace}
    (hW : DataW.Whole enc P f.params.toList s.vars apart W args.toList ds gs before)
    (hres : ∀ (b : Nat) (sp : Nat → Bool) (hd : Bool), DataW.TrodAll enc P W' b sp hd f.resultTypes.toList (v.resultList f.resultTypes.size) (s.fn H (ds ++ gs)).results [])
    (hargs : ∀ sp : Nat → Bool, (∀ p ∈ before, sp p.block = true) → DataW.TrodAll enc P W' 0 sp true f.params.toList args.toList (s.fn H (ds ++ gs)).args pa)
    (hvars : ∀ sp : Nat → Bool, (∀ p ∈ before, sp p.block = true) → DataW.TrodVars enc P W' sp s.vars (s.fn H (ds ++ gs)).vars pv)
    (_hps : before = pa ++ pv) (hb : Below W.heap.size W W') :
    s.post enc P f apart fresh handsOn false W args v W' := by
  have hold : ∀ p ∈ before, (fun b => decide (b < W.heap.size)) p.block = true := fun p hp => by simpa using hW.lt p hp
  exact ⟨ds, gs, before, [], pa, pv, hW, hres _ _ _, hargs _ hold, hvars _ hold, hb.frame _, fun h => by cases h⟩

/-- One step more, one block more. -/
theorem bnext {w w1 w2 : World} (h : Below w.heap.size w w1) (k : Below w1.heap.size w1 w2) : Below w.heap.size w w2 := h.trans (k.mono h.size)
theorem balloc {w w1 : World} (h : Below w.heap.size w w1) (o : Obj) : Below w.heap.size w (w1.alloc o) := h.alloc h.size o
theorem balloc0 (w : World) (o : Obj) : Below w.heap.size w (w.alloc o) := balloc (Below.refl _ _) o

theorem own : ownKnob Tryd.prog.godebug = none := by kernel_rfl

/-- A number within bounds, as the exact model asks it. -/
def inB (n low high : Int) : Bool := decide (low ≤ n) && decide (n ≤ high)
theorem inB_true {n low high : Int} : inB n low high = true ↔ low ≤ n ∧ n ≤ high := by simp [inB]
theorem inB_false {n low high : Int} : inB n low high = false ↔ ¬ (low ≤ n ∧ n ≤ high) := by
  rw [← inB_true]; cases inB n low high <;> simp
/-- A format is valid. -/
def okB (l w h j : Int) : Bool := inB l 100 500 && (inB w 50 250 && (inB h 30 150 && (inB j 0 20 && decide (w < l))))
theorem okB_true {l w h j : Int} : okB l w h j = true ↔ ((100 ≤ l ∧ l ≤ 500) ∧ (50 ≤ w ∧ w ≤ 250) ∧ (30 ≤ h ∧ h ≤ 150) ∧ (0 ≤ j ∧ j ≤ 20) ∧ w < l) := by
  simp [okB, inB_true]

/-- The code of a format and a number: 1 (invalid), 2 (range), 0. -/
def codeOf (l w h j n low high : Int) : Int := if okB l w h j = true then (if inB n low high = true then 0 else 2) else 1
theorem codeOf_inv {l w h j n low high : Int} (h1 : okB l w h j = false) : codeOf l w h j n low high = 1 := by simp [codeOf, h1]
theorem codeOf_rng {l w h j n low high : Int} (h1 : okB l w h j = true) (h2 : ¬ (low ≤ n ∧ n ≤ high)) : codeOf l w h j n low high = 2 := by
  have h3 := inB_false.2 h2
  simp [codeOf, h1, h3]
theorem codeOf_ok {l w h j n low high : Int} (h1 : okB l w h j = true) (h2 : low ≤ n ∧ n ≤ high) : codeOf l w h j n low high = 0 := by
  have h3 := inB_true.2 h2
  simp [codeOf, h1, h3]

end Go.Proofs.YtikjielgnlgnjaaDoor
/-
  A number lies within bounds: the program's and the model's word for it.
-/
namespace Go.Proofs.YtikjielgnlgnjaaDoor
open Go.ChangeShapes Go.WideShapes Go.ChangeAt Go.RowKit Go.Joins

theorem in_any (n low high : Int) (w : World) : Calls Tryd.prog 69 #[.int .i64 n, .int .i64 low, .int .i64 high] w fun e w' => e = .returned (.bool (inB n low high)) ∧ w = w' := by
  by_cases h1 : low ≤ n <;> by_cases h2 : n ≤ high
  all_goals
    go_enter Tryd.func69, Tryd.ntmps69
    go_wp2
    go_ret
    exact ⟨ret_bool (by simp [inB, h1, h2]), rfl⟩

theorem within_impl (n low high : Int) (w : World) : Calls Tryd.prog 82 #[.int .i64 n, .int .i64 low, .int .i64 high] w fun e w' => e = .returned (.bool (inB n low high)) ∧ w = w' := by
  by_cases h1 : low ≤ n <;> by_cases h2 : n ≤ high
  all_goals
    go_enter Tryd.func82, Tryd.ntmps82
    go_wp2
    go_ret
    exact ⟨ret_bool (by simp [inB, h1, h2]), rfl⟩
end Go.Proofs.YtikjielgnlgnjaaDoor
/-
  The decimal form of a number: the program's Decimal, by the library's FormatInt laid at this program.
-/
namespace Go.Proofs.YtikjielgnlgnjaaDoor
open Go.ChangeShapes Go.WideShapes Go.ChangeAt Go.RowKit Go.Joins

theorem gPow : Tryd.prog.globalNamed "internal/strconv.uint64pow10" = some 2 := by kernel_rfl
theorem gPowType : (Tryd.prog.globals[2]?).map (·.type) = some 160 := by kernel_rfl
theorem cellsPow : Tryd.prog.cellsOf 160 = 20 := by kernel_rfl
theorem cellsU64 : Tryd.prog.cellsOf 145 = 1 := by kernel_rfl
theorem powDatum : (Rows.laid_internal_strconv_uint64pow10 : DataW Unit) = Lib.tabData .u64 Lib.pow10Tab := by kernel_rfl

theorem decimal_impl (n : Int) (h0 : -9223372036854775808 ≤ n) (h1 : n ≤ 9223372036854775807) (w : World) (ht : Lib.TabIs Tryd.prog w "internal/strconv.uint64pow10" .u64 Lib.pow10Tab) : Calls Tryd.prog 73 #[.int .i64 n] w fun e w' => e = .returned (.string ⟨(Lib.itoa n).toArray⟩) ∧ Below w.heap.size w w' := by
  have C := Lib.hid (Tryd.strconv_FormatInt_10 n h0 h1 w ht)
  clear h0 h1 ht
  go_enter Tryd.func73, Tryd.ntmps73
  go_wp2_with fail
  refine C.out.mono ?_
  rintro e w1 ⟨rfl, hg⟩
  have hb : Below w.heap.size w w1 := by
    obtain ⟨k, os, rfl⟩ := hg
    exact Go.Lib.below_grow _ w (Nat.le_refl _) k os
  clear hg
  go_wp2
  go_ret
  exact ⟨rfl, hb⟩
/-- The table of the powers of ten, in whatever world. -/
abbrev Pow10 (w : World) : Prop := Lib.TabIs Tryd.prog w "internal/strconv.uint64pow10" .u64 Lib.pow10Tab
theorem Pow10.later {w w' : World} (h : Pow10 w) (hb : Below w.heap.size w w') : Pow10 w' := tab_stays gPow h hb (Nat.le_refl _)
end Go.Proofs.YtikjielgnlgnjaaDoor
