/-
  SizeFault: the program's table of names as the row's list has it.
-/
import Derived.Test.YtdandhmallbemaaDoorSfI
import Derived.Test.YtdandhmallbemaaDoorRows
import Derived.Deep.DeepHandedRow
import Derived.Lib.LaidTab
import Derived.Test.YtdandhmallbemaaDoorBase
import Derived.OpenVars
import Derived.Test.YtdandhmallbemaaDoorCwUs
import Derived.Test.YtdandhmallbemaaDoorCards
import Derived.Test.YtdandhmallbemaaDoorTie
import Derived.Deep.DeepWitnessRowRef
import Derived.JoinedCond
import Derived.Stop.LaidErr
namespace Go.Proofs.YtdandhmallbemaaDoor
open Go.ChangeShapes Go.WideShapes Go.ChangeAt Go.RowKit Go.Joins

/-- An array of strings that reads as a table holds the table's strings, cell for cell. -/
theorem strs_of_tab {H : Type} {enc : TypeId × Value → H} {P : Program} {w : World} {base : Nat} {sp : Nat → Bool} {held : Bool} {fuel : Nat} {t e : TypeId} {n : Nat} {cs : List Value} {ls : List (List UInt8)} {p : List MemPlace}
    (ht : P.underlying t = some (.array n e)) (he : P.underlying e = some .string) (hce : P.cellsOf e = 1) (hct : P.cellsOf t = n)
    (h : DataW.trod enc P w base sp held fuel t cs = some (.agg (ls.map fun l => .lit (.string l)), p)) : cs = ls.map fun l => Value.string ⟨l.toArray⟩ := by
  obtain ⟨xs, m, _, hx, hlen, hxl, hat⟩ := DataW.trod_array ht h
  rw [hct] at hlen
  have hxs : xs.map (·.1) = ls.map fun l => (DataW.lit (.string l) : DataW H) := by
    have := congrArg Prod.fst hx
    simpa using this.symm
  have hll : ls.length = n := by
    have := congrArg List.length hxs
    simp at this
    omega
  refine List.ext_getElem? fun i => ?_
  by_cases hi : i < n
  · have h1 := hat i hi
    have hxi : xs[i]? = some (xs[i]'(by omega)) := List.getElem?_eq_getElem (by omega)
    rw [hce, Nat.mul_one, hxi] at h1
    obtain ⟨s, hc, hy, _⟩ := DataW.trod_string he h1
    have h2 : cs[i]? = some (.string s) := by
      have := congrArg (·[0]?) hc
      simpa [List.getElem?_take, List.getElem?_drop] using this
    have h3 : (xs.map (·.1))[i]? = some (DataW.lit (.string s.data.toList) : DataW H) := by rw [List.getElem?_map, hxi, hy]; rfl
    rw [hxs, List.getElem?_map, Option.map_eq_some_iff] at h3
    obtain ⟨l, hl, hs⟩ := h3
    simp only [DataW.lit.injEq, Lit.string.injEq] at hs
    rw [h2, List.getElem?_map, hl, hs]
    rfl
  · rw [List.getElem?_eq_none (by omega), List.getElem?_eq_none (by simp; omega)]

/-- The names of the sizes, letter by letter. -/
def szNames : List (List UInt8) := [[108, 101, 110, 103, 116, 104], [119, 105, 100, 116, 104], [104, 101, 105, 103, 104, 116]]
theorem gOwn : Tryd.prog.globalNamed "loop.example/g01042/impl.sizeNames" = some 0 := by kernel_rfl
theorem gOwnType : (Tryd.prog.globals[0]?).map (·.type) = some 77 := by kernel_rfl
theorem gOwnUnder : Tryd.prog.underlying 77 = some (.array 3 9) := Tryd.underlying77
theorem cellsOwn : Tryd.prog.cellsOf 77 = 3 := by kernel_rfl
theorem cellsOwnStr : Tryd.prog.cellsOf 9 = 1 := by kernel_rfl
theorem sz_at {W : World} (ht : W.var? Tryd.prog "loop.example/g01042/impl.sizeNames" = some (szNames.map fun l => Value.string ⟨l.toArray⟩).toArray) : SzAt W := by
  intro k hk
  match k, hk with
  | 0, _ => simpa [szNames, nmAt] using World.var?_cell gOwn ht 0
  | 1, _ => simpa [szNames, nmAt] using World.var?_cell gOwn ht 1
  | 2, _ => simpa [szNames, nmAt] using World.var?_cell gOwn ht 2
end Go.Proofs.YtdandhmallbemaaDoor
/-
  The frame that all laws share: behind a call that answers true, and turns nothing of what was there, arguments and listed variables read as they did.
-/
namespace Go.Proofs.YtdandhmallbemaaDoor
open Go.ChangeShapes Go.WideShapes Go.ChangeAt Go.RowKit Go.Joins

/-- Each parameter's type can be read and is a row of the table. -/
def parsRowed (P : Program) (ts : List TypeId) : Bool := ts.all fun t => P.readableRec t && decide (t < P.types.size)

theorem trodAll_below {H : Type} {enc : TypeId × Value → H} {P : Program} (hl : laidOutB P = true) {W W' : World} (hb : Below W.heap.size W W') :
    ∀ {ts : List TypeId} {vs : List Value} {ds : List (DataW H)} {ps : List MemPlace}, parsRowed P ts = true → (∀ x ∈ ps, x.block < W.heap.size) → DataW.TrodAll enc P W 0 (fun _ => true) true ts vs ds ps →
      DataW.TrodAll enc P W' 0 (fun b => decide (b < W.heap.size)) true ts vs ds ps
  | [], [], [], _, _, _, h => h
  | [], [], _ :: _, _, _, _, h => h.elim
  | [], _ :: _, _, _, _, _, h => h.elim
  | _ :: _, [], _, _, _, _, h => h.elim
  | _ :: _, _ :: _, [], _, _, _, h => h.elim
  | t :: ts, v :: vs, d :: ds, ps, hr, hlt, h => by
    obtain ⟨p, q, h1, h2, rfl⟩ := h
    simp only [parsRowed, List.all_cons, Bool.and_eq_true, decide_eq_true_eq] at hr
    exact ⟨p, q, Below.trod hl hr.1.1 hr.1.2 h1 hb (fun x hx => hlt x (List.mem_append.2 (.inl hx))), trodAll_below hl hb (by simpa [parsRowed] using hr.2) (fun x hx => hlt x (List.mem_append.2 (.inr hx))) h2, rfl⟩

theorem post_true {H : Type} {enc : TypeId × Value → H} {P : Program} {f : Func} {s : ChangeSpec} {fresh handsOn : Bool} {W W' : World} {args : Array Value} {ds gs : List (DataW H)} {before : List MemPlace} {tb : TypeId}
    (hl : laidOutB P = true) (hr : parsRowed P f.params.toList = true) (hv : varsRowed P s.vars = true) (ht : P.underlying tb = some .bool) (hres : f.resultTypes = #[tb])
    (hW : DataW.Whole enc P f.params.toList s.vars false W args.toList ds gs before) (hfn : s.fn H (ds ++ gs) = { results := [.lit (.bool true)], args := ds, vars := gs }) (hb : Below W.heap.size W W') :
    s.post enc P f false fresh handsOn false W args (.bool true) W' := by
  have hlt : ∀ x ∈ before, x.block < W.heap.size := fun x hx => hW.lt x hx
  obtain ⟨p, q, hA, hV, hpq, hz, hn⟩ := hW
  refine ⟨ds, gs, before, [], p, q, ⟨p, q, hA, hV, hpq, hz, hn⟩, ?_, ?_, ?_, hb.frame _, fun h => by cases h⟩
  · rw [hfn, hres]
    exact trodAll_cons_mk (shut_bool ht true) trodAll_mk0
  · rw [hfn]
    exact trodAll_below hl hb hr (fun x hx => hlt x (by rw [hpq]; exact List.mem_append.2 (.inl hx))) hA
  · rw [hfn]
    exact Below.trodVars hl hb hv hV

theorem laidOut : laidOutB Tryd.prog = true := by kernel_rfl
end Go.Proofs.YtdandhmallbemaaDoor
/-
  In one sentence: FnUses returns true for every argument and leaves its arguments as they were, where the listed tables hold what their texts lay there (the card ties this). Conditions: none beside the card's tie.
-/
namespace Go.Proofs.YtdandhmallbemaaDoor
open Go.ChangeShapes Go.WideShapes Go.ChangeAt Go.RowKit Go.Joins
open Go.ChangeMaps (open_string shut_string)

/-- The cells of an array of numbers, of pairs of numbers or of texts. -/
def litCells : DataW Unit → Array Value
  | .agg l => (l.flatMap fun | .lit (.int k n) => [Value.int k n] | .lit (.string s) => [Value.string ⟨s.toArray⟩] | .agg q => q.map (fun | .lit (.int k n) => Value.int k n | _ => .bool false) | _ => [.bool false]).toArray
  | _ => #[]
/-- A table's block with these cells. -/
def setTab (h : Array Obj) (g : Nat) (cs : Array Value) : Array Obj := h.modify g fun
  | .cells _ t frozen => .cells cs t frozen
  | o => o
theorem tableR {W : World} (h : laidMetH Tryd.prog Rows.fnUsesRow.laid W) : W.var? Tryd.prog "loop.example/g01042/impl.sizeNames" = some (szNames.map fun l => Value.string ⟨l.toArray⟩).toArray := by
  have h' : laidMet Tryd.prog Rows.fnUsesRow.laid W := h
  obtain ⟨ps, ⟨g', t', cs, fuel, p, q, hg', ht', hvar, hd, _, _⟩, _⟩ := h'
  obtain rfl := Option.some.inj (gOwn.symm.trans hg')
  obtain rfl := Option.some.inj (gOwnType.symm.trans ht')
  rw [hvar]
  have := strs_of_tab (ls := szNames) gOwnUnder Tryd.underlying9 cellsOwnStr cellsOwn hd
  rw [← this]
set_option maxRecDepth 100000 in
theorem contractR (H : Type) (enc : TypeId × Value → H) (W : World) (base : Nat) (args : Array Value) (ds gs : List (DataW H)) (before : List MemPlace)
    (hval : ∀ (j : Nat) t v, Tryd.f3.params[j]? = some t → args[j]? = some v → Value.okWide Tryd.prog W .any base t v)
    (hW : DataW.Whole enc Tryd.prog Tryd.f3.params.toList Rows.fnUsesSpec.vars false W args.toList ds gs before) (hL : laidMetH Tryd.prog Rows.fnUsesRow.laid W) (_hsh : W.ShapedOpen Tryd.prog) :
    Calls Tryd.prog 3 args W fun e W' => ∃ v, e = .returned v ∧ Rows.fnUsesSpec.post enc Tryd.prog Tryd.f3 false true false false W args v W' := by
  have hW' := hW
  obtain ⟨p, q, hA0, hV, hpq, hfz, hnd⟩ := hW
  have hA : DataW.TrodAll enc Tryd.prog W 0 (fun _ => true) true Tryd.f3.params.toList args.toList ds p := hA0
  rw [Tryd.params3] at hA hval
  obtain ⟨v0, vs0, d0, ds0, p0, q0, hargs, rfl, rfl, h0, r0⟩ := trodAll_cons hA
  obtain ⟨rfl, rfl, rfl⟩ := trodAll_nil r0
  obtain rfl : args = #[v0] := by cases args; simp_all
  obtain ⟨a0, len, cap, rfl⟩ := okWide_slice Tryd.underlying22 (hval 0 22 v0 rfl rfl)
  have hcode : CodeAt W W.heap.size (.slice a0 len cap) ∧ len ≤ 9223372036854775807 := by
    obtain ⟨fuel, hf⟩ := h0
    rcases open_ints Tryd.underlying22 Tryd.underlying5 (show Tryd.prog.cellsOf 5 = 1 by kernel_rfl) hf with ⟨hcs, hx⟩ | ⟨a, len', cap', zs, hcs, _, hl, hm, hz, hx, hcell, hwz⟩
    · simp [Value.cells] at hcs
      obtain ⟨rfl, rfl, rfl⟩ := hcs
      exact ⟨.inl ⟨_, _, rfl⟩, by omega⟩
    · simp [Value.cells] at hcs
      obtain ⟨rfl, rfl, rfl⟩ := hcs
      have hm' : cap ≤ 9223372036854775807 := hm
      have hlen : len ≤ zs.length := by rw [hz]; split <;> omega
      refine ⟨?_, by omega⟩
      by_cases h0 : len = 0
      · subst h0
        exact .inl ⟨_, _, rfl⟩
      · obtain ⟨b, off, rfl, hc⟩ := ints_at hcell (by omega)
        have hblk : b < W.heap.size := World.block_lt_of_cell? W _ (hc 0 (by omega))
        refine .inr ⟨b, off, len, cap, fun i => zs.getD i 0, rfl, hblk, by omega, fun i hi => ⟨hc i (by omega), ?_⟩⟩
        have hw := hwz (zs.getD i 0) (by rw [List.getD_eq_getElem?_getD, List.getElem?_eq_getElem (by omega : i < zs.length)]; exact List.getElem_mem ..)
        simpa [Lit.wf, IntKind.min, IntKind.max, IntKind.signed, IntKind.bits] using hw
  clear hA0
  obtain ⟨g', t', cs, fuel, g1, pg, rfl, hv1, hv2, hv3, hv4, rfl⟩ := trodVars_one hV
  refine (walk_FnUses W a0 len cap hcode.1 (sz_at (tableR hL))).mono fun e W' ⟨he, hb⟩ => ?_
  subst he
  exact ⟨_, rfl, post_true laidOut (by kernel_rfl) (by kernel_rfl) Tryd.underlying4 rfl hW' rfl hb⟩

/-- A world for the witness: the settled one, the listed tables holding what their texts lay. -/
noncomputable def laidWorldR (os : Os) : World :=
  { World.holding Tryd.prog os ⟨#[], #[], []⟩ with heap := (setTab (World.holding Tryd.prog os ⟨#[], #[], []⟩).heap 0 (litCells Rows.laid_loop_example_g01042_impl_sizeNames)) }
theorem laid_metR (os : Os) : laidMet Tryd.prog Rows.fnUsesRow.laid ((laidWorldR os).forCall (fun _ _ => 0) ⟨#[], #[.slice none 0 0], []⟩).memory :=
  laidMet_of_run' 8 (by kernel_rfl) (by kernel_rfl)
theorem readsR (os : Os) {H : Type} (enc : TypeId × Value → H) : ∃ ds gs places, DataW.whole enc Tryd.prog ((laidWorldR os).forCall (fun _ _ => 0) ⟨#[], #[.slice none 0 0], []⟩).memory Tryd.f3.params.toList Rows.fnUsesSpec.vars false (#[.slice none 0 0] : Array Value).toList 8 = some (ds, gs, places) :=
  ⟨[.nil], [Rows.laid_loop_example_g01042_impl_sizeNames], MemPlace.row ⟨0, 0, none⟩ 3, by kernel_rfl⟩

set_option maxRecDepth 100000 in
theorem liftedR (os : Os) (started : os.Started) (H : Type) (enc : TypeId × Value → H) (F : Stop.Interp) :
    ReturnsInHanded {} Tryd.checked os 3 .any ((OpenSpec.ofChange Rows.fnUsesSpec).preRow enc Tryd.prog Tryd.f3 Rows.fnUsesRow.domain false Rows.fnUsesRow.laid) (((OpenSpec.ofChange Rows.fnUsesSpec).at F).post enc Tryd.prog Tryd.f3 false true false false) := by
  obtain ⟨ds, gs, places, hx⟩ := readsR os enc
  refine returnsInHanded_of_row (C := Tryd.checked) (s := OpenSpec.ofChange Rows.fnUsesSpec) own started (by kernel_rfl) Tryd.func3
    (witness_row_atRef (enc := enc) (C := Tryd.checked) false (laidWorldR os) #[.slice none 0 0] rfl (by kernel_rfl) (by kernel_rfl) (by kernel_rfl)
      (OpenSpec.preRow_of_cond 8 hx (by kernel_rfl) (fun k hk => by cases hk) (by kernel_rfl) (laid_metR os))) ?_
  intro W base args ds gs before hval hW _ _ _ hL hsh _
  exact contractR H enc W base args ds gs before hval hW hL hsh

theorem saidR : Rows.FnUsesSaid :=
  OpenClaim.holds_of_cond 3 Tryd.f3 rfl rfl rfl rfl rfl rfl rfl ⟨rfl, rfl, rfl, rfl, rfl⟩ rfl rfl rfl rfl rfl (by kernel_rfl) Tryd.func3 (by kernel_rfl)
    (of_decide_eq_true (by kernel_rfl)) (by unfold Func.isWrapper; first | (rw [if_pos (by decide +kernel)]; kernel_rfl) | (rw [if_neg (by decide +kernel)]; exact ⟨rfl, rfl⟩))
    (fun os started H enc _ F => by rw [OpenClaim.pre_eq_preRow]; exact liftedR os started H enc F)

/-- No parameter wants a stand-in; the program's own looks are told: what the card asks. -/
theorem plainR (f : FuncId) (fn : Func) (hf : Tryd.pinned.checked.prog.funcNamed "loop.example/g01042/laws.FnUses" = some f) (hfn : Tryd.pinned.checked.prog.funcs[f]? = some fn) :
    true = Tryd.pinned.checked.prog.looks [] ∧ ∀ (j : Nat) t, fn.params[j]? = some t → Tryd.pinned.checked.prog.wantsStandIn t = false := by
  obtain rfl : f = 3 := Option.some.inj ((show Tryd.prog.funcNamed "loop.example/g01042/laws.FnUses" = some 3 by kernel_rfl).symm.trans hf) |>.symm
  obtain rfl : fn = Tryd.f3 := (Option.some.inj (Tryd.func3.symm.trans hfn)).symm
  refine ⟨by kernel_rfl, fun j t ht => ?_⟩
  rw [Tryd.params3] at ht
  obtain rfl : t = 22 := by simpa using Array.mem_of_getElem? ht
  exact (show Tryd.prog.wantsStandIn 22 = false by kernel_rfl)

theorem cardR : Rows.FnUsesCardSaid :=
  Claim7.holds_tied_plain_at .later [] _ _ _ _ saidR (fun _ h => by cases h) (by kernel_rfl) (fun _ h => by cases h) fnUses_row_tie rfl ⟨rfl, rfl⟩ (by kernel_rfl) rfl plainR (by kernel_rfl)
end Go.Proofs.YtdandhmallbemaaDoor
