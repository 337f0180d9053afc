/-
  In one sentence: FnExactReadHouse returns true for every string and leaves it as it was, where Go's own tables, the two errors of strconv and the table of directions hold what their texts lay there (the card ties this). Conditions: none beside the card's tie.
-/
import Derived.Test.YtikjielgnlgnjaaDoorCwRh
import Derived.Test.YtikjielgnlgnjaaDoorHoD
import Derived.Test.YtikjielgnlgnjaaDoorCards
import Derived.Test.YtikjielgnlgnjaaDoorTie
import Derived.Test.YtikjielgnlgnjaaDoorOpenH
import Derived.Stop.LaidErr
import Derived.Shelf.Vars
import Derived.Deep.DeepHandedRow
import Derived.Deep.DeepWitnessRowRef
import Derived.JoinedCond
namespace Go.Proofs.YtikjielgnlgnjaaDoor
open Go.ChangeShapes Go.WideShapes Go.ChangeAt Go.RowKit Go.Joins
open Go.ChangeMaps (open_string shut_string)

theorem gSynType : (Tryd.prog.globals[5]?).map (·.type) = some 112 := by kernel_rfl
theorem cellsES : Tryd.prog.cellsOf 189 = 1 := by kernel_rfl
theorem cellsST : Tryd.prog.cellsOf 9 = 1 := by kernel_rfl
theorem starES : "*" ++ "errors.errorString" = "*errors.errorString" := by decide
/-- The one type of that name. -/
theorem rowES (u : TypeId) (h : Tryd.prog.typeName? 3 u = some "*errors.errorString") : u = 187 :=
  typeName_ptr_named (nm := "errors.errorString") (by rw [starES]; kernel_rfl) (by kernel_rfl) (by decide) u (by rw [starES]; exact h)
/-- The table of the powers of ten stands third, the error fifth. -/
theorem powersR {W : World} (h : laidMetH Tryd.prog Rows.fnExactReadHouseRow.laid W) : Lib.TabIs Tryd.prog W "internal/strconv.uint64pow10" .u64 Lib.pow10Tab := by
  have h' : laidMet Tryd.prog Rows.fnExactReadHouseRow.laid W := h
  obtain ⟨ps, ⟨_, _, _, _, _, _, _, _, _, _, ⟨_, _, _, _, _, _, _, _, _, _, ⟨g', t', cs, fuel, p, q, hg', ht', hvar, hd, _, _⟩, _⟩, _⟩, _⟩ := h'
  obtain rfl := Option.some.inj (gPow.symm.trans hg')
  obtain rfl := Option.some.inj (gPowType.symm.trans ht')
  rw [powDatum] at hd
  unfold Lib.TabIs
  rw [hvar, ← Lib.cells_of_tab Tryd.underlying160 Tryd.underlying145 cellsU64 cellsPow hd]
theorem synR {W : World} (h : laidMetH Tryd.prog Rows.fnExactReadHouseRow.laid W) : ∃ p : Value, W.var? Tryd.prog "strconv.ErrSyntax" = some #[.iface 187 p] := by
  have h' : laidMet Tryd.prog Rows.fnExactReadHouseRow.laid W := h
  obtain ⟨a0, s0, hv0, -, -, -⟩ := laid_sentinel h'.tail.tail.tail.tail.tail gSynL gSynType Tryd.underlying112 rowES Tryd.underlying187 Tryd.underlying189 rfl rfl Tryd.underlying9 cellsES cellsST
  exact ⟨_, hv0⟩

theorem tableR {W : World} (h : laidMetH Tryd.prog Rows.fnExactReadHouseRow.laid W) : DirAt W := by
  have h' : laidMet Tryd.prog Rows.fnExactReadHouseRow.laid W := h
  obtain ⟨ps, ⟨g', t', cs, fuel, p, q, hg', ht', hvar, hd, _, _⟩, _⟩ := h'.tail.tail.tail.tail.tail.tail
  obtain rfl := Option.some.inj (gOwn.symm.trans hg')
  obtain rfl := Option.some.inj (gOwnType.symm.trans ht')
  exact dir_at ⟨_, hvar, fun i q hq => dirs_cells hd i q hq⟩

/-- The cells of an array of numbers or of pairs of numbers. -/
def litCells : DataW Unit → Array Value
  | .agg l => (l.flatMap fun | .lit (.int k n) => [Value.int k n] | .agg q => q.map (fun | .lit (.int k n) => Value.int k n | _ => .bool false) | _ => [.bool false]).toArray
  | _ => #[]
/-- A table's block with these cells. -/
def setTab (h : Array Obj) (g : Nat) (cs : Array Value) : Array Obj := h.modify g fun
  | .cells _ t frozen => .cells cs t frozen
  | o => o
set_option maxRecDepth 100000 in
theorem contractR (H : Type) (enc : TypeId × Value → H) (W : World) (base : Nat) (args : Array Value) (ds gs : List (DataW H)) (before : List MemPlace)
    (hval : ∀ (j : Nat) t v, Tryd.f13.params[j]? = some t → args[j]? = some v → Value.okWide Tryd.prog W .any base t v)
    (hW : DataW.Whole enc Tryd.prog Tryd.f13.params.toList Rows.fnExactReadHouseSpec.vars false W args.toList ds gs before) (hL : laidMetH Tryd.prog Rows.fnExactReadHouseRow.laid W) (hsh : W.ShapedOpen Tryd.prog) :
    Calls Tryd.prog 13 args W fun e W' => ∃ v, e = .returned v ∧ Rows.fnExactReadHouseSpec.post enc Tryd.prog Tryd.f13 false true false false W args v W' := by
  have hW' := hW
  obtain ⟨p, q, hA0, hV, hpq, hfz, hnd⟩ := hW
  have hA : DataW.TrodAll enc Tryd.prog W 0 (fun _ => true) true Tryd.f13.params.toList args.toList ds p := hA0
  rw [Tryd.params13] at hA hval
  obtain ⟨v0, vs0, d0, ds0, p0, q0, hargs, rfl, rfl, h0, r0⟩ := trodAll_cons hA
  obtain ⟨rfl, rfl, rfl⟩ := trodAll_nil r0
  obtain rfl : args = #[v0] := by cases args; simp_all
  obtain ⟨a0, rfl, rfl, rfl, w0⟩ := open_string Tryd.underlying9 (hval 0 9 v0 rfl rfl) h0
  clear hA0
  obtain ⟨g', t', cs, fuel, g1, pg, rfl, hv1, hv2, hv3, hv4, rfl⟩ := trodVars_one hV
  obtain ⟨ev, hev⟩ := synR hL
  obtain ⟨m, hm⟩ : ∃ m, W.cell? ⟨1, 0, none⟩ = some (.int .i64 m) := cell_of_shapedOpen_int (zero := #[.int .i64 0]) (t := 3) hsh (of_decide_eq_true (by kernel_rfl)) (by kernel_rfl) rfl (by kernel_rfl) (by kernel_rfl) Tryd.underlying3
  refine (walk_FnExactReadHouse a0 W (powersR hL) _ ev hev m hm (tableR hL)).mono fun e W' ⟨he, hb⟩ => ?_
  subst he
  exact ⟨_, rfl, post_true laidOut (by kernel_rfl) (by kernel_rfl) Tryd.underlying4 rfl hW' rfl hb⟩

/-- A world for the witness: the settled one with two blocks more (the two errors), the variables holding what their initialisers lay. -/
noncomputable def laidWorldR (os : Os) : World :=
  let N := (World.settled Tryd.prog os).heap.size
  let w0 := World.holding Tryd.prog os ⟨#[.cells #[.string ⟨#[105, 110, 118, 97, 108, 105, 100, 32, 115, 121, 110, 116, 97, 120]⟩] 189, .cells #[.string ⟨#[118, 97, 108, 117, 101, 32, 111, 117, 116, 32, 111, 102, 32, 114, 97, 110, 103, 101]⟩] 189], #[], []⟩
  { w0 with heap := setTab (setTab (setTab (setTab (setTab (setTab (setTab (setTab w0.heap 2 (litCells Rows.laid_internal_strconv_uint64pow10)) 7 (litCells Rows.laid_math_bits_deBruijn32tab)) 8 (litCells Rows.laid_math_bits_deBruijn64tab)) 5 #[.iface 187 (.pointer (some ⟨N, 0, none⟩))]) 6 #[.iface 187 (.pointer (some ⟨N + 1, 0, none⟩))]) 4 (litCells Rows.laid_unicode_utf8_acceptRanges)) 0 (litCells Rows.laid_loop_example_g01042_impl_directions)) 3 (litCells Rows.laid_unicode_utf8_first) }
theorem laid_metR (os : Os) : laidMet Tryd.prog Rows.fnExactReadHouseRow.laid ((laidWorldR os).forCall (fun _ _ => 0) ⟨#[], #[.string ⟨#[]⟩], []⟩).memory :=
  laidMet_of_run' 8 (by kernel_rfl) (by kernel_rfl)
theorem readsR (os : Os) {H : Type} (enc : TypeId × Value → H) : ∃ ds gs places, DataW.whole enc Tryd.prog ((laidWorldR os).forCall (fun _ _ => 0) ⟨#[], #[.string ⟨#[]⟩], []⟩).memory Tryd.f13.params.toList Rows.fnExactReadHouseSpec.vars false (#[Value.string ⟨#[]⟩] : Array Value).toList 8 = some (ds, gs, places) :=
  ⟨[.lit (.string [])], [Rows.laid_loop_example_g01042_impl_directions], MemPlace.row ⟨0, 0, none⟩ 8, by kernel_rfl⟩

set_option maxRecDepth 100000 in
theorem liftedR (os : Os) (started : os.Started) (H : Type) (enc : TypeId × Value → H) (F : Stop.Interp) :
    ReturnsInHanded {} Tryd.checked os 13 .any ((OpenSpec.ofChange Rows.fnExactReadHouseSpec).preRow enc Tryd.prog Tryd.f13 Rows.fnExactReadHouseRow.domain false Rows.fnExactReadHouseRow.laid) (((OpenSpec.ofChange Rows.fnExactReadHouseSpec).at F).post enc Tryd.prog Tryd.f13 false true false false) := by
  obtain ⟨ds, gs, places, hx⟩ := readsR os enc
  refine returnsInHanded_of_row (C := Tryd.checked) (s := OpenSpec.ofChange Rows.fnExactReadHouseSpec) own started (by kernel_rfl) Tryd.func13
    (witness_row_atRef (enc := enc) (C := Tryd.checked) false (laidWorldR os) #[.string ⟨#[]⟩] rfl (by kernel_rfl) (by kernel_rfl) (by kernel_rfl)
      (OpenSpec.preRow_of_cond 8 hx (by kernel_rfl) (fun k hk => by cases hk) (by kernel_rfl) (laid_metR os))) ?_
  intro W base args ds gs before hval hW _ _ _ hL hsh _
  exact contractR H enc W base args ds gs before hval hW hL hsh

theorem saidR : Rows.FnExactReadHouseSaid :=
  OpenClaim.holds_of_cond 13 Tryd.f13 rfl rfl rfl rfl rfl rfl rfl ⟨rfl, rfl, rfl, rfl, rfl⟩ rfl rfl rfl rfl rfl (by kernel_rfl) Tryd.func13 (by kernel_rfl)
    (of_decide_eq_true (by kernel_rfl)) (by unfold Func.isWrapper; first | (rw [if_pos (by decide +kernel)]; kernel_rfl) | (rw [if_neg (by decide +kernel)]; exact ⟨rfl, rfl⟩))
    (fun os started H enc _ F => by rw [OpenClaim.pre_eq_preRow]; exact liftedR os started H enc F)

/-- No parameter wants a stand-in; the program's own looks are off: what the card asks. -/
theorem plainR (f : FuncId) (fn : Func) (hf : Tryd.pinned.checked.prog.funcNamed "loop.example/g01042/laws.FnExactReadHouse" = some f) (hfn : Tryd.pinned.checked.prog.funcs[f]? = some fn) :
    true = Tryd.pinned.checked.prog.looks [] ∧ ∀ (j : Nat) t, fn.params[j]? = some t → Tryd.pinned.checked.prog.wantsStandIn t = false := by
  obtain rfl : f = 13 := Option.some.inj ((show Tryd.prog.funcNamed "loop.example/g01042/laws.FnExactReadHouse" = some 13 by kernel_rfl).symm.trans hf) |>.symm
  obtain rfl : fn = Tryd.f13 := (Option.some.inj (Tryd.func13.symm.trans hfn)).symm
  refine ⟨by kernel_rfl, fun j t ht => ?_⟩
  rw [Tryd.params13] at ht
  obtain rfl : t = 9 := by simpa using Array.mem_of_getElem? ht
  exact (show Tryd.prog.wantsStandIn 9 = false by kernel_rfl)

theorem cardR : Rows.FnExactReadHouseCardSaid :=
  Claim7.holds_tied_plain_at .later [] _ _ _ _ saidR (fun _ h => by cases h) (by kernel_rfl) (fun _ h => by cases h) fnExactReadHouse_row_tie rfl ⟨rfl, rfl⟩ (by kernel_rfl) rfl plainR (by kernel_rfl)
end Go.Proofs.YtikjielgnlgnjaaDoor
