/-
  LayCourse: the program's table of what fills up a course, as the row's list has it.
-/
import Derived.Test.YtbhjdhkabhafmaaDoorWaY
import Derived.Test.YtbhjdhkabhafmaaDoorRows
import Derived.Deep.DeepHandedRow
import Derived.Lib.LaidTab
namespace Go.Proofs.YtbhjdhkabhafmaaDoor
open Go.ChangeShapes Go.WideShapes Go.ChangeAt Go.RowKit Go.Joins

/-- An array of strings that reads as a table holds the table's strings, cell for cell. -/
theorem strs_of_tab {H : Type} {enc : TypeId × Value → H} {P : Program} {w : World} {base : Nat} {sp : Nat → Bool} {held : Bool} {fuel : Nat} {t e : TypeId} {n : Nat} {cs : List Value} {ls : List (List UInt8)} {p : List MemPlace}
    (ht : P.underlying t = some (.array n e)) (he : P.underlying e = some .string) (hce : P.cellsOf e = 1) (hct : P.cellsOf t = n)
    (h : DataW.trod enc P w base sp held fuel t cs = some (.agg (ls.map fun l => .lit (.string l)), p)) : cs = ls.map fun l => Value.string ⟨l.toArray⟩ := by
  obtain ⟨xs, m, _, hx, hlen, hxl, hat⟩ := DataW.trod_array ht h
  rw [hct] at hlen
  have hxs : xs.map (·.1) = ls.map fun l => (DataW.lit (.string l) : DataW H) := by
    have := congrArg Prod.fst hx
    simpa using this.symm
  have hll : ls.length = n := by
    have := congrArg List.length hxs
    simp at this
    omega
  refine List.ext_getElem? fun i => ?_
  by_cases hi : i < n
  · have h1 := hat i hi
    have hxi : xs[i]? = some (xs[i]'(by omega)) := List.getElem?_eq_getElem (by omega)
    rw [hce, Nat.mul_one, hxi] at h1
    obtain ⟨s, hc, hy, _⟩ := DataW.trod_string he h1
    have h2 : cs[i]? = some (.string s) := by
      have := congrArg (·[0]?) hc
      simpa [List.getElem?_take, List.getElem?_drop] using this
    have h3 : (xs.map (·.1))[i]? = some (DataW.lit (.string s.data.toList) : DataW H) := by rw [List.getElem?_map, hxi, hy]; rfl
    rw [hxs, List.getElem?_map, Option.map_eq_some_iff] at h3
    obtain ⟨l, hl, hs⟩ := h3
    simp only [DataW.lit.injEq, Lit.string.injEq] at hs
    rw [h2, List.getElem?_map, hl, hs]
    rfl
  · rw [List.getElem?_eq_none (by omega), List.getElem?_eq_none (by simp; omega)]

/-- What fills up a course, letter by letter. -/
def fillNames : List (List UInt8) := [[], [67], [66], [84]]
theorem gOwn : Tryd.prog.globalNamed "loop.example/g01042/impl.fillers" = some 0 := by kernel_rfl
theorem gOwnType : (Tryd.prog.globals[0]?).map (·.type) = some 79 := by kernel_rfl
theorem gOwnUnder : Tryd.prog.underlying 79 = some (.array 4 9) := Tryd.underlying79
theorem cellsOwn : Tryd.prog.cellsOf 79 = 4 := by kernel_rfl
theorem cellsOwnStr : Tryd.prog.cellsOf 9 = 1 := by kernel_rfl
theorem fil_at {W : World} (ht : W.var? Tryd.prog "loop.example/g01042/impl.fillers" = some (fillNames.map fun l => Value.string ⟨l.toArray⟩).toArray) : FilAt W := by
  intro k hk
  match k, hk with
  | 0, _ => simpa [fillNames, filB, fillL] using World.var?_cell gOwn ht 0
  | 1, _ => simpa [fillNames, filB, fillL] using World.var?_cell gOwn ht 1
  | 2, _ => simpa [fillNames, filB, fillL] using World.var?_cell gOwn ht 2
  | 3, _ => simpa [fillNames, filB, fillL] using World.var?_cell gOwn ht 3
end Go.Proofs.YtbhjdhkabhafmaaDoor
