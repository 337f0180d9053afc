/-
  Directions: the program's table of them, as the row's list has it.
-/
import Derived.Test.YtikjielgnlgnjaaDoorHoW
import Derived.Test.YtikjielgnlgnjaaDoorOpenH
import Derived.Test.YtikjielgnlgnjaaDoorRows
import Derived.Deep.DeepHandedRow
namespace Go.Proofs.YtikjielgnlgnjaaDoor
open Go.ChangeShapes Go.WideShapes Go.ChangeAt Go.RowKit Go.Joins

theorem cells_placeH : Tryd.prog.cellsOf 72 = 2 := by kernel_rfl
theorem gOwn : Tryd.prog.globalNamed "loop.example/g01042/impl.directions" = some 0 := by kernel_rfl
theorem gOwnType : (Tryd.prog.globals[0]?).map (·.type) = some 100 := by kernel_rfl
theorem gOwnUnder : Tryd.prog.underlying 100 = some (.array 4 72) := Tryd.underlying100
theorem cellsOwn : Tryd.prog.cellsOf 100 = 8 := by kernel_rfl
section
variable {H : Type} {enc : TypeId × Value → H} {w : World} {base : Nat} {sp : Nat → Bool} {held : Bool}
theorem place_cells {n : Nat} {cs : List Value} {p q : Int} {r : List MemPlace} (h : DataW.trod enc Tryd.prog w base sp held n 72 cs = some (.agg [.lit (.int .i64 p), .lit (.int .i64 q)], r)) : cs = [.int .i64 p, .int .i64 q] := by
  obtain ⟨y0, y1, m, hx, hlen, f0, f1⟩ := trod_struct2 Tryd.underlying72 h
  have hlen := hlen.trans cells_placeH
  obtain ⟨c0, c1, rfl⟩ := pair_ofH hlen
  rw [cells_intH] at f0 f1
  obtain ⟨z0, g0, e0, _⟩ := DataW.trod_int Tryd.underlying2 f0
  obtain ⟨z1, g1, e1, _⟩ := DataW.trod_int Tryd.underlying2 f1
  subst e0 e1
  simp at g0 g1 hx
  obtain ⟨⟨rfl, rfl⟩, _⟩ := hx
  rw [g0, g1]
/-- The four directions as data. -/
def dirTab : List (Int × Int) := [(1, 0), (0, 1), (-1, 0), (0, -1)]
theorem dirs_cells {fuel : Nat} {cs : List Value} {p : List MemPlace} (h : DataW.trod enc Tryd.prog w base sp held fuel 100 cs = some (.agg (dirTab.map fun q => .agg [.lit (.int .i64 q.1), .lit (.int .i64 q.2)]), p)) :
    ∀ i (q : Int × Int), dirTab[i]? = some q → cs[2 * i]? = some (.int .i64 q.1) ∧ cs[2 * i + 1]? = some (.int .i64 q.2) := by
  obtain ⟨xs, m, _, hx, hlen, hxl, hat⟩ := DataW.trod_array gOwnUnder h
  intro i q hq
  have hi : i < 4 := (List.getElem?_eq_some_iff.1 hq).1
  have hxs : xs.map (·.1) = dirTab.map fun q => (DataW.agg [.lit (.int .i64 q.1), .lit (.int .i64 q.2)] : DataW H) := by
    have := congrArg Prod.fst hx
    simpa using this.symm
  have h1 := hat i hi
  have hxi : xs[i]? = some (xs[i]'(by omega)) := List.getElem?_eq_getElem (by omega)
  rw [cells_placeH, hxi] at h1
  have h3 : (xs[i]'(by omega)).1 = (DataW.agg [.lit (.int .i64 q.1), .lit (.int .i64 q.2)] : DataW H) := by
    have := congrArg (·[i]?) hxs
    simp only [List.getElem?_map, hxi, hq, Option.map_some] at this
    exact Option.some.inj this
  obtain ⟨y, hy⟩ : ∃ y, (xs[i]'(by omega)) = y := ⟨_, rfl⟩
  rw [hy] at h1 h3
  obtain ⟨y1, y2⟩ := y
  simp only at h3
  subst h3
  have h4 := place_cells h1
  have e0 := congrArg (·[0]?) h4
  have e1 := congrArg (·[1]?) h4
  simp only [List.getElem?_take, List.getElem?_drop] at e0 e1
  refine ⟨?_, ?_⟩
  · rw [Nat.mul_comm]; simpa using e0
  · rw [Nat.mul_comm]; simpa using e1
end
theorem dir_at {W : World} (ht : ∃ cs : Array Value, W.var? Tryd.prog "loop.example/g01042/impl.directions" = some cs ∧ ∀ i (q : Int × Int), dirTab[i]? = some q → cs.toList[2 * i]? = some (.int .i64 q.1) ∧ cs.toList[2 * i + 1]? = some (.int .i64 q.2)) : DirAt W := by
  obtain ⟨cs, hv, hc⟩ := ht
  intro d hd
  have h0 := World.var?_cell gOwn hv (2 * d)
  have h1 := World.var?_cell gOwn hv (2 * d + 1)
  rw [h0, h1]
  match d, hd with
  | 0, _ => simpa [wayX, wayY] using hc 0 (1, 0) rfl
  | 1, _ => simpa [wayX, wayY] using hc 1 (0, 1) rfl
  | 2, _ => simpa [wayX, wayY] using hc 2 (-1, 0) rfl
  | 3, _ => simpa [wayX, wayY] using hc 3 (0, -1) rfl
end Go.Proofs.YtikjielgnlgnjaaDoor
