/-
  The walk of the law on ReadRuns.
-/
import Derived.Test.YtllcpgogfhjfpaaGreatDoorRrS
namespace Go.Proofs.YtllcpgogfhjfpaaGreatDoor
open Go.ChangeShapes Go.WideShapes Go.ChangeAt Go.RowKit Go.Joins

set_option maxRecDepth 100000 in
set_option maxHeartbeats 3200000 in
theorem walk_FnExactReadRuns (s : ByteArray) (w : World) (hp : Pow10 w) (tp : TypeId) (p : Value) (hv : w.var? Tryz.prog "strconv.ErrSyntax" = some #[.iface tp p]) (m : Int) (hm : w.cell? ⟨0, 0, none⟩ = some (.int .i64 m)) :
    Calls Tryz.prog 3 #[.string s] w fun e w' => e = .returned (.bool true) ∧ Below w.heap.size w w' := by
  by_cases hl : (1048576 : Int) < (s.size : Int)
  · clear hp hv hm
    go_enter Tryz.func3, Tryz.ntmps3
    go_wp2_with fail
    go_ret
    exact ⟨rfl, Below.refl _ _⟩
  obtain ⟨Q, b, hV⟩ := rrVal s
  have HS := Lib.hid (readRuns_spec s (by omega) Q b hV w)
  have HI : Hid (∀ wx, Below w.heap.size w wx → Calls Tryz.prog 5 #[.string s] wx (RrAns wx Q b)) := fun wx h => readRuns_impl s (by omega) Q b hV tp p m wx ((h.cell (p := ⟨0, 0, none⟩) (World.block_lt_of_cell? w _ hm)).trans hm) (hp.later h) (var_stays gSynL hv h (Nat.le_refl _))
  clear hp hv hm hV
  unfold RrAns at HS HI
  go_enter Tryz.func3, Tryz.ntmps3
  go_wp2_with fail
  refine HS.out.mono ?_
  rintro e w1 ⟨rfl, hb1⟩
  have B1 := Lib.hid hb1
  clear hb1
  go_wp2_with fail
  refine (HI.out _ B1.out).mono ?_
  rintro e w2 ⟨rfl, hb2⟩
  have B2 := Lib.hid (bnext B1.out hb2)
  clear hb2
  cases b
  all_goals
    go_wp2
    go_ret
    exact ⟨rfl, B2.out⟩
end Go.Proofs.YtllcpgogfhjfpaaGreatDoor
