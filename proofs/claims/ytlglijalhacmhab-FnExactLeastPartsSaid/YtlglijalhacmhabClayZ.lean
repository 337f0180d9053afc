/-
  The size of a clay, as the laws ask it.
-/
import Derived.Test.YtlglijalhacmhabClay
namespace Go.Proofs.Ytlglijalhacmhab
open Go.ChangeShapes Go.WideShapes Go.ChangeAt Go.RowKit Go.Joins

theorem sz_clay (c : Cl) (left : Int) (h0 : 0 ≤ left) (h1 : left ≤ 1048576) (hs : c.name.size ≤ 9223372036854775807) (w : World) : Calls Try.prog 46 #[.agg #[.string c.name, .int .i64 c.sh, .int .i64 c.li, .int .i64 c.sa, .int .i64 c.pr], .int .i64 left] w fun e w' => ∃ r : Int, e = .returned (.int .i64 r) ∧ -1 ≤ r ∧ r ≤ left ∧ (0 ≤ r → c.name.size ≤ 1048576) ∧ Below w.heap.size w w' := by
  by_cases h : left - (c.name.size : Int) < 0
  · go_enter Try.func46, Try.ntmps46
    go_wp2
    go_ret
    exact ⟨-1, rfl, by omega, by omega, fun h => by omega, balloc0 _ _⟩
  · go_enter Try.func46, Try.ntmps46
    go_wp2
    go_ret
    exact ⟨left - c.name.size, rfl, by omega, by omega, fun _ => by omega, balloc0 _ _⟩
end Go.Proofs.Ytlglijalhacmhab
