/-
  The value of a rod: how far its joints are from the format's: contracts of the program.
-/
import Derived.Test.YtlglijalhacmhabGb
import Derived.Test.YtlglijalhacmhabGm
import Derived.Test.YtlglijalhacmhabSetM
import Derived.Deep.RegionWith
import Derived.Deep.RegionHeld3
namespace Go.Proofs.Ytlglijalhacmhab
open Go.ChangeShapes Go.WideShapes Go.ChangeAt Go.RowKit Go.Joins


theorem distw_impl (x y : Int) (hx : -1000000000000 ≤ x ∧ x ≤ 1000000000000) (hy : -1000000000000 ≤ y ∧ y ≤ 1000000000000) (w : World) : Calls Try.prog 119 #[.int .i64 x, .int .i64 y] w fun e w' => e = .returned (.int .i64 ((x - y).natAbs : Int)) ∧ w = w' := by
  obtain ⟨hx0, hx1⟩ := hx
  obtain ⟨hy0, hy1⟩ := hy
  by_cases h : x < y
  all_goals
    go_enter Try.func119, Try.ntmps119
    go_wp2
    go_ret
    exact ⟨ret_int (by omega), rfl⟩
theorem rangeW_other {W : World} {g c k : Nat} {v : Value} {V : List Value} (h : W.rangeAt g 0 V) (hne : g ≠ c) : (W.setCell ⟨c, k, none⟩ v).rangeAt g 0 V := fun q x hx => by
  rw [World.cell?_setCell_other _ _ _ _ (fun e => hne (by cases e; rfl))]; exact h q x hx
/-- How far the joints of a rod are from the format's: the numerator and the denominator. -/
def vaN (ht j H c : Int) : Int := ((lowN (H - c * ht) c - j * lowD (H - c * ht) c).natAbs : Int)
def vaD (ht H c : Int) : Int := lowD (H - c * ht) c
end Go.Proofs.Ytlglijalhacmhab
