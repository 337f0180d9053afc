/-
  Lists of the same clays are equal, as the laws ask it.
-/
import Derived.Test.YtlglijalhacmhabClay
import Derived.Deep.RegionWith
namespace Go.Proofs.Ytlglijalhacmhab
open Go.ChangeShapes Go.WideShapes Go.ChangeAt Go.RowKit Go.Joins

theorem eq_clay (c : Cl) (w : World) : Calls Try.prog 51 #[.agg #[.string c.name, .int .i64 c.sh, .int .i64 c.li, .int .i64 c.sa, .int .i64 c.pr], .agg #[.string c.name, .int .i64 c.sh, .int .i64 c.li, .int .i64 c.sa, .int .i64 c.pr]] w fun e w' => e = .returned (.bool true) ∧ Below w.heap.size w w' := by
  go_enter Try.func51, Try.ntmps51
  go_wp2
  go_ret
  exact ⟨rfl, balloc (balloc0 _ _) _⟩

set_option maxRecDepth 100000 in
set_option maxHeartbeats 1600000 in
theorem eq_clays (L : List Cl) (a a' : Option Addr) (cap cap' : Nat) (hl : L.length ≤ 1048577) (w : World) (ha : ClArg w a L) (ha' : ClArg w a' L) :
    Calls Try.prog 17 #[.slice a L.length cap, .slice a' L.length cap'] w fun e w' => e = .returned (.bool true) ∧ Below w.heap.size w w' := by
  have HA := Lib.hid ha
  have HA' := Lib.hid ha'
  clear ha ha'
  go_enter Try.func17, Try.ntmps17
  go_wp2
  go_loopw [5] (fun i wr => ∃ k : Nat, k ≤ L.length ∧ i = .int .i64 k ∧ Hid (Below w.heap.size w wr)) (fun i _ => L.length - (intOf i).toNat)
  case atStart => exact ⟨0, Nat.zero_le _, rfl, Below.refl _ _⟩
  case round =>
    obtain ⟨k, hk, rfl, hB⟩ := hrel
    by_cases hlt : k < L.length
    · have hlt' : (k : Int) < (L.length : Int) := by omega
      have hk0 : (0 : Int) ≤ (k : Int) := by omega
      obtain ⟨b, o, c, rfl, hc, hat⟩ := (HA.out.later hB.out).at hlt
      obtain ⟨b', o', c', rfl, hc', hat'⟩ := (HA'.out.later hB.out).at hlt
      rw [hc] at hc'
      cases hc'
      obtain ⟨c0, c1, c2, c3, c4⟩ := hat.cells hc
      obtain ⟨d0, d1, d2, d3, d4⟩ := hat'.cells hc
      clear hc hat hat'
      go_wp2_with fail
      go_region_with (go_at_call 51; refine (eq_clay c _).mono ?_; rintro e w1 ⟨rfl, hb1⟩; have B1 := Lib.hid hb1; clear hb1)
      all_goals
        go_wp2
        go_roundw
        case rel => exact ⟨k + 1, by omega, by go_num, bnext hB.out.drew B1.out⟩
        case measure => simp [intOf]; omega
    · have hge : ¬ (k : Int) < (L.length : Int) := by omega
      go_wp2
      go_ret
      exact ⟨rfl, hB.out⟩
end Go.Proofs.Ytlglijalhacmhab
