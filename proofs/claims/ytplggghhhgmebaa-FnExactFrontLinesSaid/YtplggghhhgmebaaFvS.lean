/-
  Which fronts are valid: the model's word.
-/
import Derived.Test.YtplggghhhgmebaaFv
import Derived.Test.YtplggghhhgmebaaFr
import Derived.Deep.RegionHeld3
namespace Go.Proofs.Ytplggghhhgmebaa
open Go.ChangeShapes Go.WideShapes Go.ChangeAt Go.RowKit Go.Joins

set_option maxRecDepth 100000 in
set_option maxHeartbeats 1600000 in
theorem ovl_spec (c d : Og) (w : World) : Calls Try.prog 58 #[.agg #[.int .i64 c.fr, .int .i64 c.tt, .int .i64 c.lo, .int .i64 c.hi], .agg #[.int .i64 d.fr, .int .i64 d.tt, .int .i64 d.lo, .int .i64 d.hi]] w fun e w' => e = .returned (.bool (c.ovl d)) ∧ Below w.heap.size w w' := by
  by_cases h1 : c.fr < d.tt <;> by_cases h2 : d.fr < c.tt <;> by_cases h3 : c.lo < d.hi <;> by_cases h4 : d.lo < c.hi
  all_goals
    go_enter Try.func58, Try.ntmps58
    go_wp2
    go_ret
    exact ⟨ret_bool (by simp [Og.ovl, h1, h2, h3, h4]), balloc (balloc0 _ _) _⟩
set_option maxRecDepth 100000 in
set_option maxHeartbeats 1600000 in
theorem bef_spec (c d : Og) (w : World) : Calls Try.prog 79 #[.agg #[.int .i64 c.fr, .int .i64 c.tt, .int .i64 c.lo, .int .i64 c.hi], .agg #[.int .i64 d.fr, .int .i64 d.tt, .int .i64 d.lo, .int .i64 d.hi]] w fun e w' => e = .returned (.bool (c.bef d)) ∧ Below w.heap.size w w' := by
  by_cases h1 : c.fr = d.fr <;> by_cases h2 : c.fr < d.fr <;> by_cases h3 : c.lo < d.lo
  all_goals first | (exfalso; omega) | skip
  all_goals
    go_enter Try.func79, Try.ntmps79
    go_wp2
    go_ret
    exact ⟨ret_bool (by simp [Og.bef, h1, h2, h3]), balloc (balloc0 _ _) _⟩
set_option maxRecDepth 100000 in
set_option maxHeartbeats 1600000 in
theorem fit_spec (F C : Int) (c : Og) (fb : Nat) (a : Option Addr) (cap : Nat) (L : List Og) (w : World) (hf : FrBox fb F C a cap L w) : Calls Try.prog 57 #[.pointer (some ⟨fb, 0, none⟩), .agg #[.int .i64 c.fr, .int .i64 c.tt, .int .i64 c.lo, .int .i64 c.hi]] w fun e w' => e = .returned (.bool (c.fit F C)) ∧ Below w.heap.size w w' := by
  obtain ⟨q0, q1, _⟩ := hf.later (balloc0 w (.cells #[.int .i64 c.fr, .int .i64 c.tt, .int .i64 c.lo, .int .i64 c.hi] 38))
  clear hf
  by_cases h1 : 0 ≤ c.fr
  case neg =>
    have hd : decide (0 ≤ c.fr) = false := decide_eq_false h1
    go_enter Try.func57, Try.ntmps57
    go_wp2_with fail
    go_quiet (fail "none")
    go_wp2
    go_ret
    exact ⟨ret_bool (by simp [Og.fit, hd]), below_drewN (balloc0 _ _) _⟩
  by_cases h2 : c.fr < c.tt
  case neg =>
    have hd : decide (c.fr < c.tt) = false := decide_eq_false h2
    go_enter Try.func57, Try.ntmps57
    go_wp2_with fail
    go_quiet (fail "none")
    go_wp2
    go_ret
    exact ⟨ret_bool (by simp [Og.fit, h1, hd]), below_drewN (balloc0 _ _) _⟩
  by_cases h3 : c.tt ≤ F
  case neg =>
    have hd : decide (c.tt ≤ F) = false := decide_eq_false h3
    go_enter Try.func57, Try.ntmps57
    go_wp2_with fail
    go_quiet (fail "none")
    go_wp2
    go_ret
    exact ⟨ret_bool (by simp [Og.fit, h1, h2, hd]), below_drewN (balloc0 _ _) _⟩
  by_cases h4 : 0 ≤ c.lo
  case neg =>
    have hd : decide (0 ≤ c.lo) = false := decide_eq_false h4
    go_enter Try.func57, Try.ntmps57
    go_wp2_with fail
    go_quiet (fail "none")
    go_wp2
    go_ret
    exact ⟨ret_bool (by simp [Og.fit, h1, h2, h3, hd]), below_drewN (balloc0 _ _) _⟩
  by_cases h5 : c.lo < c.hi
  case neg =>
    have hd : decide (c.lo < c.hi) = false := decide_eq_false h5
    go_enter Try.func57, Try.ntmps57
    go_wp2_with fail
    go_quiet (fail "none")
    go_wp2
    go_ret
    exact ⟨ret_bool (by simp [Og.fit, h1, h2, h3, h4, hd]), below_drewN (balloc0 _ _) _⟩
  by_cases h6 : c.hi ≤ C
  case neg =>
    have hd : decide (c.hi ≤ C) = false := decide_eq_false h6
    go_enter Try.func57, Try.ntmps57
    go_wp2_with fail
    go_quiet (fail "none")
    go_wp2
    go_ret
    exact ⟨ret_bool (by simp [Og.fit, h1, h2, h3, h4, h5, hd]), below_drewN (balloc0 _ _) _⟩
  go_enter Try.func57, Try.ntmps57
  go_wp2_with fail
  go_quiet (fail "none")
  go_wp2
  go_ret
  exact ⟨ret_bool (by simp [Og.fit, h1, h2, h3, h4, h5, h6]), below_drewN (balloc0 _ _) _⟩
end Go.Proofs.Ytplggghhhgmebaa
