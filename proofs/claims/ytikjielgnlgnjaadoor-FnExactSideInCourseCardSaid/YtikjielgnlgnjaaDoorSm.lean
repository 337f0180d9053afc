/-
  IsSimple: two sides with a place in common, plainly, and the model's word.
-/
import Derived.Test.YtikjielgnlgnjaaDoorHoC
import Derived.Deep.QuietTactic
import Derived.BigQuiet
namespace Go.Proofs.YtikjielgnlgnjaaDoor
open Go.ChangeShapes Go.WideShapes Go.ChangeAt Go.RowKit Go.Joins

/-- The reaches from a to b and from c to d meet. -/
def mtI (a b c d : Int) : Bool := decide (min a b ≤ max c d) && decide (min c d ≤ max a b)
def mtS (a b c d : Spot) : Bool := mtI a.x b.x c.x d.x && mtI a.y b.y c.y d.y
theorem minM_spec (a b : Int) (w : World) : Calls Tryd.prog 100 #[.int .i64 a, .int .i64 b] w fun e w' => e = .returned (.int .i64 (min a b)) ∧ w' = w := by
  by_cases h : a < b
  all_goals
    go_enter Tryd.func100, Tryd.ntmps100
    go_wp2
    go_ret
    exact ⟨ret_int (by omega), rfl⟩
theorem maxM_spec (a b : Int) (w : World) : Calls Tryd.prog 101 #[.int .i64 a, .int .i64 b] w fun e w' => e = .returned (.int .i64 (max a b)) ∧ w' = w := by
  by_cases h : b < a
  all_goals
    go_enter Tryd.func101, Tryd.ntmps101
    go_wp2
    go_ret
    exact ⟨ret_int (by omega), rfl⟩
set_option maxRecDepth 100000 in
set_option maxHeartbeats 6400000 in
theorem meet_spec (ga gb gc gd ca cb cc cd : Nat) (a b c d e f g h : Int) (w : World) (p1 : w.cell? ⟨ga, 0, none⟩ = some (.int .i64 a)) (q1 : w.cell? ⟨ga, 1, none⟩ = some (.int .i64 e)) (p2 : w.cell? ⟨gb, 0, none⟩ = some (.int .i64 b)) (q2 : w.cell? ⟨gb, 1, none⟩ = some (.int .i64 f)) (p3 : w.cell? ⟨gc, 0, none⟩ = some (.int .i64 c)) (q3 : w.cell? ⟨gc, 1, none⟩ = some (.int .i64 g)) (p4 : w.cell? ⟨gd, 0, none⟩ = some (.int .i64 d)) (q4 : w.cell? ⟨gd, 1, none⟩ = some (.int .i64 h)) :
    Calls Tryd.prog 79 #[.slice (some ⟨ga, 0, none⟩) 2 ca, .slice (some ⟨gb, 0, none⟩) 2 cb, .slice (some ⟨gc, 0, none⟩) 2 cc, .slice (some ⟨gd, 0, none⟩) 2 cd] w fun x w' => x = .returned (.bool (mtI a b c d && mtI e f g h)) ∧ ∃ m, w' = w.drewN m := by
  have M1 := Lib.hid (minM_spec a b)
  have M2 := Lib.hid (maxM_spec c d)
  have M3 := Lib.hid (minM_spec c d)
  have M4 := Lib.hid (maxM_spec a b)
  have N1 := Lib.hid (minM_spec e f)
  have N2 := Lib.hid (maxM_spec g h)
  have N3 := Lib.hid (minM_spec g h)
  have N4 := Lib.hid (maxM_spec e f)
  unfold mtI
  obtain ⟨m1, e1⟩ : ∃ m, min a b = m := ⟨_, rfl⟩
  obtain ⟨m2, e2⟩ : ∃ m, max c d = m := ⟨_, rfl⟩
  obtain ⟨m3, e3⟩ : ∃ m, min c d = m := ⟨_, rfl⟩
  obtain ⟨m4, e4⟩ : ∃ m, max a b = m := ⟨_, rfl⟩
  obtain ⟨n1, f1⟩ : ∃ m, min e f = m := ⟨_, rfl⟩
  obtain ⟨n2, f2⟩ : ∃ m, max g h = m := ⟨_, rfl⟩
  obtain ⟨n3, f3⟩ : ∃ m, min g h = m := ⟨_, rfl⟩
  obtain ⟨n4, f4⟩ : ∃ m, max e f = m := ⟨_, rfl⟩
  rw [e1] at M1 ⊢
  rw [e2] at M2 ⊢
  rw [e3] at M3 ⊢
  rw [e4] at M4 ⊢
  rw [f1] at N1 ⊢
  rw [f2] at N2 ⊢
  rw [f3] at N3 ⊢
  rw [f4] at N4 ⊢
  clear e1 e2 e3 e4 f1 f2 f3 f4
  cases h1 : decide (m1 ≤ m2)
  case true =>
    have g1 : m1 ≤ m2 := of_decide_eq_true h1
    cases h2 : decide (m3 ≤ m4)
    case true =>
      have g2 : m3 ≤ m4 := of_decide_eq_true h2
      cases h3 : decide (n1 ≤ n2)
      case true =>
        have g3 : n1 ≤ n2 := of_decide_eq_true h3
        cases h4 : decide (n3 ≤ n4)
        all_goals
          go_enter Tryd.func79, Tryd.ntmps79
          go_wp2
          refine wp_region_quiet_lit (by kernel_rfl) (by kernel_rfl) ?_
          dsimp only [List.append]
          repeat (go_big_quiet_step (first | (go_at_call_of 100 (Value.int .i64 a); exact Calls.quiet_of_same (M1.out _)) | (go_at_call_of 101 (Value.int .i64 c); exact Calls.quiet_of_same (M2.out _)) | (go_at_call_of 100 (Value.int .i64 c); exact Calls.quiet_of_same (M3.out _)) | (go_at_call_of 101 (Value.int .i64 a); exact Calls.quiet_of_same (M4.out _)) | (go_at_call_of 100 (Value.int .i64 e); exact Calls.quiet_of_same (N1.out _)) | (go_at_call_of 101 (Value.int .i64 g); exact Calls.quiet_of_same (N2.out _)) | (go_at_call_of 100 (Value.int .i64 g); exact Calls.quiet_of_same (N3.out _)) | (go_at_call_of 101 (Value.int .i64 e); exact Calls.quiet_of_same (N4.out _))))
          refine wpQuiet_nil ?_
          intro _ hw'
          obtain ⟨nq, hw''⟩ := hw'
          subst hw''
          go_wp2
          go_ret
          exact ⟨rfl, _, rfl⟩
      case false =>
        go_enter Tryd.func79, Tryd.ntmps79
        go_wp2
        refine wp_region_quiet_lit (by kernel_rfl) (by kernel_rfl) ?_
        dsimp only [List.append]
        repeat (go_big_quiet_step (first | (go_at_call_of 100 (Value.int .i64 a); exact Calls.quiet_of_same (M1.out _)) | (go_at_call_of 101 (Value.int .i64 c); exact Calls.quiet_of_same (M2.out _)) | (go_at_call_of 100 (Value.int .i64 c); exact Calls.quiet_of_same (M3.out _)) | (go_at_call_of 101 (Value.int .i64 a); exact Calls.quiet_of_same (M4.out _)) | (go_at_call_of 100 (Value.int .i64 e); exact Calls.quiet_of_same (N1.out _)) | (go_at_call_of 101 (Value.int .i64 g); exact Calls.quiet_of_same (N2.out _))))
        refine wpQuiet_nil ?_
        intro _ hw'
        obtain ⟨nq, hw''⟩ := hw'
        subst hw''
        go_wp2
        go_ret
        exact ⟨rfl, _, rfl⟩
    case false =>
      go_enter Tryd.func79, Tryd.ntmps79
      go_wp2
      refine wp_region_quiet_lit (by kernel_rfl) (by kernel_rfl) ?_
      dsimp only [List.append]
      repeat (go_big_quiet_step (first | (go_at_call_of 100 (Value.int .i64 a); exact Calls.quiet_of_same (M1.out _)) | (go_at_call_of 101 (Value.int .i64 c); exact Calls.quiet_of_same (M2.out _)) | (go_at_call_of 100 (Value.int .i64 c); exact Calls.quiet_of_same (M3.out _)) | (go_at_call_of 101 (Value.int .i64 a); exact Calls.quiet_of_same (M4.out _))))
      refine wpQuiet_nil ?_
      intro _ hw'
      obtain ⟨nq, hw''⟩ := hw'
      subst hw''
      go_wp2
      go_ret
      exact ⟨rfl, _, rfl⟩
  case false =>
    go_enter Tryd.func79, Tryd.ntmps79
    go_wp2
    refine wp_region_quiet_lit (by kernel_rfl) (by kernel_rfl) ?_
    dsimp only [List.append]
    repeat (go_big_quiet_step (first | (go_at_call_of 100 (Value.int .i64 a); exact Calls.quiet_of_same (M1.out _)) | (go_at_call_of 101 (Value.int .i64 c); exact Calls.quiet_of_same (M2.out _))))
    refine wpQuiet_nil ?_
    intro _ hw'
    obtain ⟨nq, hw''⟩ := hw'
    subst hw''
    go_wp2
    go_ret
    exact ⟨rfl, _, rfl⟩
end Go.Proofs.YtikjielgnlgnjaaDoor
