/-
  A clay as told: the model's word.
-/
import Derived.Test.YtlglijalhacmhabClay
namespace Go.Proofs.Ytlglijalhacmhab
open Go.ChangeShapes Go.WideShapes Go.ChangeAt Go.RowKit Go.Joins

theorem mille_spec (n : Int) (w : World) : Calls Try.prog 99 #[.int .i64 n] w fun e w' => e = .returned (.bool (inB n 0 1000)) ∧ w = w' := by
  go_enter Try.func99, Try.ntmps99
  go_wp2_with (go_at_call 71; refine (in_any _ _ _ _).mono ?_; rintro e w' ⟨rfl, rfl⟩)
  go_ret
  exact ⟨rfl, rfl⟩

set_option maxHeartbeats 1600000 in
/-- A clay that lies at p. -/
theorem one_spec (c : Cl) (b o : Nat) (w : World) (c0 : w.cell? ⟨b, o, none⟩ = some (.string c.name)) (c1 : w.cell? ⟨b, o + 1, none⟩ = some (.int .i64 c.sh)) (c2 : w.cell? ⟨b, o + 2, none⟩ = some (.int .i64 c.li)) (c3 : w.cell? ⟨b, o + 3, none⟩ = some (.int .i64 c.sa)) (c4 : w.cell? ⟨b, o + 4, none⟩ = some (.int .i64 c.pr)) :
    Calls Try.prog 140 #[.pointer (some ⟨b, o, none⟩)] w fun e w' => e = .returned (.bool c.ok) ∧ w = w' := by
  have HN := Lib.hid (name_spec c.name)
  cases h0 : nameB c.name <;> cases h1 : inB c.sh 0 200 <;> cases h2 : inB c.li 0 1000 <;> cases h3 : inB c.sa 0 1000
  all_goals
    rw [h0] at HN
    go_enter Try.func140, Try.ntmps140
    go_wp2_with (first | (go_at_call 160; refine (HN.out _).mono ?_; rintro e w' ⟨rfl, rfl⟩) | (go_at_call 99; refine (mille_spec _ _).mono ?_; rintro e w' ⟨rfl, rfl⟩) | (go_at_call 71; refine (in_any _ _ _ _).mono ?_; rintro e w' ⟨rfl, rfl⟩))
    go_ret
    exact ⟨ret_bool (by simp only [Cl.ok, h0, h1, h2, h3]; first | rfl | simp), rfl⟩
end Go.Proofs.Ytlglijalhacmhab
