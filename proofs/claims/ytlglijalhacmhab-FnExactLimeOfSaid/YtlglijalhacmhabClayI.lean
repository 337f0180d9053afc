/-
  A clay as told: the program's answer.
-/
import Derived.Test.YtlglijalhacmhabClay
import Derived.Test.YtlglijalhacmhabNameI
import Derived.Deep.RegionWith
namespace Go.Proofs.Ytlglijalhacmhab
open Go.ChangeShapes Go.WideShapes Go.ChangeAt Go.RowKit Go.Joins

set_option maxHeartbeats 1600000 in
theorem isClay_impl (c : Cl) (w : World) : Calls Try.prog 141 #[.agg #[.string c.name, .int .i64 c.sh, .int .i64 c.li, .int .i64 c.sa, .int .i64 c.pr]] w fun e w' => e = .returned (.bool c.ok) ∧ Below w.heap.size w w' := by
  have HN := Lib.hid (name_impl c.name)
  cases h0 : nameB c.name <;> cases h1 : inB c.sh 0 200 <;> cases h2 : inB c.li 0 1000 <;> cases h3 : inB c.sa 0 1000
  all_goals
    rw [h0] at HN
    go_enter Try.func141, Try.ntmps141
    go_wp2_with fail
    refine (HN.out _).mono ?_
    rintro e w1 ⟨rfl, hb1⟩
    have B1 := Lib.hid (bnext (balloc0 _ _) hb1)
    obtain ⟨hc1, hf1⟩ := bcell hb1
    have hz1 : w.heap.size < w1.heap.size := by have := hb1.size; simp at this; omega
    clear hb1
    go_wp2_with (go_at_call 74; refine (within_impl _ _ _ _).mono ?_; rintro e w' ⟨rfl, rfl⟩)
    go_ret
    exact ⟨ret_bool (by simp only [Cl.ok, h0, h1, h2, h3]; first | rfl | simp), B1.out⟩

end Go.Proofs.Ytlglijalhacmhab
