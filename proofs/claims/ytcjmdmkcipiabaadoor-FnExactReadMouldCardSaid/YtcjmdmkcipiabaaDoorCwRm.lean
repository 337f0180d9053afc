/-
  The walk of the law on ReadMould.
-/
import Derived.Test.YtcjmdmkcipiabaaDoorRmI
import Derived.Test.YtcjmdmkcipiabaaDoorRmS
namespace Go.Proofs.YtcjmdmkcipiabaaDoor
open Go.ChangeShapes Go.WideShapes Go.ChangeAt Go.RowKit Go.Joins

theorem eq_mould1 (a b c d : Int) (w : World) : Calls Tryd.prog 7 #[.agg #[.int .i64 a, .int .i64 b, .int .i64 c, .int .i64 d], .agg #[.int .i64 a, .int .i64 b, .int .i64 c, .int .i64 d]] w fun e w' => e = .returned (.bool true) ∧ Below w.heap.size w w' := by
  go_enter Tryd.func7, Tryd.ntmps7
  go_wp2
  go_ret
  exact ⟨rfl, balloc (balloc0 _ _) _⟩

set_option maxRecDepth 100000 in
set_option maxHeartbeats 1600000 in
theorem walk_FnExactReadMould (s : ByteArray) (w : World) (hp : Pow10 w) (p : Value) (hv : w.var? Tryd.prog "strconv.ErrSyntax" = some #[.iface 155 p]) (m : Int) (hm : w.cell? ⟨1, 0, none⟩ = some (.int .i64 m)) : Calls Tryd.prog 3 #[.string s] w fun e w' => e = .returned (.bool true) ∧ Below w.heap.size w w' := by
  by_cases hl : (1048576 : Int) < (s.size : Int)
  · clear hp hv hm
    go_enter Tryd.func3, Tryd.ntmps3
    go_wp2_with fail
    go_ret
    exact ⟨rfl, Below.refl _ _⟩
  · have HS := Lib.hid (readMould_spec s (by omega) w)
    have HI : Hid (∀ wx, Below w.heap.size w wx → Calls Tryd.prog 6 #[.string s] wx fun e w' => MoRead s e ∧ Below wx.heap.size wx w') := fun wx h => readMould_impl s (by omega) _ p m wx ((h.cell (p := ⟨1, 0, none⟩) (World.block_lt_of_cell? w _ hm)).trans hm) (hp.later h) (var_stays gSynC hv h (Nat.le_refl _))
    clear hp hv hm
    go_enter Tryd.func3, Tryd.ntmps3
    go_wp2_with fail
    refine HS.out.mono ?_
    rintro e w1 ⟨hr, hb1⟩
    obtain ⟨a, b, c, d, f, rfl⟩ := hr.form
    have B1 := Lib.hid hb1
    have HR := Lib.hid hr
    have E := Lib.hid (eq_mould1 a b c d)
    clear hb1 hr
    go_wp2_with fail
    have A1 := Lib.hid (balloc B1.out (.cells #[.int .i64 a, .int .i64 b, .int .i64 c, .int .i64 d] 23))
    obtain ⟨g0, g1, g2, g3⟩ := range_new4 w1 a b c d (t := 23)
    obtain ⟨W1, hW⟩ : ∃ W1, w1.alloc (.cells #[.int .i64 a, .int .i64 b, .int .i64 c, .int .i64 d] 23) = W1 := ⟨_, rfl⟩
    rw [hW] at A1 g0 g1 g2 g3 ⊢
    clear hW
    have hlt : w1.heap.size < W1.heap.size := World.block_lt_of_cell? W1 _ g0
    refine (HI.out _ A1.out).mono ?_
    rintro e w2 ⟨hr, hb2⟩
    have he := moRead_one hr HR.out
    subst he
    have B2 := Lib.hid (bnext A1.out hb2)
    have A2 := Lib.hid (balloc B2.out (.cells #[.int .i64 a, .int .i64 b, .int .i64 c, .int .i64 d] 23))
    have hb3 := bnext hb2 (balloc0 w2 (.cells #[.int .i64 a, .int .i64 b, .int .i64 c, .int .i64 d] 23))
    have a0 := (hb3.cell (p := ⟨w1.heap.size, 0, none⟩) hlt).trans g0
    have a1 := (hb3.cell (p := ⟨w1.heap.size, 1, none⟩) hlt).trans g1
    have a2 := (hb3.cell (p := ⟨w1.heap.size, 2, none⟩) hlt).trans g2
    have a3 := (hb3.cell (p := ⟨w1.heap.size, 3, none⟩) hlt).trans g3
    clear hb2 hb3 hr g0 g1 g2 g3 hlt
    obtain ⟨g0, g1, g2, g3⟩ := range_new4 w2 a b c d (t := 23)
    go_wp2_with fail
    refine (E.out _).mono ?_
    rintro e w3 ⟨rfl, hb3⟩
    have B3 := Lib.hid (bnext A2.out hb3)
    clear hb3 a0 a1 a2 a3 g0 g1 g2 g3
    cases f
    all_goals
      go_wp2
      go_ret
      exact ⟨rfl, B3.out⟩
end Go.Proofs.YtcjmdmkcipiabaaDoor
