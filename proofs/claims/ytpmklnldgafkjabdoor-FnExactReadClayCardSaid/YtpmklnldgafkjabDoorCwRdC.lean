/-
  The walk of the law on ReadClay.
-/
import Derived.Test.YtpmklnldgafkjabDoorRdI
import Derived.Test.YtpmklnldgafkjabDoorRdS
namespace Go.Proofs.YtpmklnldgafkjabDoor
open Go.ChangeShapes Go.WideShapes Go.ChangeAt Go.RowKit Go.Joins

theorem eq_clay1 (c : Cl) (w : World) : Calls Tryd.prog 14 #[.agg #[.string c.name, .int .i64 c.sh, .int .i64 c.li, .int .i64 c.sa, .int .i64 c.pr], .agg #[.string c.name, .int .i64 c.sh, .int .i64 c.li, .int .i64 c.sa, .int .i64 c.pr]] w fun e w' => e = .returned (.bool true) ∧ Below w.heap.size w w' := by
  go_enter Tryd.func14, Tryd.ntmps14
  go_wp2
  go_ret
  exact ⟨rfl, balloc (balloc0 _ _) _⟩

set_option maxRecDepth 100000 in
set_option maxHeartbeats 1600000 in
theorem walk_FnExactReadClay (s : ByteArray) (w : World) (hp : Pow10 w) (p : Value) (hv : w.var? Tryd.prog "strconv.ErrSyntax" = some #[.iface 149 p]) : Calls Tryd.prog 4 #[.string s] w fun e w' => e = .returned (.bool true) ∧ Below w.heap.size w w' := by
  by_cases hl : (1048576 : Int) < (s.size : Int)
  · clear hp hv
    go_enter Tryd.func4, Tryd.ntmps4
    go_wp2_with fail
    go_ret
    exact ⟨rfl, Below.refl _ _⟩
  · have HS := Lib.hid (readClay_spec s (by omega) w)
    have HI : Hid (∀ wx, Below w.heap.size w wx → Calls Tryd.prog 13 #[.string s] wx fun e w' => ClRead s e ∧ Below wx.heap.size wx w') := fun wx h => readClay_impl s (by omega) _ p wx (hp.later h) (var_stays gSynC hv h (Nat.le_refl _))
    clear hp hv
    go_enter Tryd.func4, Tryd.ntmps4
    go_wp2_with fail
    refine HS.out.mono ?_
    rintro e w1 ⟨hr, hb1⟩
    obtain ⟨c, b, rfl⟩ := hr.form
    have B1 := Lib.hid hb1
    have HR := Lib.hid hr
    have E := Lib.hid (eq_clay1 c)
    clear hb1 hr
    go_wp2_with fail
    have A1 := Lib.hid (balloc B1.out (.cells #[.string c.name, .int .i64 c.sh, .int .i64 c.li, .int .i64 c.sa, .int .i64 c.pr] 26))
    obtain ⟨g0, g1, g2, g3, g4⟩ := clay_new w1 c 26
    obtain ⟨W1, hW⟩ : ∃ W1, w1.alloc (.cells #[.string c.name, .int .i64 c.sh, .int .i64 c.li, .int .i64 c.sa, .int .i64 c.pr] 26) = W1 := ⟨_, rfl⟩
    rw [hW] at A1 g0 g1 g2 g3 g4 ⊢
    clear hW
    have hlt : w1.heap.size < W1.heap.size := World.block_lt_of_cell? W1 _ g0
    refine (HI.out _ A1.out).mono ?_
    rintro e w2 ⟨hr, hb2⟩
    have he := clRead_one hr HR.out
    subst he
    have B2 := Lib.hid (bnext A1.out hb2)
    have A2 := Lib.hid (balloc B2.out (.cells #[.string c.name, .int .i64 c.sh, .int .i64 c.li, .int .i64 c.sa, .int .i64 c.pr] 26))
    have hb3 := bnext hb2 (balloc0 w2 (.cells #[.string c.name, .int .i64 c.sh, .int .i64 c.li, .int .i64 c.sa, .int .i64 c.pr] 26))
    have a0 := (hb3.cell (p := ⟨w1.heap.size, 0, none⟩) hlt).trans g0
    have a1 := (hb3.cell (p := ⟨w1.heap.size, 1, none⟩) hlt).trans g1
    have a2 := (hb3.cell (p := ⟨w1.heap.size, 2, none⟩) hlt).trans g2
    have a3 := (hb3.cell (p := ⟨w1.heap.size, 3, none⟩) hlt).trans g3
    have a4 := (hb3.cell (p := ⟨w1.heap.size, 4, none⟩) hlt).trans g4
    clear hb2 hb3 hr g0 g1 g2 g3 g4 hlt
    obtain ⟨g0, g1, g2, g3, g4⟩ := clay_new w2 c 26
    go_wp2_with fail
    refine (E.out _).mono ?_
    rintro e w3 ⟨rfl, hb3⟩
    have B3 := Lib.hid (bnext A2.out hb3)
    clear hb3 a0 a1 a2 a3 a4 g0 g1 g2 g3 g4
    cases b
    all_goals
      go_wp2
      go_ret
      exact ⟨rfl, B3.out⟩
end Go.Proofs.YtpmklnldgafkjabDoor
