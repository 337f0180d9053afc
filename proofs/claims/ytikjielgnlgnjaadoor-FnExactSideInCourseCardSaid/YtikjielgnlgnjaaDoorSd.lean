/-
  IsSimple: what a side of a plan covers, by the program.
-/
import Derived.Test.YtikjielgnlgnjaaDoorSm
namespace Go.Proofs.YtikjielgnlgnjaaDoor
open Go.ChangeShapes Go.WideShapes Go.ChangeAt Go.RowKit Go.Joins Go.Shelf

theorem two_set {w : World} {b : Nat} (r0 : (w.cell? ⟨b, 0, none⟩).isSome = true) (r1 : (w.cell? ⟨b, 1, none⟩).isSome = true) (v0 v1 : Value) :
    ((w.setCell ⟨b, 0, none⟩ v0).setCell ⟨b, 1, none⟩ v1).cell? ⟨b, 0, none⟩ = some v0 ∧ ((w.setCell ⟨b, 0, none⟩ v0).setCell ⟨b, 1, none⟩ v1).cell? ⟨b, 1, none⟩ = some v1 := by
  refine ⟨?_, ?_⟩
  · rw [World.cell?_setCell_other _ _ _ _ (by simp)]
    exact World.cell?_setCell_same' _ _ _ r0
  · exact World.cell?_setCell_same' _ _ _ (by rw [World.cell?_setCell_other _ _ _ _ (by simp)]; exact r1)
theorem two_below {n b : Nat} {w W : World} (h : Below n w W) (hb : n ≤ b) (v0 v1 : Value) : Below n w ((W.setCell ⟨b, 0, none⟩ v0).setCell ⟨b, 1, none⟩ v1) :=
  (h.setCell (p := ⟨b, 0, none⟩) hb v0).setCell (p := ⟨b, 1, none⟩) hb v1
def rchV (a b : Int) : Value := .agg #[.int .i64 (min a b), .int .i64 (max a b)]
theorem rchV_self (a : Int) : rchV a a = .agg #[.int .i64 a, .int .i64 a] := by simp [rchV]
set_option maxRecDepth 100000 in
theorem reachOf_impl (a b : Int) (w : World) : Calls Tryd.prog 102 #[.int .i64 a, .int .i64 b] w fun e w' => e = .returned (rchV a b) ∧ Below w.heap.size w w' := by
  unfold rchV
  go_enter Tryd.func102, Tryd.ntmps102
  go_wp2
  have g0 : (w.alloc (.cells #[.int .i64 (min a b), .int .i64 (max a b)] 120)).cell? ⟨w.heap.size, 0, none⟩ = some (.int .i64 (min a b)) := by simp
  have g1 : (w.alloc (.cells #[.int .i64 (min a b), .int .i64 (max a b)] 120)).cell? ⟨w.heap.size, 1, none⟩ = some (.int .i64 (max a b)) := by simp
  refine bodyPost_ret (v := .agg #[.int .i64 (min a b), .int .i64 (max a b)]) (by simp [results, Tryd.results102, go_sem, g0, g1]) rfl ⟨rfl, balloc0 _ _⟩
set_option maxRecDepth 100000 in
theorem meets_impl (a b c d : Int) (w : World) : Calls Tryd.prog 103 #[.agg #[.int .i64 a, .int .i64 b], .agg #[.int .i64 c, .int .i64 d]] w fun e w' => e = .returned (.bool (decide (a ≤ d) && decide (c ≤ b))) ∧ Below w.heap.size w w' := by
  cases h1 : decide (a ≤ d)
  case false =>
    have g1 : ¬ a ≤ d := of_decide_eq_false h1
    go_enter Tryd.func103, Tryd.ntmps103
    go_wp2
    go_ret
    exact ⟨rfl, balloc (balloc0 _ _) _⟩
  case true =>
    have g1 : a ≤ d := of_decide_eq_true h1
    cases h2 : decide (c ≤ b)
    case false =>
      have g2 : ¬ c ≤ b := of_decide_eq_false h2
      go_enter Tryd.func103, Tryd.ntmps103
      go_wp2
      go_ret
      exact ⟨rfl, balloc (balloc0 _ _) _⟩
    case true =>
      have g2 : c ≤ b := of_decide_eq_true h2
      go_enter Tryd.func103, Tryd.ntmps103
      go_wp2
      go_ret
      exact ⟨rfl, balloc (balloc0 _ _) _⟩
set_option maxRecDepth 100000 in
theorem levelSide_reachX (a b c : Int) (w : World) : Calls Tryd.prog 183 #[.agg #[.int .i64 a, .int .i64 b, .int .i64 c]] w fun e w' => e = .returned (.agg #[.int .i64 a, .int .i64 b]) ∧ Below w.heap.size w w' := by
  have R := Lib.hid reachOf_impl
  go_enter Tryd.func183, Tryd.ntmps183
  go_wp2_with fail
  clear R
  have g0 : ((w.alloc (.cells #[.int .i64 a, .int .i64 b, .int .i64 c] 123)).alloc (.cells #[.int .i64 a, .int .i64 b] 120)).cell? ⟨w.heap.size + 1, 0, none⟩ = some (.int .i64 a) := by simp
  have g1 : ((w.alloc (.cells #[.int .i64 a, .int .i64 b, .int .i64 c] 123)).alloc (.cells #[.int .i64 a, .int .i64 b] 120)).cell? ⟨w.heap.size + 1, 1, none⟩ = some (.int .i64 b) := by simp
  refine bodyPost_ret (v := .agg #[.int .i64 a, .int .i64 b]) (by simp [results, Tryd.results183, go_sem, g0, g1]) rfl ⟨rfl, balloc (balloc0 _ _) _⟩
set_option maxRecDepth 100000 in
theorem levelSide_reachY (a b c : Int) (w : World) : Calls Tryd.prog 184 #[.agg #[.int .i64 a, .int .i64 b, .int .i64 c]] w fun e w' => e = .returned (rchV c c) ∧ Below w.heap.size w w' := by
  have R := Lib.hid (reachOf_impl c c)
  rw [rchV_self] at R ⊢
  go_enter Tryd.func184, Tryd.ntmps184
  go_wp2_with fail
  have z0 : ((w.alloc (.cells #[.int .i64 a, .int .i64 b, .int .i64 c] 123)).alloc (.cells #[.int .i64 0, .int .i64 0] 120)).heap.size = w.heap.size + 2 := by simp
  have h0 : ((w.alloc (.cells #[.int .i64 a, .int .i64 b, .int .i64 c] 123)).alloc (.cells #[.int .i64 0, .int .i64 0] 120)).heap[w.heap.size + 1]? = some (.cells #[.int .i64 0, .int .i64 0] 120 (0, 0)) := by
    have := heap_alloc_new (w.alloc (.cells #[.int .i64 a, .int .i64 b, .int .i64 c] 123)) (.cells #[.int .i64 0, .int .i64 0] 120)
    simpa using this
  have B0 := Lib.hid (balloc (balloc0 w (.cells #[.int .i64 a, .int .i64 b, .int .i64 c] 123)) (.cells #[.int .i64 0, .int .i64 0] 120))
  refine (R.out _).mono ?_
  rintro e w1 ⟨rfl, hb1⟩
  have r1 := (hb1.block (w.heap.size + 1) (by rw [z0]; omega)).trans h0
  have B1 := Lib.hid (bnext B0.out hb1)
  have x0 : w1.cell? ⟨w.heap.size + 1, 0, none⟩ = some (.int .i64 0) := (cell_of_block r1 0).trans rfl
  have x1 : w1.cell? ⟨w.heap.size + 1, 1, none⟩ = some (.int .i64 0) := (cell_of_block r1 1).trans rfl
  have y0 : w1.frozen? ⟨w.heap.size + 1, 0, none⟩ = false := unfrozen_of_block r1 0
  have y1 : w1.frozen? ⟨w.heap.size + 1, 1, none⟩ = false := unfrozen_of_block r1 1
  clear hb1 r1 h0 z0 R
  go_wp2
  obtain ⟨g0, g1⟩ := two_set (b := w.heap.size + 1) (w := w1) (by rw [x0]; rfl) (by rw [x1]; rfl) (.int .i64 c) (.int .i64 c)
  refine bodyPost_ret (v := .agg #[.int .i64 c, .int .i64 c]) (by simp [results, Tryd.results184, go_sem, g0, g1]) rfl ⟨rfl, two_below B1.out (by omega) _ _⟩
set_option maxRecDepth 100000 in
theorem uprightSide_reachX (a b c : Int) (w : World) : Calls Tryd.prog 185 #[.agg #[.int .i64 a, .int .i64 b, .int .i64 c]] w fun e w' => e = .returned (rchV a a) ∧ Below w.heap.size w w' := by
  have R := Lib.hid (reachOf_impl a a)
  rw [rchV_self] at R ⊢
  go_enter Tryd.func185, Tryd.ntmps185
  go_wp2_with fail
  have z0 : ((w.alloc (.cells #[.int .i64 a, .int .i64 b, .int .i64 c] 125)).alloc (.cells #[.int .i64 0, .int .i64 0] 120)).heap.size = w.heap.size + 2 := by simp
  have h0 : ((w.alloc (.cells #[.int .i64 a, .int .i64 b, .int .i64 c] 125)).alloc (.cells #[.int .i64 0, .int .i64 0] 120)).heap[w.heap.size + 1]? = some (.cells #[.int .i64 0, .int .i64 0] 120 (0, 0)) := by
    have := heap_alloc_new (w.alloc (.cells #[.int .i64 a, .int .i64 b, .int .i64 c] 125)) (.cells #[.int .i64 0, .int .i64 0] 120)
    simpa using this
  have B0 := Lib.hid (balloc (balloc0 w (.cells #[.int .i64 a, .int .i64 b, .int .i64 c] 125)) (.cells #[.int .i64 0, .int .i64 0] 120))
  refine (R.out _).mono ?_
  rintro e w1 ⟨rfl, hb1⟩
  have r1 := (hb1.block (w.heap.size + 1) (by rw [z0]; omega)).trans h0
  have B1 := Lib.hid (bnext B0.out hb1)
  have x0 : w1.cell? ⟨w.heap.size + 1, 0, none⟩ = some (.int .i64 0) := (cell_of_block r1 0).trans rfl
  have x1 : w1.cell? ⟨w.heap.size + 1, 1, none⟩ = some (.int .i64 0) := (cell_of_block r1 1).trans rfl
  have y0 : w1.frozen? ⟨w.heap.size + 1, 0, none⟩ = false := unfrozen_of_block r1 0
  have y1 : w1.frozen? ⟨w.heap.size + 1, 1, none⟩ = false := unfrozen_of_block r1 1
  clear hb1 r1 h0 z0 R
  go_wp2
  obtain ⟨g0, g1⟩ := two_set (b := w.heap.size + 1) (w := w1) (by rw [x0]; rfl) (by rw [x1]; rfl) (.int .i64 a) (.int .i64 a)
  refine bodyPost_ret (v := .agg #[.int .i64 a, .int .i64 a]) (by simp [results, Tryd.results185, go_sem, g0, g1]) rfl ⟨rfl, two_below B1.out (by omega) _ _⟩
set_option maxRecDepth 100000 in
theorem uprightSide_reachY (a b c : Int) (w : World) : Calls Tryd.prog 186 #[.agg #[.int .i64 a, .int .i64 b, .int .i64 c]] w fun e w' => e = .returned (.agg #[.int .i64 b, .int .i64 c]) ∧ Below w.heap.size w w' := by
  have R := Lib.hid reachOf_impl
  go_enter Tryd.func186, Tryd.ntmps186
  go_wp2_with fail
  clear R
  have g0 : ((w.alloc (.cells #[.int .i64 a, .int .i64 b, .int .i64 c] 125)).alloc (.cells #[.int .i64 b, .int .i64 c] 120)).cell? ⟨w.heap.size + 1, 0, none⟩ = some (.int .i64 b) := by simp
  have g1 : ((w.alloc (.cells #[.int .i64 a, .int .i64 b, .int .i64 c] 125)).alloc (.cells #[.int .i64 b, .int .i64 c] 120)).cell? ⟨w.heap.size + 1, 1, none⟩ = some (.int .i64 c) := by simp
  refine bodyPost_ret (v := .agg #[.int .i64 b, .int .i64 c]) (by simp [results, Tryd.results186, go_sem, g0, g1]) rfl ⟨rfl, balloc (balloc0 _ _) _⟩
theorem meth_lx (v : Value) (w : World) : (method (Tryd.prog.types.size + Made.depth) 123 v "loop.example/g01042/impl.reachX").run Tryd.prog w = .ok (183, v) w := by kernel_rfl
theorem meth_ly (v : Value) (w : World) : (method (Tryd.prog.types.size + Made.depth) 123 v "loop.example/g01042/impl.reachY").run Tryd.prog w = .ok (184, v) w := by kernel_rfl
theorem meth_ux (v : Value) (w : World) : (method (Tryd.prog.types.size + Made.depth) 125 v "loop.example/g01042/impl.reachX").run Tryd.prog w = .ok (185, v) w := by kernel_rfl
theorem meth_uy (v : Value) (w : World) : (method (Tryd.prog.types.size + Made.depth) 125 v "loop.example/g01042/impl.reachY").run Tryd.prog w = .ok (186, v) w := by kernel_rfl
set_option maxRecDepth 100000 in
theorem meth_at {n : Nat} {T : TypeId} {v : Value} {s : String} {w : World} {f : FuncId} {fn : Func} {c : Code} (h : ∀ v w, (method (Tryd.prog.types.size + Made.depth) T v s).run Tryd.prog w = .ok (f, v) w) (hn : n = Tryd.prog.types.size + Made.depth) (hf : Tryd.prog.funcs[f]? = some fn) (hname : (fn.name == "runtime.NumGoroutine") = false) (hb : fn.body = some c) :
    (((method n T v s).run Tryd.prog w).andThen fun a w' => (callFunc a.1 #[a.2]).run Tryd.prog w') = .ok (.enter f #[v]) w := by
  rw [hn, h]
  exact enters_of hf hname hb #[v] w
/-- What a side covers. -/
def SideIs (v : Value) (x0 x1 y0 y1 : Int) : Prop := (v = .iface 123 (.agg #[.int .i64 x0, .int .i64 x1, .int .i64 y0]) ∧ y1 = y0) ∨ (v = .iface 125 (.agg #[.int .i64 x0, .int .i64 y0, .int .i64 y1]) ∧ x1 = x0)
theorem lx_impl (a b c : Int) (w : World) : Calls Tryd.prog 183 #[.agg #[.int .i64 a, .int .i64 b, .int .i64 c]] w fun e w' => e = .returned (.agg #[.int .i64 a, .int .i64 b]) ∧ Below w.heap.size w w' := levelSide_reachX a b c w
theorem ly_impl (a b c : Int) (w : World) : Calls Tryd.prog 184 #[.agg #[.int .i64 a, .int .i64 b, .int .i64 c]] w fun e w' => e = .returned (.agg #[.int .i64 c, .int .i64 c]) ∧ Below w.heap.size w w' := by
  have h := levelSide_reachY a b c w
  rw [rchV_self] at h
  exact h
theorem ux_impl (a b c : Int) (w : World) : Calls Tryd.prog 185 #[.agg #[.int .i64 a, .int .i64 b, .int .i64 c]] w fun e w' => e = .returned (.agg #[.int .i64 a, .int .i64 a]) ∧ Below w.heap.size w w' := by
  have h := uprightSide_reachX a b c w
  rw [rchV_self] at h
  exact h
theorem uy_impl (a b c : Int) (w : World) : Calls Tryd.prog 186 #[.agg #[.int .i64 a, .int .i64 b, .int .i64 c]] w fun e w' => e = .returned (.agg #[.int .i64 b, .int .i64 c]) ∧ Below w.heap.size w w' := uprightSide_reachY a b c w
set_option maxRecDepth 100000 in
set_option maxHeartbeats 1600000 in
theorem haveCommon_ll (a b c d e f : Int) (w : World) : Calls Tryd.prog 81 #[.iface 123 (.agg #[.int .i64 a, .int .i64 b, .int .i64 c]), .iface 123 (.agg #[.int .i64 d, .int .i64 e, .int .i64 f])] w fun z w' => z = .returned (.bool ((decide (a ≤ e) && decide (d ≤ b)) && (decide (c ≤ f) && decide (f ≤ c)))) ∧ Below w.heap.size w w' := by
  have MX := Lib.hid (meets_impl a b d e)
  have MY := Lib.hid (meets_impl c c f f)
  obtain ⟨mx, hmx⟩ : ∃ m, (decide (a ≤ e) && decide (d ≤ b)) = m := ⟨_, rfl⟩
  obtain ⟨my, hmy⟩ : ∃ m, (decide (c ≤ f) && decide (f ≤ c)) = m := ⟨_, rfl⟩
  rw [hmx] at MX ⊢
  rw [hmy] at MY ⊢
  clear hmx hmy
  cases mx
  case' true => cases my
  all_goals
    go_enter Tryd.func81, Tryd.ntmps81
    go_wp2_with fail
    rw [meth_at meth_lx ?_ Tryd.func183 (by kernel_rfl) rfl]
    rotate_left
    · kernel_rfl
    go_wp2_with fail
    refine (lx_impl _ _ _ _).mono ?_
    rintro _ w1 ⟨rfl, hb1⟩
    have B1 := Lib.hid hb1
    clear hb1
    go_wp2_with fail
    rw [meth_at meth_lx ?_ Tryd.func183 (by kernel_rfl) rfl]
    rotate_left
    · kernel_rfl
    go_wp2_with fail
    refine (lx_impl _ _ _ _).mono ?_
    rintro _ w2 ⟨rfl, hb2⟩
    have B2 := Lib.hid (bnext B1.out hb2)
    clear hb2
    go_wp2_with fail
    refine (MX.out _).mono ?_
    rintro _ w3 ⟨rfl, hb3⟩
    have B3 := Lib.hid (bnext B2.out hb3)
    clear hb3
    go_wp2_with fail
    first | (go_ret; exact ⟨rfl, B3.out⟩) | skip
  all_goals
    rw [meth_at meth_ly ?_ Tryd.func184 (by kernel_rfl) rfl]
    rotate_left
    · kernel_rfl
    go_wp2_with fail
    refine (ly_impl _ _ _ _).mono ?_
    rintro _ w4 ⟨rfl, hb4⟩
    have B4 := Lib.hid (bnext B3.out hb4)
    clear hb4
    go_wp2_with fail
    rw [meth_at meth_ly ?_ Tryd.func184 (by kernel_rfl) rfl]
    rotate_left
    · kernel_rfl
    go_wp2_with fail
    refine (ly_impl _ _ _ _).mono ?_
    rintro _ w5 ⟨rfl, hb5⟩
    have B5 := Lib.hid (bnext B4.out hb5)
    clear hb5
    go_wp2_with fail
    refine (MY.out _).mono ?_
    rintro _ w6 ⟨rfl, hb6⟩
    have B6 := Lib.hid (bnext B5.out hb6)
    clear hb6
    go_wp2
    go_ret
    exact ⟨rfl, B6.out⟩
set_option maxRecDepth 100000 in
set_option maxHeartbeats 1600000 in
theorem haveCommon_lu (a b c d e f : Int) (w : World) : Calls Tryd.prog 81 #[.iface 123 (.agg #[.int .i64 a, .int .i64 b, .int .i64 c]), .iface 125 (.agg #[.int .i64 d, .int .i64 e, .int .i64 f])] w fun z w' => z = .returned (.bool ((decide (a ≤ d) && decide (d ≤ b)) && (decide (c ≤ f) && decide (e ≤ c)))) ∧ Below w.heap.size w w' := by
  have MX := Lib.hid (meets_impl a b d d)
  have MY := Lib.hid (meets_impl c c e f)
  obtain ⟨mx, hmx⟩ : ∃ m, (decide (a ≤ d) && decide (d ≤ b)) = m := ⟨_, rfl⟩
  obtain ⟨my, hmy⟩ : ∃ m, (decide (c ≤ f) && decide (e ≤ c)) = m := ⟨_, rfl⟩
  rw [hmx] at MX ⊢
  rw [hmy] at MY ⊢
  clear hmx hmy
  cases mx
  case' true => cases my
  all_goals
    go_enter Tryd.func81, Tryd.ntmps81
    go_wp2_with fail
    rw [meth_at meth_lx ?_ Tryd.func183 (by kernel_rfl) rfl]
    rotate_left
    · kernel_rfl
    go_wp2_with fail
    refine (lx_impl _ _ _ _).mono ?_
    rintro _ w1 ⟨rfl, hb1⟩
    have B1 := Lib.hid hb1
    clear hb1
    go_wp2_with fail
    rw [meth_at meth_ux ?_ Tryd.func185 (by kernel_rfl) rfl]
    rotate_left
    · kernel_rfl
    go_wp2_with fail
    refine (ux_impl _ _ _ _).mono ?_
    rintro _ w2 ⟨rfl, hb2⟩
    have B2 := Lib.hid (bnext B1.out hb2)
    clear hb2
    go_wp2_with fail
    refine (MX.out _).mono ?_
    rintro _ w3 ⟨rfl, hb3⟩
    have B3 := Lib.hid (bnext B2.out hb3)
    clear hb3
    go_wp2_with fail
    first | (go_ret; exact ⟨rfl, B3.out⟩) | skip
  all_goals
    rw [meth_at meth_ly ?_ Tryd.func184 (by kernel_rfl) rfl]
    rotate_left
    · kernel_rfl
    go_wp2_with fail
    refine (ly_impl _ _ _ _).mono ?_
    rintro _ w4 ⟨rfl, hb4⟩
    have B4 := Lib.hid (bnext B3.out hb4)
    clear hb4
    go_wp2_with fail
    rw [meth_at meth_uy ?_ Tryd.func186 (by kernel_rfl) rfl]
    rotate_left
    · kernel_rfl
    go_wp2_with fail
    refine (uy_impl _ _ _ _).mono ?_
    rintro _ w5 ⟨rfl, hb5⟩
    have B5 := Lib.hid (bnext B4.out hb5)
    clear hb5
    go_wp2_with fail
    refine (MY.out _).mono ?_
    rintro _ w6 ⟨rfl, hb6⟩
    have B6 := Lib.hid (bnext B5.out hb6)
    clear hb6
    go_wp2
    go_ret
    exact ⟨rfl, B6.out⟩
set_option maxRecDepth 100000 in
set_option maxHeartbeats 1600000 in
theorem haveCommon_ul (a b c d e f : Int) (w : World) : Calls Tryd.prog 81 #[.iface 125 (.agg #[.int .i64 a, .int .i64 b, .int .i64 c]), .iface 123 (.agg #[.int .i64 d, .int .i64 e, .int .i64 f])] w fun z w' => z = .returned (.bool ((decide (a ≤ e) && decide (d ≤ a)) && (decide (b ≤ f) && decide (f ≤ c)))) ∧ Below w.heap.size w w' := by
  have MX := Lib.hid (meets_impl a a d e)
  have MY := Lib.hid (meets_impl b c f f)
  obtain ⟨mx, hmx⟩ : ∃ m, (decide (a ≤ e) && decide (d ≤ a)) = m := ⟨_, rfl⟩
  obtain ⟨my, hmy⟩ : ∃ m, (decide (b ≤ f) && decide (f ≤ c)) = m := ⟨_, rfl⟩
  rw [hmx] at MX ⊢
  rw [hmy] at MY ⊢
  clear hmx hmy
  cases mx
  case' true => cases my
  all_goals
    go_enter Tryd.func81, Tryd.ntmps81
    go_wp2_with fail
    rw [meth_at meth_ux ?_ Tryd.func185 (by kernel_rfl) rfl]
    rotate_left
    · kernel_rfl
    go_wp2_with fail
    refine (ux_impl _ _ _ _).mono ?_
    rintro _ w1 ⟨rfl, hb1⟩
    have B1 := Lib.hid hb1
    clear hb1
    go_wp2_with fail
    rw [meth_at meth_lx ?_ Tryd.func183 (by kernel_rfl) rfl]
    rotate_left
    · kernel_rfl
    go_wp2_with fail
    refine (lx_impl _ _ _ _).mono ?_
    rintro _ w2 ⟨rfl, hb2⟩
    have B2 := Lib.hid (bnext B1.out hb2)
    clear hb2
    go_wp2_with fail
    refine (MX.out _).mono ?_
    rintro _ w3 ⟨rfl, hb3⟩
    have B3 := Lib.hid (bnext B2.out hb3)
    clear hb3
    go_wp2_with fail
    first | (go_ret; exact ⟨rfl, B3.out⟩) | skip
  all_goals
    rw [meth_at meth_uy ?_ Tryd.func186 (by kernel_rfl) rfl]
    rotate_left
    · kernel_rfl
    go_wp2_with fail
    refine (uy_impl _ _ _ _).mono ?_
    rintro _ w4 ⟨rfl, hb4⟩
    have B4 := Lib.hid (bnext B3.out hb4)
    clear hb4
    go_wp2_with fail
    rw [meth_at meth_ly ?_ Tryd.func184 (by kernel_rfl) rfl]
    rotate_left
    · kernel_rfl
    go_wp2_with fail
    refine (ly_impl _ _ _ _).mono ?_
    rintro _ w5 ⟨rfl, hb5⟩
    have B5 := Lib.hid (bnext B4.out hb5)
    clear hb5
    go_wp2_with fail
    refine (MY.out _).mono ?_
    rintro _ w6 ⟨rfl, hb6⟩
    have B6 := Lib.hid (bnext B5.out hb6)
    clear hb6
    go_wp2
    go_ret
    exact ⟨rfl, B6.out⟩
set_option maxRecDepth 100000 in
set_option maxHeartbeats 1600000 in
theorem haveCommon_uu (a b c d e f : Int) (w : World) : Calls Tryd.prog 81 #[.iface 125 (.agg #[.int .i64 a, .int .i64 b, .int .i64 c]), .iface 125 (.agg #[.int .i64 d, .int .i64 e, .int .i64 f])] w fun z w' => z = .returned (.bool ((decide (a ≤ d) && decide (d ≤ a)) && (decide (b ≤ f) && decide (e ≤ c)))) ∧ Below w.heap.size w w' := by
  have MX := Lib.hid (meets_impl a a d d)
  have MY := Lib.hid (meets_impl b c e f)
  obtain ⟨mx, hmx⟩ : ∃ m, (decide (a ≤ d) && decide (d ≤ a)) = m := ⟨_, rfl⟩
  obtain ⟨my, hmy⟩ : ∃ m, (decide (b ≤ f) && decide (e ≤ c)) = m := ⟨_, rfl⟩
  rw [hmx] at MX ⊢
  rw [hmy] at MY ⊢
  clear hmx hmy
  cases mx
  case' true => cases my
  all_goals
    go_enter Tryd.func81, Tryd.ntmps81
    go_wp2_with fail
    rw [meth_at meth_ux ?_ Tryd.func185 (by kernel_rfl) rfl]
    rotate_left
    · kernel_rfl
    go_wp2_with fail
    refine (ux_impl _ _ _ _).mono ?_
    rintro _ w1 ⟨rfl, hb1⟩
    have B1 := Lib.hid hb1
    clear hb1
    go_wp2_with fail
    rw [meth_at meth_ux ?_ Tryd.func185 (by kernel_rfl) rfl]
    rotate_left
    · kernel_rfl
    go_wp2_with fail
    refine (ux_impl _ _ _ _).mono ?_
    rintro _ w2 ⟨rfl, hb2⟩
    have B2 := Lib.hid (bnext B1.out hb2)
    clear hb2
    go_wp2_with fail
    refine (MX.out _).mono ?_
    rintro _ w3 ⟨rfl, hb3⟩
    have B3 := Lib.hid (bnext B2.out hb3)
    clear hb3
    go_wp2_with fail
    first | (go_ret; exact ⟨rfl, B3.out⟩) | skip
  all_goals
    rw [meth_at meth_uy ?_ Tryd.func186 (by kernel_rfl) rfl]
    rotate_left
    · kernel_rfl
    go_wp2_with fail
    refine (uy_impl _ _ _ _).mono ?_
    rintro _ w4 ⟨rfl, hb4⟩
    have B4 := Lib.hid (bnext B3.out hb4)
    clear hb4
    go_wp2_with fail
    rw [meth_at meth_uy ?_ Tryd.func186 (by kernel_rfl) rfl]
    rotate_left
    · kernel_rfl
    go_wp2_with fail
    refine (uy_impl _ _ _ _).mono ?_
    rintro _ w5 ⟨rfl, hb5⟩
    have B5 := Lib.hid (bnext B4.out hb5)
    clear hb5
    go_wp2_with fail
    refine (MY.out _).mono ?_
    rintro _ w6 ⟨rfl, hb6⟩
    have B6 := Lib.hid (bnext B5.out hb6)
    clear hb6
    go_wp2
    go_ret
    exact ⟨rfl, B6.out⟩
theorem haveCommon_impl {v v' : Value} {x0 x1 y0 y1 x2 x3 y2 y3 : Int} (h : SideIs v x0 x1 y0 y1) (h' : SideIs v' x2 x3 y2 y3) (w : World) : Calls Tryd.prog 81 #[v, v'] w fun z w' => z = .returned (.bool ((decide (x0 ≤ x3) && decide (x2 ≤ x1)) && (decide (y0 ≤ y3) && decide (y2 ≤ y1)))) ∧ Below w.heap.size w w' := by
  rcases h with ⟨rfl, rfl⟩ | ⟨rfl, rfl⟩ <;> rcases h' with ⟨rfl, rfl⟩ | ⟨rfl, rfl⟩
  · exact haveCommon_ll _ _ _ _ _ _ w
  · exact haveCommon_lu _ _ _ _ _ _ w
  · exact haveCommon_ul _ _ _ _ _ _ w
  · exact haveCommon_uu _ _ _ _ _ _ w
end Go.Proofs.YtikjielgnlgnjaaDoor
