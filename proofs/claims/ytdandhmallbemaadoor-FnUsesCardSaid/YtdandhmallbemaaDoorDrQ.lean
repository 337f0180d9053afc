/-
  The model's drawn arguments of laws on moulds: a list and one or two numbers.
-/
import Derived.Test.YtdandhmallbemaaDoorDrP
namespace Go.Proofs.YtdandhmallbemaaDoor
open Go.ChangeShapes Go.WideShapes Go.ChangeAt Go.RowKit Go.Joins

/-- A list and a number. -/
def Draw2 (w : World) (e : Ending) (w' : World) : Prop :=
  ∃ (L : List Mo) (a : Option Addr) (cap : Nat) (x : Int), L.length ≤ 21 ∧ e = .returned (.tuple #[.slice a L.length cap, .int .i64 x]) ∧ MoRow w.heap.size L (.slice a L.length cap) w' ∧ Below w.heap.size w w'
/-- A list and two numbers. -/
def Draw3 (w : World) (e : Ending) (w' : World) : Prop :=
  ∃ (L : List Mo) (a : Option Addr) (cap : Nat) (x y : Int), L.length ≤ 21 ∧ e = .returned (.tuple #[.slice a L.length cap, .int .i64 x, .int .i64 y]) ∧ MoRow w.heap.size L (.slice a L.length cap) w' ∧ Below w.heap.size w w'
theorem MoRow.form {b : Nat} {L : List Mo} {v : Value} {w : World} (h : MoRow b L v w) : ∃ a cap, v = .slice a L.length cap := by
  rcases h.shape with ⟨rfl, rfl⟩ | ⟨g, cap, rfl⟩
  · exact ⟨none, 0, rfl⟩
  · exact ⟨_, _, rfl⟩
/-- What a draw leaves alone. -/
theorem drawn_below {w w' : World} {o : Obj} (h : Touch w.heap.size (w.alloc o) w') : Below w.heap.size w w' :=
  (balloc0 w o).trans (h.below (Nat.le_refl _) (by simp))
theorem moRow_down {w w' : World} {o : Obj} {L : List Mo} {v : Value} (h : MoRow (w.alloc o).heap.size L v w') : MoRow w.heap.size L v w' := own_weak h (by simp)

set_option maxRecDepth 100000 in
set_option maxHeartbeats 3200000 in
theorem drawShareUses_spec (w : World) (cv : Value) (hcv : CodeAt w w.heap.size cv) (hsl : ∃ a l c, cv = .slice a l c) : Calls Tryd.prog 5 #[cv] w (Draw2 w) := by
  have HN := Lib.hid (src_new w cv hcv)
  have SF := Lib.hid (src_from w cv hcv hsl)
  obtain ⟨a, l, c, rfl⟩ := hsl
  clear hcv
  have hB : w.heap.size < (w.alloc (.cells #[.slice a l c, .int .i64 0, .int .u64 0] 80)).heap.size := by simp
  obtain ⟨W, hW⟩ : ∃ W, w.alloc (.cells #[.slice a l c, .int .i64 0, .int .u64 0] 80) = W := ⟨_, rfl⟩
  have DB : Hid (∀ w', Touch w.heap.size W w' → Below w.heap.size w w') := fun w' h => drawn_below (hW ▸ h)
  have RD : Hid (∀ (L : List Mo) (v : Value) (w' : World), MoRow W.heap.size L v w' → MoRow w.heap.size L v w') := fun L v w' h => moRow_down (by rw [hW]; exact h)
  rw [hW] at HN SF hB
  obtain ⟨B, hBB⟩ : ∃ B, w.heap.size = B := ⟨_, rfl⟩
  rw [hBB] at HN SF hB DB RD
  have HB2 := Lib.hid hBB
  clear hW hBB
  go_enter Tryd.func5, Tryd.ntmps5
  go_wp2_with fail
  refine SF.out.mono ?_
  rintro e w1 ⟨rfl, rfl⟩
  go_wp2_with fail
  refine (draw_bent W _ B (.slice a l c) 0 (by omega) hB (Nat.le_refl _) HN.out).mono ?_
  rintro e w2 ⟨L, v, hl, rfl, ho, h2, t2⟩
  obtain ⟨a2, cap2, rfl⟩ := ho.form
  have H2 := Lib.hid h2
  have O2 := Lib.hid ho
  have T2 := Lib.hid t2
  have hs2 : W.heap.size ≤ w2.heap.size := t2.size
  clear h2 ho t2
  go_wp2_with fail
  refine (src_one W _ B (.slice a l c) (0 + 400) 10 (by omega) (by omega) (by omega) H2.out).mono ?_
  rintro e w3 ⟨b3, rfl, h3, t3⟩
  have H3 := Lib.hid h3
  have O3 : Hid (MoRow W.heap.size L (.slice a2 L.length cap2) w3) := row_touch O2.out t3 hB
  have T3 := Lib.hid (T2.out.trans t3)
  have hs3 : W.heap.size ≤ w3.heap.size := T3.out.size
  clear h3 t3
  cases b3
  · go_wp2_with fail
    refine (src_pick W _ B (.slice a l c) (0 + 400 + 2) 150 (by omega) (by omega) (by omega) H3.out).mono ?_
    rintro e w4 ⟨r4, ra4, rb4, rfl, h4, t4⟩
    have H4 := Lib.hid h4
    have O4 : Hid (MoRow W.heap.size L (.slice a2 L.length cap2) w4) := row_touch O3.out t4 hB
    have T4 := Lib.hid (T3.out.trans t4)
    have hs4 : W.heap.size ≤ w4.heap.size := T4.out.size
    clear h4 t4
    go_wp2
    go_ret2
    refine ⟨L, a2, cap2, r4, hl, ?_, by rw [HB2.out]; exact RD.out _ _ _ O4.out, by rw [HB2.out]; exact DB.out _ T4.out⟩
    rfl
  · have AM := Lib.hid (among_lit W w3 B (.slice a l c) (0 + 400 + 2) [-1, 0, 2000, 2001] 4 rfl (by omega) (by omega) (by omega) (by omega) H3.out)
    go_wp2_with fail
    refine AM.out.mono ?_
    rintro e w4 ⟨x4, rfl, h4, t4⟩
    have O4 : Hid (MoRow W.heap.size L (.slice a2 L.length cap2) w4) := row_touch O3.out t4 hB
    have T4 := Lib.hid (T3.out.trans t4)
    clear h4 t4
    go_wp2
    go_ret2
    refine ⟨L, a2, cap2, x4, hl, ?_, by rw [HB2.out]; exact RD.out _ _ _ O4.out, by rw [HB2.out]; exact DB.out _ T4.out⟩
    rfl

set_option maxRecDepth 100000 in
set_option maxHeartbeats 3200000 in
theorem drawWornMoulds_spec (w : World) (cv : Value) (hcv : CodeAt w w.heap.size cv) (hsl : ∃ a l c, cv = .slice a l c) : Calls Tryd.prog 14 #[cv] w (Draw2 w) := by
  have HN := Lib.hid (src_new w cv hcv)
  have SF := Lib.hid (src_from w cv hcv hsl)
  obtain ⟨a, l, c, rfl⟩ := hsl
  clear hcv
  have hB : w.heap.size < (w.alloc (.cells #[.slice a l c, .int .i64 0, .int .u64 0] 80)).heap.size := by simp
  obtain ⟨W, hW⟩ : ∃ W, w.alloc (.cells #[.slice a l c, .int .i64 0, .int .u64 0] 80) = W := ⟨_, rfl⟩
  have DB : Hid (∀ w', Touch w.heap.size W w' → Below w.heap.size w w') := fun w' h => drawn_below (hW ▸ h)
  have RD : Hid (∀ (L : List Mo) (v : Value) (w' : World), MoRow W.heap.size L v w' → MoRow w.heap.size L v w') := fun L v w' h => moRow_down (by rw [hW]; exact h)
  rw [hW] at HN SF hB
  obtain ⟨B, hBB⟩ : ∃ B, w.heap.size = B := ⟨_, rfl⟩
  rw [hBB] at HN SF hB DB RD
  have HB2 := Lib.hid hBB
  clear hW hBB
  go_enter Tryd.func14, Tryd.ntmps14
  go_wp2_with fail
  refine SF.out.mono ?_
  rintro e w1 ⟨rfl, rfl⟩
  go_wp2_with fail
  refine (draw_bent W _ B (.slice a l c) 0 (by omega) hB (Nat.le_refl _) HN.out).mono ?_
  rintro e w2 ⟨L, v, hl, rfl, ho, h2, t2⟩
  obtain ⟨a2, cap2, rfl⟩ := ho.form
  have H2 := Lib.hid h2
  have O2 := Lib.hid ho
  have T2 := Lib.hid t2
  have hs2 : W.heap.size ≤ w2.heap.size := t2.size
  clear h2 ho t2
  go_wp2_with fail
  refine (src_one W _ B (.slice a l c) (0 + 400) 10 (by omega) (by omega) (by omega) H2.out).mono ?_
  rintro e w3 ⟨b3, rfl, h3, t3⟩
  have H3 := Lib.hid h3
  have O3 : Hid (MoRow W.heap.size L (.slice a2 L.length cap2) w3) := row_touch O2.out t3 hB
  have T3 := Lib.hid (T2.out.trans t3)
  have hs3 : W.heap.size ≤ w3.heap.size := T3.out.size
  clear h3 t3
  cases b3
  · go_wp2_with fail
    refine (src_pick W _ B (.slice a l c) (0 + 400 + 2) 12 (by omega) (by omega) (by omega) H3.out).mono ?_
    rintro e w4 ⟨r4, ra4, rb4, rfl, h4, t4⟩
    have H4 := Lib.hid h4
    have O4 : Hid (MoRow W.heap.size L (.slice a2 L.length cap2) w4) := row_touch O3.out t4 hB
    have T4 := Lib.hid (T3.out.trans t4)
    have hs4 : W.heap.size ≤ w4.heap.size := T4.out.size
    clear h4 t4
    go_wp2
    go_ret2
    refine ⟨L, a2, cap2, 10 * r4, hl, ?_, by rw [HB2.out]; exact RD.out _ _ _ O4.out, by rw [HB2.out]; exact DB.out _ T4.out⟩
    rfl
  · have AM := Lib.hid (among_lit W w3 B (.slice a l c) (0 + 400 + 2) [-1, 0, 100000, 100001] 4 rfl (by omega) (by omega) (by omega) (by omega) H3.out)
    go_wp2_with fail
    refine AM.out.mono ?_
    rintro e w4 ⟨x4, rfl, h4, t4⟩
    have O4 : Hid (MoRow W.heap.size L (.slice a2 L.length cap2) w4) := row_touch O3.out t4 hB
    have T4 := Lib.hid (T3.out.trans t4)
    clear h4 t4
    go_wp2
    go_ret2
    refine ⟨L, a2, cap2, x4, hl, ?_, by rw [HB2.out]; exact RD.out _ _ _ O4.out, by rw [HB2.out]; exact DB.out _ T4.out⟩
    rfl

set_option maxRecDepth 100000 in
set_option maxHeartbeats 3200000 in
theorem drawUseMould_spec (w : World) (cv : Value) (hcv : CodeAt w w.heap.size cv) (hsl : ∃ a l c, cv = .slice a l c) : Calls Tryd.prog 11 #[cv] w (Draw3 w) := by
  have HN := Lib.hid (src_new w cv hcv)
  have SF := Lib.hid (src_from w cv hcv hsl)
  obtain ⟨a, l, c, rfl⟩ := hsl
  clear hcv
  have hB : w.heap.size < (w.alloc (.cells #[.slice a l c, .int .i64 0, .int .u64 0] 80)).heap.size := by simp
  obtain ⟨W, hW⟩ : ∃ W, w.alloc (.cells #[.slice a l c, .int .i64 0, .int .u64 0] 80) = W := ⟨_, rfl⟩
  have DB : Hid (∀ w', Touch w.heap.size W w' → Below w.heap.size w w') := fun w' h => drawn_below (hW ▸ h)
  have RD : Hid (∀ (L : List Mo) (v : Value) (w' : World), MoRow W.heap.size L v w' → MoRow w.heap.size L v w') := fun L v w' h => moRow_down (by rw [hW]; exact h)
  rw [hW] at HN SF hB
  obtain ⟨B, hBB⟩ : ∃ B, w.heap.size = B := ⟨_, rfl⟩
  rw [hBB] at HN SF hB DB RD
  have HB2 := Lib.hid hBB
  clear hW hBB
  go_enter Tryd.func11, Tryd.ntmps11
  go_wp2_with fail
  refine SF.out.mono ?_
  rintro e w1 ⟨rfl, rfl⟩
  go_wp2_with fail
  refine (draw_bent W _ B (.slice a l c) 0 (by omega) hB (Nat.le_refl _) HN.out).mono ?_
  rintro e w2 ⟨L, v, hl, rfl, ho, h2, t2⟩
  obtain ⟨a2, cap2, rfl⟩ := ho.form
  have H2 := Lib.hid h2
  have O2 := Lib.hid ho
  have T2 := Lib.hid t2
  have hs2 : W.heap.size ≤ w2.heap.size := t2.size
  clear h2 ho t2
  go_wp2_with fail
  refine (src_pick W _ B (.slice a l c) (0 + 400) ((L.length : Int) + 1) (by omega) (by omega) (by omega) H2.out).mono ?_
  rintro e w3 ⟨r3, ra3, rb3, rfl, h3, t3⟩
  have H3 := Lib.hid h3
  have O3 : Hid (MoRow W.heap.size L (.slice a2 L.length cap2) w3) := row_touch O2.out t3 hB
  have T3 := Lib.hid (T2.out.trans t3)
  have hs3 : W.heap.size ≤ w3.heap.size := T3.out.size
  clear h3 t3
  go_wp2_with fail
  refine (src_pick W _ B (.slice a l c) (0 + 400 + 2) 16 (by omega) (by omega) (by omega) H3.out).mono ?_
  rintro e w4 ⟨r4, ra4, rb4, rfl, h4, t4⟩
  have H4 := Lib.hid h4
  have O4 : Hid (MoRow W.heap.size L (.slice a2 L.length cap2) w4) := row_touch O3.out t4 hB
  have T4 := Lib.hid (T3.out.trans t4)
  have hs4 : W.heap.size ≤ w4.heap.size := T4.out.size
  clear h4 t4
  go_wp2_with fail
  refine (src_one W _ B (.slice a l c) (0 + 400 + 2 + 2) 8 (by omega) (by omega) (by omega) H4.out).mono ?_
  rintro e w5 ⟨b5, rfl, h5, t5⟩
  have H5 := Lib.hid h5
  have O5 : Hid (MoRow W.heap.size L (.slice a2 L.length cap2) w5) := row_touch O4.out t5 hB
  have T5 := Lib.hid (T4.out.trans t5)
  have hs5 : W.heap.size ≤ w5.heap.size := T5.out.size
  clear h5 t5
  cases b5
  · go_wp2_with fail
    refine (src_pick W _ B (.slice a l c) (0 + 400 + 2 + 2 + 2) 50 (by omega) (by omega) (by omega) H5.out).mono ?_
    rintro e w6 ⟨r6, ra6, rb6, rfl, h6, t6⟩
    have H6 := Lib.hid h6
    have O6 : Hid (MoRow W.heap.size L (.slice a2 L.length cap2) w6) := row_touch O5.out t6 hB
    have T6 := Lib.hid (T5.out.trans t6)
    have hs6 : W.heap.size ≤ w6.heap.size := T6.out.size
    clear h6 t6
    go_wp2
    go_ret3
    refine ⟨L, a2, cap2, r3 - r4 / 15, 1 + r6, hl, ?_, by rw [HB2.out]; exact RD.out _ _ _ O6.out, by rw [HB2.out]; exact DB.out _ T6.out⟩
    rfl
  · have AM := Lib.hid (among_lit W w5 B (.slice a l c) (0 + 400 + 2 + 2 + 2) [-1, 0, 1, 100000, 100001] 5 rfl (by omega) (by omega) (by omega) (by omega) H5.out)
    go_wp2_with fail
    refine AM.out.mono ?_
    rintro e w6 ⟨x6, rfl, h6, t6⟩
    have O6 : Hid (MoRow W.heap.size L (.slice a2 L.length cap2) w6) := row_touch O5.out t6 hB
    have T6 := Lib.hid (T5.out.trans t6)
    clear h6 t6
    go_wp2
    go_ret3
    refine ⟨L, a2, cap2, r3 - r4 / 15, x6, hl, ?_, by rw [HB2.out]; exact RD.out _ _ _ O6.out, by rw [HB2.out]; exact DB.out _ T6.out⟩
    rfl
end Go.Proofs.YtdandhmallbemaaDoor
