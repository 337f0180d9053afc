/-
  The walk of FnFormats.
-/
import Derived.Test.YtpholgfkaolfjaaDoorFmF
import Derived.Test.YtpholgfkaolfjaaDoorDraw2
namespace Go.Proofs.YtpholgfkaolfjaaDoor
open Go.ChangeShapes Go.WideShapes Go.ChangeAt Go.RowKit Go.Joins

theorem fm_prep {l wd ht j : Int} (hok : okB l wd ht j = true) : ∃ N4 D4 N2 D2 : Int, (1 ≤ D4 ∧ D4 ≤ 4) ∧ (1 ≤ D2 ∧ D2 ≤ 4) ∧ N4 = l * D4 ∧ (l = 2 * wd + j ↔ N2 = wd * D2) ∧
    Hid (∀ w, Calls Tryd.prog 9 #[.agg #[.int .i64 l, .int .i64 wd, .int .i64 ht, .int .i64 j], .int .i64 4] w fun e w' => e = .returned (.tuple #[.agg #[.int .i64 N4, .int .i64 D4], .int .i64 0]) ∧ Below w.heap.size w w') ∧
    Hid (∀ w, Calls Tryd.prog 9 #[.agg #[.int .i64 l, .int .i64 wd, .int .i64 ht, .int .i64 j], .int .i64 2] w fun e w' => e = .returned (.tuple #[.agg #[.int .i64 N2, .int .i64 D2], .int .i64 0]) ∧ Below w.heap.size w w') := by
  obtain ⟨⟨l1, l2⟩, ⟨w1', w2'⟩, ⟨t1, t2⟩, ⟨j1, j2⟩, _⟩ := okB_true.1 hok
  have c4 : codeOf l wd ht j 4 1 200 = 0 := by
    rcases code_cases l wd ht j 4 1 200 with ⟨h, _⟩ | ⟨_, h, _⟩ | ⟨_, _, hc⟩
    · rw [hok] at h; cases h
    · omega
    · exact hc
  have c2 : codeOf l wd ht j 2 1 200 = 0 := by
    rcases code_cases l wd ht j 2 1 200 with ⟨h, _⟩ | ⟨_, h, _⟩ | ⟨_, _, hc⟩
    · rw [hok] at h; cases h
    · omega
    · exact hc
  obtain ⟨g, hg, n4, d4⟩ := low_facts (4 * (l + j) - 4 * j)
  obtain ⟨k, hk, n2, d2⟩ := low_facts (2 * (l + j) - 4 * j)
  refine ⟨lowN (4 * (l + j) - 4 * j) 4, lowD (4 * (l + j) - 4 * j) 4, lowN (2 * (l + j) - 4 * j) 4, lowD (2 * (l + j) - 4 * j) 4, ?_, ?_, ?_, ?_, fun w => ?_, fun w => ?_⟩
  · rcases hg with rfl | rfl | rfl <;> omega
  · rcases hk with rfl | rfl | rfl <;> omega
  · rcases hg with rfl | rfl | rfl
    · rw [show lowD (4 * (l + j) - 4 * j) 4 = 4 by omega]; omega
    · rw [show lowD (4 * (l + j) - 4 * j) 4 = 2 by omega]; omega
    · rw [show lowD (4 * (l + j) - 4 * j) 4 = 1 by omega]; omega
  · rcases hk with rfl | rfl | rfl
    · rw [show lowD (2 * (l + j) - 4 * j) 4 = 4 by omega]; omega
    · rw [show lowD (2 * (l + j) - 4 * j) 4 = 2 by omega]; omega
    · rw [show lowD (2 * (l + j) - 4 * j) 4 = 1 by omega]; omega
  · have h := length_impl l wd ht j 4 w; rw [c4, val0, val0] at h; exact h
  · have h := length_impl l wd ht j 2 w; rw [c2, val0, val0] at h; exact h

/-- The box of a format; of a fraction. -/
def FBox (B : Nat) (l wd ht j : Int) (w : World) : Prop := w.cell? ⟨B, 0, none⟩ = some (.int .i64 l) ∧ w.cell? ⟨B, 1, none⟩ = some (.int .i64 wd) ∧ w.cell? ⟨B, 2, none⟩ = some (.int .i64 ht) ∧ w.cell? ⟨B, 3, none⟩ = some (.int .i64 j)
theorem FBox.later {B : Nat} {l wd ht j : Int} {w w' : World} (h : FBox B l wd ht j w) (hb : Below w.heap.size w w') : FBox B l wd ht j w' := by
  obtain ⟨h0, h1, h2, h3⟩ := h
  have hl := World.block_lt_of_cell? w _ h0
  exact ⟨(hb.cell (p := ⟨B, 0, none⟩) hl).trans h0, (hb.cell (p := ⟨B, 1, none⟩) hl).trans h1, (hb.cell (p := ⟨B, 2, none⟩) hl).trans h2, (hb.cell (p := ⟨B, 3, none⟩) hl).trans h3⟩
def LBox (B : Nat) (n d : Int) (w : World) : Prop := w.cell? ⟨B, 0, none⟩ = some (.int .i64 n) ∧ w.cell? ⟨B, 1, none⟩ = some (.int .i64 d)
theorem LBox.later {B : Nat} {n d : Int} {w w' : World} (h : LBox B n d w) (hb : Below w.heap.size w w') : LBox B n d w' := by
  obtain ⟨h0, h1⟩ := h
  have hl := World.block_lt_of_cell? w _ h0
  exact ⟨(hb.cell (p := ⟨B, 0, none⟩) hl).trans h0, (hb.cell (p := ⟨B, 1, none⟩) hl).trans h1⟩
theorem lbox_new (w : World) (n d : Int) (t : TypeId) : LBox w.heap.size n d (w.alloc (.cells #[.int .i64 n, .int .i64 d] t)) := by
  refine ⟨?_, ?_⟩ <;> (rw [cell_of_row _ _ _ _ t (0, 0) (heap_alloc_new w _)]; rfl)

set_option maxRecDepth 100000 in
set_option maxHeartbeats 3200000 in
theorem walk_FnFormats (w : World) (a : Option Addr) (len cap : Nat) (hl : len ≤ 9223372036854775807) (hc : CodeAt w w.heap.size (.slice a len cap)) (hp : Pow10 w) (p : Value) (hv : w.var? Tryd.prog "strconv.ErrSyntax" = some #[.iface 120 p]) (m : Int) (hm : w.cell? ⟨0, 0, none⟩ = some (.int .i64 m)) :
    Calls Tryd.prog 3 #[.slice a len cap] w fun e w' => e = .returned (.bool true) ∧ Below w.heap.size w w' := by
  have HC := Lib.hid hc
  have HL := Lib.hid hl
  clear hc hl
  by_cases h3 : (3000 : Int) < (len : Int)
  · have h3' : decide ((3000 : Int) < (len : Int)) = true := by simpa using h3
    clear hp hv hm
    go_enter Tryd.func3, Tryd.ntmps3
    go_wp2_with fail
    refine (long_any a len cap _).mono ?_
    rintro e w1 ⟨rfl, rfl⟩
    go_wp2_with fail
    go_ret
    exact ⟨rfl, Below.refl _ _⟩
  have h3' : decide ((3000 : Int) < (len : Int)) = false := by simpa using h3
  have HM : Hid (∀ wx, Below w.heap.size w wx → wx.cell? ⟨0, 0, none⟩ = some (.int .i64 m)) := fun wx h => (h.cell (p := ⟨0, 0, none⟩) (World.block_lt_of_cell? w _ hm)).trans hm
  have HP : Hid (∀ wx, Below w.heap.size w wx → Pow10 wx) := fun wx h => hp.later h
  have HV : Hid (∀ wx, Below w.heap.size w wx → wx.var? Tryd.prog "strconv.ErrSyntax" = some #[.iface 120 p]) := fun wx h => var_stays gSynC hv h (Nat.le_refl _)
  clear hp hv hm h3
  go_enter Tryd.func3, Tryd.ntmps3
  go_wp2_with fail
  refine (long_any a len cap _).mono ?_
  rintro e w0 ⟨rfl, rfl⟩
  go_wp2_with fail
  refine (a2_format _ (.slice a len cap) HC.out ⟨a, len, cap, rfl⟩).mono ?_
  rintro e w1 ⟨l, wd, ht, j, hok, rfl, hb1⟩
  have B1 := Lib.hid (balloc hb1 (.cells #[.int .i64 l, .int .i64 wd, .int .i64 ht, .int .i64 j] 25))
  obtain ⟨g0, g1, g2, g3⟩ := range_new4 w1 l wd ht j (t := 25)
  obtain ⟨W1, hW⟩ : ∃ W1, w1.alloc (.cells #[.int .i64 l, .int .i64 wd, .int .i64 ht, .int .i64 j] 25) = W1 := ⟨_, rfl⟩
  rw [hW] at B1 g0 g1 g2 g3
  have HW := Lib.hid hW
  have Q1 : Hid (FBox w1.heap.size l wd ht j W1) := ⟨g0, g1, g2, g3⟩
  obtain ⟨hF, hFs⟩ := fm_back hok
  have TI : Hid (∀ wx, Below w.heap.size w wx → _) := fun wx h => formatText_impl l wd ht j wx (HP.out _ h)
  have RI : Hid (∀ wx, Below w.heap.size w wx → Calls Tryd.prog 7 #[.string (fmtS l wd ht j)] wx fun e w' => e = .returned (.tuple #[.agg #[.int .i64 l, .int .i64 wd, .int .i64 ht, .int .i64 j], .bool true]) ∧ Below wx.heap.size wx w') := fun wx h =>
    (readFormat_impl (fmtS l wd ht j) hFs _ p m wx (HM.out _ h) (HP.out _ h) (HV.out _ h)).mono fun e w' ⟨h1, h2⟩ => ⟨fmRead_one h1 (.inl ⟨l, wd, ht, j, hF, rfl⟩), h2⟩
  obtain ⟨T, hT⟩ : ∃ T, fmtS l wd ht j = T := ⟨_, rfl⟩
  rw [hT] at TI RI
  have VI := Lib.hid (volumes_impl l wd ht j)
  rw [hok] at VI
  simp only [if_true] at VI
  have MI := Lib.hid (modular_impl l wd ht j hok)
  obtain ⟨⟨l1, l2⟩, ⟨w1', w2'⟩, ⟨t1, t2⟩, ⟨j1, j2⟩, _⟩ := okB_true.1 hok
  obtain ⟨N4, D4, N2, D2, r4, r2, e4, e2, L4, L2⟩ := fm_prep hok
  obtain ⟨vi, vo, hvi, hvo, q1, q2⟩ : ∃ vi vo : Int, l * wd * ht = vi ∧ (l + j) * (wd + j) * (ht + j) = vo ∧ 1 ≤ vi ∧ vi ≤ vo := by
    refine ⟨_, _, rfl, rfl, ?_, ?_⟩
    · have := Int.mul_pos (Int.mul_pos (show 0 < l by omega) (show 0 < wd by omega)) (show 0 < ht by omega)
      omega
    · exact Int.mul_le_mul (Int.mul_le_mul (by omega) (by omega) (by omega) (by omega)) (by omega) (by omega) (Int.mul_nonneg (by omega) (by omega))
  rw [hvi, hvo] at VI
  have E4 : Hid (IntKind.i64.wrap (l * D4) = N4) := by
    have m1 := Int.mul_le_mul l2 r4.2 (by omega) (by omega)
    have m0 := Int.mul_nonneg (show 0 ≤ l by omega) (show 0 ≤ D4 by omega)
    show IntKind.i64.wrap (l * D4) = N4
    rw [e4]
    exact IntWalk.i64_in _ (by omega)
  obtain ⟨M, hM⟩ : ∃ M, wd * D2 = M := ⟨_, rfl⟩
  have E2 : Hid (IntKind.i64.wrap (wd * D2) = M) := by
    have m1 := Int.mul_le_mul w2' r2.2 (by omega) (by omega)
    have m0 := Int.mul_nonneg (show 0 ≤ wd by omega) (show 0 ≤ D2 by omega)
    show IntKind.i64.wrap (wd * D2) = M
    rw [← hM]
    exact IntWalk.i64_in _ (by omega)
  rw [hM] at e2
  have EM : Hid (decide (l = 2 * wd + j) = decide (N2 = M)) := decide_eq_decide.2 e2
  clear e4 e2 hM r4 r2
  clear hT hF hFs hok hvi hvo hb1 hW
  go_wp2_with fail
  rw [HW.out]
  refine (TI.out _ B1.out).mono ?_
  rintro e w2 ⟨rfl, hb⟩
  have B2 := Lib.hid (bnext B1.out hb)
  have Q2 := Lib.hid (Q1.out.later hb)
  clear hb g0 g1 g2 g3
  go_wp2_with fail
  refine (RI.out _ B2.out).mono ?_
  rintro e w3 ⟨rfl, hb⟩
  have B3 := Lib.hid (bnext B2.out hb)
  have Q3 := Lib.hid (Q2.out.later hb)
  clear hb
  have A3 := Lib.hid (balloc B3.out (.cells #[.int .i64 l, .int .i64 wd, .int .i64 ht, .int .i64 j] 25))
  have P3 := Lib.hid (Q3.out.later (balloc0 w3 (.cells #[.int .i64 l, .int .i64 wd, .int .i64 ht, .int .i64 j] 25)))
  have R3 : Hid (FBox w3.heap.size l wd ht j (w3.alloc (.cells #[.int .i64 l, .int .i64 wd, .int .i64 ht, .int .i64 j] 25))) := range_new4 w3 l wd ht j
  obtain ⟨g0, g1, g2, g3⟩ := P3.out
  go_wp2_with fail
  refine (VI.out _).mono ?_
  rintro e w4 ⟨rfl, hb⟩
  have B4 := Lib.hid (bnext A3.out hb)
  have Q4 := Lib.hid (P3.out.later hb)
  have R4 := Lib.hid (R3.out.later hb)
  clear hb g0 g1 g2 g3
  obtain ⟨g0, g1, g2, g3⟩ := Q4.out
  go_wp2_with fail
  refine (L4.out _).mono ?_
  rintro e w5 ⟨rfl, hb⟩
  have B5 := Lib.hid (balloc (bnext B4.out hb) (.cells #[.int .i64 N4, .int .i64 D4] 33))
  have Q5 := Lib.hid ((Q4.out.later hb).later (balloc0 w5 (.cells #[.int .i64 N4, .int .i64 D4] 33)))
  have R5 := Lib.hid ((R4.out.later hb).later (balloc0 w5 (.cells #[.int .i64 N4, .int .i64 D4] 33)))
  have S5 := Lib.hid (lbox_new w5 N4 D4 33)
  clear hb g0 g1 g2 g3
  obtain ⟨g0, g1, g2, g3⟩ := Q5.out
  go_wp2_with fail
  refine (L2.out _).mono ?_
  rintro e w6 ⟨rfl, hb⟩
  have B6 := Lib.hid (balloc (bnext B5.out hb) (.cells #[.int .i64 N2, .int .i64 D2] 33))
  have Q6 := Lib.hid ((Q5.out.later hb).later (balloc0 w6 (.cells #[.int .i64 N2, .int .i64 D2] 33)))
  have O6 := Lib.hid (lbox_new w6 N2 D2 33)
  obtain ⟨k0, k1, k2, k3⟩ := (R5.out.later hb).later (balloc0 w6 (.cells #[.int .i64 N2, .int .i64 D2] 33))
  obtain ⟨s0, s1⟩ := (S5.out.later hb).later (balloc0 w6 (.cells #[.int .i64 N2, .int .i64 D2] 33))
  obtain ⟨g0, g1, g2, g3⟩ := Q6.out
  obtain ⟨o0, o1⟩ := O6.out
  clear hb
  have e4 := E4.out
  go_wp2_with fail
  refine (MI.out _).mono ?_
  rintro e w7 ⟨rfl, hb⟩
  have B7 := Lib.hid (bnext B6.out hb)
  have Q7 := Q6.out.later hb
  have O7 := O6.out.later hb
  clear hb g0 g1 g2 g3 k0 k1 k2 k3 s0 s1 o0 o1 e4
  obtain ⟨g0, g1, g2, g3⟩ := Q7
  obtain ⟨o0, o1⟩ := O7
  have e2 := E2.out
  rw [EM.out]
  clear B1 Q1 B2 Q2 B3 Q3 A3 P3 R3 B4 Q4 R4 B5 Q5 R5 S5 B6 Q6 O6 HW HC HL HM HP HV TI RI VI MI L4 L2 E4 E2 EM
  by_cases hNM : N2 = M
  · subst hNM
    have hd : decide (N2 = N2) = true := by simp
    rw [hd]
    go_wp2
    clear g0 g1 g2 g3 o0 o1 e2 hd
    go_loopw [15, 16, 17] (fun s c i wr => ∃ k : Nat, k ≤ 256 ∧ s = .int .i64 (allTo k) ∧ c = .int .i64 (cutTo k) ∧ i = .int .i64 k ∧ w7 = wr) (fun _ _ i _ => 256 - (intOf i).toNat)
    case atStart => exact ⟨0, by omega, rfl, rfl, rfl, rfl⟩
    case round =>
      obtain ⟨k, hk, rfl, rfl, rfl, hwr⟩ := hrel
      by_cases hlt : k < 256
      · have hlt' : (k : Int) < 256 := by omega
        have hk0 : (0 : Int) ≤ (k : Int) := by omega
        have QI := Lib.hid (quartersOf_impl k hlt)
        have CI := Lib.hid (isCut_impl k hlt)
        have r1 := allTo_range k
        have r2 := cutTo_range k
        have r3 := qOf_range k
        have HA : Hid (allTo (k + 1) = allTo k + qOf k) := rfl
        have HC : Hid (cutTo (k + 1) = cutTo k + if isCutB k then 1 else 0) := rfl
        have HZ0 : Hid (qCode k = 0 ∨ (qCode k = 2 ∧ qOf k = 0)) := qCode_cases k
        obtain ⟨A, hA⟩ : ∃ A, allTo k = A := ⟨_, rfl⟩
        obtain ⟨C, hC⟩ : ∃ C, cutTo k = C := ⟨_, rfl⟩
        obtain ⟨q, hq⟩ : ∃ q, qOf k = q := ⟨_, rfl⟩
        obtain ⟨co, hco⟩ : ∃ co, qCode k = co := ⟨_, rfl⟩
        obtain ⟨b, hb⟩ : ∃ b, isCutB k = b := ⟨_, rfl⟩
        rw [hA] at r1 HA ⊢
        rw [hC] at r2 HC ⊢
        rw [hq] at r3 HA HZ0 QI
        rw [hco] at HZ0 QI
        rw [hb] at HC CI
        clear hA hC hq hco hb
        rcases HZ0.out with hc0 | ⟨hc0, hq0⟩
        · subst hc0
          cases b
          all_goals
            go_wp2_with (first | (go_at_call 11; refine (QI.out _).mono ?_; rintro e w8 ⟨rfl, rfl⟩) | (go_at_call 12; refine (CI.out _).mono ?_; rintro e w9 ⟨rfl, rfl⟩))
            go_roundw
            case rel => exact ⟨k + 1, by omega, by rw [HA.out], by rw [HC.out]; simp, by go_num, hwr⟩
            case measure => simp [intOf]; omega
        · subst hc0
          subst hq0
          cases b
          all_goals
            go_wp2_with (first | (go_at_call 11; refine (QI.out _).mono ?_; rintro e w8 ⟨rfl, rfl⟩) | (go_at_call 12; refine (CI.out _).mono ?_; rintro e w9 ⟨rfl, rfl⟩))
            go_roundw
            case rel => exact ⟨k + 1, by omega, by rw [HA.out]; simp, by rw [HC.out]; simp, by go_num, hwr⟩
            case measure => simp [intOf]; omega
      · have hge : ¬ (k : Int) < 256 := by omega
        have hkk : k = 256 := by omega
        subst hkk
        have hA := all_12
        have hC := cut_3
        rw [hA, hC]
        go_wp2
        go_ret
        exact ⟨rfl, hwr ▸ B7.out⟩
  · have hbq : (N2 == M) = false := by simp [hNM]
    have hd : decide (N2 = M) = false := by simp [hNM]
    rw [hd]
    go_wp2
    clear g0 g1 g2 g3 o0 o1 e2 hd
    go_loopw [15, 16, 17] (fun s c i wr => ∃ k : Nat, k ≤ 256 ∧ s = .int .i64 (allTo k) ∧ c = .int .i64 (cutTo k) ∧ i = .int .i64 k ∧ w7 = wr) (fun _ _ i _ => 256 - (intOf i).toNat)
    case atStart => exact ⟨0, by omega, rfl, rfl, rfl, rfl⟩
    case round =>
      obtain ⟨k, hk, rfl, rfl, rfl, hwr⟩ := hrel
      by_cases hlt : k < 256
      · have hlt' : (k : Int) < 256 := by omega
        have hk0 : (0 : Int) ≤ (k : Int) := by omega
        have QI := Lib.hid (quartersOf_impl k hlt)
        have CI := Lib.hid (isCut_impl k hlt)
        have r1 := allTo_range k
        have r2 := cutTo_range k
        have r3 := qOf_range k
        have HA : Hid (allTo (k + 1) = allTo k + qOf k) := rfl
        have HC : Hid (cutTo (k + 1) = cutTo k + if isCutB k then 1 else 0) := rfl
        have HZ0 : Hid (qCode k = 0 ∨ (qCode k = 2 ∧ qOf k = 0)) := qCode_cases k
        obtain ⟨A, hA⟩ : ∃ A, allTo k = A := ⟨_, rfl⟩
        obtain ⟨C, hC⟩ : ∃ C, cutTo k = C := ⟨_, rfl⟩
        obtain ⟨q, hq⟩ : ∃ q, qOf k = q := ⟨_, rfl⟩
        obtain ⟨co, hco⟩ : ∃ co, qCode k = co := ⟨_, rfl⟩
        obtain ⟨b, hb⟩ : ∃ b, isCutB k = b := ⟨_, rfl⟩
        rw [hA] at r1 HA ⊢
        rw [hC] at r2 HC ⊢
        rw [hq] at r3 HA HZ0 QI
        rw [hco] at HZ0 QI
        rw [hb] at HC CI
        clear hA hC hq hco hb
        rcases HZ0.out with hc0 | ⟨hc0, hq0⟩
        · subst hc0
          cases b
          all_goals
            go_wp2_with (first | (go_at_call 11; refine (QI.out _).mono ?_; rintro e w8 ⟨rfl, rfl⟩) | (go_at_call 12; refine (CI.out _).mono ?_; rintro e w9 ⟨rfl, rfl⟩))
            go_roundw
            case rel => exact ⟨k + 1, by omega, by rw [HA.out], by rw [HC.out]; simp, by go_num, hwr⟩
            case measure => simp [intOf]; omega
        · subst hc0
          subst hq0
          cases b
          all_goals
            go_wp2_with (first | (go_at_call 11; refine (QI.out _).mono ?_; rintro e w8 ⟨rfl, rfl⟩) | (go_at_call 12; refine (CI.out _).mono ?_; rintro e w9 ⟨rfl, rfl⟩))
            go_roundw
            case rel => exact ⟨k + 1, by omega, by rw [HA.out]; simp, by rw [HC.out]; simp, by go_num, hwr⟩
            case measure => simp [intOf]; omega
      · have hge : ¬ (k : Int) < 256 := by omega
        have hkk : k = 256 := by omega
        subst hkk
        have hA := all_12
        have hC := cut_3
        rw [hA, hC]
        go_wp2
        go_ret
        exact ⟨rfl, hwr ▸ B7.out⟩
end Go.Proofs.YtpholgfkaolfjaaDoor
