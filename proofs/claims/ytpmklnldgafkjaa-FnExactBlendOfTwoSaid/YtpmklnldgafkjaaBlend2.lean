/-
  Blends of two clays: the model's and the program's answer, and the walk of the law.
-/
import Derived.Test.YtpmklnldgafkjaaClayA
import Derived.Test.YtpmklnldgafkjaaClayB
import Derived.Test.YtpmklnldgafkjaaClayC
import Derived.Test.YtpmklnldgafkjaaClayV
import Derived.Test.YtpmklnldgafkjaaFrac
import Derived.Deep.QuietTactic
namespace Go.Proofs.Ytpmklnldgafkjaa
open Go.ChangeShapes Go.WideShapes Go.ChangeAt Go.RowKit Go.Joins

/-- The code, and the parts of both clays. -/
def twoCode (a b : Cl) (s : Int) : Int := if a.ok = true ∧ b.ok = true then (if inB s 0 200 = true then (if a.sh = b.sh then 6 else if inB s (min a.sh b.sh) (max a.sh b.sh) = true then 0 else 3) else 2) else 1
def absI (n : Int) : Int := max n (-n)

theorem min_spec (a b : Int) (w : World) : Calls Try.prog 76 #[.int .i64 a, .int .i64 b] w fun e w' => e = .returned (.int .i64 (min a b)) ∧ w = w' := by
  by_cases h : a < b
  all_goals
    go_enter Try.func76, Try.ntmps76
    go_wp2
    go_ret
    exact ⟨ret_int (by omega), rfl⟩
theorem max_spec (a b : Int) (w : World) : Calls Try.prog 77 #[.int .i64 a, .int .i64 b] w fun e w' => e = .returned (.int .i64 (max a b)) ∧ w = w' := by
  by_cases h : b < a
  all_goals
    go_enter Try.func77, Try.ntmps77
    go_wp2
    go_ret
    exact ⟨ret_int (by omega), rfl⟩
theorem sizeZ_spec (a : Int) (h1 : -1000 ≤ a) (h2 : a ≤ 1000) (w : World) : Calls Try.prog 78 #[.int .i64 a] w fun e w' => e = .returned (.int .i64 (absI a)) ∧ w = w' := by
  by_cases h : a < 0
  all_goals
    go_enter Try.func78, Try.ntmps78
    go_wp2
    go_ret
    exact ⟨ret_int (by unfold absI; omega), rfl⟩
theorem distance_impl (a b : Int) (h1 : 0 ≤ a ∧ a ≤ 1000) (h2 : 0 ≤ b ∧ b ≤ 1000) (w : World) : Calls Try.prog 81 #[.int .i64 a, .int .i64 b] w fun e w' => e = .returned (.int .i64 (absI (a - b))) ∧ w = w' := by
  by_cases h : a < b
  all_goals
    go_enter Try.func81, Try.ntmps81
    go_wp2
    go_ret
    exact ⟨ret_int (by unfold absI; omega), rfl⟩

theorem below_drewN {n : Nat} {w v : World} (h : Below n w v) (k : Nat) : Below n w (v.drewN k) := by
  induction k generalizing v with
  | zero => exact h
  | succ k ih => exact (ih h).drew
theorem absI_range {n : Int} (h : -200 ≤ n ∧ n ≤ 200) : 0 ≤ absI n ∧ absI n ≤ 200 := by unfold absI; omega
theorem gcd_two (x y : Int) (hx : 0 ≤ x ∧ x ≤ 200) (hy : 0 ≤ y ∧ y ≤ 200) (h : ¬ (x = 0 ∧ y = 0)) : ∃ g : Int, Hid (((Int.gcd x y : Nat) : Int) = g) ∧ 1 ≤ g ∧ g ≤ 200 := by
  refine ⟨_, rfl, ?_, ?_⟩
  · have : Int.gcd x y ≠ 0 := by rw [ne_eq, Int.gcd_eq_zero_iff]; exact h
    omega
  · by_cases h0 : y = 0
    · exact Int.le_trans (Int.le_of_dvd (by omega) (Int.gcd_dvd_left ..)) hx.2
    · exact Int.le_trans (Int.le_of_dvd (by omega) (Int.gcd_dvd_right ..)) hy.2
def two (x y c : Int) : Ending := .returned (.tuple #[.int .i64 x, .int .i64 y, .int .i64 c])
/-- The answer on two clays. -/
def twoE (a b : Cl) (s : Int) : Ending :=
  if twoCode a b s = 0 then two (absI (s - b.sh) / (Int.gcd (absI (s - b.sh)) (absI (a.sh - s)) : Nat)) (absI (a.sh - s) / (Int.gcd (absI (s - b.sh)) (absI (a.sh - s)) : Nat)) 0 else two 0 0 (twoCode a b s)

set_option maxRecDepth 100000 in
set_option maxHeartbeats 3200000 in
theorem two_spec (a b : Cl) (s : Int) (w : World) : Calls Try.prog 40 #[.agg #[.string a.name, .int .i64 a.sh, .int .i64 a.li, .int .i64 a.sa, .int .i64 a.pr], .agg #[.string b.name, .int .i64 b.sh, .int .i64 b.li, .int .i64 b.sa, .int .i64 b.pr], .int .i64 s] w fun e w' => e = twoE a b s ∧ Below w.heap.size w w' := by
  have ra := Lib.hid (range_old w (.cells #[.string b.name, .int .i64 b.sh, .int .i64 b.li, .int .i64 b.sa, .int .i64 b.pr] 35) #[.string a.name, .int .i64 a.sh, .int .i64 a.li, .int .i64 a.sa, .int .i64 a.pr] 35)
  have rb := Lib.hid (range_new2 w (.cells #[.string a.name, .int .i64 a.sh, .int .i64 a.li, .int .i64 a.sa, .int .i64 a.pr] 35) #[.string b.name, .int .i64 b.sh, .int .i64 b.li, .int .i64 b.sa, .int .i64 b.pr] 35)
  have CA := Lib.hid (one_spec a w.heap.size 0 _ (ra.out 0 _ rfl) (ra.out 1 _ rfl) (ra.out 2 _ rfl) (ra.out 3 _ rfl) (ra.out 4 _ rfl))
  have CB := Lib.hid (one_spec b (w.heap.size + 1) 0 _ (rb.out 0 _ rfl) (rb.out 1 _ rfl) (rb.out 2 _ rfl) (rb.out 3 _ rfl) (rb.out 4 _ rfl))
  have BB : Hid (Below w.heap.size w ((w.alloc (.cells #[.string a.name, .int .i64 a.sh, .int .i64 a.li, .int .i64 a.sa, .int .i64 a.pr] 35)).alloc (.cells #[.string b.name, .int .i64 b.sh, .int .i64 b.li, .int .i64 b.sa, .int .i64 b.pr] 35))) := balloc (balloc0 _ _) _
  have ga := ra.out 1 _ rfl
  have gb := rb.out 1 _ rfl
  obtain ⟨W2, hW⟩ : ∃ W2, ((w.alloc (.cells #[.string a.name, .int .i64 a.sh, .int .i64 a.li, .int .i64 a.sa, .int .i64 a.pr] 35)).alloc (.cells #[.string b.name, .int .i64 b.sh, .int .i64 b.li, .int .i64 b.sa, .int .i64 b.pr] 35)) = W2 := ⟨_, rfl⟩
  rw [hW] at ga gb BB CA CB
  have HW := Lib.hid hW
  clear ra rb hW
  have ga' : W2.cell? ⟨w.heap.size, 1, none⟩ = some (.int .i64 a.sh) := ga
  have gb' : W2.cell? ⟨w.heap.size + 1, 1, none⟩ = some (.int .i64 b.sh) := gb
  clear ga gb
  cases h1 : a.ok
  · rw [h1] at CA
    go_enter Try.func40, Try.ntmps40
    go_wp2_with fail
    rw [HW.out]
    refine CA.out.mono ?_
    rintro e w' ⟨rfl, rfl⟩
    go_wp2
    refine bodyPost_ret (v := .tuple #[.int .i64 0, .int .i64 0, .int .i64 1]) (by simp [results, Try.results40, go_sem]) rfl ⟨?_, BB.out⟩
    have hc : twoCode a b s = 1 := by simp [twoCode, h1]
    simp [twoE, hc, two]
  cases h2 : b.ok
  · rw [h1] at CA
    rw [h2] at CB
    go_enter Try.func40, Try.ntmps40
    go_wp2_with fail
    rw [HW.out]
    refine CA.out.mono ?_
    rintro e w' ⟨rfl, rfl⟩
    go_wp2_with fail
    refine CB.out.mono ?_
    rintro e w' ⟨rfl, rfl⟩
    go_wp2
    refine bodyPost_ret (v := .tuple #[.int .i64 0, .int .i64 0, .int .i64 1]) (by simp [results, Try.results40, go_sem]) rfl ⟨?_, BB.out⟩
    have hc : twoCode a b s = 1 := by simp [twoCode, h2]
    simp [twoE, hc, two]
  have fa := (Cl.ok_facts h1).2.1
  have fb := (Cl.ok_facts h2).2.1
  rw [h1] at CA
  rw [h2] at CB
  cases h3 : inB s 0 200
  · go_enter Try.func40, Try.ntmps40
    go_wp2_with fail
    rw [HW.out]
    refine CA.out.mono ?_
    rintro e w' ⟨rfl, rfl⟩
    go_wp2_with fail
    refine CB.out.mono ?_
    rintro e w' ⟨rfl, rfl⟩
    go_wp2_with (go_at_call 75; refine (in_any _ _ _ _).mono ?_; rintro e w' ⟨rfl, rfl⟩)
    refine bodyPost_ret (v := .tuple #[.int .i64 0, .int .i64 0, .int .i64 2]) (by simp [results, Try.results40, go_sem]) rfl ⟨?_, BB.out⟩
    have hc : twoCode a b s = 2 := by simp [twoCode, h1, h2, h3]
    simp [twoE, hc, two]
  have fs := inB_true.1 h3
  by_cases h4 : a.sh = b.sh
  · obtain ⟨an, ash, ali, asa, apr⟩ := a
    obtain rfl : ash = b.sh := h4
    clear fa
    go_enter Try.func40, Try.ntmps40
    go_wp2_with fail
    rw [HW.out]
    refine CA.out.mono ?_
    rintro e w' ⟨rfl, rfl⟩
    go_wp2_with fail
    refine CB.out.mono ?_
    rintro e w' ⟨rfl, rfl⟩
    go_wp2_with (go_at_call 75; refine (in_any _ _ _ _).mono ?_; rintro e w' ⟨rfl, rfl⟩)
    refine bodyPost_ret (v := .tuple #[.int .i64 0, .int .i64 0, .int .i64 6]) (by simp [results, Try.results40, go_sem]) rfl ⟨?_, BB.out⟩
    have hc : twoCode ⟨an, b.sh, ali, asa, apr⟩ b s = 6 := by simp [twoCode, h1, h2, h3]
    simp [twoE, hc, two]
  cases h5 : inB s (min a.sh b.sh) (max a.sh b.sh)
  · go_enter Try.func40, Try.ntmps40
    go_wp2_with fail
    rw [HW.out]
    refine CA.out.mono ?_
    rintro e w' ⟨rfl, rfl⟩
    go_wp2_with fail
    refine CB.out.mono ?_
    rintro e w' ⟨rfl, rfl⟩
    go_wp2_with (go_at_call 75; refine (in_any _ _ _ _).mono ?_; rintro e w' ⟨rfl, rfl⟩)
    go_quiet (first | (go_at_call 76; exact Calls.quiet_of_same ((min_spec _ _ _).mono (fun _ _ h => ⟨h.1, h.2.symm⟩))) | (go_at_call 77; exact Calls.quiet_of_same ((max_spec _ _ _).mono (fun _ _ h => ⟨h.1, h.2.symm⟩))) | (go_at_call 75; exact Calls.quiet_of_same ((in_any _ _ _ _).mono (fun _ _ h => ⟨h.1, h.2.symm⟩))))
    go_wp2
    refine bodyPost_ret (v := .tuple #[.int .i64 0, .int .i64 0, .int .i64 3]) (by simp [results, Try.results40, go_sem]) rfl ⟨?_, below_drewN BB.out _⟩
    have hc : twoCode a b s = 3 := by simp [twoCode, h1, h2, h3, h4, h5]
    simp [twoE, hc, two]
  have hX := absI_range (n := s - b.sh) (by omega)
  have hY := absI_range (n := a.sh - s) (by omega)
  have hXY : ¬ (absI (s - b.sh) = 0 ∧ absI (a.sh - s) = 0) := by unfold absI; omega
  obtain ⟨g, hg, g1, g2⟩ := gcd_two _ _ hX hY hXY
  have hE : Hid (twoE a b s = two (absI (s - b.sh) / g) (absI (a.sh - s) / g) 0) := by
    show twoE a b s = _
    have hc : twoCode a b s = 0 := by simp [twoCode, h1, h2, h3, h4, h5]
    rw [twoE, if_pos hc, hg.out]
  have C1 := Lib.hid (sizeZ_spec (s - b.sh) (by omega) (by omega))
  have C2 := Lib.hid (sizeZ_spec (a.sh - s) (by omega) (by omega))
  obtain ⟨X, eX⟩ : ∃ X, absI (s - b.sh) = X := ⟨_, rfl⟩
  obtain ⟨Y, eY⟩ : ∃ Y, absI (a.sh - s) = Y := ⟨_, rfl⟩
  rw [eX] at C1 hX hE hg
  rw [eY] at C2 hY hE hg
  have C3 := Lib.hid (gcd_specZ X Y (by omega) (by omega) (by omega) (by omega))
  rw [hg.out] at C3
  have hz : ¬ g = 0 := by omega
  clear eX eY hXY
  · go_enter Try.func40, Try.ntmps40
    go_wp2_with fail
    rw [HW.out]
    refine CA.out.mono ?_
    rintro e w' ⟨rfl, rfl⟩
    go_wp2_with fail
    refine CB.out.mono ?_
    rintro e w' ⟨rfl, rfl⟩
    go_wp2_with (go_at_call 75; refine (in_any _ _ _ _).mono ?_; rintro e w' ⟨rfl, rfl⟩)
    go_quiet (first | (go_at_call 76; exact Calls.quiet_of_same ((min_spec _ _ _).mono (fun _ _ h => ⟨h.1, h.2.symm⟩))) | (go_at_call 77; exact Calls.quiet_of_same ((max_spec _ _ _).mono (fun _ _ h => ⟨h.1, h.2.symm⟩))) | (go_at_call 75; exact Calls.quiet_of_same ((in_any _ _ _ _).mono (fun _ _ h => ⟨h.1, h.2.symm⟩))))
    go_wp2_with fail
    refine (C1.out _).mono ?_
    rintro e w' ⟨rfl, rfl⟩
    go_wp2_with fail
    refine (C2.out _).mono ?_
    rintro e w' ⟨rfl, rfl⟩
    go_wp2_with fail
    refine (C3.out _).mono ?_
    rintro e w' ⟨rfl, rfl⟩
    go_wp2
    go_region
    go_wp2
    refine bodyPost_ret (v := .tuple #[.int .i64 (X / g), .int .i64 (Y / g), .int .i64 0]) (by simp [results, Try.results40, go_sem]) rfl ⟨hE.out.symm, (below_drewN BB.out _).drew⟩

theorem cells5 {w : World} {b : Nat} {c : Cl} (h : w.rangeAt b 0 c.vals) : w.cell? ⟨b, 0, none⟩ = some (.string c.name) ∧ w.cell? ⟨b, 1, none⟩ = some (.int .i64 c.sh) ∧ w.cell? ⟨b, 2, none⟩ = some (.int .i64 c.li) ∧ w.cell? ⟨b, 3, none⟩ = some (.int .i64 c.sa) ∧ w.cell? ⟨b, 4, none⟩ = some (.int .i64 c.pr) :=
  ⟨h 0 _ rfl, h 1 _ rfl, h 2 _ rfl, h 3 _ rfl, h 4 _ rfl⟩
set_option maxRecDepth 100000 in
set_option maxHeartbeats 3200000 in
theorem two_impl (a b : Cl) (s : Int) (w : World) : Calls Try.prog 41 #[.agg #[.string a.name, .int .i64 a.sh, .int .i64 a.li, .int .i64 a.sa, .int .i64 a.pr], .agg #[.string b.name, .int .i64 b.sh, .int .i64 b.li, .int .i64 b.sa, .int .i64 b.pr], .int .i64 s] w fun e w' => e = twoE a b s ∧ Below w.heap.size w w' := by
  have ra := Lib.hid (range_old w (.cells #[.string b.name, .int .i64 b.sh, .int .i64 b.li, .int .i64 b.sa, .int .i64 b.pr] 35) #[.string a.name, .int .i64 a.sh, .int .i64 a.li, .int .i64 a.sa, .int .i64 a.pr] 35)
  have rb := Lib.hid (range_new2 w (.cells #[.string a.name, .int .i64 a.sh, .int .i64 a.li, .int .i64 a.sa, .int .i64 a.pr] 35) #[.string b.name, .int .i64 b.sh, .int .i64 b.li, .int .i64 b.sa, .int .i64 b.pr] 35)
  have BB : Hid (Below w.heap.size w ((w.alloc (.cells #[.string a.name, .int .i64 a.sh, .int .i64 a.li, .int .i64 a.sa, .int .i64 a.pr] 35)).alloc (.cells #[.string b.name, .int .i64 b.sh, .int .i64 b.li, .int .i64 b.sa, .int .i64 b.pr] 35))) := balloc (balloc0 _ _) _
  have CA := Lib.hid (isClay_impl a)
  have CB := Lib.hid (isClay_impl b)
  obtain ⟨W2, hW⟩ : ∃ W2, ((w.alloc (.cells #[.string a.name, .int .i64 a.sh, .int .i64 a.li, .int .i64 a.sa, .int .i64 a.pr] 35)).alloc (.cells #[.string b.name, .int .i64 b.sh, .int .i64 b.li, .int .i64 b.sa, .int .i64 b.pr] 35)) = W2 := ⟨_, rfl⟩
  rw [hW] at ra rb BB
  have RA : Hid (W2.rangeAt w.heap.size 0 a.vals) := ra
  have RB : Hid (W2.rangeAt (w.heap.size + 1) 0 b.vals) := rb
  have HW := Lib.hid hW
  clear ra rb hW
  cases h1 : a.ok
  · rw [h1] at CA
    go_enter Try.func41, Try.ntmps41
    go_wp2_with fail
    rw [HW.out]
    refine (CA.out _).mono ?_
    rintro e w1 ⟨rfl, hb1⟩
    obtain ⟨b0, b1, b2, b3, b4⟩ := cells5 (range_below RB.out hb1)
    have RA1 := Lib.hid (range_below RA.out hb1)
    have RB1 := Lib.hid (range_below RB.out hb1)
    have B1 := Lib.hid (BB.out.trans (hb1.mono BB.out.size))
    clear hb1
    go_wp2
    refine bodyPost_ret (v := .tuple #[.int .i64 0, .int .i64 0, .int .i64 1]) (by simp [results, Try.results41, go_sem]) rfl ⟨?_, B1.out⟩
    have hc : twoCode a b s = 1 := by simp [twoCode, h1]
    simp [twoE, hc, two]
  cases h2 : b.ok
  · rw [h1] at CA
    rw [h2] at CB
    go_enter Try.func41, Try.ntmps41
    go_wp2_with fail
    rw [HW.out]
    refine (CA.out _).mono ?_
    rintro e w1 ⟨rfl, hb1⟩
    obtain ⟨b0, b1, b2, b3, b4⟩ := cells5 (range_below RB.out hb1)
    have RA1 := Lib.hid (range_below RA.out hb1)
    have RB1 := Lib.hid (range_below RB.out hb1)
    have B1 := Lib.hid (BB.out.trans (hb1.mono BB.out.size))
    clear hb1
    go_wp2_with fail
    refine (CB.out _).mono ?_
    rintro e w2 ⟨rfl, hb2⟩
    have B2 := Lib.hid (bnext B1.out hb2)
    have q1 := (cells5 (range_below RA1.out hb2)).2.1
    have q2 := (cells5 (range_below RB1.out hb2)).2.1
    clear hb2 b0 b1 b2 b3 b4
    go_wp2
    refine bodyPost_ret (v := .tuple #[.int .i64 0, .int .i64 0, .int .i64 1]) (by simp [results, Try.results41, go_sem]) rfl ⟨?_, B2.out⟩
    have hc : twoCode a b s = 1 := by simp [twoCode, h2]
    simp [twoE, hc, two]
  have fa := (Cl.ok_facts h1).2.1
  have fb := (Cl.ok_facts h2).2.1
  rw [h1] at CA
  rw [h2] at CB
  cases h3 : inB s 0 200
  · skip
    go_enter Try.func41, Try.ntmps41
    go_wp2_with fail
    rw [HW.out]
    refine (CA.out _).mono ?_
    rintro e w1 ⟨rfl, hb1⟩
    obtain ⟨b0, b1, b2, b3, b4⟩ := cells5 (range_below RB.out hb1)
    have RA1 := Lib.hid (range_below RA.out hb1)
    have RB1 := Lib.hid (range_below RB.out hb1)
    have B1 := Lib.hid (BB.out.trans (hb1.mono BB.out.size))
    clear hb1
    go_wp2_with fail
    refine (CB.out _).mono ?_
    rintro e w2 ⟨rfl, hb2⟩
    have B2 := Lib.hid (bnext B1.out hb2)
    have q1 := (cells5 (range_below RA1.out hb2)).2.1
    have q2 := (cells5 (range_below RB1.out hb2)).2.1
    clear hb2 b0 b1 b2 b3 b4
    go_wp2_with (go_at_call 80; refine (within_impl _ _ _ _).mono ?_; rintro e w' ⟨rfl, rfl⟩)
    refine bodyPost_ret (v := .tuple #[.int .i64 0, .int .i64 0, .int .i64 2]) (by simp [results, Try.results41, go_sem]) rfl ⟨?_, B2.out⟩
    have hc : twoCode a b s = 2 := by simp [twoCode, h1, h2, h3]
    simp [twoE, hc, two]
  have fs := inB_true.1 h3
  by_cases h4 : a.sh = b.sh
  · obtain ⟨an, ash, ali, asa, apr⟩ := a
    obtain rfl : ash = b.sh := h4
    clear fa
    go_enter Try.func41, Try.ntmps41
    go_wp2_with fail
    rw [HW.out]
    refine (CA.out _).mono ?_
    rintro e w1 ⟨rfl, hb1⟩
    obtain ⟨b0, b1, b2, b3, b4⟩ := cells5 (range_below RB.out hb1)
    have RA1 := Lib.hid (range_below RA.out hb1)
    have RB1 := Lib.hid (range_below RB.out hb1)
    have B1 := Lib.hid (BB.out.trans (hb1.mono BB.out.size))
    clear hb1
    go_wp2_with fail
    refine (CB.out _).mono ?_
    rintro e w2 ⟨rfl, hb2⟩
    have B2 := Lib.hid (bnext B1.out hb2)
    have q1 := (cells5 (range_below RA1.out hb2)).2.1
    have q2 := (cells5 (range_below RB1.out hb2)).2.1
    clear hb2 b0 b1 b2 b3 b4
    go_wp2_with (go_at_call 80; refine (within_impl _ _ _ _).mono ?_; rintro e w' ⟨rfl, rfl⟩)
    refine bodyPost_ret (v := .tuple #[.int .i64 0, .int .i64 0, .int .i64 6]) (by simp [results, Try.results41, go_sem]) rfl ⟨?_, B2.out⟩
    have hc : twoCode ⟨an, b.sh, ali, asa, apr⟩ b s = 6 := by simp [twoCode, h1, h2, h3]
    simp [twoE, hc, two]
  by_cases h6 : a.sh < b.sh
  · have e1 : min a.sh b.sh = a.sh := by omega
    have e2 : max a.sh b.sh = b.sh := by omega
    cases h5 : inB s a.sh b.sh
    · skip
      go_enter Try.func41, Try.ntmps41
      go_wp2_with fail
      rw [HW.out]
      refine (CA.out _).mono ?_
      rintro e w1 ⟨rfl, hb1⟩
      obtain ⟨b0, b1, b2, b3, b4⟩ := cells5 (range_below RB.out hb1)
      have RA1 := Lib.hid (range_below RA.out hb1)
      have RB1 := Lib.hid (range_below RB.out hb1)
      have B1 := Lib.hid (BB.out.trans (hb1.mono BB.out.size))
      clear hb1
      go_wp2_with fail
      refine (CB.out _).mono ?_
      rintro e w2 ⟨rfl, hb2⟩
      have B2 := Lib.hid (bnext B1.out hb2)
      have q1 := (cells5 (range_below RA1.out hb2)).2.1
      have q2 := (cells5 (range_below RB1.out hb2)).2.1
      clear hb2 b0 b1 b2 b3 b4
      go_wp2_with (go_at_call 80; refine (within_impl _ _ _ _).mono ?_; rintro e w' ⟨rfl, rfl⟩)
      refine bodyPost_ret (v := .tuple #[.int .i64 0, .int .i64 0, .int .i64 3]) (by simp [results, Try.results41, go_sem]) rfl ⟨?_, B2.out⟩
      have hc : twoCode a b s = 3 := by simp [twoCode, h1, h2, h3, h4, e1, e2, h5]
      simp [twoE, hc, two]
    have hX := absI_range (n := s - b.sh) (by omega)
    have hY := absI_range (n := a.sh - s) (by omega)
    have hXY : ¬ (absI (s - b.sh) = 0 ∧ absI (a.sh - s) = 0) := by unfold absI; omega
    obtain ⟨g, hg, g1, g2⟩ := gcd_two _ _ hX hY hXY
    have hE : Hid (twoE a b s = two (absI (s - b.sh) / g) (absI (a.sh - s) / g) 0) := by
      show twoE a b s = _
      have hc : twoCode a b s = 0 := by simp [twoCode, h1, h2, h3, h4, e1, e2, h5]
      rw [twoE, if_pos hc, hg.out]
    have hsy : absI (b.sh - s) = absI (s - b.sh) := by unfold absI; omega
    have C1 := Lib.hid (distance_impl b.sh s (by omega) (by omega))
    have C2 := Lib.hid (distance_impl a.sh s (by omega) (by omega))
    rw [hsy] at C1
    obtain ⟨X, eX⟩ : ∃ X, absI (s - b.sh) = X := ⟨_, rfl⟩
    obtain ⟨Y, eY⟩ : ∃ Y, absI (a.sh - s) = Y := ⟨_, rfl⟩
    rw [eX] at C1 hX hE hg
    rw [eY] at C2 hY hE hg
    have C3 := Lib.hid (gcd_implZ X Y (by omega) (by omega) (by omega) (by omega))
    rw [hg.out] at C3
    have hz : ¬ g = 0 := by omega
    clear eX eY hXY hsy
    · skip
      go_enter Try.func41, Try.ntmps41
      go_wp2_with fail
      rw [HW.out]
      refine (CA.out _).mono ?_
      rintro e w1 ⟨rfl, hb1⟩
      obtain ⟨b0, b1, b2, b3, b4⟩ := cells5 (range_below RB.out hb1)
      have RA1 := Lib.hid (range_below RA.out hb1)
      have RB1 := Lib.hid (range_below RB.out hb1)
      have B1 := Lib.hid (BB.out.trans (hb1.mono BB.out.size))
      clear hb1
      go_wp2_with fail
      refine (CB.out _).mono ?_
      rintro e w2 ⟨rfl, hb2⟩
      have B2 := Lib.hid (bnext B1.out hb2)
      have q1 := (cells5 (range_below RA1.out hb2)).2.1
      have q2 := (cells5 (range_below RB1.out hb2)).2.1
      clear hb2 b0 b1 b2 b3 b4
      go_wp2_with (go_at_call 80; refine (within_impl _ _ _ _).mono ?_; rintro e w' ⟨rfl, rfl⟩)
      go_quiet (first | (go_at_call_of 81 b.sh; exact Calls.quiet_of_same ((C1.out _).mono (fun _ _ h => ⟨h.1, h.2.symm⟩))) | (go_at_call_of 81 a.sh; exact Calls.quiet_of_same ((C2.out _).mono (fun _ _ h => ⟨h.1, h.2.symm⟩))))
      go_wp2_with fail
      refine (C3.out _).mono ?_
      rintro e w3 ⟨rfl, hb3⟩
      have B3 := Lib.hid (bnext (below_drewN B2.out _) hb3)
      clear hb3
      go_wp2
      go_region
      go_wp2
      refine bodyPost_ret (v := .tuple #[.int .i64 (X / g), .int .i64 (Y / g), .int .i64 0]) (by simp [results, Try.results41, go_sem]) rfl ⟨hE.out.symm, B3.out.drew⟩
  · have h7 : b.sh < a.sh := by omega
    have e1 : min a.sh b.sh = b.sh := by omega
    have e2 : max a.sh b.sh = a.sh := by omega
    cases h5 : inB s b.sh a.sh
    · skip
      go_enter Try.func41, Try.ntmps41
      go_wp2_with fail
      rw [HW.out]
      refine (CA.out _).mono ?_
      rintro e w1 ⟨rfl, hb1⟩
      obtain ⟨b0, b1, b2, b3, b4⟩ := cells5 (range_below RB.out hb1)
      have RA1 := Lib.hid (range_below RA.out hb1)
      have RB1 := Lib.hid (range_below RB.out hb1)
      have B1 := Lib.hid (BB.out.trans (hb1.mono BB.out.size))
      clear hb1
      go_wp2_with fail
      refine (CB.out _).mono ?_
      rintro e w2 ⟨rfl, hb2⟩
      have B2 := Lib.hid (bnext B1.out hb2)
      have q1 := (cells5 (range_below RA1.out hb2)).2.1
      have q2 := (cells5 (range_below RB1.out hb2)).2.1
      clear hb2 b0 b1 b2 b3 b4
      go_wp2_with (go_at_call 80; refine (within_impl _ _ _ _).mono ?_; rintro e w' ⟨rfl, rfl⟩)
      refine bodyPost_ret (v := .tuple #[.int .i64 0, .int .i64 0, .int .i64 3]) (by simp [results, Try.results41, go_sem]) rfl ⟨?_, B2.out⟩
      have hc : twoCode a b s = 3 := by simp [twoCode, h1, h2, h3, h4, e1, e2, h5]
      simp [twoE, hc, two]
    have hX := absI_range (n := s - b.sh) (by omega)
    have hY := absI_range (n := a.sh - s) (by omega)
    have hXY : ¬ (absI (s - b.sh) = 0 ∧ absI (a.sh - s) = 0) := by unfold absI; omega
    obtain ⟨g, hg, g1, g2⟩ := gcd_two _ _ hX hY hXY
    have hE : Hid (twoE a b s = two (absI (s - b.sh) / g) (absI (a.sh - s) / g) 0) := by
      show twoE a b s = _
      have hc : twoCode a b s = 0 := by simp [twoCode, h1, h2, h3, h4, e1, e2, h5]
      rw [twoE, if_pos hc, hg.out]
    have hsy : absI (b.sh - s) = absI (s - b.sh) := by unfold absI; omega
    have C1 := Lib.hid (distance_impl b.sh s (by omega) (by omega))
    have C2 := Lib.hid (distance_impl a.sh s (by omega) (by omega))
    rw [hsy] at C1
    obtain ⟨X, eX⟩ : ∃ X, absI (s - b.sh) = X := ⟨_, rfl⟩
    obtain ⟨Y, eY⟩ : ∃ Y, absI (a.sh - s) = Y := ⟨_, rfl⟩
    rw [eX] at C1 hX hE hg
    rw [eY] at C2 hY hE hg
    have C3 := Lib.hid (gcd_implZ X Y (by omega) (by omega) (by omega) (by omega))
    rw [hg.out] at C3
    have hz : ¬ g = 0 := by omega
    clear eX eY hXY hsy
    · skip
      go_enter Try.func41, Try.ntmps41
      go_wp2_with fail
      rw [HW.out]
      refine (CA.out _).mono ?_
      rintro e w1 ⟨rfl, hb1⟩
      obtain ⟨b0, b1, b2, b3, b4⟩ := cells5 (range_below RB.out hb1)
      have RA1 := Lib.hid (range_below RA.out hb1)
      have RB1 := Lib.hid (range_below RB.out hb1)
      have B1 := Lib.hid (BB.out.trans (hb1.mono BB.out.size))
      clear hb1
      go_wp2_with fail
      refine (CB.out _).mono ?_
      rintro e w2 ⟨rfl, hb2⟩
      have B2 := Lib.hid (bnext B1.out hb2)
      have q1 := (cells5 (range_below RA1.out hb2)).2.1
      have q2 := (cells5 (range_below RB1.out hb2)).2.1
      clear hb2 b0 b1 b2 b3 b4
      go_wp2_with (go_at_call 80; refine (within_impl _ _ _ _).mono ?_; rintro e w' ⟨rfl, rfl⟩)
      go_quiet (first | (go_at_call_of 81 b.sh; exact Calls.quiet_of_same ((C1.out _).mono (fun _ _ h => ⟨h.1, h.2.symm⟩))) | (go_at_call_of 81 a.sh; exact Calls.quiet_of_same ((C2.out _).mono (fun _ _ h => ⟨h.1, h.2.symm⟩))))
      go_wp2_with fail
      refine (C3.out _).mono ?_
      rintro e w3 ⟨rfl, hb3⟩
      have B3 := Lib.hid (bnext (below_drewN B2.out _) hb3)
      clear hb3
      go_wp2
      go_region
      go_wp2
      refine bodyPost_ret (v := .tuple #[.int .i64 (X / g), .int .i64 (Y / g), .int .i64 0]) (by simp [results, Try.results41, go_sem]) rfl ⟨hE.out.symm, B3.out.drew⟩
end Go.Proofs.Ytpmklnldgafkjaa
