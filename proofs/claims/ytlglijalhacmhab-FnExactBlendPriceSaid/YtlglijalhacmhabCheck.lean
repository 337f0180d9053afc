/-
  The code of clays, parts and limits, and the value of a blend: the program's.
-/
import Derived.Test.YtlglijalhacmhabPartsI
import Derived.Test.YtlglijalhacmhabMean
namespace Go.Proofs.Ytlglijalhacmhab
open Go.ChangeShapes Go.WideShapes Go.ChangeAt Go.RowKit Go.Joins

theorem lim_eq (x : Li) : (inB x.hi 0 1000 && (inB x.lo 0 x.hi && (inB x.ml 0 1000 && inB x.ms 0 1000))) = x.ok := by
  rw [Bool.eq_iff_iff]
  simp only [Li.ok, Bool.and_eq_true, inB_true]
  omega

set_option maxHeartbeats 1600000 in
theorem lim_impl (x : Li) (w : World) : Calls Try.prog 102 #[.agg #[.int .i64 x.lo, .int .i64 x.hi, .int .i64 x.ml, .int .i64 x.ms]] w fun e w' => e = .returned (.bool x.ok) ∧ Below w.heap.size w w' := by
  cases h1 : inB x.hi 0 1000 <;> cases h2 : inB x.lo 0 x.hi <;> cases h3 : inB x.ml 0 1000
  all_goals
    go_enter Try.func102, Try.ntmps102
    go_wp2_with (go_at_call 74; refine (within_impl _ _ _ _).mono ?_; rintro e w' ⟨rfl, rfl⟩)
    go_ret
    exact ⟨ret_bool (by rw [← lim_eq, h1, h2, h3]; first | rfl | simp), balloc0 _ _⟩

set_option maxRecDepth 100000 in
set_option maxHeartbeats 1600000 in
theorem check_impl (L : List Cl) (a : Option Addr) (cap : Nat) (hl : L.length ≤ 1048576) (P : List Int) (a' : Option Addr) (cap' : Nat) (hl' : P.length ≤ 1048576) (x : Li) (w : World) (ha : ClArg w a L) (ha' : IntArg w a' P) :
    Calls Try.prog 57 #[.slice a L.length cap, .slice a' P.length cap', .agg #[.int .i64 x.lo, .int .i64 x.hi, .int .i64 x.ml, .int .i64 x.ms]] w fun e w' => e = .returned (.int .i64 (codeP L P x.ok)) ∧ Below w.heap.size w w' := by
  have CV := Lib.hid (fun wx (h : Below w.heap.size w wx) => valid_impl L a cap hl wx (ha.later h))
  have CP := Lib.hid (fun wx (h : Below w.heap.size w wx) => areParts_impl L a cap hl P a' cap' hl' wx (ha'.later h))
  have CL := Lib.hid (lim_impl x)
  have HX := Lib.hid (fun wx (h : Below (w.alloc (.cells #[.int .i64 x.lo, .int .i64 x.hi, .int .i64 x.ml, .int .i64 x.ms] 40)).heap.size (w.alloc (.cells #[.int .i64 x.lo, .int .i64 x.hi, .int .i64 x.ml, .int .i64 x.ms] 40)) wx) => range_below (range_new w #[.int .i64 x.lo, .int .i64 x.hi, .int .i64 x.ml, .int .i64 x.ms] 40) h)
  have B0 : Hid (Below w.heap.size w (w.alloc (.cells #[.int .i64 x.lo, .int .i64 x.hi, .int .i64 x.ml, .int .i64 x.ms] 40))) := balloc0 _ _
  obtain ⟨W1, hW⟩ : ∃ W1, (w.alloc (.cells #[.int .i64 x.lo, .int .i64 x.hi, .int .i64 x.ml, .int .i64 x.ms] 40)) = W1 := ⟨_, rfl⟩
  rw [hW] at HX B0
  have HW := Lib.hid hW
  clear hW
  cases h1 : okCls L
  · rw [h1] at CV
    clear ha ha'
    go_enter Try.func57, Try.ntmps57
    go_wp2_with fail
    rw [HW.out]
    refine (CV.out _ B0.out).mono ?_
    rintro e w1 ⟨rfl, hb1⟩
    go_wp2
    go_ret
    exact ⟨ret_int (by simp [codeP, h1]), B0.out.trans (hb1.mono B0.out.size)⟩
  rw [h1] at CV
  cases h2 : (decide (P.length = L.length) && okParts P)
  · rw [h2] at CP
    clear ha ha'
    go_enter Try.func57, Try.ntmps57
    go_wp2_with fail
    rw [HW.out]
    refine (CV.out _ B0.out).mono ?_
    rintro e w1 ⟨rfl, hb1⟩
    have B1 := Lib.hid (B0.out.trans (hb1.mono B0.out.size))
    clear hb1
    go_wp2_with fail
    refine (CP.out _ B1.out).mono ?_
    rintro e w2 ⟨rfl, hb2⟩
    have B2 := Lib.hid (bnext B1.out hb2)
    clear hb2
    go_wp2
    go_ret
    exact ⟨ret_int (by rw [codeP, if_pos h1, ← Bool.and_assoc, h2]; rfl), B2.out⟩
  rw [h2] at CP
  have h2' := h2
  simp only [Bool.and_eq_true, decide_eq_true_eq] at h2'
  cases h3 : x.ok
  · rw [h3] at CL
    clear ha ha' h2'
    go_enter Try.func57, Try.ntmps57
    go_wp2_with fail
    rw [HW.out]
    refine (CV.out _ B0.out).mono ?_
    rintro e w1 ⟨rfl, hb1⟩
    have H1 := Lib.hid hb1
    have B1 := Lib.hid (B0.out.trans (hb1.mono B0.out.size))
    clear hb1
    go_wp2_with fail
    refine (CP.out _ B1.out).mono ?_
    rintro e w2 ⟨rfl, hb2⟩
    have B2 := Lib.hid (bnext B1.out hb2)
    have R2 := HX.out _ (bnext H1.out hb2)
    have c0 : w2.cell? ⟨w.heap.size, 0, none⟩ = some (.int .i64 x.lo) := R2 0 _ rfl
    have c1 : w2.cell? ⟨w.heap.size, 1, none⟩ = some (.int .i64 x.hi) := R2 1 _ rfl
    have c2 : w2.cell? ⟨w.heap.size, 2, none⟩ = some (.int .i64 x.ml) := R2 2 _ rfl
    have c3 : w2.cell? ⟨w.heap.size, 3, none⟩ = some (.int .i64 x.ms) := R2 3 _ rfl
    clear hb2 R2
    go_wp2_with fail
    refine (CL.out _).mono ?_
    rintro e w3 ⟨rfl, hb3⟩
    have B3 := Lib.hid (bnext B2.out hb3)
    clear hb3
    go_wp2
    go_ret
    exact ⟨ret_int (by rw [codeP, if_pos h1, ← Bool.and_assoc, h2]; rfl), B3.out⟩
  rw [h3] at CL
  have CS := Lib.hid (fun wx (h : Below w.heap.size w wx) => sum_impl P h2'.2 a' cap' hl' wx (ha'.later h))
  have HC : Hid (codeP L P true = if sumP P = 0 then 6 else 0) := by
    show codeP L P true = _
    rw [codeP, if_pos h1, Bool.and_true, h2]
    rfl
  obtain ⟨q, hq⟩ : ∃ q, sumP P = q := ⟨_, rfl⟩
  rw [hq] at CS HC
  clear ha ha' h2' hq
  by_cases h4 : q = 0
  all_goals
    go_enter Try.func57, Try.ntmps57
    go_wp2_with fail
    rw [HW.out]
    refine (CV.out _ B0.out).mono ?_
    rintro e w1 ⟨rfl, hb1⟩
    have H1 := Lib.hid hb1
    have B1 := Lib.hid (B0.out.trans (hb1.mono B0.out.size))
    clear hb1
    go_wp2_with fail
    refine (CP.out _ B1.out).mono ?_
    rintro e w2 ⟨rfl, hb2⟩
    have B2 := Lib.hid (bnext B1.out hb2)
    have R2 := HX.out _ (bnext H1.out hb2)
    have c0 : w2.cell? ⟨w.heap.size, 0, none⟩ = some (.int .i64 x.lo) := R2 0 _ rfl
    have c1 : w2.cell? ⟨w.heap.size, 1, none⟩ = some (.int .i64 x.hi) := R2 1 _ rfl
    have c2 : w2.cell? ⟨w.heap.size, 2, none⟩ = some (.int .i64 x.ml) := R2 2 _ rfl
    have c3 : w2.cell? ⟨w.heap.size, 3, none⟩ = some (.int .i64 x.ms) := R2 3 _ rfl
    clear hb2 R2
    go_wp2_with fail
    refine (CL.out _).mono ?_
    rintro e w3 ⟨rfl, hb3⟩
    have B3 := Lib.hid (bnext B2.out hb3)
    clear hb3
    go_wp2_with fail
    refine (CS.out _ B3.out).mono ?_
    rintro e w4 ⟨rfl, hb4⟩
    have B4 := Lib.hid (bnext B3.out hb4)
    clear hb4
    go_wp2
    go_ret
    exact ⟨ret_int (by rw [HC.out]; simp [h4]), B4.out⟩
end Go.Proofs.Ytlglijalhacmhab
