/-
  The first limit that a blend does not keep: the model's word on limits, and its answer.
-/
import Derived.Test.YtlglijalhacmhabFaultS
import Derived.BigQuiet
namespace Go.Proofs.Ytlglijalhacmhab
open Go.ChangeShapes Go.WideShapes Go.ChangeAt Go.RowKit Go.Joins

def Li.vals (x : Li) : List Value := [.int .i64 x.lo, .int .i64 x.hi, .int .i64 x.ml, .int .i64 x.ms]

set_option maxRecDepth 100000 in
set_option maxHeartbeats 800000 in
theorem lim_spec (x : Li) (b : Nat) (w : World) (h : w.rangeAt b 0 x.vals) : Calls Try.prog 55 #[.pointer (some ⟨b, 0, none⟩)] w fun e w' => e = .returned (.bool x.ok) ∧ ∃ n, w' = w.drewN n := by
  have c0 : w.cell? ⟨b, 0, none⟩ = some (.int .i64 x.lo) := h 0 _ rfl
  have c1 : w.cell? ⟨b, 1, none⟩ = some (.int .i64 x.hi) := h 1 _ rfl
  have c2 : w.cell? ⟨b, 2, none⟩ = some (.int .i64 x.ml) := h 2 _ rfl
  have c3 : w.cell? ⟨b, 3, none⟩ = some (.int .i64 x.ms) := h 3 _ rfl
  clear h
  cases h1 : inB x.lo 0 1000
  · have M1 := Lib.hid (fun w => (mille_spec x.lo w).mono (fun _ _ h => (⟨h.1.trans (ret_bool h1), h.2.symm⟩ : _ ∧ _)))
    have HB : Hid (false = x.ok) := by show false = x.ok; simp [Li.ok, h1]
    clear h1
    go_enter Try.func55, Try.ntmps55
    go_wp2_with fail
    go_quiet (first | (go_at_call_of 99 x.lo; exact Calls.quiet_of_same (M1.out _)))
    go_wp2
    go_ret
    exact ⟨ret_bool HB.out, _, rfl⟩
  have M1 := Lib.hid (fun w => (mille_spec x.lo w).mono (fun _ _ h => (⟨h.1.trans (ret_bool h1), h.2.symm⟩ : _ ∧ _)))
  cases h2 : inB x.hi x.lo 1000
  · have M2 := Lib.hid (fun w => (in_any x.hi x.lo 1000 w).mono (fun _ _ h => (⟨h.1.trans (ret_bool h2), h.2.symm⟩ : _ ∧ _)))
    have HB : Hid (false = x.ok) := by show false = x.ok; simp [Li.ok, h2]
    clear h1 h2
    go_enter Try.func55, Try.ntmps55
    go_wp2_with fail
    go_quiet (first | (go_at_call_of 99 x.lo; exact Calls.quiet_of_same (M1.out _)) | (go_at_call 71; exact Calls.quiet_of_same (M2.out _)))
    go_wp2
    go_ret
    exact ⟨ret_bool HB.out, _, rfl⟩
  have M2 := Lib.hid (fun w => (in_any x.hi x.lo 1000 w).mono (fun _ _ h => (⟨h.1.trans (ret_bool h2), h.2.symm⟩ : _ ∧ _)))
  cases h3 : inB x.ml 0 1000
  · have M3 := Lib.hid (fun w => (mille_spec x.ml w).mono (fun _ _ h => (⟨h.1.trans (ret_bool h3), h.2.symm⟩ : _ ∧ _)))
    have HB : Hid (false = x.ok) := by show false = x.ok; simp [Li.ok, h3]
    clear h1 h2 h3
    go_enter Try.func55, Try.ntmps55
    go_wp2_with fail
    go_quiet (first | (go_at_call_of 99 x.lo; exact Calls.quiet_of_same (M1.out _)) | (go_at_call 71; exact Calls.quiet_of_same (M2.out _)) | (go_at_call_of 99 x.ml; exact Calls.quiet_of_same (M3.out _)))
    go_wp2
    go_ret
    exact ⟨ret_bool HB.out, _, rfl⟩
  have M3 := Lib.hid (fun w => (mille_spec x.ml w).mono (fun _ _ h => (⟨h.1.trans (ret_bool h3), h.2.symm⟩ : _ ∧ _)))
  cases h4 : inB x.ms 0 1000
  · have M4 := Lib.hid (fun w => (mille_spec x.ms w).mono (fun _ _ h => (⟨h.1.trans (ret_bool h4), h.2.symm⟩ : _ ∧ _)))
    have HB : Hid (false = x.ok) := by show false = x.ok; simp [Li.ok, h4]
    clear h1 h2 h3 h4
    go_enter Try.func55, Try.ntmps55
    go_wp2_with fail
    go_quiet (first | (go_at_call_of 99 x.lo; exact Calls.quiet_of_same (M1.out _)) | (go_at_call 71; exact Calls.quiet_of_same (M2.out _)) | (go_at_call_of 99 x.ml; exact Calls.quiet_of_same (M3.out _)) | (go_at_call_of 99 x.ms; exact Calls.quiet_of_same (M4.out _)))
    go_wp2
    go_ret
    exact ⟨ret_bool HB.out, _, rfl⟩
  have M4 := Lib.hid (fun w => (mille_spec x.ms w).mono (fun _ _ h => (⟨h.1.trans (ret_bool h4), h.2.symm⟩ : _ ∧ _)))
  have HB : Hid (true = x.ok) := by show true = x.ok; simp [Li.ok, h1, h2, h3, h4]
  clear h1 h2 h3 h4
  go_enter Try.func55, Try.ntmps55
  go_wp2_with fail
  go_quiet (first | (go_at_call_of 99 x.lo; exact Calls.quiet_of_same (M1.out _)) | (go_at_call 71; exact Calls.quiet_of_same (M2.out _)) | (go_at_call_of 99 x.ml; exact Calls.quiet_of_same (M3.out _)) | (go_at_call_of 99 x.ms; exact Calls.quiet_of_same (M4.out _)))
  go_wp2
  go_ret
  exact ⟨ret_bool HB.out, _, rfl⟩

theorem lim_products {x : Li} (hx : x.ok = true) {y : Int} (hy : 1 ≤ y ∧ y ≤ 6000) : (0 ≤ x.lo * y ∧ x.lo * y ≤ 6000000) ∧ (0 ≤ x.hi * y ∧ x.hi * y ≤ 6000000) ∧ (0 ≤ x.ml * y ∧ x.ml * y ≤ 6000000) ∧ (0 ≤ x.ms * y ∧ x.ms * y ≤ 6000000) := by
  obtain ⟨a, b, c, d⟩ := Li.ok_facts hx
  exact ⟨mul_range (A := 1000) (B := 6000) a ⟨by omega, hy.2⟩, mul_range (A := 1000) (B := 6000) ⟨by omega, b.2⟩ ⟨by omega, hy.2⟩, mul_range (A := 1000) (B := 6000) c ⟨by omega, hy.2⟩, mul_range (A := 1000) (B := 6000) d ⟨by omega, hy.2⟩⟩

set_option maxRecDepth 100000 in
set_option maxHeartbeats 3200000 in
theorem fault_spec (L : List Cl) (a : Option Addr) (cap : Nat) (P : List Int) (a' : Option Addr) (cap' : Nat) (x : Li) (b : Nat) (hc : codeP L P x.ok = 0) (hl : P.length ≤ 1048576) (w : World) (ha : ClArg w a L) (ha' : IntArg w a' P) (hr : w.rangeAt b 0 x.vals) :
    Calls Try.prog 56 #[.slice a L.length cap, .slice a' P.length cap', .pointer (some ⟨b, 0, none⟩)] w fun e w' => e = .returned (.string (faultV L P x)) ∧ ∃ n, w' = w.drewN n := by
  obtain ⟨hL, hPL, hP, hx, _⟩ := codeP_facts hc
  obtain ⟨y0, y1, _⟩ := codeP_sum hc
  have C0 := Lib.hid (sum_still P hP a' cap' hl w ha')
  have T0 : Hid (∀ (wx : World) (n : Nat), (∃ m, wx = w.drewN m) → Calls Try.prog 95 #[.slice a L.length cap, .slice a' P.length cap', .int .i64 0] (wx.drewN n) fun e w'' => e = .returned (.int .i64 (total Cl.sh L P)) ∧ ∃ m, w'' = wx.drewN m) := by
    intro wx n ⟨m, hm⟩
    refine (total_quiet L a cap P a' cap' 0 (by omega) hL hP hPL (wx.drewN n) (by rw [hm]; exact ha) (by rw [hm]; exact ha')).mono ?_
    rintro e w'' ⟨h1, q, h2⟩
    obtain ⟨r, hr⟩ := drewN_two wx n q
    exact ⟨h1, r, h2.trans hr⟩
  have T1 : Hid (∀ (wx : World) (n : Nat), (∃ m, wx = w.drewN m) → Calls Try.prog 95 #[.slice a L.length cap, .slice a' P.length cap', .int .i64 1] (wx.drewN n) fun e w'' => e = .returned (.int .i64 (total Cl.li L P)) ∧ ∃ m, w'' = wx.drewN m) := by
    intro wx n ⟨m, hm⟩
    refine (total_quiet L a cap P a' cap' 1 (by omega) hL hP hPL (wx.drewN n) (by rw [hm]; exact ha) (by rw [hm]; exact ha')).mono ?_
    rintro e w'' ⟨h1, q, h2⟩
    obtain ⟨r, hr⟩ := drewN_two wx n q
    exact ⟨h1, r, h2.trans hr⟩
  have T2 : Hid (∀ (wx : World) (n : Nat), (∃ m, wx = w.drewN m) → Calls Try.prog 95 #[.slice a L.length cap, .slice a' P.length cap', .int .i64 2] (wx.drewN n) fun e w'' => e = .returned (.int .i64 (total Cl.sa L P)) ∧ ∃ m, w'' = wx.drewN m) := by
    intro wx n ⟨m, hm⟩
    refine (total_quiet L a cap P a' cap' 2 (by omega) hL hP hPL (wx.drewN n) (by rw [hm]; exact ha) (by rw [hm]; exact ha')).mono ?_
    rintro e w'' ⟨h1, q, h2⟩
    obtain ⟨r, hr⟩ := drewN_two wx n q
    exact ⟨h1, r, h2.trans hr⟩
  obtain ⟨p1, p2, p3, p4⟩ := lim_products hx ⟨y0, y1⟩
  have q0 : w.cell? ⟨b, 0, none⟩ = some (.int .i64 x.lo) := hr 0 _ rfl
  have q1 : w.cell? ⟨b, 1, none⟩ = some (.int .i64 x.hi) := hr 1 _ rfl
  have q2 : w.cell? ⟨b, 2, none⟩ = some (.int .i64 x.ml) := hr 2 _ rfl
  have q3 : w.cell? ⟨b, 3, none⟩ = some (.int .i64 x.ms) := hr 3 _ rfl
  unfold faultV
  obtain ⟨Y, hY⟩ : ∃ Y, sumP P = Y := ⟨_, rfl⟩
  obtain ⟨S, hS⟩ : ∃ S, total Cl.sh L P = S := ⟨_, rfl⟩
  obtain ⟨I, hI⟩ : ∃ I, total Cl.li L P = I := ⟨_, rfl⟩
  obtain ⟨A, hA⟩ : ∃ A, total Cl.sa L P = A := ⟨_, rfl⟩
  rw [hY] at C0 p1 p2 p3 p4 y0 y1
  rw [hS] at T0
  rw [hI] at T1
  rw [hA] at T2
  rw [hY, hS, hI, hA]
  clear hY hS hI hA hL hPL hP hx hc ha ha' hr y0 y1
  by_cases h1 : S < x.lo * Y
  · skip
    have HV : Hid (fv S I A Y x = ⟨#[108, 105, 116, 116, 108, 101]⟩) := by show fv S I A Y x = _; simp [fv, h1]
    go_enter Try.func56, Try.ntmps56
    go_wp2_with fail
    refine C0.out.mono ?_
    rintro e w0 ⟨rfl, rfl⟩
    go_wp2_with fail
    refine (T0.out w 0 ⟨0, rfl⟩).mono ?_
    rintro e w1 ⟨rfl, n1, hw1⟩
    have HM : Hid (∃ m, w1 = w.drewN m) := ⟨n1, hw1⟩
    have d0 : w1.cell? ⟨b, 0, none⟩ = some (.int .i64 x.lo) := by rw [hw1]; exact q0
    have d1 : w1.cell? ⟨b, 1, none⟩ = some (.int .i64 x.hi) := by rw [hw1]; exact q1
    have d2 : w1.cell? ⟨b, 2, none⟩ = some (.int .i64 x.ml) := by rw [hw1]; exact q2
    have d3 : w1.cell? ⟨b, 3, none⟩ = some (.int .i64 x.ms) := by rw [hw1]; exact q3
    clear hw1
    go_wp2
    go_ret
    refine ⟨by rw [HV.out]; rfl, ?_⟩
    exact HM.out
  by_cases h2 : x.hi * Y < S
  · skip
    have HV : Hid (fv S I A Y x = ⟨#[109, 117, 99, 104]⟩) := by show fv S I A Y x = _; simp [fv, h1, h2]
    go_enter Try.func56, Try.ntmps56
    go_wp2_with fail
    refine C0.out.mono ?_
    rintro e w0 ⟨rfl, rfl⟩
    go_wp2_with fail
    refine (T0.out w 0 ⟨0, rfl⟩).mono ?_
    rintro e w1 ⟨rfl, n1, hw1⟩
    have HM : Hid (∃ m, w1 = w.drewN m) := ⟨n1, hw1⟩
    have d0 : w1.cell? ⟨b, 0, none⟩ = some (.int .i64 x.lo) := by rw [hw1]; exact q0
    have d1 : w1.cell? ⟨b, 1, none⟩ = some (.int .i64 x.hi) := by rw [hw1]; exact q1
    have d2 : w1.cell? ⟨b, 2, none⟩ = some (.int .i64 x.ml) := by rw [hw1]; exact q2
    have d3 : w1.cell? ⟨b, 3, none⟩ = some (.int .i64 x.ms) := by rw [hw1]; exact q3
    clear hw1
    go_wp2
    go_ret
    refine ⟨by rw [HV.out]; rfl, ?_⟩
    exact HM.out
  by_cases h3 : x.ml * Y < I
  · skip
    have HV : Hid (fv S I A Y x = ⟨#[108, 105, 109, 101]⟩) := by show fv S I A Y x = _; simp [fv, h1, h2, h3]
    go_enter Try.func56, Try.ntmps56
    go_wp2_with fail
    refine C0.out.mono ?_
    rintro e w0 ⟨rfl, rfl⟩
    go_wp2_with fail
    refine (T0.out w 0 ⟨0, rfl⟩).mono ?_
    rintro e w1 ⟨rfl, n1, hw1⟩
    have HM : Hid (∃ m, w1 = w.drewN m) := ⟨n1, hw1⟩
    have d0 : w1.cell? ⟨b, 0, none⟩ = some (.int .i64 x.lo) := by rw [hw1]; exact q0
    have d1 : w1.cell? ⟨b, 1, none⟩ = some (.int .i64 x.hi) := by rw [hw1]; exact q1
    have d2 : w1.cell? ⟨b, 2, none⟩ = some (.int .i64 x.ml) := by rw [hw1]; exact q2
    have d3 : w1.cell? ⟨b, 3, none⟩ = some (.int .i64 x.ms) := by rw [hw1]; exact q3
    clear hw1
    go_wp2_with fail
    go_quiet (first | (go_at_call 95; exact T1.out _ _ HM.out))
    go_wp2
    go_ret
    refine ⟨by rw [HV.out]; rfl, ?_⟩
    obtain ⟨m, hm⟩ := HM.out
    rw [hm]
    exact drewN_two w m nq
  by_cases h4 : x.ms * Y < A
  · skip
    have HV : Hid (fv S I A Y x = ⟨#[115, 97, 110, 100]⟩) := by show fv S I A Y x = _; simp [fv, h1, h2, h3, h4]
    go_enter Try.func56, Try.ntmps56
    go_wp2_with fail
    refine C0.out.mono ?_
    rintro e w0 ⟨rfl, rfl⟩
    go_wp2_with fail
    refine (T0.out w 0 ⟨0, rfl⟩).mono ?_
    rintro e w1 ⟨rfl, n1, hw1⟩
    have HM : Hid (∃ m, w1 = w.drewN m) := ⟨n1, hw1⟩
    have d0 : w1.cell? ⟨b, 0, none⟩ = some (.int .i64 x.lo) := by rw [hw1]; exact q0
    have d1 : w1.cell? ⟨b, 1, none⟩ = some (.int .i64 x.hi) := by rw [hw1]; exact q1
    have d2 : w1.cell? ⟨b, 2, none⟩ = some (.int .i64 x.ml) := by rw [hw1]; exact q2
    have d3 : w1.cell? ⟨b, 3, none⟩ = some (.int .i64 x.ms) := by rw [hw1]; exact q3
    clear hw1
    go_wp2_with fail
    go_quiet (first | (go_at_call 95; exact T1.out _ _ HM.out))
    obtain ⟨w2, hw2⟩ : ∃ w2, w1.drewN nq = w2 := ⟨_, rfl⟩
    rw [hw2]
    have HM2 : Hid (∃ m, w2 = w.drewN m) := by
      obtain ⟨m, hm⟩ := HM.out
      obtain ⟨r, hr⟩ := drewN_two w m nq
      exact ⟨r, by rw [← hw2, hm]; exact hr⟩
    have d4 : w2.cell? ⟨b, 3, none⟩ = some (.int .i64 x.ms) := by rw [← hw2]; exact d3
    clear hw2
    go_wp2_with fail
    go_quiet (first | (go_at_call 95; exact T2.out _ _ HM2.out))
    go_wp2
    go_ret
    refine ⟨by rw [HV.out]; rfl, ?_⟩
    obtain ⟨m, hm⟩ := HM2.out
    rw [hm]
    exact drewN_two w m nq
  have HV : Hid (fv S I A Y x = ⟨#[110, 111, 110, 101]⟩) := by show fv S I A Y x = _; simp [fv, h1, h2, h3, h4]
  go_enter Try.func56, Try.ntmps56
  go_wp2_with fail
  refine C0.out.mono ?_
  rintro e w0 ⟨rfl, rfl⟩
  go_wp2_with fail
  refine (T0.out w 0 ⟨0, rfl⟩).mono ?_
  rintro e w1 ⟨rfl, n1, hw1⟩
  have HM : Hid (∃ m, w1 = w.drewN m) := ⟨n1, hw1⟩
  have d0 : w1.cell? ⟨b, 0, none⟩ = some (.int .i64 x.lo) := by rw [hw1]; exact q0
  have d1 : w1.cell? ⟨b, 1, none⟩ = some (.int .i64 x.hi) := by rw [hw1]; exact q1
  have d2 : w1.cell? ⟨b, 2, none⟩ = some (.int .i64 x.ml) := by rw [hw1]; exact q2
  have d3 : w1.cell? ⟨b, 3, none⟩ = some (.int .i64 x.ms) := by rw [hw1]; exact q3
  clear hw1
  go_wp2_with fail
  go_quiet (first | (go_at_call 95; exact T1.out _ _ HM.out))
  obtain ⟨w2, hw2⟩ : ∃ w2, w1.drewN nq = w2 := ⟨_, rfl⟩
  rw [hw2]
  have HM2 : Hid (∃ m, w2 = w.drewN m) := by
    obtain ⟨m, hm⟩ := HM.out
    obtain ⟨r, hr⟩ := drewN_two w m nq
    exact ⟨r, by rw [← hw2, hm]; exact hr⟩
  have d4 : w2.cell? ⟨b, 3, none⟩ = some (.int .i64 x.ms) := by rw [← hw2]; exact d3
  clear hw2
  go_wp2_with fail
  go_quiet (first | (go_at_call 95; exact T2.out _ _ HM2.out))
  go_wp2
  go_ret
  refine ⟨by rw [HV.out]; rfl, ?_⟩
  obtain ⟨m, hm⟩ := HM2.out
  rw [hm]
  exact drewN_two w m nq
end Go.Proofs.Ytlglijalhacmhab
