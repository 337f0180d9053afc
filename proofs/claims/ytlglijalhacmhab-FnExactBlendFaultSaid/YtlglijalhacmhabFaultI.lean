/-
  The first limit that a blend does not keep: the program's answer.
-/
import Derived.Test.YtlglijalhacmhabWsumF
import Derived.Test.YtlglijalhacmhabCheck
import Derived.Test.YtlglijalhacmhabFaultT
namespace Go.Proofs.Ytlglijalhacmhab
open Go.ChangeShapes Go.WideShapes Go.ChangeAt Go.RowKit Go.Joins

set_option maxRecDepth 100000 in
set_option maxHeartbeats 3200000 in
theorem fault_impl (L : List Cl) (a : Option Addr) (cap : Nat) (P : List Int) (a' : Option Addr) (cap' : Nat) (x : Li) (hc : codeP L P x.ok = 0) (hl : P.length ≤ 1048576) (w : World) (ha : ClArg w a L) (ha' : IntArg w a' P) :
    Calls Try.prog 58 #[.slice a L.length cap, .slice a' P.length cap', .agg #[.int .i64 x.lo, .int .i64 x.hi, .int .i64 x.ml, .int .i64 x.ms]] w fun e w' => e = .returned (.string (faultV L P x)) ∧ Below w.heap.size w w' := by
  obtain ⟨hL, hPL, hP, hx, _⟩ := codeP_facts hc
  obtain ⟨y0, y1, _⟩ := codeP_sum hc
  have C0 := Lib.hid (fun wx (h : Below w.heap.size w wx) => sum_impl P hP a' cap' hl wx (ha'.later h))
  have C1 := Lib.hid (fun wx (h : Below w.heap.size w wx) => weighted_fsh L a cap P a' cap' hL hP hPL wx (ha.later h) (ha'.later h))
  have C2 := Lib.hid (fun wx (h : Below w.heap.size w wx) => weighted_fli L a cap P a' cap' hL hP hPL wx (ha.later h) (ha'.later h))
  have C3 := Lib.hid (fun wx (h : Below w.heap.size w wx) => weighted_fsa L a cap P a' cap' hL hP hPL wx (ha.later h) (ha'.later h))
  have RX := Lib.hid (range_new w #[.int .i64 x.lo, .int .i64 x.hi, .int .i64 x.ml, .int .i64 x.ms] 40)
  have B0 : Hid (Below w.heap.size w (w.alloc (.cells #[.int .i64 x.lo, .int .i64 x.hi, .int .i64 x.ml, .int .i64 x.ms] 40))) := balloc0 _ _
  obtain ⟨W0, hW0⟩ : ∃ W0, w.alloc (.cells #[.int .i64 x.lo, .int .i64 x.hi, .int .i64 x.ml, .int .i64 x.ms] 40) = W0 := ⟨_, rfl⟩
  rw [hW0] at RX B0
  have HW := Lib.hid hW0
  obtain ⟨p1, p2, p3, p4⟩ := lim_products hx ⟨y0, y1⟩
  unfold faultV
  obtain ⟨Y, hY⟩ : ∃ Y, sumP P = Y := ⟨_, rfl⟩
  obtain ⟨S, hS⟩ : ∃ S, total Cl.sh L P = S := ⟨_, rfl⟩
  obtain ⟨I, hI⟩ : ∃ I, total Cl.li L P = I := ⟨_, rfl⟩
  obtain ⟨A, hA⟩ : ∃ A, total Cl.sa L P = A := ⟨_, rfl⟩
  rw [hY] at C0 p1 p2 p3 p4 y0 y1
  rw [hS] at C1
  rw [hI] at C2
  rw [hA] at C3
  rw [hY, hS, hI, hA]
  clear hY hS hI hA hL hPL hP hx hc ha ha' y0 y1 hW0
  by_cases h1 : S < x.lo * Y
  · skip
    have HV : Hid (fv S I A Y x = ⟨#[108, 105, 116, 116, 108, 101]⟩) := by show fv S I A Y x = _; simp [fv, h1]
    go_enter Try.func58, Try.ntmps58
    go_wp2_with fail
    rw [HW.out]
    refine (C0.out _ B0.out).mono ?_
    rintro e w1 ⟨rfl, hb⟩
    have B1 := Lib.hid (B0.out.trans (hb.mono B0.out.size))
    have R1 := Lib.hid (range_below RX.out hb)
    clear hb
    go_wp2_with fail
    refine (C1.out _ B1.out).mono ?_
    rintro e w2 ⟨rfl, hb⟩
    have B2 := Lib.hid (B1.out.trans (hb.mono B1.out.size))
    have R2 := Lib.hid (range_below R1.out hb)
    clear hb
    go_wp2_with fail
    refine (C2.out _ B2.out).mono ?_
    rintro e w3 ⟨rfl, hb⟩
    have B3 := Lib.hid (B2.out.trans (hb.mono B2.out.size))
    have R3 := Lib.hid (range_below R2.out hb)
    clear hb
    go_wp2_with fail
    refine (C3.out _ B3.out).mono ?_
    rintro e w4 ⟨rfl, hb⟩
    have B4 := Lib.hid (B3.out.trans (hb.mono B3.out.size))
    have R4 := Lib.hid (range_below R3.out hb)
    clear hb
    have d0 : w4.cell? ⟨w.heap.size, 0, none⟩ = some (.int .i64 x.lo) := R4.out 0 _ rfl
    have d1 : w4.cell? ⟨w.heap.size, 1, none⟩ = some (.int .i64 x.hi) := R4.out 1 _ rfl
    have d2 : w4.cell? ⟨w.heap.size, 2, none⟩ = some (.int .i64 x.ml) := R4.out 2 _ rfl
    have d3 : w4.cell? ⟨w.heap.size, 3, none⟩ = some (.int .i64 x.ms) := R4.out 3 _ rfl
    go_wp2
    go_ret
    exact ⟨by rw [HV.out]; rfl, B4.out⟩
  by_cases h2 : x.hi * Y < S
  · skip
    have HV : Hid (fv S I A Y x = ⟨#[109, 117, 99, 104]⟩) := by show fv S I A Y x = _; simp [fv, h1, h2]
    go_enter Try.func58, Try.ntmps58
    go_wp2_with fail
    rw [HW.out]
    refine (C0.out _ B0.out).mono ?_
    rintro e w1 ⟨rfl, hb⟩
    have B1 := Lib.hid (B0.out.trans (hb.mono B0.out.size))
    have R1 := Lib.hid (range_below RX.out hb)
    clear hb
    go_wp2_with fail
    refine (C1.out _ B1.out).mono ?_
    rintro e w2 ⟨rfl, hb⟩
    have B2 := Lib.hid (B1.out.trans (hb.mono B1.out.size))
    have R2 := Lib.hid (range_below R1.out hb)
    clear hb
    go_wp2_with fail
    refine (C2.out _ B2.out).mono ?_
    rintro e w3 ⟨rfl, hb⟩
    have B3 := Lib.hid (B2.out.trans (hb.mono B2.out.size))
    have R3 := Lib.hid (range_below R2.out hb)
    clear hb
    go_wp2_with fail
    refine (C3.out _ B3.out).mono ?_
    rintro e w4 ⟨rfl, hb⟩
    have B4 := Lib.hid (B3.out.trans (hb.mono B3.out.size))
    have R4 := Lib.hid (range_below R3.out hb)
    clear hb
    have d0 : w4.cell? ⟨w.heap.size, 0, none⟩ = some (.int .i64 x.lo) := R4.out 0 _ rfl
    have d1 : w4.cell? ⟨w.heap.size, 1, none⟩ = some (.int .i64 x.hi) := R4.out 1 _ rfl
    have d2 : w4.cell? ⟨w.heap.size, 2, none⟩ = some (.int .i64 x.ml) := R4.out 2 _ rfl
    have d3 : w4.cell? ⟨w.heap.size, 3, none⟩ = some (.int .i64 x.ms) := R4.out 3 _ rfl
    go_wp2
    go_ret
    exact ⟨by rw [HV.out]; rfl, B4.out⟩
  by_cases h3 : x.ml * Y < I
  · skip
    have HV : Hid (fv S I A Y x = ⟨#[108, 105, 109, 101]⟩) := by show fv S I A Y x = _; simp [fv, h1, h2, h3]
    go_enter Try.func58, Try.ntmps58
    go_wp2_with fail
    rw [HW.out]
    refine (C0.out _ B0.out).mono ?_
    rintro e w1 ⟨rfl, hb⟩
    have B1 := Lib.hid (B0.out.trans (hb.mono B0.out.size))
    have R1 := Lib.hid (range_below RX.out hb)
    clear hb
    go_wp2_with fail
    refine (C1.out _ B1.out).mono ?_
    rintro e w2 ⟨rfl, hb⟩
    have B2 := Lib.hid (B1.out.trans (hb.mono B1.out.size))
    have R2 := Lib.hid (range_below R1.out hb)
    clear hb
    go_wp2_with fail
    refine (C2.out _ B2.out).mono ?_
    rintro e w3 ⟨rfl, hb⟩
    have B3 := Lib.hid (B2.out.trans (hb.mono B2.out.size))
    have R3 := Lib.hid (range_below R2.out hb)
    clear hb
    go_wp2_with fail
    refine (C3.out _ B3.out).mono ?_
    rintro e w4 ⟨rfl, hb⟩
    have B4 := Lib.hid (B3.out.trans (hb.mono B3.out.size))
    have R4 := Lib.hid (range_below R3.out hb)
    clear hb
    have d0 : w4.cell? ⟨w.heap.size, 0, none⟩ = some (.int .i64 x.lo) := R4.out 0 _ rfl
    have d1 : w4.cell? ⟨w.heap.size, 1, none⟩ = some (.int .i64 x.hi) := R4.out 1 _ rfl
    have d2 : w4.cell? ⟨w.heap.size, 2, none⟩ = some (.int .i64 x.ml) := R4.out 2 _ rfl
    have d3 : w4.cell? ⟨w.heap.size, 3, none⟩ = some (.int .i64 x.ms) := R4.out 3 _ rfl
    go_wp2
    go_ret
    exact ⟨by rw [HV.out]; rfl, B4.out⟩
  by_cases h4 : x.ms * Y < A
  · skip
    have HV : Hid (fv S I A Y x = ⟨#[115, 97, 110, 100]⟩) := by show fv S I A Y x = _; simp [fv, h1, h2, h3, h4]
    go_enter Try.func58, Try.ntmps58
    go_wp2_with fail
    rw [HW.out]
    refine (C0.out _ B0.out).mono ?_
    rintro e w1 ⟨rfl, hb⟩
    have B1 := Lib.hid (B0.out.trans (hb.mono B0.out.size))
    have R1 := Lib.hid (range_below RX.out hb)
    clear hb
    go_wp2_with fail
    refine (C1.out _ B1.out).mono ?_
    rintro e w2 ⟨rfl, hb⟩
    have B2 := Lib.hid (B1.out.trans (hb.mono B1.out.size))
    have R2 := Lib.hid (range_below R1.out hb)
    clear hb
    go_wp2_with fail
    refine (C2.out _ B2.out).mono ?_
    rintro e w3 ⟨rfl, hb⟩
    have B3 := Lib.hid (B2.out.trans (hb.mono B2.out.size))
    have R3 := Lib.hid (range_below R2.out hb)
    clear hb
    go_wp2_with fail
    refine (C3.out _ B3.out).mono ?_
    rintro e w4 ⟨rfl, hb⟩
    have B4 := Lib.hid (B3.out.trans (hb.mono B3.out.size))
    have R4 := Lib.hid (range_below R3.out hb)
    clear hb
    have d0 : w4.cell? ⟨w.heap.size, 0, none⟩ = some (.int .i64 x.lo) := R4.out 0 _ rfl
    have d1 : w4.cell? ⟨w.heap.size, 1, none⟩ = some (.int .i64 x.hi) := R4.out 1 _ rfl
    have d2 : w4.cell? ⟨w.heap.size, 2, none⟩ = some (.int .i64 x.ml) := R4.out 2 _ rfl
    have d3 : w4.cell? ⟨w.heap.size, 3, none⟩ = some (.int .i64 x.ms) := R4.out 3 _ rfl
    go_wp2
    go_ret
    exact ⟨by rw [HV.out]; rfl, B4.out⟩
  have HV : Hid (fv S I A Y x = ⟨#[110, 111, 110, 101]⟩) := by show fv S I A Y x = _; simp [fv, h1, h2, h3, h4]
  go_enter Try.func58, Try.ntmps58
  go_wp2_with fail
  rw [HW.out]
  refine (C0.out _ B0.out).mono ?_
  rintro e w1 ⟨rfl, hb⟩
  have B1 := Lib.hid (B0.out.trans (hb.mono B0.out.size))
  have R1 := Lib.hid (range_below RX.out hb)
  clear hb
  go_wp2_with fail
  refine (C1.out _ B1.out).mono ?_
  rintro e w2 ⟨rfl, hb⟩
  have B2 := Lib.hid (B1.out.trans (hb.mono B1.out.size))
  have R2 := Lib.hid (range_below R1.out hb)
  clear hb
  go_wp2_with fail
  refine (C2.out _ B2.out).mono ?_
  rintro e w3 ⟨rfl, hb⟩
  have B3 := Lib.hid (B2.out.trans (hb.mono B2.out.size))
  have R3 := Lib.hid (range_below R2.out hb)
  clear hb
  go_wp2_with fail
  refine (C3.out _ B3.out).mono ?_
  rintro e w4 ⟨rfl, hb⟩
  have B4 := Lib.hid (B3.out.trans (hb.mono B3.out.size))
  have R4 := Lib.hid (range_below R3.out hb)
  clear hb
  have d0 : w4.cell? ⟨w.heap.size, 0, none⟩ = some (.int .i64 x.lo) := R4.out 0 _ rfl
  have d1 : w4.cell? ⟨w.heap.size, 1, none⟩ = some (.int .i64 x.hi) := R4.out 1 _ rfl
  have d2 : w4.cell? ⟨w.heap.size, 2, none⟩ = some (.int .i64 x.ml) := R4.out 2 _ rfl
  have d3 : w4.cell? ⟨w.heap.size, 3, none⟩ = some (.int .i64 x.ms) := R4.out 3 _ rfl
  go_wp2
  go_ret
  exact ⟨by rw [HV.out]; rfl, B4.out⟩
end Go.Proofs.Ytlglijalhacmhab
