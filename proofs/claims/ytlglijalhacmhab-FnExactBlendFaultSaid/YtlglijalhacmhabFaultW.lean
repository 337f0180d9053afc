/-
  BlendFault: the model's and the program's answers.
-/
import Derived.Test.YtlglijalhacmhabFaultI
namespace Go.Proofs.Ytlglijalhacmhab
open Go.ChangeShapes Go.WideShapes Go.ChangeAt Go.RowKit Go.Joins

def pairE (s : ByteArray) (c : Int) : Ending := .returned (.tuple #[.string s, .int .i64 c])
def faultE (L : List Cl) (P : List Int) (x : Li) : Ending := if codeP L P x.ok = 0 then pairE (faultV L P x) 0 else pairE ⟨#[]⟩ (codeP L P x.ok)
theorem codeP_inv {L : List Cl} {P : List Int} {b : Bool} (h : okCls L = false) : codeP L P b = 1 := by simp [codeP, h]
theorem codeP_lim {L : List Cl} {P : List Int} (h : okCls L = true) : codeP L P false = 2 := by simp [codeP, h]
theorem codeP_ne {L : List Cl} {P : List Int} {b : Bool} (h : okCls L = true) : ¬ codeP L P b = 1 := by
  unfold codeP
  rw [if_pos h]
  split
  · split <;> omega
  · omega

set_option maxRecDepth 100000 in
set_option maxHeartbeats 1600000 in
theorem top_impl_fault (L : List Cl) (a : Option Addr) (cap : Nat) (hl : L.length ≤ 1048576) (P : List Int) (a' : Option Addr) (cap' : Nat) (hl' : P.length ≤ 1048576) (x : Li) (w : World) (ha : ClArg w a L) (ha' : IntArg w a' P) :
    Calls Try.prog 25 #[.slice a L.length cap, .slice a' P.length cap', .agg #[.int .i64 x.lo, .int .i64 x.hi, .int .i64 x.ml, .int .i64 x.ms]] w fun e w' => e = faultE L P x ∧ Below w.heap.size w w' := by
  have C := Lib.hid (fun wx (h : Below w.heap.size w wx) => check_impl L a cap hl P a' cap' hl' x wx (ha.later h) (ha'.later h))
  have RX := Lib.hid (range_new w #[.int .i64 x.lo, .int .i64 x.hi, .int .i64 x.ml, .int .i64 x.ms] 40)
  have B0 : Hid (Below w.heap.size w (w.alloc (.cells #[.int .i64 x.lo, .int .i64 x.hi, .int .i64 x.ml, .int .i64 x.ms] 40))) := balloc0 _ _
  obtain ⟨W0, hW0⟩ : ∃ W0, w.alloc (.cells #[.int .i64 x.lo, .int .i64 x.hi, .int .i64 x.ml, .int .i64 x.ms] 40) = W0 := ⟨_, rfl⟩
  rw [hW0] at RX B0
  have HW := Lib.hid hW0
  clear hW0
  by_cases h1 : codeP L P x.ok = 0
  · have C2 := Lib.hid (fun wx (h : Below w.heap.size w wx) => fault_impl L a cap P a' cap' x h1 hl' wx (ha.later h) (ha'.later h))
    have HE : Hid (faultE L P x = pairE (faultV L P x) 0) := by show faultE L P x = _; rw [faultE, if_pos h1]
    rw [h1] at C
    obtain ⟨V, hV⟩ : ∃ V, faultV L P x = V := ⟨_, rfl⟩
    rw [hV] at C2 HE
    clear ha ha' h1 hV
    go_enter Try.func25, Try.ntmps25
    go_wp2_with fail
    rw [HW.out]
    refine (C.out _ B0.out).mono ?_
    rintro e w1 ⟨rfl, hb1⟩
    have B1 := Lib.hid (B0.out.trans (hb1.mono B0.out.size))
    have R1 := range_below RX.out hb1
    have d0 : w1.cell? ⟨w.heap.size, 0, none⟩ = some (.int .i64 x.lo) := R1 0 _ rfl
    have d1 : w1.cell? ⟨w.heap.size, 1, none⟩ = some (.int .i64 x.hi) := R1 1 _ rfl
    have d2 : w1.cell? ⟨w.heap.size, 2, none⟩ = some (.int .i64 x.ml) := R1 2 _ rfl
    have d3 : w1.cell? ⟨w.heap.size, 3, none⟩ = some (.int .i64 x.ms) := R1 3 _ rfl
    clear hb1 R1
    go_wp2_with fail
    refine (C2.out _ B1.out).mono ?_
    rintro e w2 ⟨rfl, hb2⟩
    have B2 := Lib.hid (bnext B1.out hb2)
    clear hb2
    go_wp2
    refine bodyPost_ret (v := .tuple #[.string V, .int .i64 0]) (by simp [results, Try.results25, go_sem]) rfl ⟨HE.out.symm, B2.out⟩
  · have HE : Hid (faultE L P x = pairE ⟨#[]⟩ (codeP L P x.ok)) := by show faultE L P x = _; rw [faultE, if_neg h1]
    obtain ⟨q, hq⟩ : ∃ q, codeP L P x.ok = q := ⟨_, rfl⟩
    rw [hq] at C HE h1
    clear ha ha' hq
    go_enter Try.func25, Try.ntmps25
    go_wp2_with fail
    rw [HW.out]
    refine (C.out _ B0.out).mono ?_
    rintro e w1 ⟨rfl, hb1⟩
    have B1 := Lib.hid (B0.out.trans (hb1.mono B0.out.size))
    clear hb1
    go_wp2
    refine bodyPost_ret (v := .tuple #[.string ⟨#[]⟩, .int .i64 q]) (by simp [results, Try.results25, go_sem]) rfl ⟨HE.out.symm, B1.out⟩

set_option maxRecDepth 100000 in
set_option maxHeartbeats 1600000 in
theorem top_spec_fault (L : List Cl) (a : Option Addr) (cap : Nat) (hl : L.length ≤ 1048576) (P : List Int) (a' : Option Addr) (cap' : Nat) (hl' : P.length ≤ 1048576) (x : Li) (w : World) (ha : ClArg w a L) (ha' : IntArg w a' P) :
    Calls Try.prog 23 #[.slice a L.length cap, .slice a' P.length cap', .agg #[.int .i64 x.lo, .int .i64 x.hi, .int .i64 x.ml, .int .i64 x.ms]] w fun e w' => e = faultE L P x ∧ Below w.heap.size w w' := by
  have C := Lib.hid (fun wx (h : Below w.heap.size w wx) => code3_spec L a cap hl P a' cap' hl' wx (ha.later h) (ha'.later h))
  have RX : Hid ((w.alloc (.cells #[.int .i64 x.lo, .int .i64 x.hi, .int .i64 x.ml, .int .i64 x.ms] 40)).rangeAt w.heap.size 0 x.vals) := range_new w #[.int .i64 x.lo, .int .i64 x.hi, .int .i64 x.ml, .int .i64 x.ms] 40
  have B0 : Hid (Below w.heap.size w (w.alloc (.cells #[.int .i64 x.lo, .int .i64 x.hi, .int .i64 x.ml, .int .i64 x.ms] 40))) := balloc0 _ _
  have CL := Lib.hid (lim_spec x w.heap.size)
  obtain ⟨W0, hW0⟩ : ∃ W0, w.alloc (.cells #[.int .i64 x.lo, .int .i64 x.hi, .int .i64 x.ml, .int .i64 x.ms] 40) = W0 := ⟨_, rfl⟩
  rw [hW0] at RX B0
  have HW := Lib.hid hW0
  clear hW0
  cases h0 : okCls L
  · have HE : Hid (faultE L P x = pairE ⟨#[]⟩ 1) := by show faultE L P x = _; rw [faultE, codeP_inv h0]; rfl
    rw [codeP_inv h0] at C
    clear ha ha'
    go_enter Try.func23, Try.ntmps23
    go_wp2_with fail
    rw [HW.out]
    refine (C.out _ B0.out).mono ?_
    rintro e w1 ⟨rfl, hb1⟩
    have B1 := Lib.hid (B0.out.trans (hb1.mono B0.out.size))
    clear hb1
    go_wp2
    refine bodyPost_ret (v := .tuple #[.string ⟨#[]⟩, .int .i64 1]) (by simp [results, Try.results23, go_sem]) rfl ⟨HE.out.symm, B1.out⟩
  have hne : ¬ codeP L P true = 1 := codeP_ne h0
  cases h1 : x.ok
  · have HE : Hid (faultE L P x = pairE ⟨#[]⟩ 2) := by show faultE L P x = _; rw [faultE, h1, codeP_lim h0]; rfl
    rw [h1] at CL
    obtain ⟨q, hq⟩ : ∃ q, codeP L P true = q := ⟨_, rfl⟩
    rw [hq] at C hne
    clear ha ha' hq
    go_enter Try.func23, Try.ntmps23
    go_wp2_with fail
    rw [HW.out]
    refine (C.out _ B0.out).mono ?_
    rintro e w1 ⟨rfl, hb1⟩
    have B1 := Lib.hid (B0.out.trans (hb1.mono B0.out.size))
    have R1 := Lib.hid (range_below RX.out hb1)
    clear hb1
    go_wp2_with fail
    refine (CL.out _ R1.out).mono ?_
    rintro e w2 ⟨rfl, n2, rfl⟩
    go_wp2
    refine bodyPost_ret (v := .tuple #[.string ⟨#[]⟩, .int .i64 2]) (by simp [results, Try.results23, go_sem]) rfl ⟨HE.out.symm, below_drewN B1.out _⟩
  rw [h1] at CL
  by_cases h2 : codeP L P true = 0
  · have h2' : codeP L P x.ok = 0 := by rw [h1]; exact h2
    have C2 := Lib.hid (fun wx (h : Below w.heap.size w wx) (hr : wx.rangeAt w.heap.size 0 x.vals) => fault_spec L a cap P a' cap' x w.heap.size h2' hl' wx (ha.later h) (ha'.later h) hr)
    have HE : Hid (faultE L P x = pairE (faultV L P x) 0) := by show faultE L P x = _; rw [faultE, if_pos h2']
    rw [h2] at C
    obtain ⟨V, hV⟩ : ∃ V, faultV L P x = V := ⟨_, rfl⟩
    rw [hV] at C2 HE
    clear ha ha' h2 h2' hV hne
    go_enter Try.func23, Try.ntmps23
    go_wp2_with fail
    rw [HW.out]
    refine (C.out _ B0.out).mono ?_
    rintro e w1 ⟨rfl, hb1⟩
    have B1 := Lib.hid (B0.out.trans (hb1.mono B0.out.size))
    have R1 := Lib.hid (range_below RX.out hb1)
    clear hb1
    go_wp2_with fail
    refine (CL.out _ R1.out).mono ?_
    rintro e w2 ⟨rfl, n2, hw2⟩
    have B2 : Hid (Below w.heap.size w w2) := by rw [hw2]; exact below_drewN B1.out _
    have R2 : Hid (w2.rangeAt w.heap.size 0 x.vals) := by rw [hw2]; exact R1.out
    clear hw2
    go_wp2_with fail
    refine (C2.out _ B2.out R2.out).mono ?_
    rintro e w3 ⟨rfl, n3, rfl⟩
    go_wp2
    refine bodyPost_ret (v := .tuple #[.string V, .int .i64 0]) (by simp [results, Try.results23, go_sem]) rfl ⟨HE.out.symm, below_drewN B2.out _⟩
  · have HE : Hid (faultE L P x = pairE ⟨#[]⟩ (codeP L P true)) := by show faultE L P x = _; rw [faultE, h1, if_neg h2]
    obtain ⟨q, hq⟩ : ∃ q, codeP L P true = q := ⟨_, rfl⟩
    rw [hq] at C HE h2 hne
    clear ha ha' hq
    go_enter Try.func23, Try.ntmps23
    go_wp2_with fail
    rw [HW.out]
    refine (C.out _ B0.out).mono ?_
    rintro e w1 ⟨rfl, hb1⟩
    have B1 := Lib.hid (B0.out.trans (hb1.mono B0.out.size))
    have R1 := Lib.hid (range_below RX.out hb1)
    clear hb1
    go_wp2_with fail
    refine (CL.out _ R1.out).mono ?_
    rintro e w2 ⟨rfl, n2, rfl⟩
    go_wp2
    refine bodyPost_ret (v := .tuple #[.string ⟨#[]⟩, .int .i64 q]) (by simp [results, Try.results23, go_sem]) rfl ⟨HE.out.symm, below_drewN B1.out _⟩
end Go.Proofs.Ytlglijalhacmhab
