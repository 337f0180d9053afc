/-
  The walk of the law FnUses.
-/
import Derived.Test.YtdandhmallbemaaDoorF6
import Derived.Test.YtdandhmallbemaaDoorUsP
import Derived.Test.YtdandhmallbemaaDoorDrS
import Derived.Test.YtdandhmallbemaaDoorSuS
import Derived.Test.YtdandhmallbemaaDoorSuI
import Derived.Test.YtdandhmallbemaaDoorBeI
import Derived.Test.YtdandhmallbemaaDoorBeU
import Derived.Test.YtdandhmallbemaaDoorMoU
import Derived.Test.YtdandhmallbemaaDoorMoW
import Derived.Test.YtdandhmallbemaaDoorMoE
import Derived.Test.YtdandhmallbemaaDoorMoI
import Derived.Test.YtdandhmallbemaaDoorSfI
import Derived.Deep.QuietTactic
import Derived.Deep.RegionWith
import Derived.BigQuiet
namespace Go.Proofs.YtdandhmallbemaaDoor
open Go.ChangeShapes Go.WideShapes Go.ChangeAt Go.RowKit Go.Joins

theorem umL_len (L : List Mo) (k t : Int) : (umL L k t).length ≤ L.length := by
  unfold umL usedL
  split
  · rw [List.length_set]; omega
  · simp
theorem sameMoTo_refl (L : List Mo) : ∀ k, sameMoTo L L k = true
  | 0 => rfl
  | k + 1 => by
    simp only [sameMoTo, sameMoTo_refl L k, Bool.true_and]
    cases L[k]? with
    | none => rfl
    | some c => simp [Mo.same]
theorem sameMoB_refl (L : List Mo) : sameMoB L L = true := by simp [sameMoB, sameMoTo_refl]
theorem box_four (w : World) (l wd ht j : Int) (t : TypeId) : ∀ wx, Below (w.alloc (.cells #[.int .i64 l, .int .i64 wd, .int .i64 ht, .int .i64 j] t)).heap.size (w.alloc (.cells #[.int .i64 l, .int .i64 wd, .int .i64 ht, .int .i64 j] t)) wx → wx.cell? ⟨w.heap.size, 0, none⟩ = some (.int .i64 l) ∧ wx.cell? ⟨w.heap.size, 1, none⟩ = some (.int .i64 wd) ∧ wx.cell? ⟨w.heap.size, 2, none⟩ = some (.int .i64 ht) ∧ wx.cell? ⟨w.heap.size, 3, none⟩ = some (.int .i64 j) := by
  intro wx h
  have hr : (w.alloc (.cells #[.int .i64 l, .int .i64 wd, .int .i64 ht, .int .i64 j] t)).rangeAt w.heap.size 0 (⟨l, wd, ht, j⟩ : Mo).vals := range_new w #[.int .i64 l, .int .i64 wd, .int .i64 ht, .int .i64 j] t
  have := boxedMo (range_below hr h)
  simpa using this

theorem og_at {O : List Int} {k : Nat} {z : Int} (h : O[k]? = some z) : og O k = z := by
  unfold og
  rw [List.getD_eq_getElem?_getD, h]
  rfl
theorem su_facts {L : List Mo} {t : Int} (h : suC L t = 0) : okMos L = true ∧ (0 ≤ t ∧ t ≤ 2000) ∧ 0 < L.length := by
  unfold suC at h
  split at h
  · rename_i h1
    split at h
    · rename_i h2
      split at h
      · omega
      · exact ⟨h1, inB_true.1 h2, by omega⟩
    · omega
  · omega
theorem be_facts {L : List Mo} {l wd ht j s : Int} (h : beC L l wd ht j s = 0) : okMos L = true ∧ okB l wd ht j = true ∧ inB s 0 200 = true ∧ 0 < L.length := by
  unfold beC at h
  split at h
  · rename_i h1
    split at h
    · rename_i h2
      split at h
      · omega
      · exact ⟨h1.1, h1.2, h2, by omega⟩
    · omega
  · omega
theorem sf_zero {c : Mo} {l wd ht j s off : Int} (h1 : c.ok = true) (h2 : okB l wd ht j = true) (h3 : inB s 0 200 = true) (h4 : 0 ≤ off) (h5 : off ≤ 100) : sfC c l wd ht j s off = 0 := by
  unfold sfC
  rw [if_pos ⟨h1, h2⟩, if_pos ⟨h3, inB_true.2 ⟨h4, h5⟩⟩]
theorem fault_four (c : Mo) (s l wd ht off : Int) : faultN c s l wd ht off = ⟨#[108, 101, 110, 103, 116, 104]⟩ ∨ faultN c s l wd ht off = ⟨#[119, 105, 100, 116, 104]⟩ ∨ faultN c s l wd ht off = ⟨#[104, 101, 105, 103, 104, 116]⟩ ∨ faultN c s l wd ht off = ⟨#[110, 111, 110, 101]⟩ := by
  unfold faultN
  repeat' split
  all_goals simp
set_option maxRecDepth 100000 in
set_option maxHeartbeats 25600000 in
theorem walk_FnUses (w : World) (a : Option Addr) (len cap : Nat) (hc : CodeAt w w.heap.size (.slice a len cap)) (hz : SzAt w) :
    Calls Tryd.prog 3 #[.slice a len cap] w fun e w' => e = .returned (.bool true) ∧ Below w.heap.size w w' := by
  have HC := Lib.hid hc
  have HZ := Lib.hid hz
  clear hc hz
  by_cases h4 : (4096 : Int) < (len : Int)
  · have h4' : decide ((4096 : Int) < (len : Int)) = true := by simpa using h4
    go_enter Tryd.func3, Tryd.ntmps3
    go_wp2_with fail
    refine (big6 a len cap _).mono ?_
    rintro e w1 ⟨rfl, rfl⟩
    go_wp2
    go_ret
    exact ⟨rfl, Below.refl _ _⟩
  have h4' : decide ((4096 : Int) < (len : Int)) = false := by simpa using h4
  go_enter Tryd.func3, Tryd.ntmps3
  go_wp2_with fail
  refine (big6 a len cap _).mono ?_
  rintro e w0 ⟨rfl, rfl⟩
  have B0 : Hid (Below w.heap.size w w) := Below.refl _ _
  go_wp2_with fail
  refine (drawShareUses_spec _ (.slice a len cap) (code_later HC.out B0.out) ⟨a, len, cap, rfl⟩).mono ?_
  rintro e w1 ⟨L1, a1, cap1, T1, hl1, rfl, ho, hb⟩
  have B1 := Lib.hid (bnext B0.out hb)
  have R1 := Lib.hid (ho)
  clear hb ho
  go_wp2_with fail
  refine (share_impl L1 a1 cap1 (by omega) T1 _ R1.out.arg).mono ?_
  rintro e w2 ⟨q1, p1, rfl, hr, hb⟩
  have B2 := Lib.hid (bnext B1.out hb)
  have R1 := Lib.hid (R1.out.later hb)
  have U1 := Lib.hid (hr)
  clear hb hr
  go_wp2_with fail
  refine (share_spec L1 a1 cap1 (by omega) T1 _ R1.out.arg).mono ?_
  rintro e w3 ⟨q2, p2, rfl, hr, hb⟩
  have B3 := Lib.hid (bnext B2.out hb)
  have R1 := Lib.hid (R1.out.later hb)
  have U1 := Lib.hid (U1.out.later hb)
  have U2 := Lib.hid (hr)
  clear hb hr
  go_wp2_with fail
  refine (drawBestMould_spec _ (.slice a len cap) (code_later HC.out B3.out) ⟨a, len, cap, rfl⟩).mono ?_
  rintro e w4 ⟨L2, a2, cap2, fl, fw, fh, fj, sh, hl2, rfl, ho, hb⟩
  have B4 := Lib.hid (bnext B3.out hb)
  have R1 := Lib.hid (R1.out.later hb)
  have U1 := Lib.hid (U1.out.later hb)
  have U2 := Lib.hid (U2.out.later hb)
  have R2 := Lib.hid (ho)
  clear hb ho
  have X := Lib.hid (box_four w4 fl fw fh fj 31)
  have BX := Lib.hid (balloc B4.out (.cells #[.int .i64 fl, .int .i64 fw, .int .i64 fh, .int .i64 fj] 31))
  have hbx : Below w4.heap.size w4 (w4.alloc (.cells #[.int .i64 fl, .int .i64 fw, .int .i64 fh, .int .i64 fj] 31)) := balloc0 _ _
  have R1 := Lib.hid (R1.out.later hbx)
  have R2 := Lib.hid (R2.out.later hbx)
  have U1 := Lib.hid (U1.out.later hbx)
  have U2 := Lib.hid (U2.out.later hbx)
  clear hbx
  obtain ⟨V, hV⟩ : ∃ V, w4.alloc (.cells #[.int .i64 fl, .int .i64 fw, .int .i64 fh, .int .i64 fj] 31) = V := ⟨_, rfl⟩
  rw [hV] at X BX R1 R2 U1 U2
  have HV := Lib.hid hV
  have X0 : Hid (Below V.heap.size V V) := Below.refl _ _
  clear hV
  obtain ⟨x0, x1, x2, x3⟩ := X.out _ X0.out
  go_wp2_with fail
  rw [HV.out]
  refine (be_impl L2 a2 cap2 (by omega) fl fw fh fj sh V R2.out.arg).mono ?_
  rintro e w5 ⟨rfl, hb⟩
  have B5 := Lib.hid (bnext BX.out hb)
  have X5 := Lib.hid (bnext X0.out hb)
  have R1 := Lib.hid (R1.out.later hb)
  have R2 := Lib.hid (R2.out.later hb)
  have U1 := Lib.hid (U1.out.later hb)
  have U2 := Lib.hid (U2.out.later hb)
  clear hb x0 x1 x2 x3
  obtain ⟨x0, x1, x2, x3⟩ := X.out _ X5.out
  go_wp2_with fail
  refine (be_spec L2 a2 cap2 (by omega) fl fw fh fj sh _ R2.out.arg).mono ?_
  rintro e w6 ⟨rfl, hb⟩
  have B6 := Lib.hid (bnext B5.out hb)
  have X6 := Lib.hid (bnext X5.out hb)
  have R1 := Lib.hid (R1.out.later hb)
  have R2 := Lib.hid (R2.out.later hb)
  have U1 := Lib.hid (U1.out.later hb)
  have U2 := Lib.hid (U2.out.later hb)
  clear hb x0 x1 x2 x3
  go_wp2_with fail
  refine (drawUseMould_spec _ (.slice a len cap) (code_later HC.out B6.out) ⟨a, len, cap, rfl⟩).mono ?_
  rintro e w7 ⟨L3, a3, cap3, at3, t3, hl3, rfl, ho, hb⟩
  have B7 := Lib.hid (bnext B6.out hb)
  have X7 := Lib.hid (bnext X6.out hb)
  have R1 := Lib.hid (R1.out.later hb)
  have U1 := Lib.hid (U1.out.later hb)
  have U2 := Lib.hid (U2.out.later hb)
  have R2 := Lib.hid (R2.out.later hb)
  have R3 := Lib.hid (ho)
  clear hb ho
  go_wp2_with fail
  refine (use_impl L3 a3 cap3 (by omega) at3 t3 _ R3.out.arg).mono ?_
  rintro e w8 ⟨q3, p3, rfl, hr, hb⟩
  have B8 := Lib.hid (bnext B7.out hb)
  have X8 := Lib.hid (bnext X7.out hb)
  have R1 := Lib.hid (R1.out.later hb)
  have U1 := Lib.hid (U1.out.later hb)
  have U2 := Lib.hid (U2.out.later hb)
  have R2 := Lib.hid (R2.out.later hb)
  have R3 := Lib.hid (R3.out.later hb)
  have U3 := Lib.hid (hr)
  clear hb hr
  go_wp2_with fail
  refine (use_spec L3 a3 cap3 (by omega) at3 t3 _ R3.out.arg).mono ?_
  rintro e w9 ⟨q4, p4, rfl, hr, hb⟩
  have B9 := Lib.hid (bnext B8.out hb)
  have X9 := Lib.hid (bnext X8.out hb)
  have R1 := Lib.hid (R1.out.later hb)
  have U1 := Lib.hid (U1.out.later hb)
  have U2 := Lib.hid (U2.out.later hb)
  have R2 := Lib.hid (R2.out.later hb)
  have R3 := Lib.hid (R3.out.later hb)
  have U3 := Lib.hid (U3.out.later hb)
  have U4 := Lib.hid (hr)
  clear hb hr
  go_wp2_with fail
  refine (drawWornMoulds_spec _ (.slice a len cap) (code_later HC.out B9.out) ⟨a, len, cap, rfl⟩).mono ?_
  rintro e w10 ⟨L4, a4, cap4, m4, hl4, rfl, ho, hb⟩
  have B10 := Lib.hid (bnext B9.out hb)
  have X10 := Lib.hid (bnext X9.out hb)
  have R1 := Lib.hid (R1.out.later hb)
  have U1 := Lib.hid (U1.out.later hb)
  have U2 := Lib.hid (U2.out.later hb)
  have R2 := Lib.hid (R2.out.later hb)
  have R3 := Lib.hid (R3.out.later hb)
  have U3 := Lib.hid (U3.out.later hb)
  have U4 := Lib.hid (U4.out.later hb)
  have R4 := Lib.hid (ho)
  clear hb ho
  go_wp2_with fail
  refine (worn_impl L4 a4 cap4 (by omega) m4 _ R4.out.arg).mono ?_
  rintro e w11 ⟨q5, p5, rfl, hr, hb⟩
  have B11 := Lib.hid (bnext B10.out hb)
  have X11 := Lib.hid (bnext X10.out hb)
  have R1 := Lib.hid (R1.out.later hb)
  have U1 := Lib.hid (U1.out.later hb)
  have U2 := Lib.hid (U2.out.later hb)
  have R2 := Lib.hid (R2.out.later hb)
  have R3 := Lib.hid (R3.out.later hb)
  have U3 := Lib.hid (U3.out.later hb)
  have U4 := Lib.hid (U4.out.later hb)
  have R4 := Lib.hid (R4.out.later hb)
  have U5 := Lib.hid (hr)
  clear hb hr
  go_wp2_with fail
  refine (worn_spec L4 a4 cap4 (by omega) m4 _ R4.out.arg).mono ?_
  rintro e w12 ⟨q6, p6, rfl, hr, hb⟩
  have B12 := Lib.hid (bnext B11.out hb)
  have X12 := Lib.hid (bnext X11.out hb)
  have R1 := Lib.hid (R1.out.later hb)
  have U1 := Lib.hid (U1.out.later hb)
  have U2 := Lib.hid (U2.out.later hb)
  have R2 := Lib.hid (R2.out.later hb)
  have R3 := Lib.hid (R3.out.later hb)
  have U3 := Lib.hid (U3.out.later hb)
  have U4 := Lib.hid (U4.out.later hb)
  have R4 := Lib.hid (R4.out.later hb)
  have U5 := Lib.hid (U5.out.later hb)
  have U6 := Lib.hid (hr)
  clear hb hr
  go_wp2_with fail
  refine (drawSameMoulds_spec _ (.slice a len cap) (code_later HC.out B12.out) ⟨a, len, cap, rfl⟩).mono ?_
  rintro e w13 ⟨L5, M5, a5, b5, cap5, cap6, hl5, hm5, rfl, ho, ho2, hb⟩
  have B13 := Lib.hid (bnext B12.out hb)
  have X13 := Lib.hid (bnext X12.out hb)
  have R1 := Lib.hid (R1.out.later hb)
  have U1 := Lib.hid (U1.out.later hb)
  have U2 := Lib.hid (U2.out.later hb)
  have R2 := Lib.hid (R2.out.later hb)
  have R3 := Lib.hid (R3.out.later hb)
  have U3 := Lib.hid (U3.out.later hb)
  have U4 := Lib.hid (U4.out.later hb)
  have R4 := Lib.hid (R4.out.later hb)
  have U5 := Lib.hid (U5.out.later hb)
  have U6 := Lib.hid (U6.out.later hb)
  have R5 := Lib.hid (ho)
  have R6 := Lib.hid (ho2)
  clear hb ho ho2
  have hx3 := umL_len L3 at3 t3
  have SM := Lib.hid (fun wx (h1 : MoArg wx q3 (umL L3 at3 t3)) (h2 : MoArg wx q4 (umL L3 at3 t3)) => same_mould_spec (umL L3 at3 t3) q3 p3 (by omega) (umL L3 at3 t3) q4 p4 (by omega) wx h1 h2)
  rw [sameMoB_refl] at SM
  have VS := Lib.hid (fun wx (h1 : MoArg wx a1 L1) => valid_mospec L1 a1 cap1 (by omega) wx h1)
  have VI := Lib.hid (fun wx (h1 : MoArg wx a1 L1) => valid_moimpl L1 a1 cap1 (by omega) wx h1)
  have SS := Lib.hid (fun wx (h1 : MoArg wx a5 L5) (h2 : MoArg wx b5 M5) => same_mould_spec L5 a5 cap5 (by omega) M5 b5 cap6 (by omega) wx h1 h2)
  have SI := Lib.hid (fun wx (h1 : MoArg wx a5 L5) (h2 : MoArg wx b5 M5) => same_mould_impl L5 a5 cap5 (by omega) M5 b5 cap6 (by omega) wx h1 h2)
  obtain ⟨ys, hys⟩ : ∃ y, sameMoB L5 M5 = y := ⟨_, rfl⟩
  rw [hys] at SS SI
  clear hys
  obtain ⟨yv, hyv⟩ : ∃ y, okMos L1 = y := ⟨_, rfl⟩
  rw [hyv] at VS VI
  clear hyv
  go_wp2_with fail
  refine (ints6 (suL L1 T1) q1 q2 p1 p2 (suL_length L1 T1 (by omega)) _ U1.out.arg U2.out.arg).mono ?_
  rintro e w14 ⟨rfl, hb⟩
  have B14 := Lib.hid (bnext B13.out hb)
  have X14 := Lib.hid (bnext X13.out hb)
  have R1 := Lib.hid (R1.out.later hb)
  have U1 := Lib.hid (U1.out.later hb)
  have U2 := Lib.hid (U2.out.later hb)
  have R2 := Lib.hid (R2.out.later hb)
  have R3 := Lib.hid (R3.out.later hb)
  have U3 := Lib.hid (U3.out.later hb)
  have U4 := Lib.hid (U4.out.later hb)
  have R4 := Lib.hid (R4.out.later hb)
  have U5 := Lib.hid (U5.out.later hb)
  have U6 := Lib.hid (U6.out.later hb)
  have R5 := Lib.hid (R5.out.later hb)
  have R6 := Lib.hid (R6.out.later hb)
  clear hb
  go_wp2_with fail
  refine (SM.out _ U3.out.arg U4.out.arg).mono ?_
  rintro e w15 ⟨rfl, hb⟩
  have B15 := Lib.hid (bnext B14.out hb)
  have X15 := Lib.hid (bnext X14.out hb)
  have R1 := Lib.hid (R1.out.later hb)
  have U1 := Lib.hid (U1.out.later hb)
  have U2 := Lib.hid (U2.out.later hb)
  have R2 := Lib.hid (R2.out.later hb)
  have R3 := Lib.hid (R3.out.later hb)
  have U3 := Lib.hid (U3.out.later hb)
  have U4 := Lib.hid (U4.out.later hb)
  have R4 := Lib.hid (R4.out.later hb)
  have U5 := Lib.hid (U5.out.later hb)
  have U6 := Lib.hid (U6.out.later hb)
  have R5 := Lib.hid (R5.out.later hb)
  have R6 := Lib.hid (R6.out.later hb)
  clear hb
  go_wp2_with fail
  refine (ints6 (wmL L4 m4) q5 q6 p5 p6 (wmL_length L4 m4 (by omega)) _ U5.out.arg U6.out.arg).mono ?_
  rintro e w16 ⟨rfl, hb⟩
  have B16 := Lib.hid (bnext B15.out hb)
  have X16 := Lib.hid (bnext X15.out hb)
  have R1 := Lib.hid (R1.out.later hb)
  have U1 := Lib.hid (U1.out.later hb)
  have U2 := Lib.hid (U2.out.later hb)
  have R2 := Lib.hid (R2.out.later hb)
  have R3 := Lib.hid (R3.out.later hb)
  have U3 := Lib.hid (U3.out.later hb)
  have U4 := Lib.hid (U4.out.later hb)
  have R4 := Lib.hid (R4.out.later hb)
  have U5 := Lib.hid (U5.out.later hb)
  have U6 := Lib.hid (U6.out.later hb)
  have R5 := Lib.hid (R5.out.later hb)
  have R6 := Lib.hid (R6.out.later hb)
  clear hb
  go_wp2_with fail
  refine (SI.out _ R5.out.arg R6.out.arg).mono ?_
  rintro e w17 ⟨rfl, hb⟩
  have B17 := Lib.hid (bnext B16.out hb)
  have X17 := Lib.hid (bnext X16.out hb)
  have R1 := Lib.hid (R1.out.later hb)
  have U1 := Lib.hid (U1.out.later hb)
  have U2 := Lib.hid (U2.out.later hb)
  have R2 := Lib.hid (R2.out.later hb)
  have R3 := Lib.hid (R3.out.later hb)
  have U3 := Lib.hid (U3.out.later hb)
  have U4 := Lib.hid (U4.out.later hb)
  have R4 := Lib.hid (R4.out.later hb)
  have U5 := Lib.hid (U5.out.later hb)
  have U6 := Lib.hid (U6.out.later hb)
  have R5 := Lib.hid (R5.out.later hb)
  have R6 := Lib.hid (R6.out.later hb)
  clear hb
  go_wp2_with fail
  refine (SS.out _ R5.out.arg R6.out.arg).mono ?_
  rintro e w18 ⟨rfl, hb⟩
  have B18 := Lib.hid (bnext B17.out hb)
  have X18 := Lib.hid (bnext X17.out hb)
  have R1 := Lib.hid (R1.out.later hb)
  have U1 := Lib.hid (U1.out.later hb)
  have U2 := Lib.hid (U2.out.later hb)
  have R2 := Lib.hid (R2.out.later hb)
  have R3 := Lib.hid (R3.out.later hb)
  have U3 := Lib.hid (U3.out.later hb)
  have U4 := Lib.hid (U4.out.later hb)
  have R4 := Lib.hid (R4.out.later hb)
  have U5 := Lib.hid (U5.out.later hb)
  have U6 := Lib.hid (U6.out.later hb)
  have R5 := Lib.hid (R5.out.later hb)
  have R6 := Lib.hid (R6.out.later hb)
  clear hb
  go_wp2_with fail
  refine (VI.out _ R1.out.arg).mono ?_
  rintro e w19 ⟨rfl, hb⟩
  have B19 := Lib.hid (bnext B18.out hb)
  have X19 := Lib.hid (bnext X18.out hb)
  have R1 := Lib.hid (R1.out.later hb)
  have U1 := Lib.hid (U1.out.later hb)
  have U2 := Lib.hid (U2.out.later hb)
  have R2 := Lib.hid (R2.out.later hb)
  have R3 := Lib.hid (R3.out.later hb)
  have U3 := Lib.hid (U3.out.later hb)
  have U4 := Lib.hid (U4.out.later hb)
  have R4 := Lib.hid (R4.out.later hb)
  have U5 := Lib.hid (U5.out.later hb)
  have U6 := Lib.hid (U6.out.later hb)
  have R5 := Lib.hid (R5.out.later hb)
  have R6 := Lib.hid (R6.out.later hb)
  clear hb
  go_wp2_with fail
  refine (VS.out _ R1.out.arg).mono ?_
  rintro e w20 ⟨rfl, hb⟩
  have B20 := Lib.hid (bnext B19.out hb)
  have X20 := Lib.hid (bnext X19.out hb)
  have R1 := Lib.hid (R1.out.later hb)
  have U1 := Lib.hid (U1.out.later hb)
  have U2 := Lib.hid (U2.out.later hb)
  have R2 := Lib.hid (R2.out.later hb)
  have R3 := Lib.hid (R3.out.later hb)
  have U3 := Lib.hid (U3.out.later hb)
  have U4 := Lib.hid (U4.out.later hb)
  have R4 := Lib.hid (R4.out.later hb)
  have U5 := Lib.hid (U5.out.later hb)
  have U6 := Lib.hid (U6.out.later hb)
  have R5 := Lib.hid (R5.out.later hb)
  have R6 := Lib.hid (R6.out.later hb)
  clear hb
  by_cases hb0 : beC L2 fl fw fh fj sh = 0
  · have FB := Lib.hid (be_facts hb0)
    have hbn := be_good hb0
    have hkl : bestTo sh fl fw fh L2 L2.length < L2.length := bestTo_lt _ _ _ _ _ _ (by have := FB.out.2.2.2; omega)
    obtain ⟨kb, hkb⟩ : ∃ kb, bestTo sh fl fw fh L2 L2.length = kb := ⟨_, rfl⟩
    rw [hkb] at hkl hbn
    have hkl' : (kb : Int) < (L2.length : Int) := by omega
    have hk0 : (0 : Int) ≤ (kb : Int) := by omega
    rw [hbn]
    clear hbn hkb
    go_wp2_with fail
    go_loopw [31] (fun o wr => ∃ j : Nat, j ≤ 101 ∧ o = .int .i64 (j : Int) ∧ Hid (Below w20.heap.size w20 wr)) (fun o _ => 101 - (intOf o).toNat)
    case atStart => exact ⟨0, by omega, rfl, Below.refl _ _⟩
    case round =>
      obtain ⟨j, hj, rfl, hW⟩ := hrel
      by_cases hlt : j ≤ 100
      · have hlt' : (j : Int) ≤ 100 := by omega
        have R2w := Lib.hid ((R2.out.later hW.out).arg)
        have HZw := Lib.hid (HZ.out.later (bnext B20.out hW.out))
        obtain ⟨y0, y1, y2, y3⟩ := X.out _ (bnext X20.out hW.out)
        obtain ⟨b, o, c, e2, hc, hat⟩ := R2w.out.at hkl
        subst e2
        have oc : c.ok = true := (okMos_all FB.out.1).2 kb c hc
        obtain ⟨m0, m1, m2, m3⟩ := hat.cells hc
        have HE : sfE c fl fw fh fj sh (j : Int) = .returned (.tuple #[.string (faultN c sh fl fw fh (j : Int)), .int .i64 0]) := sf_good (sf_zero oc FB.out.2.1 FB.out.2.2.1 (by omega) (by omega))
        have C : Hid (∀ wx, SzAt wx → Calls Tryd.prog 23 #[.agg #[.int .i64 c.le, .int .i64 c.wi, .int .i64 c.he, .int .i64 c.us], .agg #[.int .i64 fl, .int .i64 fw, .int .i64 fh, .int .i64 fj], .int .i64 sh, .int .i64 (j : Int)] wx fun e w' => e = .returned (.tuple #[.string (faultN c sh fl fw fh (j : Int)), .int .i64 0]) ∧ Below wx.heap.size wx w') := fun wx h => by
          rw [← HE]; exact sf_impl c fl fw fh fj sh (j : Int) wx h
        have hfour := fault_four c sh fl fw fh (j : Int)
        obtain ⟨FN, hFN⟩ : ∃ FN, faultN c sh fl fw fh (j : Int) = FN := ⟨_, rfl⟩
        rw [hFN] at C hfour
        clear hc hat HE hFN oc
        go_wp2_with fail
        go_region_with (go_at_call 23; refine (C.out wr.drew HZw.out).mono ?_; rintro e w22 ⟨rfl, hb⟩; have W22 := Lib.hid (bnext hW.out.drew hb); clear hb)
        all_goals
          rcases hfour with rfl | rfl | rfl | rfl
          all_goals
            go_wp2
            go_roundw
            case rel => exact ⟨j + 1, by omega, by go_num, W22.out⟩
            case measure => simp [intOf]; omega
      · have hge : ¬ (j : Int) ≤ 100 := by omega
        by_cases hu0 : umC L3 at3 t3 = 0
        · have FU := Lib.hid (used_at hu0)
          obtain ⟨j, hj⟩ := Int.eq_ofNat_of_zero_le FU.out.2.1
          have HUL : Hid (umL L3 at3 t3 = usedL L3 at3 t3) := by show _ = _; unfold umL; rw [if_pos hu0]
          have U3w := Lib.hid ((U3.out.later hW.out).arg)
          have U4w := Lib.hid ((U4.out.later hW.out).arg)
          have hul : (umL L3 at3 t3).length = L3.length := by rw [HUL.out]; unfold usedL; rw [List.length_set]
          have hjl : j < (umL L3 at3 t3).length := by have := FU.out; omega
          have HUW := Lib.hid (fun m hm => used_worn (L := L3) (k := at3) (t := t3) (m := m) hu0 hm)
          obtain ⟨b, o, c, e4, hc, hat⟩ := U4w.out.at hjl
          subst e4
          have cu := (hat.cells hc).2.2.2
          have hcu : c.us = (L3.getD at3.toNat default).us + t3 := by
            have h1 := usedL_at hu0
            rw [← HUL.out, show at3.toNat = j by omega, hc] at h1
            rw [Option.some.inj h1, show at3.toNat = j by omega]
          have hu1 : 1 ≤ c.us ∧ c.us ≤ 100000 := by
            have h1 := FU.out
            have h2 := Mo.ok_facts ((okMos_all h1.1).2 j (L3.getD j default) (by rw [List.getD_eq_getElem?_getD, List.getElem?_eq_getElem (show j < L3.length by omega)]; rfl))
            rw [show at3.toNat = j by omega] at hcu
            rw [show at3.toNat = j by omega] at h1
            omega
          have HWN := HUW.out (c.us - 1) (by rw [hcu])
          rw [← HUL.out] at HWN
          have C := Lib.hid (fun wx (h : MoArg wx q3 (umL L3 at3 t3)) => worn_impl (umL L3 at3 t3) q3 p3 (by omega) (c.us - 1) wx h)
          have hPl : (wmL (umL L3 at3 t3) (c.us - 1)).length ≤ 1048577 := wmL_length _ _ (by omega)
          rw [HWN.1] at C
          have hjn : (j : Int) < ((umL L3 at3 t3).length : Int) := by omega
          have hj0 : (0 : Int) ≤ (j : Int) := by omega
          obtain ⟨x, hx⟩ : ∃ x, c.us = x := ⟨_, rfl⟩
          rw [hx] at C cu hu1 HWN hPl
          obtain ⟨P, hP⟩ : ∃ P, wmL (umL L3 at3 t3) (x - 1) = P := ⟨_, rfl⟩
          rw [hP] at C HWN hPl
          have HIN := Lib.hid HWN.2
          clear HWN hcu hc hat hx hP FU HUW hul
          subst hj
          obtain ⟨hx1, hx2⟩ := hu1
          go_wp2_with fail
          refine (C.out _ U3w.out).mono ?_
          rintro e w21 ⟨q7, p7, rfl, hr, hb⟩
          have hW2 := Lib.hid (bnext hW.out hb)
          have Q7 := Lib.hid hr
          clear hr hb cu
          go_wp2_with fail
          go_loopw [36, 37] (fun h i wr => ∃ k : Nat, k ≤ P.length ∧ h = .bool (decide ((j : Int) ∈ P.take k)) ∧ i = .int .i64 (k : Int) ∧ Hid (Below w21.heap.size w21 wr)) (fun _ i _ => P.length - (intOf i).toNat)
          case atStart => exact ⟨0, Nat.zero_le _, by simp, rfl, Below.refl _ _⟩
          case round =>
            obtain ⟨k, hk, rfl, rfl, hW6⟩ := hrel
            by_cases hlt : k < P.length
            · have hlt' : (k : Int) < (P.length : Int) := by omega
              have hk0 : (0 : Int) ≤ (k : Int) := by omega
              obtain ⟨bp, op, z, ep, hz, hpat⟩ := ((Q7.out.later hW6.out).arg).at hlt
              subst ep
              have cz := hpat k z hz
              have HT : Hid (∀ x : Int, (x ∈ P.take (k + 1)) ↔ (x ∈ P.take k ∨ x = z)) := fun x => by rw [List.take_add_one, hz]; simp
              clear hpat hz
              cases hd : decide ((j : Int) ∈ P.take k)
              · by_cases hz : z = (j : Int)
                · subst hz
                  go_wp2
                  go_roundw
                  case rel => exact ⟨k + 1, by omega, by rw [decide_eq_true ((HT.out _).2 (.inr rfl))], by go_num, hW6.out⟩
                  case measure => simp [intOf]; omega
                · have hz2 : (z == (j : Int)) = false := by simpa using hz
                  go_wp2
                  go_roundw
                  case rel => exact ⟨k + 1, by omega, by rw [decide_eq_false (fun h => by rcases (HT.out _).1 h with h | h; exact absurd h (of_decide_eq_false hd); exact hz h.symm)], by go_num, hW6.out⟩
                  case measure => simp [intOf]; omega
              · go_wp2
                go_roundw
                case rel => exact ⟨k + 1, by omega, by rw [decide_eq_true ((HT.out _).2 (.inl (of_decide_eq_true hd)))], by go_num, hW6.out⟩
                case measure => simp [intOf]; omega
            · have hge : ¬ (k : Int) < (P.length : Int) := by omega
              have hkn : k = P.length := by omega
              subst hkn
              have hdd : decide ((j : Int) ∈ P.take P.length) = true := by rw [List.take_length]; exact decide_eq_true HIN.out
              rw [hdd]
              have hW3 : Hid (Below w20.heap.size w20 wr) := bnext hW2.out hW6.out
              have BW3 := Lib.hid (bnext B20.out hW3.out)
              obtain ⟨W3, hW3e⟩ : ∃ W3, wr = W3 := ⟨_, rfl⟩
              rw [hW3e] at hW3 BW3 ⊢
              clear hdd hW6 Q7 HIN
              by_cases hs0 : suC L1 T1 = 0
              · have FS := Lib.hid (su_facts hs0)
                have HSL := Lib.hid (su_good hs0)
                obtain ⟨n, hn⟩ : ∃ n : Nat, T1 = (n : Int) := ⟨T1.toNat, by have := FS.out; omega⟩
                have HM : Hid (suL L1 T1 = shTo L1 n) := by show _ = _; rw [HSL.out, hn]; rfl
                have U2w := Lib.hid (U2.out.later hW3.out)
                have R1w := Lib.hid (R1.out.later hW3.out)
                obtain ⟨M, hMe⟩ : ∃ M, suL L1 T1 = M := ⟨_, rfl⟩
                have hlenM : M.length = L1.length := by rw [← hMe, HM.out, shTo_length]
                have HMM : Hid (M = shTo L1 n) := by show _ = _; rw [← hMe]; exact HM.out
                rw [hMe] at U2w
                have hn2 : n ≤ 2000 := by have := FS.out; omega
                have hLp : 0 < L1.length := FS.out.2.2
                have EV := Lib.hid (shTo_even hLp n)
                have RG := Lib.hid (shTo_range L1 n)
                have SU : Hid (M.sum = T1) := by show _ = _; rw [HMM.out, shTo_sum hLp n, hn]
                have OK1 := Lib.hid FS.out.1
                have HLM := Lib.hid hlenM
                clear hn hlenM
                go_wp2_with fail
                try rw [hMe]
                go_loopw [38] (fun i wr => ∃ k : Nat, k ≤ L1.length ∧ i = .int .i64 (k : Int) ∧ Hid (Below W3.heap.size W3 wr)) (fun i _ => L1.length - (intOf i).toNat)
                case atStart => exact ⟨0, Nat.zero_le _, rfl, Below.refl _ _⟩
                case round =>
                  obtain ⟨k, hk, rfl, hW4⟩ := hrel
                  by_cases hlt : k < L1.length
                  · have hlt' : (k : Int) < (M.length : Int) := by have := HLM.out; omega
                    have hk0 : (0 : Int) ≤ (k : Int) := by omega
                    go_wp2
                    go_loopw [39] (fun i wq => ∃ j : Nat, j ≤ L1.length ∧ i = .int .i64 (j : Int) ∧ Hid (Below W3.heap.size W3 wq)) (fun i _ => L1.length - (intOf i).toNat)
                    case atStart => exact ⟨0, Nat.zero_le _, rfl, hW4.out⟩
                    case round =>
                      obtain ⟨j, hj, rfl, hW5⟩ := hrel
                      by_cases hjt : j < L1.length
                      · have hjt' : (j : Int) < (M.length : Int) := by have := HLM.out; omega
                        have hj0 : (0 : Int) ≤ (j : Int) := by omega
                        have hkl : (k : Int) < (L1.length : Int) := by omega
                        have hjl : (j : Int) < (L1.length : Int) := by omega
                        have U2q := Lib.hid ((U2w.out.later hW5.out).arg)
                        have R1q := Lib.hid ((R1w.out.later hW5.out).arg)
                        obtain ⟨bm, om, zm, em, hzm, hmat⟩ := U2q.out.at (show k < M.length by have := HLM.out; omega)
                        subst em
                        have m0 := hmat k zm hzm
                        obtain ⟨zj, hzj⟩ : ∃ zj, M[j]? = some zj := ⟨_, List.getElem?_eq_getElem (by have := HLM.out; omega)⟩
                        have m1 := hmat j zj hzj
                        obtain ⟨bl, ol, cl, el, hcl, hlat⟩ := R1q.out.at hlt
                        subst el
                        have u0 := uses_cell hlat hlt
                        have u1 := uses_cell hlat hjt
                        have ek : zm = og (shTo L1 n) k := by rw [← HMM.out]; exact (og_at hzm).symm
                        have ej : zj = og (shTo L1 n) j := by rw [← HMM.out]; exact (og_at hzj).symm
                        have r0 := RG.out k
                        have r1 := RG.out j
                        have v0 := uses_range OK1.out hlt
                        have v1 := uses_range OK1.out hjt
                        have hev := EV.out k j hlt hjt
                        rw [← ek] at r0 hev
                        rw [← ej] at r1 hev
                        obtain ⟨x, hx⟩ : ∃ x, usA L1 k = x := ⟨_, rfl⟩
                        obtain ⟨y, hy⟩ : ∃ y, usA L1 j = y := ⟨_, rfl⟩
                        rw [hx] at u0 v0 hev
                        rw [hy] at u1 v1 hev
                        have hw1 : IntKind.i64.wrap (x + zm) = x + zm := IntWalk.i64_in _ (by omega)
                        have hw2 : IntKind.i64.wrap (y + zj) = y + zj := IntWalk.i64_in _ (by omega)
                        have hw3 : IntKind.i64.wrap (y + zj + 1) = y + zj + 1 := IntWalk.i64_in _ (by omega)
                        clear hzm hmat hzj hcl hlat hx hy ek ej
                        by_cases hpos : 0 < zm
                        · have hle : ¬ y + zj + 1 < x + zm := by have := hev hpos; omega
                          have hd : decide (0 < zm) = true := decide_eq_true hpos
                          have hd2 : decide (y + zj + 1 < x + zm) = false := decide_eq_false hle
                          clear hev
                          go_wp2
                          go_quiet (fail)
                          go_wp2
                          go_roundw
                          case rel => exact ⟨j + 1, by omega, by go_num, below_drewN hW5.out _⟩
                          case measure => simp [intOf]; omega
                        · have hd : decide (0 < zm) = false := decide_eq_false hpos
                          clear hev
                          go_wp2
                          go_quiet (fail)
                          go_wp2
                          go_roundw
                          case rel => exact ⟨j + 1, by omega, by go_num, below_drewN hW5.out _⟩
                          case measure => simp [intOf]; omega
                      · have hge : ¬ (j : Int) < (M.length : Int) := by have := HLM.out; omega
                        go_wp2
                        go_roundw
                        case rel => exact ⟨k + 1, by omega, by go_num, hW5.out⟩
                        case measure => simp [intOf]; omega
                  · have hge : ¬ (k : Int) < (M.length : Int) := by have := HLM.out; omega
                    have U2q := Lib.hid ((U2w.out.later hW4.out).arg)
                    have HRG : Hid (∀ (k : Nat) (z : Int), M[k]? = some z → 0 ≤ z ∧ z ≤ 1000000) := fun k z hz => by
                      have r0 := RG.out k
                      have ek : z = og (shTo L1 n) k := by rw [← HMM.out]; exact (og_at hz).symm
                      omega
                    go_wp2_with fail
                    refine (sum6 M q2 p2 (by have := HLM.out; omega) HRG.out _ U2q.out).mono ?_
                    rintro e w31 ⟨rfl, hb⟩
                    have B31 := Lib.hid (bnext (bnext BW3.out hW4.out) hb)
                    clear hb
                    rw [SU.out]
                    go_wp2
                    go_ret
                    exact ⟨rfl, B31.out⟩
              · go_wp2
                go_ret
                exact ⟨rfl, BW3.out⟩
        · have hu1 : (umC L3 at3 t3 == 0) = false := by simpa using hu0
          have hW3 : Hid (Below w20.heap.size w20 wr) := hW.out
          have BW3 := Lib.hid (bnext B20.out hW3.out)
          obtain ⟨W3, hW3e⟩ : ∃ W3, wr = W3 := ⟨_, rfl⟩
          rw [hW3e] at hW3 BW3 ⊢
          by_cases hs0 : suC L1 T1 = 0
          · have FS := Lib.hid (su_facts hs0)
            have HSL := Lib.hid (su_good hs0)
            obtain ⟨n, hn⟩ : ∃ n : Nat, T1 = (n : Int) := ⟨T1.toNat, by have := FS.out; omega⟩
            have HM : Hid (suL L1 T1 = shTo L1 n) := by show _ = _; rw [HSL.out, hn]; rfl
            have U2w := Lib.hid (U2.out.later hW3.out)
            have R1w := Lib.hid (R1.out.later hW3.out)
            obtain ⟨M, hMe⟩ : ∃ M, suL L1 T1 = M := ⟨_, rfl⟩
            have hlenM : M.length = L1.length := by rw [← hMe, HM.out, shTo_length]
            have HMM : Hid (M = shTo L1 n) := by show _ = _; rw [← hMe]; exact HM.out
            rw [hMe] at U2w
            have hn2 : n ≤ 2000 := by have := FS.out; omega
            have hLp : 0 < L1.length := FS.out.2.2
            have EV := Lib.hid (shTo_even hLp n)
            have RG := Lib.hid (shTo_range L1 n)
            have SU : Hid (M.sum = T1) := by show _ = _; rw [HMM.out, shTo_sum hLp n, hn]
            have OK1 := Lib.hid FS.out.1
            have HLM := Lib.hid hlenM
            clear hn hlenM
            go_wp2_with fail
            try rw [hMe]
            go_loopw [38] (fun i wr => ∃ k : Nat, k ≤ L1.length ∧ i = .int .i64 (k : Int) ∧ Hid (Below W3.heap.size W3 wr)) (fun i _ => L1.length - (intOf i).toNat)
            case atStart => exact ⟨0, Nat.zero_le _, rfl, Below.refl _ _⟩
            case round =>
              obtain ⟨k, hk, rfl, hW4⟩ := hrel
              by_cases hlt : k < L1.length
              · have hlt' : (k : Int) < (M.length : Int) := by have := HLM.out; omega
                have hk0 : (0 : Int) ≤ (k : Int) := by omega
                go_wp2
                go_loopw [39] (fun i wq => ∃ j : Nat, j ≤ L1.length ∧ i = .int .i64 (j : Int) ∧ Hid (Below W3.heap.size W3 wq)) (fun i _ => L1.length - (intOf i).toNat)
                case atStart => exact ⟨0, Nat.zero_le _, rfl, hW4.out⟩
                case round =>
                  obtain ⟨j, hj, rfl, hW5⟩ := hrel
                  by_cases hjt : j < L1.length
                  · have hjt' : (j : Int) < (M.length : Int) := by have := HLM.out; omega
                    have hj0 : (0 : Int) ≤ (j : Int) := by omega
                    have hkl : (k : Int) < (L1.length : Int) := by omega
                    have hjl : (j : Int) < (L1.length : Int) := by omega
                    have U2q := Lib.hid ((U2w.out.later hW5.out).arg)
                    have R1q := Lib.hid ((R1w.out.later hW5.out).arg)
                    obtain ⟨bm, om, zm, em, hzm, hmat⟩ := U2q.out.at (show k < M.length by have := HLM.out; omega)
                    subst em
                    have m0 := hmat k zm hzm
                    obtain ⟨zj, hzj⟩ : ∃ zj, M[j]? = some zj := ⟨_, List.getElem?_eq_getElem (by have := HLM.out; omega)⟩
                    have m1 := hmat j zj hzj
                    obtain ⟨bl, ol, cl, el, hcl, hlat⟩ := R1q.out.at hlt
                    subst el
                    have u0 := uses_cell hlat hlt
                    have u1 := uses_cell hlat hjt
                    have ek : zm = og (shTo L1 n) k := by rw [← HMM.out]; exact (og_at hzm).symm
                    have ej : zj = og (shTo L1 n) j := by rw [← HMM.out]; exact (og_at hzj).symm
                    have r0 := RG.out k
                    have r1 := RG.out j
                    have v0 := uses_range OK1.out hlt
                    have v1 := uses_range OK1.out hjt
                    have hev := EV.out k j hlt hjt
                    rw [← ek] at r0 hev
                    rw [← ej] at r1 hev
                    obtain ⟨x, hx⟩ : ∃ x, usA L1 k = x := ⟨_, rfl⟩
                    obtain ⟨y, hy⟩ : ∃ y, usA L1 j = y := ⟨_, rfl⟩
                    rw [hx] at u0 v0 hev
                    rw [hy] at u1 v1 hev
                    have hw1 : IntKind.i64.wrap (x + zm) = x + zm := IntWalk.i64_in _ (by omega)
                    have hw2 : IntKind.i64.wrap (y + zj) = y + zj := IntWalk.i64_in _ (by omega)
                    have hw3 : IntKind.i64.wrap (y + zj + 1) = y + zj + 1 := IntWalk.i64_in _ (by omega)
                    clear hzm hmat hzj hcl hlat hx hy ek ej
                    by_cases hpos : 0 < zm
                    · have hle : ¬ y + zj + 1 < x + zm := by have := hev hpos; omega
                      have hd : decide (0 < zm) = true := decide_eq_true hpos
                      have hd2 : decide (y + zj + 1 < x + zm) = false := decide_eq_false hle
                      clear hev
                      go_wp2
                      go_quiet (fail)
                      go_wp2
                      go_roundw
                      case rel => exact ⟨j + 1, by omega, by go_num, below_drewN hW5.out _⟩
                      case measure => simp [intOf]; omega
                    · have hd : decide (0 < zm) = false := decide_eq_false hpos
                      clear hev
                      go_wp2
                      go_quiet (fail)
                      go_wp2
                      go_roundw
                      case rel => exact ⟨j + 1, by omega, by go_num, below_drewN hW5.out _⟩
                      case measure => simp [intOf]; omega
                  · have hge : ¬ (j : Int) < (M.length : Int) := by have := HLM.out; omega
                    go_wp2
                    go_roundw
                    case rel => exact ⟨k + 1, by omega, by go_num, hW5.out⟩
                    case measure => simp [intOf]; omega
              · have hge : ¬ (k : Int) < (M.length : Int) := by have := HLM.out; omega
                have U2q := Lib.hid ((U2w.out.later hW4.out).arg)
                have HRG : Hid (∀ (k : Nat) (z : Int), M[k]? = some z → 0 ≤ z ∧ z ≤ 1000000) := fun k z hz => by
                  have r0 := RG.out k
                  have ek : z = og (shTo L1 n) k := by rw [← HMM.out]; exact (og_at hz).symm
                  omega
                go_wp2_with fail
                refine (sum6 M q2 p2 (by have := HLM.out; omega) HRG.out _ U2q.out).mono ?_
                rintro e w31 ⟨rfl, hb⟩
                have B31 := Lib.hid (bnext (bnext BW3.out hW4.out) hb)
                clear hb
                rw [SU.out]
                go_wp2
                go_ret
                exact ⟨rfl, B31.out⟩
          · go_wp2
            go_ret
            exact ⟨rfl, BW3.out⟩
  · have hW : Hid (Below w20.heap.size w20 w20) := Below.refl _ _
    have hb1 : (beC L2 fl fw fh fj sh == 0) = false := by simpa using hb0
    by_cases hu0 : umC L3 at3 t3 = 0
    · have FU := Lib.hid (used_at hu0)
      obtain ⟨j, hj⟩ := Int.eq_ofNat_of_zero_le FU.out.2.1
      have HUL : Hid (umL L3 at3 t3 = usedL L3 at3 t3) := by show _ = _; unfold umL; rw [if_pos hu0]
      have U3w := Lib.hid ((U3.out.later hW.out).arg)
      have U4w := Lib.hid ((U4.out.later hW.out).arg)
      have hul : (umL L3 at3 t3).length = L3.length := by rw [HUL.out]; unfold usedL; rw [List.length_set]
      have hjl : j < (umL L3 at3 t3).length := by have := FU.out; omega
      have HUW := Lib.hid (fun m hm => used_worn (L := L3) (k := at3) (t := t3) (m := m) hu0 hm)
      obtain ⟨b, o, c, e4, hc, hat⟩ := U4w.out.at hjl
      subst e4
      have cu := (hat.cells hc).2.2.2
      have hcu : c.us = (L3.getD at3.toNat default).us + t3 := by
        have h1 := usedL_at hu0
        rw [← HUL.out, show at3.toNat = j by omega, hc] at h1
        rw [Option.some.inj h1, show at3.toNat = j by omega]
      have hu1 : 1 ≤ c.us ∧ c.us ≤ 100000 := by
        have h1 := FU.out
        have h2 := Mo.ok_facts ((okMos_all h1.1).2 j (L3.getD j default) (by rw [List.getD_eq_getElem?_getD, List.getElem?_eq_getElem (show j < L3.length by omega)]; rfl))
        rw [show at3.toNat = j by omega] at hcu
        rw [show at3.toNat = j by omega] at h1
        omega
      have HWN := HUW.out (c.us - 1) (by rw [hcu])
      rw [← HUL.out] at HWN
      have C := Lib.hid (fun wx (h : MoArg wx q3 (umL L3 at3 t3)) => worn_impl (umL L3 at3 t3) q3 p3 (by omega) (c.us - 1) wx h)
      have hPl : (wmL (umL L3 at3 t3) (c.us - 1)).length ≤ 1048577 := wmL_length _ _ (by omega)
      rw [HWN.1] at C
      have hjn : (j : Int) < ((umL L3 at3 t3).length : Int) := by omega
      have hj0 : (0 : Int) ≤ (j : Int) := by omega
      obtain ⟨x, hx⟩ : ∃ x, c.us = x := ⟨_, rfl⟩
      rw [hx] at C cu hu1 HWN hPl
      obtain ⟨P, hP⟩ : ∃ P, wmL (umL L3 at3 t3) (x - 1) = P := ⟨_, rfl⟩
      rw [hP] at C HWN hPl
      have HIN := Lib.hid HWN.2
      clear HWN hcu hc hat hx hP FU HUW hul
      subst hj
      obtain ⟨hx1, hx2⟩ := hu1
      go_wp2_with fail
      refine (C.out _ U3w.out).mono ?_
      rintro e w21 ⟨q7, p7, rfl, hr, hb⟩
      have hW2 := Lib.hid (bnext hW.out hb)
      have Q7 := Lib.hid hr
      clear hr hb cu
      go_wp2_with fail
      go_loopw [36, 37] (fun h i wr => ∃ k : Nat, k ≤ P.length ∧ h = .bool (decide ((j : Int) ∈ P.take k)) ∧ i = .int .i64 (k : Int) ∧ Hid (Below w21.heap.size w21 wr)) (fun _ i _ => P.length - (intOf i).toNat)
      case atStart => exact ⟨0, Nat.zero_le _, by simp, rfl, Below.refl _ _⟩
      case round =>
        obtain ⟨k, hk, rfl, rfl, hW6⟩ := hrel
        by_cases hlt : k < P.length
        · have hlt' : (k : Int) < (P.length : Int) := by omega
          have hk0 : (0 : Int) ≤ (k : Int) := by omega
          obtain ⟨bp, op, z, ep, hz, hpat⟩ := ((Q7.out.later hW6.out).arg).at hlt
          subst ep
          have cz := hpat k z hz
          have HT : Hid (∀ x : Int, (x ∈ P.take (k + 1)) ↔ (x ∈ P.take k ∨ x = z)) := fun x => by rw [List.take_add_one, hz]; simp
          clear hpat hz
          cases hd : decide ((j : Int) ∈ P.take k)
          · by_cases hz : z = (j : Int)
            · subst hz
              go_wp2
              go_roundw
              case rel => exact ⟨k + 1, by omega, by rw [decide_eq_true ((HT.out _).2 (.inr rfl))], by go_num, hW6.out⟩
              case measure => simp [intOf]; omega
            · have hz2 : (z == (j : Int)) = false := by simpa using hz
              go_wp2
              go_roundw
              case rel => exact ⟨k + 1, by omega, by rw [decide_eq_false (fun h => by rcases (HT.out _).1 h with h | h; exact absurd h (of_decide_eq_false hd); exact hz h.symm)], by go_num, hW6.out⟩
              case measure => simp [intOf]; omega
          · go_wp2
            go_roundw
            case rel => exact ⟨k + 1, by omega, by rw [decide_eq_true ((HT.out _).2 (.inl (of_decide_eq_true hd)))], by go_num, hW6.out⟩
            case measure => simp [intOf]; omega
        · have hge : ¬ (k : Int) < (P.length : Int) := by omega
          have hkn : k = P.length := by omega
          subst hkn
          have hdd : decide ((j : Int) ∈ P.take P.length) = true := by rw [List.take_length]; exact decide_eq_true HIN.out
          rw [hdd]
          have hW3 : Hid (Below w20.heap.size w20 wr) := bnext hW2.out hW6.out
          have BW3 := Lib.hid (bnext B20.out hW3.out)
          obtain ⟨W3, hW3e⟩ : ∃ W3, wr = W3 := ⟨_, rfl⟩
          rw [hW3e] at hW3 BW3 ⊢
          clear hdd hW6 Q7 HIN
          by_cases hs0 : suC L1 T1 = 0
          · have FS := Lib.hid (su_facts hs0)
            have HSL := Lib.hid (su_good hs0)
            obtain ⟨n, hn⟩ : ∃ n : Nat, T1 = (n : Int) := ⟨T1.toNat, by have := FS.out; omega⟩
            have HM : Hid (suL L1 T1 = shTo L1 n) := by show _ = _; rw [HSL.out, hn]; rfl
            have U2w := Lib.hid (U2.out.later hW3.out)
            have R1w := Lib.hid (R1.out.later hW3.out)
            obtain ⟨M, hMe⟩ : ∃ M, suL L1 T1 = M := ⟨_, rfl⟩
            have hlenM : M.length = L1.length := by rw [← hMe, HM.out, shTo_length]
            have HMM : Hid (M = shTo L1 n) := by show _ = _; rw [← hMe]; exact HM.out
            rw [hMe] at U2w
            have hn2 : n ≤ 2000 := by have := FS.out; omega
            have hLp : 0 < L1.length := FS.out.2.2
            have EV := Lib.hid (shTo_even hLp n)
            have RG := Lib.hid (shTo_range L1 n)
            have SU : Hid (M.sum = T1) := by show _ = _; rw [HMM.out, shTo_sum hLp n, hn]
            have OK1 := Lib.hid FS.out.1
            have HLM := Lib.hid hlenM
            clear hn hlenM
            go_wp2_with fail
            try rw [hMe]
            go_loopw [38] (fun i wr => ∃ k : Nat, k ≤ L1.length ∧ i = .int .i64 (k : Int) ∧ Hid (Below W3.heap.size W3 wr)) (fun i _ => L1.length - (intOf i).toNat)
            case atStart => exact ⟨0, Nat.zero_le _, rfl, Below.refl _ _⟩
            case round =>
              obtain ⟨k, hk, rfl, hW4⟩ := hrel
              by_cases hlt : k < L1.length
              · have hlt' : (k : Int) < (M.length : Int) := by have := HLM.out; omega
                have hk0 : (0 : Int) ≤ (k : Int) := by omega
                go_wp2
                go_loopw [39] (fun i wq => ∃ j : Nat, j ≤ L1.length ∧ i = .int .i64 (j : Int) ∧ Hid (Below W3.heap.size W3 wq)) (fun i _ => L1.length - (intOf i).toNat)
                case atStart => exact ⟨0, Nat.zero_le _, rfl, hW4.out⟩
                case round =>
                  obtain ⟨j, hj, rfl, hW5⟩ := hrel
                  by_cases hjt : j < L1.length
                  · have hjt' : (j : Int) < (M.length : Int) := by have := HLM.out; omega
                    have hj0 : (0 : Int) ≤ (j : Int) := by omega
                    have hkl : (k : Int) < (L1.length : Int) := by omega
                    have hjl : (j : Int) < (L1.length : Int) := by omega
                    have U2q := Lib.hid ((U2w.out.later hW5.out).arg)
                    have R1q := Lib.hid ((R1w.out.later hW5.out).arg)
                    obtain ⟨bm, om, zm, em, hzm, hmat⟩ := U2q.out.at (show k < M.length by have := HLM.out; omega)
                    subst em
                    have m0 := hmat k zm hzm
                    obtain ⟨zj, hzj⟩ : ∃ zj, M[j]? = some zj := ⟨_, List.getElem?_eq_getElem (by have := HLM.out; omega)⟩
                    have m1 := hmat j zj hzj
                    obtain ⟨bl, ol, cl, el, hcl, hlat⟩ := R1q.out.at hlt
                    subst el
                    have u0 := uses_cell hlat hlt
                    have u1 := uses_cell hlat hjt
                    have ek : zm = og (shTo L1 n) k := by rw [← HMM.out]; exact (og_at hzm).symm
                    have ej : zj = og (shTo L1 n) j := by rw [← HMM.out]; exact (og_at hzj).symm
                    have r0 := RG.out k
                    have r1 := RG.out j
                    have v0 := uses_range OK1.out hlt
                    have v1 := uses_range OK1.out hjt
                    have hev := EV.out k j hlt hjt
                    rw [← ek] at r0 hev
                    rw [← ej] at r1 hev
                    obtain ⟨x, hx⟩ : ∃ x, usA L1 k = x := ⟨_, rfl⟩
                    obtain ⟨y, hy⟩ : ∃ y, usA L1 j = y := ⟨_, rfl⟩
                    rw [hx] at u0 v0 hev
                    rw [hy] at u1 v1 hev
                    have hw1 : IntKind.i64.wrap (x + zm) = x + zm := IntWalk.i64_in _ (by omega)
                    have hw2 : IntKind.i64.wrap (y + zj) = y + zj := IntWalk.i64_in _ (by omega)
                    have hw3 : IntKind.i64.wrap (y + zj + 1) = y + zj + 1 := IntWalk.i64_in _ (by omega)
                    clear hzm hmat hzj hcl hlat hx hy ek ej
                    by_cases hpos : 0 < zm
                    · have hle : ¬ y + zj + 1 < x + zm := by have := hev hpos; omega
                      have hd : decide (0 < zm) = true := decide_eq_true hpos
                      have hd2 : decide (y + zj + 1 < x + zm) = false := decide_eq_false hle
                      clear hev
                      go_wp2
                      go_quiet (fail)
                      go_wp2
                      go_roundw
                      case rel => exact ⟨j + 1, by omega, by go_num, below_drewN hW5.out _⟩
                      case measure => simp [intOf]; omega
                    · have hd : decide (0 < zm) = false := decide_eq_false hpos
                      clear hev
                      go_wp2
                      go_quiet (fail)
                      go_wp2
                      go_roundw
                      case rel => exact ⟨j + 1, by omega, by go_num, below_drewN hW5.out _⟩
                      case measure => simp [intOf]; omega
                  · have hge : ¬ (j : Int) < (M.length : Int) := by have := HLM.out; omega
                    go_wp2
                    go_roundw
                    case rel => exact ⟨k + 1, by omega, by go_num, hW5.out⟩
                    case measure => simp [intOf]; omega
              · have hge : ¬ (k : Int) < (M.length : Int) := by have := HLM.out; omega
                have U2q := Lib.hid ((U2w.out.later hW4.out).arg)
                have HRG : Hid (∀ (k : Nat) (z : Int), M[k]? = some z → 0 ≤ z ∧ z ≤ 1000000) := fun k z hz => by
                  have r0 := RG.out k
                  have ek : z = og (shTo L1 n) k := by rw [← HMM.out]; exact (og_at hz).symm
                  omega
                go_wp2_with fail
                refine (sum6 M q2 p2 (by have := HLM.out; omega) HRG.out _ U2q.out).mono ?_
                rintro e w31 ⟨rfl, hb⟩
                have B31 := Lib.hid (bnext (bnext BW3.out hW4.out) hb)
                clear hb
                rw [SU.out]
                go_wp2
                go_ret
                exact ⟨rfl, B31.out⟩
          · go_wp2
            go_ret
            exact ⟨rfl, BW3.out⟩
    · have hu1 : (umC L3 at3 t3 == 0) = false := by simpa using hu0
      have hw20 : Hid (Below w20.heap.size w20 w20) := hW.out
      have Bw20 := Lib.hid (bnext B20.out hw20.out)
      by_cases hs0 : suC L1 T1 = 0
      · have FS := Lib.hid (su_facts hs0)
        have HSL := Lib.hid (su_good hs0)
        obtain ⟨n, hn⟩ : ∃ n : Nat, T1 = (n : Int) := ⟨T1.toNat, by have := FS.out; omega⟩
        have HM : Hid (suL L1 T1 = shTo L1 n) := by show _ = _; rw [HSL.out, hn]; rfl
        have U2w := Lib.hid (U2.out.later hw20.out)
        have R1w := Lib.hid (R1.out.later hw20.out)
        obtain ⟨M, hMe⟩ : ∃ M, suL L1 T1 = M := ⟨_, rfl⟩
        have hlenM : M.length = L1.length := by rw [← hMe, HM.out, shTo_length]
        have HMM : Hid (M = shTo L1 n) := by show _ = _; rw [← hMe]; exact HM.out
        rw [hMe] at U2w
        have hn2 : n ≤ 2000 := by have := FS.out; omega
        have hLp : 0 < L1.length := FS.out.2.2
        have EV := Lib.hid (shTo_even hLp n)
        have RG := Lib.hid (shTo_range L1 n)
        have SU : Hid (M.sum = T1) := by show _ = _; rw [HMM.out, shTo_sum hLp n, hn]
        have OK1 := Lib.hid FS.out.1
        have HLM := Lib.hid hlenM
        clear hn hlenM
        go_wp2_with fail
        try rw [hMe]
        go_loopw [38] (fun i wr => ∃ k : Nat, k ≤ L1.length ∧ i = .int .i64 (k : Int) ∧ Hid (Below w20.heap.size w20 wr)) (fun i _ => L1.length - (intOf i).toNat)
        case atStart => exact ⟨0, Nat.zero_le _, rfl, Below.refl _ _⟩
        case round =>
          obtain ⟨k, hk, rfl, hW4⟩ := hrel
          by_cases hlt : k < L1.length
          · have hlt' : (k : Int) < (M.length : Int) := by have := HLM.out; omega
            have hk0 : (0 : Int) ≤ (k : Int) := by omega
            go_wp2
            go_loopw [39] (fun i wq => ∃ j : Nat, j ≤ L1.length ∧ i = .int .i64 (j : Int) ∧ Hid (Below w20.heap.size w20 wq)) (fun i _ => L1.length - (intOf i).toNat)
            case atStart => exact ⟨0, Nat.zero_le _, rfl, hW4.out⟩
            case round =>
              obtain ⟨j, hj, rfl, hW5⟩ := hrel
              by_cases hjt : j < L1.length
              · have hjt' : (j : Int) < (M.length : Int) := by have := HLM.out; omega
                have hj0 : (0 : Int) ≤ (j : Int) := by omega
                have hkl : (k : Int) < (L1.length : Int) := by omega
                have hjl : (j : Int) < (L1.length : Int) := by omega
                have U2q := Lib.hid ((U2w.out.later hW5.out).arg)
                have R1q := Lib.hid ((R1w.out.later hW5.out).arg)
                obtain ⟨bm, om, zm, em, hzm, hmat⟩ := U2q.out.at (show k < M.length by have := HLM.out; omega)
                subst em
                have m0 := hmat k zm hzm
                obtain ⟨zj, hzj⟩ : ∃ zj, M[j]? = some zj := ⟨_, List.getElem?_eq_getElem (by have := HLM.out; omega)⟩
                have m1 := hmat j zj hzj
                obtain ⟨bl, ol, cl, el, hcl, hlat⟩ := R1q.out.at hlt
                subst el
                have u0 := uses_cell hlat hlt
                have u1 := uses_cell hlat hjt
                have ek : zm = og (shTo L1 n) k := by rw [← HMM.out]; exact (og_at hzm).symm
                have ej : zj = og (shTo L1 n) j := by rw [← HMM.out]; exact (og_at hzj).symm
                have r0 := RG.out k
                have r1 := RG.out j
                have v0 := uses_range OK1.out hlt
                have v1 := uses_range OK1.out hjt
                have hev := EV.out k j hlt hjt
                rw [← ek] at r0 hev
                rw [← ej] at r1 hev
                obtain ⟨x, hx⟩ : ∃ x, usA L1 k = x := ⟨_, rfl⟩
                obtain ⟨y, hy⟩ : ∃ y, usA L1 j = y := ⟨_, rfl⟩
                rw [hx] at u0 v0 hev
                rw [hy] at u1 v1 hev
                have hw1 : IntKind.i64.wrap (x + zm) = x + zm := IntWalk.i64_in _ (by omega)
                have hw2 : IntKind.i64.wrap (y + zj) = y + zj := IntWalk.i64_in _ (by omega)
                have hw3 : IntKind.i64.wrap (y + zj + 1) = y + zj + 1 := IntWalk.i64_in _ (by omega)
                clear hzm hmat hzj hcl hlat hx hy ek ej
                by_cases hpos : 0 < zm
                · have hle : ¬ y + zj + 1 < x + zm := by have := hev hpos; omega
                  have hd : decide (0 < zm) = true := decide_eq_true hpos
                  have hd2 : decide (y + zj + 1 < x + zm) = false := decide_eq_false hle
                  clear hev
                  go_wp2
                  go_quiet (fail)
                  go_wp2
                  go_roundw
                  case rel => exact ⟨j + 1, by omega, by go_num, below_drewN hW5.out _⟩
                  case measure => simp [intOf]; omega
                · have hd : decide (0 < zm) = false := decide_eq_false hpos
                  clear hev
                  go_wp2
                  go_quiet (fail)
                  go_wp2
                  go_roundw
                  case rel => exact ⟨j + 1, by omega, by go_num, below_drewN hW5.out _⟩
                  case measure => simp [intOf]; omega
              · have hge : ¬ (j : Int) < (M.length : Int) := by have := HLM.out; omega
                go_wp2
                go_roundw
                case rel => exact ⟨k + 1, by omega, by go_num, hW5.out⟩
                case measure => simp [intOf]; omega
          · have hge : ¬ (k : Int) < (M.length : Int) := by have := HLM.out; omega
            have U2q := Lib.hid ((U2w.out.later hW4.out).arg)
            have HRG : Hid (∀ (k : Nat) (z : Int), M[k]? = some z → 0 ≤ z ∧ z ≤ 1000000) := fun k z hz => by
              have r0 := RG.out k
              have ek : z = og (shTo L1 n) k := by rw [← HMM.out]; exact (og_at hz).symm
              omega
            go_wp2_with fail
            refine (sum6 M q2 p2 (by have := HLM.out; omega) HRG.out _ U2q.out).mono ?_
            rintro e w31 ⟨rfl, hb⟩
            have B31 := Lib.hid (bnext (bnext Bw20.out hW4.out) hb)
            clear hb
            rw [SU.out]
            go_wp2
            go_ret
            exact ⟨rfl, B31.out⟩
      · go_wp2
        go_ret
        exact ⟨rfl, Bw20.out⟩
end Go.Proofs.YtdandhmallbemaaDoor
