/-
  CheapestBlend and CountBlends: the program's answers.
-/
import Derived.Test.YtpmklnldgafkjaaKeepJ
import Derived.Test.YtpmklnldgafkjaaCompI
import Derived.Test.YtpmklnldgafkjaaCheck
import Derived.Test.YtpmklnldgafkjaaClayV
import Derived.WalkSpells
namespace Go.Proofs.Ytpmklnldgafkjaa
open Go.ChangeShapes Go.WideShapes Go.ChangeAt Go.RowKit Go.Joins

set_option maxRecDepth 100000 in
set_option maxHeartbeats 1600000 in
theorem checkT_impl (L : List Cl) (a : Option Addr) (cap : Nat) (hl : L.length ≤ 1048576) (t : Int) (x : Li) (w : World) (ha : ClArg w a L) :
    Calls Try.prog 84 #[.slice a L.length cap, .int .i64 t, .agg #[.int .i64 x.lo, .int .i64 x.hi, .int .i64 x.ml, .int .i64 x.ms]] w fun e w' => e = .returned (.int .i64 (codeT L t x)) ∧ Below w.heap.size w w' := by
  have HX := Lib.hid (fun wx (h : Below (w.alloc (.cells #[.int .i64 x.lo, .int .i64 x.hi, .int .i64 x.ml, .int .i64 x.ms] 52)).heap.size (w.alloc (.cells #[.int .i64 x.lo, .int .i64 x.hi, .int .i64 x.ml, .int .i64 x.ms] 52)) wx) => range_below (range_new w #[.int .i64 x.lo, .int .i64 x.hi, .int .i64 x.ml, .int .i64 x.ms] 52) h)
  have B0 : Hid (Below w.heap.size w (w.alloc (.cells #[.int .i64 x.lo, .int .i64 x.hi, .int .i64 x.ml, .int .i64 x.ms] 52))) := balloc0 _ _
  obtain ⟨W0, hW⟩ : ∃ W0, (w.alloc (.cells #[.int .i64 x.lo, .int .i64 x.hi, .int .i64 x.ml, .int .i64 x.ms] 52)) = W0 := ⟨_, rfl⟩
  rw [hW] at HX B0
  have HW := Lib.hid hW
  have C := Lib.hid (valid_impl L a cap hl W0 (ha.later B0.out))
  have CW := Lib.hid (within_impl t 1 12)
  have CL := Lib.hid (lim_impl x)
  clear hW ha
  cases h1 : okCls L
  · rw [h1] at C
    have HO : Hid (codeT L t x = 1) := by show codeT L t x = 1; simp [codeT, h1]
    clear h1
    go_enter Try.func84, Try.ntmps84
    go_wp2_with fail
    rw [HW.out]
    refine C.out.mono ?_
    rintro e w1 ⟨rfl, hb1⟩
    go_wp2
    go_ret
    exact ⟨ret_int HO.out.symm, B0.out.trans (hb1.mono B0.out.size)⟩
  rw [h1] at C
  cases h2 : inB t 1 12
  · rw [h2] at CW
    have HO : Hid (codeT L t x = 2) := by show codeT L t x = 2; simp [codeT, h1, h2]
    clear h1 h2
    go_enter Try.func84, Try.ntmps84
    go_wp2_with fail
    rw [HW.out]
    refine C.out.mono ?_
    rintro e w1 ⟨rfl, hb1⟩
    have B1 := Lib.hid (B0.out.trans (hb1.mono B0.out.size))
    clear hb1
    go_wp2_with fail
    refine (CW.out _).mono ?_
    rintro e w2 ⟨rfl, rfl⟩
    go_wp2
    go_ret
    exact ⟨ret_int HO.out.symm, B1.out⟩
  rw [h2] at CW
  cases h3 : x.ok
  all_goals
    rw [h3] at CL
    have HO := Lib.hid (show codeT L t x = _ by simp only [codeT, h1, h2, h3]; rfl)
    clear h1 h2 h3
    go_enter Try.func84, Try.ntmps84
    go_wp2_with fail
    rw [HW.out]
    refine C.out.mono ?_
    rintro e w1 ⟨rfl, hb1⟩
    have B1 := Lib.hid (B0.out.trans (hb1.mono B0.out.size))
    have R1 := HX.out _ hb1
    have c0 : w1.cell? ⟨w.heap.size, 0, none⟩ = some (.int .i64 x.lo) := R1 0 _ rfl
    have c1 : w1.cell? ⟨w.heap.size, 1, none⟩ = some (.int .i64 x.hi) := R1 1 _ rfl
    have c2 : w1.cell? ⟨w.heap.size, 2, none⟩ = some (.int .i64 x.ml) := R1 2 _ rfl
    have c3 : w1.cell? ⟨w.heap.size, 3, none⟩ = some (.int .i64 x.ms) := R1 3 _ rfl
    clear hb1 R1
    go_wp2_with fail
    refine (CW.out _).mono ?_
    rintro e w2 ⟨rfl, rfl⟩
    go_wp2_with fail
    refine (CL.out _).mono ?_
    rintro e w3 ⟨rfl, hb3⟩
    have B3 := Lib.hid (bnext B1.out hb3)
    clear hb3 c0 c1 c2 c3
    go_wp2
    go_ret
    exact ⟨ret_int HO.out.symm, B3.out⟩

set_option maxRecDepth 100000 in
set_option maxHeartbeats 1600000 in
theorem count_impl (L : List Cl) (a : Option Addr) (cap : Nat) (hl : L.length ≤ 1048576) (t : Int) (x : Li) (w : World) (ha : ClArg w a L) :
    Calls Try.prog 47 #[.slice a L.length cap, .int .i64 t, .agg #[.int .i64 x.lo, .int .i64 x.hi, .int .i64 x.ml, .int .i64 x.ms]] w fun e w' => e = .returned (.tuple #[.int .i64 (cntV L t x), .int .i64 (codeT L t x)]) ∧ Below w.heap.size w w' := by
  have HX := Lib.hid (fun wx (h : Below (w.alloc (.cells #[.int .i64 x.lo, .int .i64 x.hi, .int .i64 x.ml, .int .i64 x.ms] 52)).heap.size (w.alloc (.cells #[.int .i64 x.lo, .int .i64 x.hi, .int .i64 x.ml, .int .i64 x.ms] 52)) wx) => range_below (range_new w #[.int .i64 x.lo, .int .i64 x.hi, .int .i64 x.ml, .int .i64 x.ms] 52) h)
  have B0 : Hid (Below w.heap.size w (w.alloc (.cells #[.int .i64 x.lo, .int .i64 x.hi, .int .i64 x.ml, .int .i64 x.ms] 52))) := balloc0 _ _
  obtain ⟨W0, hW⟩ : ∃ W0, (w.alloc (.cells #[.int .i64 x.lo, .int .i64 x.hi, .int .i64 x.ml, .int .i64 x.ms] 52)) = W0 := ⟨_, rfl⟩
  rw [hW] at HX B0
  have HW := Lib.hid hW
  have R0 := HX.out _ (Below.refl _ _)
  have c0 : W0.cell? ⟨w.heap.size, 0, none⟩ = some (.int .i64 x.lo) := R0 0 _ rfl
  have c1 : W0.cell? ⟨w.heap.size, 1, none⟩ = some (.int .i64 x.hi) := R0 1 _ rfl
  have c2 : W0.cell? ⟨w.heap.size, 2, none⟩ = some (.int .i64 x.ml) := R0 2 _ rfl
  have c3 : W0.cell? ⟨w.heap.size, 3, none⟩ = some (.int .i64 x.ms) := R0 3 _ rfl
  have C := Lib.hid (checkT_impl L a cap hl t x W0 (ha.later B0.out))
  have HA := Lib.hid ha
  clear hW ha R0
  by_cases h0 : codeT L t x = 0
  case neg =>
    obtain ⟨q, hq⟩ : ∃ q, codeT L t x = q := ⟨_, rfl⟩
    have HO := Lib.hid (cheap_code hq (by rw [← hq]; exact h0))
    have HQ := Lib.hid hq
    rw [hq] at h0 C
    clear hq
    go_enter Try.func47, Try.ntmps47
    go_wp2_with fail
    rw [HW.out]
    go_wp2_with fail
    refine C.out.mono ?_
    rintro e w1 ⟨rfl, hb1⟩
    have B1 := Lib.hid (B0.out.trans (hb1.mono B0.out.size))
    clear hb1 c0 c1 c2 c3
    go_wp2
    refine bodyPost_ret (v := .tuple #[.int .i64 0, .int .i64 q]) (by simp [results, Try.results47, go_sem]) rfl ⟨by rw [HO.out.2.2, HQ.out], B1.out⟩
  obtain ⟨h1, ⟨t0, t1⟩, h3⟩ := codeT_facts h0
  have hv0 : cntV L t x = ((keptK L t x).length : Nat) := by simp [cntV, h0]
  have hk : keptK L t x = kp (okK L x) [] L.length t.toNat := rfl
  have HF := keptK_few h0
  obtain ⟨T, rfl⟩ : ∃ T : Nat, t = (T : Int) := ⟨t.toNat, by omega⟩
  have W := Lib.hid (fun wx (h : Below w.heap.size w wx) => kept_impl L a cap T x (by omega) (by omega) h1 h3 wx (HA.out.later h))
  rw [Int.toNat_natCast] at hk
  rw [← hk] at W
  obtain ⟨K, hK⟩ : ∃ K, keptK L (T : Int) x = K := ⟨_, rfl⟩
  rw [hK] at W hv0 HF
  have HV := Lib.hid hv0
  have HQ := Lib.hid h0
  rw [h0] at C
  clear hk hK hv0 h0 h1 h3
  go_enter Try.func47, Try.ntmps47
  go_wp2_with fail
  rw [HW.out]
  go_wp2_with fail
  refine C.out.mono ?_
  rintro e w1 ⟨rfl, hb1⟩
  have B1 := Lib.hid (B0.out.trans (hb1.mono B0.out.size))
  have R1 := HX.out _ hb1
  clear c0 c1 c2 c3
  have c0 : w1.cell? ⟨w.heap.size, 0, none⟩ = some (.int .i64 x.lo) := R1 0 _ rfl
  have c1 : w1.cell? ⟨w.heap.size, 1, none⟩ = some (.int .i64 x.hi) := R1 1 _ rfl
  have c2 : w1.cell? ⟨w.heap.size, 2, none⟩ = some (.int .i64 x.ml) := R1 2 _ rfl
  have c3 : w1.cell? ⟨w.heap.size, 3, none⟩ = some (.int .i64 x.ms) := R1 3 _ rfl
  clear hb1 R1
  go_wp2_with fail
  refine (W.out _ B1.out).mono ?_
  rintro e w2 ⟨vk, rfl, hR, hb2⟩
  have B2 := Lib.hid (bnext B1.out hb2)
  obtain ⟨rows, k1, -⟩ := hR
  clear hb2 c0 c1 c2 c3
  rcases k1.2 with ⟨rfl, hn⟩ | ⟨g, c, cur, rfl, -⟩
  · have HN : Hid ((K.length : Int) = 0) := by show (K.length : Int) = 0; omega
    clear hn k1
    go_wp2
    refine bodyPost_ret (v := .tuple #[.int .i64 0, .int .i64 0]) (by simp [results, Try.results47, go_sem]) rfl ⟨by rw [HV.out, HQ.out, HN.out], B2.out⟩
  · clear k1
    go_wp2
    refine bodyPost_ret (v := .tuple #[.int .i64 (K.length : Nat), .int .i64 0]) (by simp [results, Try.results47, go_sem]) rfl ⟨by rw [HV.out, HQ.out], B2.out⟩
end Go.Proofs.Ytpmklnldgafkjaa
