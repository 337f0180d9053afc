/-
  ShrinkOf, LimeOf and BlendPrice: the program's and the model's answers.
-/
import Derived.Test.YtlglijalhacmhabWsum
import Derived.Test.YtlglijalhacmhabCheck
namespace Go.Proofs.Ytlglijalhacmhab
open Go.ChangeShapes Go.WideShapes Go.ChangeAt Go.RowKit Go.Joins

set_option maxRecDepth 100000 in
set_option maxHeartbeats 1600000 in
theorem value_shrink (L : List Cl) (a : Option Addr) (cap : Nat) (hl : L.length ≤ 1048576) (P : List Int) (a' : Option Addr) (cap' : Nat) (hl' : P.length ≤ 1048576) (w : World) (ha : ClArg w a L) (ha' : IntArg w a' P) :
    Calls Try.prog 49 #[.slice a L.length cap, .slice a' P.length cap', .func (.func 50) #[] #[]] w fun e w' => e = meanE Cl.sh L P ∧ Below w.heap.size w w' := by
  have C := Lib.hid (fun wx (h : Below w.heap.size w wx) => check_impl L a cap hl P a' cap' hl' ⟨0, 0, 0, 0⟩ wx (ha.later h) (ha'.later h))
  have hx : (⟨0, 0, 0, 0⟩ : Li).ok = true := by decide
  rw [hx] at C
  clear hx
  by_cases h1 : codeP L P true = 0
  case neg =>
    obtain ⟨q, hq⟩ : ∃ q, codeP L P true = q := ⟨_, rfl⟩
    have hE : Hid (meanE Cl.sh L P = fracE 0 0 q) := by show meanE _ L P = _; rw [meanE, if_neg h1, hq]
    rw [hq] at C h1
    clear hq ha ha'
    go_enter Try.func49, Try.ntmps49
    go_wp2_with fail
    refine (C.out _ (balloc0 _ _)).mono ?_
    rintro e w1 ⟨rfl, hb1⟩
    have B1 := Lib.hid (bnext (balloc0 _ _) hb1)
    obtain ⟨hc1, hf1⟩ := bcell hb1
    have hz1 : w.heap.size < w1.heap.size := by have := hb1.size; simp at this; omega
    clear hb1
    go_wp2
    refine bodyPost_ret (v := .tuple #[.agg #[.int .i64 0, .int .i64 0], .int .i64 q]) (by simp [results, Try.results49, go_sem, hc1]) rfl ⟨hE.out.symm, ?_⟩
    exact (B1.out.setCell (Nat.le_refl _) _).setCell (Nat.le_refl _) _
  obtain ⟨hL, hPL, hP, _, _⟩ := codeP_facts h1
  obtain ⟨s0, s1, _⟩ := codeP_sum h1
  obtain ⟨t0, t1⟩ := kind_total small_sh h1
  have hE : Hid (meanE Cl.sh L P = fracE (lowN (total Cl.sh L P) (sumP P)) (lowD (total Cl.sh L P) (sumP P)) 0) := by show meanE _ L P = _; rw [meanE, if_pos h1]
  have C2 := Lib.hid (fun wx (h : Below w.heap.size w wx) => weighted_shrink L a cap P a' cap' hL hP hPL wx (ha.later h) (ha'.later h))
  have C3 := Lib.hid (fun wx (h : Below w.heap.size w wx) => sum_impl P hP a' cap' hl' wx (ha'.later h))
  rw [h1] at C
  obtain ⟨X, hX⟩ : ∃ X, total Cl.sh L P = X := ⟨_, rfl⟩
  obtain ⟨Y, hY⟩ : ∃ Y, sumP P = Y := ⟨_, rfl⟩
  rw [hX, hY] at hE
  rw [hX] at C2 t0 t1
  rw [hY] at C3 s0 s1
  have C4 := Lib.hid (lowest_impl X Y (by omega) (by omega) (by omega) (by omega))
  obtain ⟨N, hN⟩ : ∃ N, lowN X Y = N := ⟨_, rfl⟩
  obtain ⟨D, hD⟩ : ∃ D, lowD X Y = D := ⟨_, rfl⟩
  rw [hN, hD] at hE C4
  clear hX hY hN hD ha ha' hL hP hPL h1 s0 s1 t0 t1
  go_enter Try.func49, Try.ntmps49
  go_wp2_with fail
  refine (C.out _ (balloc0 _ _)).mono ?_
  rintro e w1 ⟨rfl, hb1⟩
  have B1 := Lib.hid (bnext (balloc0 _ _) hb1)
  have RN : Hid (w1.there w.heap.size 0 2) := there_below (there_new w #[.int .i64 0, .int .i64 0] 26 2 rfl) hb1
  clear hb1
  go_wp2_with fail
  refine (C2.out _ B1.out).mono ?_
  rintro e w2 ⟨rfl, hb2⟩
  have B2 := Lib.hid (bnext B1.out hb2)
  have RN2 := Lib.hid (there_below RN.out hb2)
  clear hb2
  go_wp2_with fail
  refine (C3.out _ B2.out).mono ?_
  rintro e w3 ⟨rfl, hb3⟩
  have B3 := Lib.hid (bnext B2.out hb3)
  have RN3 := Lib.hid (there_below RN2.out hb3)
  clear hb3
  go_wp2_with fail
  refine (C4.out _).mono ?_
  rintro e w4 ⟨rfl, hb4⟩
  have B4 := Lib.hid (bnext B3.out hb4)
  have RN4 := there_below RN3.out hb4
  obtain ⟨u0, g0, f0⟩ := there_at RN4 (k := 0) (by omega)
  obtain ⟨u1, g1, f1⟩ := there_at RN4 (k := 1) (by omega)
  clear hb4 RN4
  go_wp2
  refine bodyPost_ret (v := .tuple #[.agg #[.int .i64 N, .int .i64 D], .int .i64 0]) (by simp [results, Try.results49, go_sem, g0, g1]) rfl ⟨hE.out.symm, ?_⟩
  exact (B4.out.setCell (Nat.le_refl _) _).setCell (Nat.le_refl _) _

theorem meanE_frac_shrink (L : List Cl) (P : List Int) : ∃ n d c, meanE Cl.sh L P = .returned (.tuple #[.agg #[.int .i64 n, .int .i64 d], .int .i64 c]) := by
  unfold meanE
  split
  · exact ⟨_, _, _, rfl⟩
  · exact ⟨_, _, _, rfl⟩

set_option maxRecDepth 100000 in
theorem top_impl_shrink (L : List Cl) (a : Option Addr) (cap : Nat) (hl : L.length ≤ 1048576) (P : List Int) (a' : Option Addr) (cap' : Nat) (hl' : P.length ≤ 1048576) (w : World) (ha : ClArg w a L) (ha' : IntArg w a' P) :
    Calls Try.prog 15 #[.slice a L.length cap, .slice a' P.length cap'] w fun e w' => e = meanE Cl.sh L P ∧ Below w.heap.size w w' := by
  have C := Lib.hid (fun wx (h : Below w.heap.size w wx) => value_shrink L a cap hl P a' cap' hl' wx (ha.later h) (ha'.later h))
  obtain ⟨n, d, c, hE⟩ := meanE_frac_shrink L P
  have HE := Lib.hid hE
  rw [hE] at C
  clear hE ha ha'
  go_enter Try.func15, Try.ntmps15
  go_wp2_with fail
  refine (C.out _ (balloc0 _ _)).mono ?_
  rintro e w1 ⟨rfl, hb1⟩
  have B1 := Lib.hid (bnext (balloc0 _ _) hb1)
  have RN := there_below (there_new w #[.int .i64 0, .int .i64 0] 26 2 rfl) hb1
  obtain ⟨u0, g0, f0⟩ := there_at RN (k := 0) (by omega)
  obtain ⟨u1, g1, f1⟩ := there_at RN (k := 1) (by omega)
  clear hb1 RN
  go_wp2
  refine bodyPost_ret (v := .tuple #[.agg #[.int .i64 n, .int .i64 d], .int .i64 c]) (by simp [results, Try.results15, go_sem, g0, g1]) rfl ⟨HE.out.symm, ?_⟩
  exact (B1.out.setCell (Nat.le_refl _) _).setCell (Nat.le_refl _) _

set_option maxRecDepth 100000 in
theorem top_spec_shrink (L : List Cl) (a : Option Addr) (cap : Nat) (hl : L.length ≤ 1048576) (P : List Int) (a' : Option Addr) (cap' : Nat) (hl' : P.length ≤ 1048576) (w : World) (ha : ClArg w a L) (ha' : IntArg w a' P) :
    Calls Try.prog 12 #[.slice a L.length cap, .slice a' P.length cap'] w fun e w' => e = meanE Cl.sh L P ∧ Below w.heap.size w w' := by
  have C := Lib.hid (fun wx (h : Below w.heap.size w wx) => mean_spec 0 (by omega) L a cap hl P a' cap' hl' wx (ha.later h) (ha'.later h))
  obtain ⟨n, d, c, hE⟩ := meanE_frac_shrink L P
  have HE := Lib.hid hE
  have hk : kindF 0 = Cl.sh := rfl
  rw [hk] at C
  rw [hE] at C
  clear hE ha ha'
  go_enter Try.func12, Try.ntmps12
  go_wp2_with fail
  refine (C.out _ (balloc0 _ _)).mono ?_
  rintro e w1 ⟨rfl, hb1⟩
  have B1 := Lib.hid (bnext (balloc0 _ _) hb1)
  have RN := there_below (there_new w #[.int .i64 0, .int .i64 0] 26 2 rfl) hb1
  obtain ⟨u0, g0, f0⟩ := there_at RN (k := 0) (by omega)
  obtain ⟨u1, g1, f1⟩ := there_at RN (k := 1) (by omega)
  clear hb1 RN
  go_wp2
  refine bodyPost_ret (v := .tuple #[.agg #[.int .i64 n, .int .i64 d], .int .i64 c]) (by simp [results, Try.results12, go_sem, g0, g1]) rfl ⟨HE.out.symm, ?_⟩
  exact (B1.out.setCell (Nat.le_refl _) _).setCell (Nat.le_refl _) _

set_option maxRecDepth 100000 in
set_option maxHeartbeats 1600000 in
theorem value_lime (L : List Cl) (a : Option Addr) (cap : Nat) (hl : L.length ≤ 1048576) (P : List Int) (a' : Option Addr) (cap' : Nat) (hl' : P.length ≤ 1048576) (w : World) (ha : ClArg w a L) (ha' : IntArg w a' P) :
    Calls Try.prog 49 #[.slice a L.length cap, .slice a' P.length cap', .func (.func 52) #[] #[]] w fun e w' => e = meanE Cl.li L P ∧ Below w.heap.size w w' := by
  have C := Lib.hid (fun wx (h : Below w.heap.size w wx) => check_impl L a cap hl P a' cap' hl' ⟨0, 0, 0, 0⟩ wx (ha.later h) (ha'.later h))
  have hx : (⟨0, 0, 0, 0⟩ : Li).ok = true := by decide
  rw [hx] at C
  clear hx
  by_cases h1 : codeP L P true = 0
  case neg =>
    obtain ⟨q, hq⟩ : ∃ q, codeP L P true = q := ⟨_, rfl⟩
    have hE : Hid (meanE Cl.li L P = fracE 0 0 q) := by show meanE _ L P = _; rw [meanE, if_neg h1, hq]
    rw [hq] at C h1
    clear hq ha ha'
    go_enter Try.func49, Try.ntmps49
    go_wp2_with fail
    refine (C.out _ (balloc0 _ _)).mono ?_
    rintro e w1 ⟨rfl, hb1⟩
    have B1 := Lib.hid (bnext (balloc0 _ _) hb1)
    obtain ⟨hc1, hf1⟩ := bcell hb1
    have hz1 : w.heap.size < w1.heap.size := by have := hb1.size; simp at this; omega
    clear hb1
    go_wp2
    refine bodyPost_ret (v := .tuple #[.agg #[.int .i64 0, .int .i64 0], .int .i64 q]) (by simp [results, Try.results49, go_sem, hc1]) rfl ⟨hE.out.symm, ?_⟩
    exact (B1.out.setCell (Nat.le_refl _) _).setCell (Nat.le_refl _) _
  obtain ⟨hL, hPL, hP, _, _⟩ := codeP_facts h1
  obtain ⟨s0, s1, _⟩ := codeP_sum h1
  obtain ⟨t0, t1⟩ := kind_total small_li h1
  have hE : Hid (meanE Cl.li L P = fracE (lowN (total Cl.li L P) (sumP P)) (lowD (total Cl.li L P) (sumP P)) 0) := by show meanE _ L P = _; rw [meanE, if_pos h1]
  have C2 := Lib.hid (fun wx (h : Below w.heap.size w wx) => weighted_lime L a cap P a' cap' hL hP hPL wx (ha.later h) (ha'.later h))
  have C3 := Lib.hid (fun wx (h : Below w.heap.size w wx) => sum_impl P hP a' cap' hl' wx (ha'.later h))
  rw [h1] at C
  obtain ⟨X, hX⟩ : ∃ X, total Cl.li L P = X := ⟨_, rfl⟩
  obtain ⟨Y, hY⟩ : ∃ Y, sumP P = Y := ⟨_, rfl⟩
  rw [hX, hY] at hE
  rw [hX] at C2 t0 t1
  rw [hY] at C3 s0 s1
  have C4 := Lib.hid (lowest_impl X Y (by omega) (by omega) (by omega) (by omega))
  obtain ⟨N, hN⟩ : ∃ N, lowN X Y = N := ⟨_, rfl⟩
  obtain ⟨D, hD⟩ : ∃ D, lowD X Y = D := ⟨_, rfl⟩
  rw [hN, hD] at hE C4
  clear hX hY hN hD ha ha' hL hP hPL h1 s0 s1 t0 t1
  go_enter Try.func49, Try.ntmps49
  go_wp2_with fail
  refine (C.out _ (balloc0 _ _)).mono ?_
  rintro e w1 ⟨rfl, hb1⟩
  have B1 := Lib.hid (bnext (balloc0 _ _) hb1)
  have RN : Hid (w1.there w.heap.size 0 2) := there_below (there_new w #[.int .i64 0, .int .i64 0] 26 2 rfl) hb1
  clear hb1
  go_wp2_with fail
  refine (C2.out _ B1.out).mono ?_
  rintro e w2 ⟨rfl, hb2⟩
  have B2 := Lib.hid (bnext B1.out hb2)
  have RN2 := Lib.hid (there_below RN.out hb2)
  clear hb2
  go_wp2_with fail
  refine (C3.out _ B2.out).mono ?_
  rintro e w3 ⟨rfl, hb3⟩
  have B3 := Lib.hid (bnext B2.out hb3)
  have RN3 := Lib.hid (there_below RN2.out hb3)
  clear hb3
  go_wp2_with fail
  refine (C4.out _).mono ?_
  rintro e w4 ⟨rfl, hb4⟩
  have B4 := Lib.hid (bnext B3.out hb4)
  have RN4 := there_below RN3.out hb4
  obtain ⟨u0, g0, f0⟩ := there_at RN4 (k := 0) (by omega)
  obtain ⟨u1, g1, f1⟩ := there_at RN4 (k := 1) (by omega)
  clear hb4 RN4
  go_wp2
  refine bodyPost_ret (v := .tuple #[.agg #[.int .i64 N, .int .i64 D], .int .i64 0]) (by simp [results, Try.results49, go_sem, g0, g1]) rfl ⟨hE.out.symm, ?_⟩
  exact (B4.out.setCell (Nat.le_refl _) _).setCell (Nat.le_refl _) _

theorem meanE_frac_lime (L : List Cl) (P : List Int) : ∃ n d c, meanE Cl.li L P = .returned (.tuple #[.agg #[.int .i64 n, .int .i64 d], .int .i64 c]) := by
  unfold meanE
  split
  · exact ⟨_, _, _, rfl⟩
  · exact ⟨_, _, _, rfl⟩

set_option maxRecDepth 100000 in
theorem top_impl_lime (L : List Cl) (a : Option Addr) (cap : Nat) (hl : L.length ≤ 1048576) (P : List Int) (a' : Option Addr) (cap' : Nat) (hl' : P.length ≤ 1048576) (w : World) (ha : ClArg w a L) (ha' : IntArg w a' P) :
    Calls Try.prog 20 #[.slice a L.length cap, .slice a' P.length cap'] w fun e w' => e = meanE Cl.li L P ∧ Below w.heap.size w w' := by
  have C := Lib.hid (fun wx (h : Below w.heap.size w wx) => value_lime L a cap hl P a' cap' hl' wx (ha.later h) (ha'.later h))
  obtain ⟨n, d, c, hE⟩ := meanE_frac_lime L P
  have HE := Lib.hid hE
  rw [hE] at C
  clear hE ha ha'
  go_enter Try.func20, Try.ntmps20
  go_wp2_with fail
  refine (C.out _ (balloc0 _ _)).mono ?_
  rintro e w1 ⟨rfl, hb1⟩
  have B1 := Lib.hid (bnext (balloc0 _ _) hb1)
  have RN := there_below (there_new w #[.int .i64 0, .int .i64 0] 26 2 rfl) hb1
  obtain ⟨u0, g0, f0⟩ := there_at RN (k := 0) (by omega)
  obtain ⟨u1, g1, f1⟩ := there_at RN (k := 1) (by omega)
  clear hb1 RN
  go_wp2
  refine bodyPost_ret (v := .tuple #[.agg #[.int .i64 n, .int .i64 d], .int .i64 c]) (by simp [results, Try.results20, go_sem, g0, g1]) rfl ⟨HE.out.symm, ?_⟩
  exact (B1.out.setCell (Nat.le_refl _) _).setCell (Nat.le_refl _) _

set_option maxRecDepth 100000 in
theorem top_spec_lime (L : List Cl) (a : Option Addr) (cap : Nat) (hl : L.length ≤ 1048576) (P : List Int) (a' : Option Addr) (cap' : Nat) (hl' : P.length ≤ 1048576) (w : World) (ha : ClArg w a L) (ha' : IntArg w a' P) :
    Calls Try.prog 19 #[.slice a L.length cap, .slice a' P.length cap'] w fun e w' => e = meanE Cl.li L P ∧ Below w.heap.size w w' := by
  have C := Lib.hid (fun wx (h : Below w.heap.size w wx) => mean_spec 1 (by omega) L a cap hl P a' cap' hl' wx (ha.later h) (ha'.later h))
  obtain ⟨n, d, c, hE⟩ := meanE_frac_lime L P
  have HE := Lib.hid hE
  have hk : kindF 1 = Cl.li := rfl
  rw [hk] at C
  rw [hE] at C
  clear hE ha ha'
  go_enter Try.func19, Try.ntmps19
  go_wp2_with fail
  refine (C.out _ (balloc0 _ _)).mono ?_
  rintro e w1 ⟨rfl, hb1⟩
  have B1 := Lib.hid (bnext (balloc0 _ _) hb1)
  have RN := there_below (there_new w #[.int .i64 0, .int .i64 0] 26 2 rfl) hb1
  obtain ⟨u0, g0, f0⟩ := there_at RN (k := 0) (by omega)
  obtain ⟨u1, g1, f1⟩ := there_at RN (k := 1) (by omega)
  clear hb1 RN
  go_wp2
  refine bodyPost_ret (v := .tuple #[.agg #[.int .i64 n, .int .i64 d], .int .i64 c]) (by simp [results, Try.results19, go_sem, g0, g1]) rfl ⟨HE.out.symm, ?_⟩
  exact (B1.out.setCell (Nat.le_refl _) _).setCell (Nat.le_refl _) _

set_option maxRecDepth 100000 in
set_option maxHeartbeats 1600000 in
theorem value_price (L : List Cl) (a : Option Addr) (cap : Nat) (hl : L.length ≤ 1048576) (P : List Int) (a' : Option Addr) (cap' : Nat) (hl' : P.length ≤ 1048576) (w : World) (ha : ClArg w a L) (ha' : IntArg w a' P) :
    Calls Try.prog 49 #[.slice a L.length cap, .slice a' P.length cap', .func (.func 53) #[] #[]] w fun e w' => e = meanE Cl.pr L P ∧ Below w.heap.size w w' := by
  have C := Lib.hid (fun wx (h : Below w.heap.size w wx) => check_impl L a cap hl P a' cap' hl' ⟨0, 0, 0, 0⟩ wx (ha.later h) (ha'.later h))
  have hx : (⟨0, 0, 0, 0⟩ : Li).ok = true := by decide
  rw [hx] at C
  clear hx
  by_cases h1 : codeP L P true = 0
  case neg =>
    obtain ⟨q, hq⟩ : ∃ q, codeP L P true = q := ⟨_, rfl⟩
    have hE : Hid (meanE Cl.pr L P = fracE 0 0 q) := by show meanE _ L P = _; rw [meanE, if_neg h1, hq]
    rw [hq] at C h1
    clear hq ha ha'
    go_enter Try.func49, Try.ntmps49
    go_wp2_with fail
    refine (C.out _ (balloc0 _ _)).mono ?_
    rintro e w1 ⟨rfl, hb1⟩
    have B1 := Lib.hid (bnext (balloc0 _ _) hb1)
    obtain ⟨hc1, hf1⟩ := bcell hb1
    have hz1 : w.heap.size < w1.heap.size := by have := hb1.size; simp at this; omega
    clear hb1
    go_wp2
    refine bodyPost_ret (v := .tuple #[.agg #[.int .i64 0, .int .i64 0], .int .i64 q]) (by simp [results, Try.results49, go_sem, hc1]) rfl ⟨hE.out.symm, ?_⟩
    exact (B1.out.setCell (Nat.le_refl _) _).setCell (Nat.le_refl _) _
  obtain ⟨hL, hPL, hP, _, _⟩ := codeP_facts h1
  obtain ⟨s0, s1, _⟩ := codeP_sum h1
  obtain ⟨t0, t1⟩ := kind_total small_pr h1
  have hE : Hid (meanE Cl.pr L P = fracE (lowN (total Cl.pr L P) (sumP P)) (lowD (total Cl.pr L P) (sumP P)) 0) := by show meanE _ L P = _; rw [meanE, if_pos h1]
  have C2 := Lib.hid (fun wx (h : Below w.heap.size w wx) => weighted_price L a cap P a' cap' hL hP hPL wx (ha.later h) (ha'.later h))
  have C3 := Lib.hid (fun wx (h : Below w.heap.size w wx) => sum_impl P hP a' cap' hl' wx (ha'.later h))
  rw [h1] at C
  obtain ⟨X, hX⟩ : ∃ X, total Cl.pr L P = X := ⟨_, rfl⟩
  obtain ⟨Y, hY⟩ : ∃ Y, sumP P = Y := ⟨_, rfl⟩
  rw [hX, hY] at hE
  rw [hX] at C2 t0 t1
  rw [hY] at C3 s0 s1
  have C4 := Lib.hid (lowest_impl X Y (by omega) (by omega) (by omega) (by omega))
  obtain ⟨N, hN⟩ : ∃ N, lowN X Y = N := ⟨_, rfl⟩
  obtain ⟨D, hD⟩ : ∃ D, lowD X Y = D := ⟨_, rfl⟩
  rw [hN, hD] at hE C4
  clear hX hY hN hD ha ha' hL hP hPL h1 s0 s1 t0 t1
  go_enter Try.func49, Try.ntmps49
  go_wp2_with fail
  refine (C.out _ (balloc0 _ _)).mono ?_
  rintro e w1 ⟨rfl, hb1⟩
  have B1 := Lib.hid (bnext (balloc0 _ _) hb1)
  have RN : Hid (w1.there w.heap.size 0 2) := there_below (there_new w #[.int .i64 0, .int .i64 0] 26 2 rfl) hb1
  clear hb1
  go_wp2_with fail
  refine (C2.out _ B1.out).mono ?_
  rintro e w2 ⟨rfl, hb2⟩
  have B2 := Lib.hid (bnext B1.out hb2)
  have RN2 := Lib.hid (there_below RN.out hb2)
  clear hb2
  go_wp2_with fail
  refine (C3.out _ B2.out).mono ?_
  rintro e w3 ⟨rfl, hb3⟩
  have B3 := Lib.hid (bnext B2.out hb3)
  have RN3 := Lib.hid (there_below RN2.out hb3)
  clear hb3
  go_wp2_with fail
  refine (C4.out _).mono ?_
  rintro e w4 ⟨rfl, hb4⟩
  have B4 := Lib.hid (bnext B3.out hb4)
  have RN4 := there_below RN3.out hb4
  obtain ⟨u0, g0, f0⟩ := there_at RN4 (k := 0) (by omega)
  obtain ⟨u1, g1, f1⟩ := there_at RN4 (k := 1) (by omega)
  clear hb4 RN4
  go_wp2
  refine bodyPost_ret (v := .tuple #[.agg #[.int .i64 N, .int .i64 D], .int .i64 0]) (by simp [results, Try.results49, go_sem, g0, g1]) rfl ⟨hE.out.symm, ?_⟩
  exact (B4.out.setCell (Nat.le_refl _) _).setCell (Nat.le_refl _) _

theorem meanE_frac_price (L : List Cl) (P : List Int) : ∃ n d c, meanE Cl.pr L P = .returned (.tuple #[.agg #[.int .i64 n, .int .i64 d], .int .i64 c]) := by
  unfold meanE
  split
  · exact ⟨_, _, _, rfl⟩
  · exact ⟨_, _, _, rfl⟩

set_option maxRecDepth 100000 in
theorem top_impl_price (L : List Cl) (a : Option Addr) (cap : Nat) (hl : L.length ≤ 1048576) (P : List Int) (a' : Option Addr) (cap' : Nat) (hl' : P.length ≤ 1048576) (w : World) (ha : ClArg w a L) (ha' : IntArg w a' P) :
    Calls Try.prog 22 #[.slice a L.length cap, .slice a' P.length cap'] w fun e w' => e = meanE Cl.pr L P ∧ Below w.heap.size w w' := by
  have C := Lib.hid (fun wx (h : Below w.heap.size w wx) => value_price L a cap hl P a' cap' hl' wx (ha.later h) (ha'.later h))
  obtain ⟨n, d, c, hE⟩ := meanE_frac_price L P
  have HE := Lib.hid hE
  rw [hE] at C
  clear hE ha ha'
  go_enter Try.func22, Try.ntmps22
  go_wp2_with fail
  refine (C.out _ (balloc0 _ _)).mono ?_
  rintro e w1 ⟨rfl, hb1⟩
  have B1 := Lib.hid (bnext (balloc0 _ _) hb1)
  have RN := there_below (there_new w #[.int .i64 0, .int .i64 0] 26 2 rfl) hb1
  obtain ⟨u0, g0, f0⟩ := there_at RN (k := 0) (by omega)
  obtain ⟨u1, g1, f1⟩ := there_at RN (k := 1) (by omega)
  clear hb1 RN
  go_wp2
  refine bodyPost_ret (v := .tuple #[.agg #[.int .i64 n, .int .i64 d], .int .i64 c]) (by simp [results, Try.results22, go_sem, g0, g1]) rfl ⟨HE.out.symm, ?_⟩
  exact (B1.out.setCell (Nat.le_refl _) _).setCell (Nat.le_refl _) _

set_option maxRecDepth 100000 in
theorem top_spec_price (L : List Cl) (a : Option Addr) (cap : Nat) (hl : L.length ≤ 1048576) (P : List Int) (a' : Option Addr) (cap' : Nat) (hl' : P.length ≤ 1048576) (w : World) (ha : ClArg w a L) (ha' : IntArg w a' P) :
    Calls Try.prog 21 #[.slice a L.length cap, .slice a' P.length cap'] w fun e w' => e = meanE Cl.pr L P ∧ Below w.heap.size w w' := by
  have C := Lib.hid (fun wx (h : Below w.heap.size w wx) => mean_spec 3 (by omega) L a cap hl P a' cap' hl' wx (ha.later h) (ha'.later h))
  obtain ⟨n, d, c, hE⟩ := meanE_frac_price L P
  have HE := Lib.hid hE
  have hk : kindF 3 = Cl.pr := rfl
  rw [hk] at C
  rw [hE] at C
  clear hE ha ha'
  go_enter Try.func21, Try.ntmps21
  go_wp2_with fail
  refine (C.out _ (balloc0 _ _)).mono ?_
  rintro e w1 ⟨rfl, hb1⟩
  have B1 := Lib.hid (bnext (balloc0 _ _) hb1)
  have RN := there_below (there_new w #[.int .i64 0, .int .i64 0] 26 2 rfl) hb1
  obtain ⟨u0, g0, f0⟩ := there_at RN (k := 0) (by omega)
  obtain ⟨u1, g1, f1⟩ := there_at RN (k := 1) (by omega)
  clear hb1 RN
  go_wp2
  refine bodyPost_ret (v := .tuple #[.agg #[.int .i64 n, .int .i64 d], .int .i64 c]) (by simp [results, Try.results21, go_sem, g0, g1]) rfl ⟨HE.out.symm, ?_⟩
  exact (B1.out.setCell (Nat.le_refl _) _).setCell (Nat.le_refl _) _

end Go.Proofs.Ytlglijalhacmhab
