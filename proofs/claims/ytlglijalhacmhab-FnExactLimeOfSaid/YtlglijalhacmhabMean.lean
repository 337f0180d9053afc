/-
  The mean of a kind of value of a blend: the model's and the program's.
-/
import Derived.Test.YtlglijalhacmhabPartsT
import Derived.Test.YtlglijalhacmhabClayV
namespace Go.Proofs.Ytlglijalhacmhab
open Go.ChangeShapes Go.WideShapes Go.ChangeAt Go.RowKit Go.Joins

/-- A fraction and a code. -/
def fracE (n d c : Int) : Ending := .returned (.tuple #[.agg #[.int .i64 n, .int .i64 d], .int .i64 c])
def meanE (f : Cl → Int) (L : List Cl) (P : List Int) : Ending :=
  if codeP L P true = 0 then fracE (lowN (total f L P) (sumP P)) (lowD (total f L P) (sumP P)) 0 else fracE 0 0 (codeP L P true)

theorem kind_total {L : List Cl} {P : List Int} {f : Cl → Int} (hf : Small f) (h : codeP L P true = 0) : 0 ≤ total f L P ∧ total f L P ≤ 60000000 := by
  obtain ⟨h1, _, h3, _, _⟩ := codeP_facts h
  have h6 := (okCls_all h1).1
  have := wsum_range hf h1 h3 L.length
  unfold total
  omega

set_option maxRecDepth 100000 in
set_option maxHeartbeats 1600000 in
theorem mean_spec (kd : Nat) (hk : kd ≤ 3) (L : List Cl) (a : Option Addr) (cap : Nat) (hl : L.length ≤ 1048576) (P : List Int) (a' : Option Addr) (cap' : Nat) (hl' : P.length ≤ 1048576) (w : World) (ha : ClArg w a L) (ha' : IntArg w a' P) :
    Calls Try.prog 47 #[.slice a L.length cap, .slice a' P.length cap', .int .i64 kd] w fun e w' => e = meanE (kindF kd) L P ∧ Below w.heap.size w w' := by
  have C := Lib.hid (fun wx (h : Below w.heap.size w wx) => code3_spec L a cap hl P a' cap' hl' wx (ha.later h) (ha'.later h))
  by_cases h1 : codeP L P true = 0
  case neg =>
    obtain ⟨q, hq⟩ : ∃ q, codeP L P true = q := ⟨_, rfl⟩
    have hE : Hid (meanE (kindF kd) L P = fracE 0 0 q) := by show meanE _ L P = _; rw [meanE, if_neg h1, hq]
    rw [hq] at C h1
    clear hq ha ha'
    go_enter Try.func47, Try.ntmps47
    go_wp2_with fail
    refine (C.out _ (balloc0 _ _)).mono ?_
    rintro e w1 ⟨rfl, hb1⟩
    have B1 := Lib.hid (bnext (balloc0 _ _) hb1)
    obtain ⟨hc1, hf1⟩ := bcell hb1
    have hz1 : w.heap.size < w1.heap.size := by have := hb1.size; simp at this; omega
    clear hb1
    go_wp2
    refine bodyPost_ret (v := .tuple #[.agg #[.int .i64 0, .int .i64 0], .int .i64 q]) (by simp [results, Try.results47, go_sem, hc1]) rfl ⟨hE.out.symm, ?_⟩
    exact (B1.out.setCell (Nat.le_refl _) _).setCell (Nat.le_refl _) _
  obtain ⟨hL, hPL, hP, _, _⟩ := codeP_facts h1
  obtain ⟨s0, s1, _⟩ := codeP_sum h1
  obtain ⟨t0, t1⟩ := kind_total (small_kind kd) h1
  have hE : Hid (meanE (kindF kd) L P = fracE (lowN (total (kindF kd) L P) (sumP P)) (lowD (total (kindF kd) L P) (sumP P)) 0) := by show meanE _ L P = _; rw [meanE, if_pos h1]
  have C2 := Lib.hid (fun wx (h : Below w.heap.size w wx) => total_spec L a cap P a' cap' kd hk hL hP hPL wx (ha.later h) (ha'.later h))
  have C3 := Lib.hid (fun wx (h : Below w.heap.size w wx) => sum_spec P a' cap' hl' wx (ha'.later h))
  rw [(specSum_pos P hP).1] at C3
  rw [h1] at C
  obtain ⟨X, hX⟩ : ∃ X, total (kindF kd) L P = X := ⟨_, rfl⟩
  obtain ⟨Y, hY⟩ : ∃ Y, sumP P = Y := ⟨_, rfl⟩
  rw [hX, hY] at hE
  rw [hX] at C2 t0 t1
  rw [hY] at C3 s0 s1
  have C4 := Lib.hid (make_spec X Y (by omega) (by omega) (by omega) (by omega))
  obtain ⟨N, hN⟩ : ∃ N, lowN X Y = N := ⟨_, rfl⟩
  obtain ⟨D, hD⟩ : ∃ D, lowD X Y = D := ⟨_, rfl⟩
  rw [hN, hD] at hE C4
  clear hX hY hN hD ha ha' hL hP hPL h1 s0 s1 t0 t1
  go_enter Try.func47, Try.ntmps47
  go_wp2_with fail
  refine (C.out _ (balloc0 _ _)).mono ?_
  rintro e w1 ⟨rfl, hb1⟩
  have B1 := Lib.hid (bnext (balloc0 _ _) hb1)
  have hz1 : w.heap.size < w1.heap.size := by have := hb1.size; simp at this; omega
  obtain ⟨hc1, hf1⟩ := bcell hb1
  have RN : Hid (w1.there w.heap.size 0 2) := there_below (there_new w #[.int .i64 0, .int .i64 0] 26 2 rfl) hb1
  clear hb1 hc1 hf1
  go_wp2_with fail
  refine (C2.out _ B1.out).mono ?_
  rintro e w2 ⟨rfl, hb2⟩
  have B2 := Lib.hid (bnext B1.out hb2)
  have RN2 := Lib.hid (there_below RN.out hb2)
  clear hb2
  go_wp2_with fail
  refine (C3.out _ B2.out).mono ?_
  rintro e w3 ⟨rfl, hb3⟩
  have B3 := Lib.hid (bnext B2.out hb3)
  have RN3 := Lib.hid (there_below RN2.out hb3)
  clear hb3
  go_wp2_with fail
  refine (C4.out _).mono ?_
  rintro e w4 ⟨rfl, hb4⟩
  have B4 := Lib.hid (bnext B3.out hb4)
  have RN4 := there_below RN3.out hb4
  obtain ⟨u0, g0, f0⟩ := there_at RN4 (k := 0) (by omega)
  obtain ⟨u1, g1, f1⟩ := there_at RN4 (k := 1) (by omega)
  clear hb4 RN4
  go_wp2
  refine bodyPost_ret (v := .tuple #[.agg #[.int .i64 N, .int .i64 D], .int .i64 0]) (by simp [results, Try.results47, go_sem, g0, g1]) rfl ⟨hE.out.symm, ?_⟩
  exact (B4.out.setCell (Nat.le_refl _) _).setCell (Nat.le_refl _) _
end Go.Proofs.Ytlglijalhacmhab
