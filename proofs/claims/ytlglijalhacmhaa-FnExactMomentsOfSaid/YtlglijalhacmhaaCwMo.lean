/-
  The walk of the law on MomentsOf.
-/
import Derived.Test.YtlglijalhacmhaaBkN
import Derived.Deep.RegionWith
namespace Go.Proofs.Ytlglijalhacmhaa
open Go.ChangeShapes Go.WideShapes Go.ChangeAt Go.RowKit Go.Joins

set_option maxRecDepth 100000 in
set_option maxHeartbeats 12800000 in
theorem walk_FnExactMomentsOf (X : Bk) (a b c : Option Addr) (ca cb cc : Nat) (hl : BkLen X maxLen) (w : World) (ha : BkArg w a b c X) :
    Calls Try.prog 4 #[.agg #[.slice a X.A.length ca, .slice b X.L.length cb, .slice c X.H.length cc]] w fun e w' => e = .returned (.bool true) ∧ Below w.heap.size w w' := by
  have k0 := BkBox.new w X a b c ca cb cc 24
  have E0 := Lib.hid (balloc0 w (.cells #[.slice a X.A.length ca, .slice b X.L.length cb, .slice c X.H.length cc] 24))
  obtain ⟨U0, hU⟩ : ∃ U, World.alloc w (.cells #[.slice a X.A.length ca, .slice b X.L.length cb, .slice c X.H.length cc] 24) = U := ⟨_, rfl⟩
  rw [hU] at k0 E0
  have E0 : Hid (Below w.heap.size w U0) := E0.out
  have KB : Hid (∀ wx, Below U0.heap.size U0 wx → BkBox w.heap.size X a b c ca cb cc wx) := fun wx hx => k0.later hx
  have zz := k0.lt
  have HU := Lib.hid hU
  clear hU k0
  have Z := Lib.hid (sz_bk X a b c ca cb cc 1048576 (by omega) (by omega) (by obtain ⟨h1, h2, h3⟩ := hl; unfold maxLen at h1 h2 h3; exact ⟨by omega, by omega, by omega⟩) U0)
  have HA := Lib.hid (ha.later E0.out)
  clear ha hl
  go_enter Try.func4, Try.ntmps4
  obtain ⟨p0, p1, p2⟩ := KB.out _ (Below.refl _ _)
  go_wp2_with fail
  rw [HU.out]
  refine Z.out.mono ?_
  rintro e w1 ⟨r, rfl, r0, r1, r2, hb1⟩
  have B1 := Lib.hid hb1
  have R2 := Lib.hid r2
  clear hb1 r2 p0 p1 p2
  by_cases hr : r < 0
  · go_wp2
    go_ret
    exact ⟨rfl, bnext E0.out B1.out⟩
  have HL := Lib.hid (R2.out (by omega))
  have S := Lib.hid (fun (a b c : Option Addr) (ca cb cc : Nat) (wx : World) (h : BkArg wx a b c X) => MomentsOf_spec X a b c ca cb cc HL.out wx h)
  have I := Lib.hid (fun (a b c : Option Addr) (ca cb cc : Nat) (wx : World) (h : BkArg wx a b c X) => MomentsOf_impl X a b c ca cb cc HL.out wx h)
  have hQ : (momV X).length ≤ 1048576 := momV_len X
  obtain ⟨Q, hQe⟩ : ∃ Q : List Int, momV X = Q := ⟨_, rfl⟩
  rw [hQe] at S I hQ
  clear hQe
  obtain ⟨v1, hv⟩ : ∃ v : Int, bkC X = v := ⟨_, rfl⟩
  rw [hv] at S I
  clear hv
  obtain ⟨p0, p1, p2⟩ := KB.out _ B1.out
  go_wp2_with fail
  refine (to_bk X a b c ca cb cc HL.out _ (HA.out.later B1.out)).mono ?_
  rintro e w2 ⟨gS, hS, mS, rfl, oS, hb2⟩
  have B2 := Lib.hid (bnext B1.out hb2)
  have zq2 := hb2.size
  clear hb2 p0 p1 p2
  have OS := Lib.hid oS.arg
  clear oS
  go_wp2_with fail
  refine (S.out _ _ _ _ _ _ _ OS.out).mono ?_
  rintro e w3 ⟨rS, cS, rfl, oR, hb3⟩
  have B3 := Lib.hid (bnext B2.out hb3)
  have zq3 := hb3.size
  have OS := Lib.hid (OS.out.later hb3)
  clear hb3
  have WL := Lib.hid oR.lt
  have W0 := Lib.hid oR.arg
  clear oR
  obtain ⟨zS, hzS⟩ : ∃ n, w3.heap.size = n := ⟨_, rfl⟩
  rw [hzS] at WL
  have zS1 : zS ≤ w3.heap.size := by omega
  clear hzS
  obtain ⟨p0, p1, p2⟩ := KB.out _ B3.out
  go_wp2_with fail
  refine (to_bk X a b c ca cb cc HL.out _ (HA.out.later B3.out)).mono ?_
  rintro e w4 ⟨gI, hI, mI, rfl, oI, hb4⟩
  have B4 := Lib.hid (bnext B3.out hb4)
  have zq4 := hb4.size
  have W0 := Lib.hid (W0.out.later hb4)
  clear hb4 p0 p1 p2
  have YI := Lib.hid oI
  have OI := Lib.hid oI.arg
  have zI0 : w3.heap.size ≤ gI := oI.1.1
  have zI4 : U0.heap.size ≤ gI := by have h1 := oI.1.1; have h2 := B3.out.size; omega
  have zI3 : mI < w4.heap.size := oI.2.2.1.2.2.2
  have zI1 := oI.2.2.2.1
  have zI2 := oI.2.2.2.2
  clear oI
  have bq := balloc0 w4 (.cells #[.slice (some ⟨gI, 0, none⟩) X.A.length X.A.length, .slice (some ⟨hI, 0, none⟩) X.L.length X.L.length, .slice (some ⟨mI, 0, none⟩) X.H.length X.H.length] 27)
  have BQ := Lib.hid (bnext B4.out bq)
  have BX := Lib.hid (BkBox.new w4 X (some ⟨gI, 0, none⟩) (some ⟨hI, 0, none⟩) (some ⟨mI, 0, none⟩) X.A.length X.L.length X.H.length 27)
  have W0 := Lib.hid (W0.out.later bq)
  have YI := Lib.hid (YI.out.later bq)
  have OI := Lib.hid (OI.out.later bq)
  obtain ⟨QIW0, hQIW0⟩ : ∃ V, w4.alloc (.cells #[.slice (some ⟨gI, 0, none⟩) X.A.length X.A.length, .slice (some ⟨hI, 0, none⟩) X.L.length X.L.length, .slice (some ⟨mI, 0, none⟩) X.H.length X.H.length] 27) = V := ⟨_, rfl⟩
  have QIy0 : QIW0.heap.size = w4.heap.size + 1 := by rw [← hQIW0]; simp
  rw [hQIW0] at BQ BX W0 YI OI
  have BQIW0 := BQ
  clear BQ bq
  have HQIW0 := Lib.hid hQIW0
  clear hQIW0
  obtain ⟨zB, hzB⟩ : ∃ n, QIW0.heap.size = n := ⟨_, rfl⟩
  have zB0 : mI < zB := by omega
  go_wp2_with fail
  rw [HQIW0.out]
  refine (I.out _ _ _ _ _ _ _ OI.out).mono ?_
  rintro e w5 ⟨rG, cG, rfl, oG, hb5⟩
  have B5 := Lib.hid (bnext BQIW0.out hb5)
  have zq5 := hb5.size
  have W0 := Lib.hid (W0.out.later hb5)
  have YI := Lib.hid (YI.out.later hb5)
  have OI := Lib.hid (OI.out.later hb5)
  have BX := Lib.hid (BX.out.later hb5)
  clear hb5
  rw [hzB] at oG
  have G0 := Lib.hid oG
  clear oG
  have zB1 : zB ≤ w5.heap.size := by rw [← hzB]; exact zq5
  clear hzB
  go_wp2_with fail
  refine (eq_ints Q rG rS cG cS (by omega) _ G0.out.arg W0.out).mono ?_
  rintro e w6 ⟨rfl, hb6⟩
  have B6 := Lib.hid (bnext B5.out hb6)
  have zq6 := hb6.size
  have W0 := Lib.hid (W0.out.later hb6)
  have YI := Lib.hid (YI.out.later hb6)
  have OI := Lib.hid (OI.out.later hb6)
  have BX := Lib.hid (BX.out.later hb6)
  have G0 := Lib.hid (G0.out.later hb6)
  clear hb6
  obtain ⟨p0, p1, p2⟩ := KB.out _ B6.out
  have p0 : w6.drew.cell? ⟨w.heap.size, 0, none⟩ = _ := p0
  have p1 : w6.drew.cell? ⟨w.heap.size, 1, none⟩ = _ := p1
  have p2 : w6.drew.cell? ⟨w.heap.size, 2, none⟩ = _ := p2
  obtain ⟨y0, y1, y2⟩ := BX.out
  have y3 := BX.out.lt
  have y0 : w6.drew.cell? _ = _ := y0
  have y1 : w6.drew.cell? _ = _ := y1
  have y2 : w6.drew.cell? _ = _ := y2
  go_wp2_with fail
  go_region_with (first | (go_at_call 17; refine (to_bk X a b c ca cb cc HL.out _ (HA.out.later (below_drewN B6.out 1))).mono ?_; rintro e w7 ⟨gT, hT, mT, rfl, oT, hb7⟩; have B7 := Lib.hid (bnext B6.out.drew hb7); have ET := Lib.hid oT.arg; have EI := Lib.hid (BkArg.later (w := w6.drew) OI.out hb7); have YI := Lib.hid (BkOwn.later (w := w6.drew) YI.out hb7); have W0 := Lib.hid (IntArg.later (w := w6.drew) W0.out hb7); have G0 := Lib.hid (IntRes.later (w := w6.drew) G0.out hb7); have BY := Lib.hid (BkBox.later (w := w6.drew) BX.out hb7); have zr7 := hb7.size; obtain ⟨z0, z1, z2⟩ := BkBox.later (w := w6.drew) BX.out hb7; clear hb7 oT) | (go_at_call 19; refine (eq_bk X _ _ _ _ _ _ _ _ _ _ _ _ ⟨by have := HL.out.1; omega, by have := HL.out.2.1; omega, by have := HL.out.2.2; omega⟩ _ EI.out ET.out).mono ?_; rintro e w8 ⟨rfl, hb8⟩; have B8 := Lib.hid (bnext B7.out hb8); have YI := Lib.hid (YI.out.later hb8); have W0 := Lib.hid (W0.out.later hb8); have G0 := Lib.hid (G0.out.later hb8); have BY := Lib.hid (BY.out.later hb8); have zr8 := hb8.size; clear hb8))
  all_goals
    have zz0 : zB ≤ w8.heap.size := by have h1 := G0.out; have := zr7; have := zr8; simp at *; omega
    have zz2 : mI < w8.heap.size := by omega
    obtain ⟨t0, t1, t2⟩ := BY.out
    go_wp2_with fail
    refine (mark_bk X ⟨by have := HL.out.1; omega, by have := HL.out.2.1; omega, by have := HL.out.2.2; omega⟩ 1 (by omega) _ gI hI mI _ _ _ _ YI.out).mono ?_
    rintro e w9 ⟨rfl, ua, ub, hO1, hO2, hO3⟩
    have B9 := Lib.hid (B8.out.trans (((hO1.base (B := U0.heap.size) (by omega) (by have := B8.out.size; omega)).trans (hO2.base (by omega) (by have := B8.out.size; have := hO1.size; omega))).trans (hO3.base (by omega) (by have := B8.out.size; have := hO1.size; have := hO2.size; omega))))
    have G0 := Lib.hid (((G0.out.only hO1 (by omega)).only hO2 (by omega)).only hO3 (by omega))
    have W0 := Lib.hid (((W0.out.only hO1 (fun g o h1 h2 => by have := WL.out g o h1 h2; omega)).only hO2 (fun g o h1 h2 => by have := WL.out g o h1 h2; omega)).only hO3 (fun g o h1 h2 => by have := WL.out g o h1 h2; omega))
    have zk : zB ≤ w9.heap.size := by have := hO1.size; have := hO2.size; have := hO3.size; omega
    clear hO1 hO2 hO3 t0 t1 t2
    obtain ⟨KK, hKK⟩ : ∃ KK : Nat, 1 + X.A.length + X.L.length + X.H.length = KK := ⟨_, rfl⟩
    have hK1 : ¬ (KK : Int) < 0 := by omega
    rw [hKK]
    clear hKK
    go_wp2_with fail
    refine (eq_ints Q rG rS cG cS (by omega) _ G0.out.arg W0.out).mono ?_
    rintro e w10 ⟨rfl, hb10⟩
    have B10 := Lib.hid (bnext B9.out hb10)
    have zq10 := hb10.size
    have G0 := Lib.hid (G0.out.later hb10)
    have W0 := Lib.hid (W0.out.later hb10)
    clear hb10
    have zk2 : zB ≤ w10.heap.size := by omega
    go_wp2_with fail
    refine (mark_res Q (by omega) 1 (by omega) zB cG rG _ zk2 G0.out).mono ?_
    rintro e w11 ⟨rfl, hb11, M0⟩
    have B11 := Lib.hid (B10.out.trans (hb11.mono (by omega)))
    have W0 := Lib.hid (W0.out.base hb11 (fun g o h1 h2 => by have := WL.out g o h1 h2; omega))
    have G0 := Lib.hid M0
    clear hb11 M0
    obtain ⟨q, hq⟩ : ∃ q : Int, ((1 + Q.length : Nat) : Int) = q := ⟨_, rfl⟩
    have hq0 : ¬ q < 0 := by omega
    have HQ := Lib.hid hq
    rw [hq]
    clear hq
    go_wp2_with fail
    refine (held_res Q.length (by omega) 1 (by omega) cG rG _ _ G0.out).mono ?_
    rintro e w12 ⟨rfl, hb12⟩
    have B12 := Lib.hid (bnext B11.out hb12)
    have zq12 := hb12.size
    have G0 := Lib.hid (G0.out.later hb12)
    have W0 := Lib.hid (W0.out.later hb12)
    clear hb12
    rw [HQ.out]
    obtain ⟨p0, p1, p2⟩ := KB.out _ B12.out
    go_wp2_with fail
    refine (to_bk X a b c ca cb cc HL.out _ (HA.out.later B12.out)).mono ?_
    rintro e w13 ⟨gZ, hZ, mZ, rfl, oZ, hb13⟩
    have B13 := Lib.hid (bnext B12.out hb13)
    have zq13 := hb13.size
    have G0 := Lib.hid (G0.out.later hb13)
    have W0 := Lib.hid (W0.out.later hb13)
    clear hb13 p0 p1 p2
    have OZ := Lib.hid oZ.arg
    clear oZ
    go_wp2_with fail
    refine (I.out _ _ _ _ _ _ _ OZ.out).mono ?_
    rintro e w14 ⟨rH, cH, rfl, oH, hb14⟩
    have B14 := Lib.hid (bnext B13.out hb14)
    have zq14 := hb14.size
    have G0 := Lib.hid (G0.out.later hb14)
    have W0 := Lib.hid (W0.out.later hb14)
    have OZ := Lib.hid (OZ.out.later hb14)
    clear hb14
    have H0 := Lib.hid oH.arg
    clear oH
    go_wp2_with fail
    refine (eq_ints Q rH rS cH cS (by omega) _ H0.out W0.out).mono ?_
    rintro e w15 ⟨rfl, hb15⟩
    have B15 := Lib.hid (bnext B14.out hb15)
    have zq15 := hb15.size
    have G0 := Lib.hid (G0.out.later hb15)
    have W0 := Lib.hid (W0.out.later hb15)
    have H0 := Lib.hid (H0.out.later hb15)
    clear hb15
    go_wp2_with fail
    refine (held_res Q.length (by omega) 1 (by omega) cG rG _ _ G0.out).mono ?_
    rintro e w16 ⟨rfl, hb16⟩
    have B16 := Lib.hid (bnext B15.out hb16)
    have zq16 := hb16.size
    have G0 := Lib.hid (G0.out.later hb16)
    have W0 := Lib.hid (W0.out.later hb16)
    have H0 := Lib.hid (H0.out.later hb16)
    clear hb16
    rw [HQ.out]
    go_wp2
    go_ret
    exact ⟨rfl, bnext E0.out B16.out⟩
end Go.Proofs.Ytlglijalhacmhaa
