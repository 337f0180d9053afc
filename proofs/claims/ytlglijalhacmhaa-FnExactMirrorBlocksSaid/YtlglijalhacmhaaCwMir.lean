/-
  The walk of the law on MirrorBlocks.
-/
import Derived.Test.YtlglijalhacmhaaBkMk
import Derived.Test.YtlglijalhacmhaaBkMs
import Derived.Deep.RegionWith
namespace Go.Proofs.Ytlglijalhacmhaa
open Go.ChangeShapes Go.WideShapes Go.ChangeAt Go.RowKit Go.Joins

set_option maxRecDepth 100000 in
set_option maxHeartbeats 12800000 in
theorem walk_FnExactMirrorBlocks (X : Bk) (a b c : Option Addr) (ca cb cc : Nat) (hl : BkLen X maxLen) (w : World) (ha : BkArg w a b c X) :
    Calls Try.prog 12 #[.agg #[.slice a X.A.length ca, .slice b X.L.length cb, .slice c X.H.length cc]] w fun e w' => e = .returned (.bool true) ∧ Below w.heap.size w w' := by
  have k0 := BkBox.new w X a b c ca cb cc 24
  have E0 := Lib.hid (balloc0 w (.cells #[.slice a X.A.length ca, .slice b X.L.length cb, .slice c X.H.length cc] 24))
  obtain ⟨U0, hU⟩ : ∃ U, World.alloc w (.cells #[.slice a X.A.length ca, .slice b X.L.length cb, .slice c X.H.length cc] 24) = U := ⟨_, rfl⟩
  rw [hU] at k0 E0
  have E0 : Hid (Below w.heap.size w U0) := E0.out
  have KB : Hid (∀ wx, Below U0.heap.size U0 wx → BkBox w.heap.size X a b c ca cb cc wx) := fun wx hx => k0.later hx
  have zz := k0.lt
  have HU := Lib.hid hU
  clear hU k0
  have Z := Lib.hid (sz_bk X a b c ca cb cc 1048576 (by omega) (by omega) (by obtain ⟨h1, h2, h3⟩ := hl; unfold maxLen at h1 h2 h3; exact ⟨by omega, by omega, by omega⟩) U0)
  have HA := Lib.hid (ha.later E0.out)
  clear ha hl
  go_enter Try.func12, Try.ntmps12
  obtain ⟨p0, p1, p2⟩ := KB.out _ (Below.refl _ _)
  go_wp2_with fail
  rw [HU.out]
  refine Z.out.mono ?_
  rintro e w1 ⟨r, rfl, r0, r1, r2, hb1⟩
  have B1 := Lib.hid hb1
  have R2 := Lib.hid r2
  have zq1 := hb1.size
  clear hb1 r2 p0 p1 p2
  by_cases hr : r < 0
  · go_wp2
    go_ret
    exact ⟨rfl, bnext E0.out B1.out⟩
  have HL := Lib.hid (R2.out (by omega))
  have hYl : BkLen (mirX X) 1048577 := by
    obtain ⟨h1, h2, h3⟩ := mirX_len X
    obtain ⟨l1, l2, l3⟩ := HL.out
    refine ⟨?_, ?_, ?_⟩
    · rw [h1]; split <;> omega
    · rw [h2]; split <;> omega
    · rw [h3]; split <;> omega
  have S := Lib.hid (fun (a b c : Option Addr) (ca cb cc : Nat) (wx : World) (h : BkArg wx a b c X) => MirrorBlocks_spec X a b c ca cb cc HL.out wx h)
  have I := Lib.hid (fun (a b c : Option Addr) (ca cb cc : Nat) (wx : World) (h : BkArg wx a b c X) => MirrorBlocks_impl X a b c ca cb cc HL.out wx h)
  obtain ⟨Y, hY⟩ : ∃ Y, mirX X = Y := ⟨_, rfl⟩
  obtain ⟨vc, hvc⟩ : ∃ v : Int, bkC X = v := ⟨_, rfl⟩
  rw [hY] at S I hYl
  rw [hvc] at S I
  have HYl := Lib.hid hYl
  clear hY hvc hYl
  obtain ⟨p0, p1, p2⟩ := KB.out _ B1.out
  go_wp2_with fail
  refine (to_bk X a b c ca cb cc HL.out _ (HA.out.later B1.out)).mono ?_
  rintro e w2 ⟨gS, hS, mS, rfl, oS, hb2⟩
  have B2 := Lib.hid (bnext B1.out hb2)
  have zq2 := hb2.size
  clear hb2 p0 p1 p2
  have OS := Lib.hid oS.arg
  clear oS
  go_wp2_with fail
  refine (S.out _ _ _ _ _ _ _ OS.out).mono ?_
  rintro e w3 ⟨aS, bS, cS, xS, yS, zS, rfl, ⟨o1, o2, o3⟩, hb3⟩
  have B3 := Lib.hid (bnext B2.out hb3)
  have zq3 := hb3.size
  have OS := Lib.hid (OS.out.later hb3)
  clear hb3
  have WL1 := Lib.hid o1.lt
  have WL2 := Lib.hid o2.lt
  have WL3 := Lib.hid o3.lt
  have W0 : Hid (BkArg w3 aS bS cS Y) := ⟨o1.arg, o2.arg, o3.arg⟩
  clear o1 o2 o3
  obtain ⟨p0, p1, p2⟩ := KB.out _ B3.out
  have p3 := World.block_lt_of_cell? _ _ p0
  have bq := balloc0 w3 (.cells #[.slice aS Y.A.length xS, .slice bS Y.L.length yS, .slice cS Y.H.length zS] 27)
  have BQ := Lib.hid (bnext B3.out bq)
  have FB := Lib.hid (BkBox.new w3 Y aS bS cS xS yS zS 27)
  have W0 := Lib.hid (W0.out.later bq)
  obtain ⟨VS, hVS⟩ : ∃ V, w3.alloc (.cells #[.slice aS Y.A.length xS, .slice bS Y.L.length yS, .slice cS Y.H.length zS] 27) = V := ⟨_, rfl⟩
  have zVS : VS.heap.size = w3.heap.size + 1 := by rw [← hVS]; simp
  rw [hVS] at BQ FB W0
  have BVS := BQ
  clear BQ bq
  have HVS := Lib.hid hVS
  clear hVS
  go_wp2_with fail
  rw [HVS.out]
  refine (to_bk X a b c ca cb cc HL.out _ (HA.out.later BVS.out)).mono ?_
  rintro e w4 ⟨gI, hI, mI, rfl, oI, hb4⟩
  have B4 := Lib.hid (bnext BVS.out hb4)
  have zq4 := hb4.size
  have W0 := Lib.hid (W0.out.later hb4)
  have FB := Lib.hid (FB.out.later hb4)
  clear hb4 p0 p1 p2 p3
  have YI := Lib.hid oI
  have OI := Lib.hid oI.arg
  have zI0 : VS.heap.size ≤ gI := oI.1.1
  have zI4 : U0.heap.size ≤ gI := by have h1 := oI.1.1; have h2 := BVS.out.size; omega
  have zI3 : mI < w4.heap.size := oI.2.2.1.2.2.2
  have zI1 := oI.2.2.2.1
  have zI2 := oI.2.2.2.2
  clear oI
  have bq := balloc0 w4 (.cells #[.slice (some ⟨gI, 0, none⟩) X.A.length X.A.length, .slice (some ⟨hI, 0, none⟩) X.L.length X.L.length, .slice (some ⟨mI, 0, none⟩) X.H.length X.H.length] 27)
  have BQ := Lib.hid (bnext B4.out bq)
  have BX := Lib.hid (BkBox.new w4 X (some ⟨gI, 0, none⟩) (some ⟨hI, 0, none⟩) (some ⟨mI, 0, none⟩) X.A.length X.L.length X.H.length 27)
  have W0 := Lib.hid (W0.out.later bq)
  have FB := Lib.hid (FB.out.later bq)
  have YI := Lib.hid (YI.out.later bq)
  have OI := Lib.hid (OI.out.later bq)
  obtain ⟨VX, hVX⟩ : ∃ V, w4.alloc (.cells #[.slice (some ⟨gI, 0, none⟩) X.A.length X.A.length, .slice (some ⟨hI, 0, none⟩) X.L.length X.L.length, .slice (some ⟨mI, 0, none⟩) X.H.length X.H.length] 27) = V := ⟨_, rfl⟩
  have zVX : VX.heap.size = w4.heap.size + 1 := by rw [← hVX]; simp
  rw [hVX] at BQ BX W0 FB YI OI
  have BVX := BQ
  clear BQ bq
  have HVX := Lib.hid hVX
  clear hVX
  obtain ⟨zB, hzB⟩ : ∃ n, VX.heap.size = n := ⟨_, rfl⟩
  have zB0 : mI < zB := by omega
  have zB2 : w3.heap.size < zB := by omega
  go_wp2_with fail
  rw [HVX.out]
  refine (I.out _ _ _ _ _ _ _ OI.out).mono ?_
  rintro e w5 ⟨aG, bG, cG, xG, yG, zG, rfl, oG, hb5⟩
  have B5 := Lib.hid (bnext BVX.out hb5)
  have zq5 := hb5.size
  have W0 := Lib.hid (W0.out.later hb5)
  have FB := Lib.hid (FB.out.later hb5)
  have YI := Lib.hid (YI.out.later hb5)
  have OI := Lib.hid (OI.out.later hb5)
  have BX := Lib.hid (BX.out.later hb5)
  clear hb5
  rw [hzB] at oG
  have zB1 : zB ≤ w5.heap.size := by rw [← hzB]; exact zq5
  have GL : Hid (¬ Y = ⟨[], [], []⟩ → ∀ g h m, aG = some ⟨g, 0, none⟩ → bG = some ⟨h, 0, none⟩ → cG = some ⟨m, 0, none⟩ → w5.heap.size ≠ g ∧ w5.heap.size ≠ h ∧ w5.heap.size ≠ m) := by
    intro hne g h m e1 e2 e3
    rcases oG with q | ⟨g', h', m', q1, q2, q3, q⟩
    · exact absurd q hne
    · rw [q1] at e1
      rw [q2] at e2
      rw [q3] at e3
      cases e1
      cases e2
      cases e3
      have := q.1.2.2.2
      have := q.2.1.2.2.2
      have := q.2.2.1.2.2.2
      omega
  have G0 := Lib.hid oG
  clear oG hzB
  obtain ⟨FB0, FB1, FB2⟩ := FB.out
  have FB3 := FB.out.lt
  have bq := balloc0 w5 (.cells #[.slice aG Y.A.length xG, .slice bG Y.L.length yG, .slice cG Y.H.length zG] 27)
  have BQ := Lib.hid (bnext B5.out bq)
  have BG := Lib.hid (BkBox.new w5 Y aG bG cG xG yG zG 27)
  have W0 := Lib.hid (W0.out.later bq)
  have FB := Lib.hid (FB.out.later bq)
  have YI := Lib.hid (YI.out.later bq)
  have OI := Lib.hid (OI.out.later bq)
  have BX := Lib.hid (BX.out.later bq)
  have G0 := Lib.hid (G0.out.later bq)
  obtain ⟨VG, hVG⟩ : ∃ V, w5.alloc (.cells #[.slice aG Y.A.length xG, .slice bG Y.L.length yG, .slice cG Y.H.length zG] 27) = V := ⟨_, rfl⟩
  have zVG : VG.heap.size = w5.heap.size + 1 := by rw [← hVG]; simp
  rw [hVG] at BQ BG W0 FB YI OI BX G0
  have BVG := BQ
  clear BQ bq
  have HVG := Lib.hid hVG
  clear hVG
  go_wp2_with fail
  rw [HVG.out]
  refine (eq_bk Y _ _ _ _ _ _ _ _ _ _ _ _ HYl.out _ G0.out.arg W0.out).mono ?_
  rintro e w6 ⟨rfl, hb6⟩
  have B6 := Lib.hid (bnext BVG.out hb6)
  have zq6 := hb6.size
  have W0 := Lib.hid (W0.out.later hb6)
  have FB := Lib.hid (FB.out.later hb6)
  have YI := Lib.hid (YI.out.later hb6)
  have OI := Lib.hid (OI.out.later hb6)
  have BX := Lib.hid (BX.out.later hb6)
  have G0 := Lib.hid (G0.out.later hb6)
  have BG := Lib.hid (BG.out.later hb6)
  clear hb6 FB0 FB1 FB2 FB3
  obtain ⟨p0, p1, p2⟩ := KB.out _ B6.out
  have p0 : w6.drew.cell? ⟨w.heap.size, 0, none⟩ = _ := p0
  have p1 : w6.drew.cell? ⟨w.heap.size, 1, none⟩ = _ := p1
  have p2 : w6.drew.cell? ⟨w.heap.size, 2, none⟩ = _ := p2
  obtain ⟨y0, y1, y2⟩ := BX.out
  have y3 := BX.out.lt
  have y0 : w6.drew.cell? _ = _ := y0
  have y1 : w6.drew.cell? _ = _ := y1
  have y2 : w6.drew.cell? _ = _ := y2
  go_wp2_with fail
  go_region_with (first | (go_at_call 17; refine (to_bk X a b c ca cb cc HL.out _ (HA.out.later (below_drewN B6.out 1))).mono ?_; rintro e w7 ⟨gT, hT, mT, rfl, oT, hb7⟩; have B7 := Lib.hid (bnext B6.out.drew hb7); have ET := Lib.hid oT.arg; have EI := Lib.hid (BkArg.later (w := w6.drew) OI.out hb7); have YI := Lib.hid (BkOwn.later (w := w6.drew) YI.out hb7); have W0 := Lib.hid (BkArg.later (w := w6.drew) W0.out hb7); have G0 := Lib.hid (BkRes.later (w := w6.drew) G0.out hb7); have FB := Lib.hid (BkBox.later (w := w6.drew) FB.out hb7); have BG := Lib.hid (BkBox.later (w := w6.drew) BG.out hb7); have BY := Lib.hid (BkBox.later (w := w6.drew) BX.out hb7); have zr7 : w6.heap.size ≤ w7.heap.size := hb7.size; obtain ⟨z0, z1, z2⟩ := BY.out; clear hb7 oT) | (go_at_call 19; refine (eq_bk X _ _ _ _ _ _ _ _ _ _ _ _ ⟨by have := HL.out.1; omega, by have := HL.out.2.1; omega, by have := HL.out.2.2; omega⟩ _ EI.out ET.out).mono ?_; rintro e w8 ⟨rfl, hb8⟩; have B8 := Lib.hid (bnext B7.out hb8); have YI := Lib.hid (YI.out.later hb8); have W0 := Lib.hid (W0.out.later hb8); have G0 := Lib.hid (G0.out.later hb8); have FB := Lib.hid (FB.out.later hb8); have BG := Lib.hid (BG.out.later hb8); have BY := Lib.hid (BY.out.later hb8); have zr8 := hb8.size; clear hb8))
  all_goals
    obtain ⟨t0, t1, t2⟩ := BY.out
    have zz0 : zB ≤ w8.heap.size := by omega
    go_wp2_with fail
    refine (mark_bk X ⟨by have := HL.out.1; omega, by have := HL.out.2.1; omega, by have := HL.out.2.2; omega⟩ 1 (by omega) _ gI hI mI _ _ _ _ YI.out).mono ?_
    rintro e w9 ⟨rfl, ua, ub, hO1, hO2, hO3⟩
    have B9 := Lib.hid (B8.out.trans (((hO1.base (B := U0.heap.size) (by omega) (by have := B8.out.size; omega)).trans (hO2.base (by omega) (by have := B8.out.size; have := hO1.size; omega))).trans (hO3.base (by omega) (by have := B8.out.size; have := hO1.size; have := hO2.size; omega))))
    have G0 := Lib.hid (((G0.out.only hO1 (by omega)).only hO2 (by omega)).only hO3 (by omega))
    have W0 := Lib.hid (((W0.out.only hO1 (fun g o h1 h2 => by have := WL1.out g o h1 h2; omega) (fun g o h1 h2 => by have := WL2.out g o h1 h2; omega) (fun g o h1 h2 => by have := WL3.out g o h1 h2; omega)).only hO2 (fun g o h1 h2 => by have := WL1.out g o h1 h2; omega) (fun g o h1 h2 => by have := WL2.out g o h1 h2; omega) (fun g o h1 h2 => by have := WL3.out g o h1 h2; omega)).only hO3 (fun g o h1 h2 => by have := WL1.out g o h1 h2; omega) (fun g o h1 h2 => by have := WL2.out g o h1 h2; omega) (fun g o h1 h2 => by have := WL3.out g o h1 h2; omega))
    have FB := Lib.hid (((FB.out.only hO1 (by omega)).only hO2 (by omega)).only hO3 (by omega))
    have BG := Lib.hid (((BG.out.only hO1 (by omega)).only hO2 (by omega)).only hO3 (by omega))
    have zk : zB ≤ w9.heap.size := by have := hO1.size; have := hO2.size; have := hO3.size; omega
    clear hO1 hO2 hO3 t0 t1 t2
    obtain ⟨KK, hKK⟩ : ∃ KK : Nat, 1 + X.A.length + X.L.length + X.H.length = KK := ⟨_, rfl⟩
    have hK1 : ¬ (KK : Int) < 0 := by omega
    rw [hKK]
    clear hKK
    obtain ⟨BG0, BG1, BG2⟩ := BG.out
    have BG3 := BG.out.lt
    obtain ⟨FB0, FB1, FB2⟩ := FB.out
    have FB3 := FB.out.lt
    go_wp2_with fail
    refine (eq_bk Y _ _ _ _ _ _ _ _ _ _ _ _ HYl.out _ G0.out.arg W0.out).mono ?_
    rintro e w10 ⟨rfl, hb10⟩
    have B10 := Lib.hid (bnext B9.out hb10)
    have zq10 := hb10.size
    have W0 := Lib.hid (W0.out.later hb10)
    have G0 := Lib.hid (G0.out.later hb10)
    have FB := Lib.hid (FB.out.later hb10)
    have BG := Lib.hid (BG.out.later hb10)
    clear hb10 BG0 BG1 BG2 BG3 FB0 FB1 FB2 FB3
    have zk2 : zB ≤ w10.heap.size := by omega
    obtain ⟨BG0, BG1, BG2⟩ := BG.out
    have BG3 := BG.out.lt
    go_wp2_with fail
    refine (mark_bkres Y HYl.out 1 (by omega) zB _ _ _ _ _ _ _ zk2 G0.out).mono ?_
    rintro e w11 ⟨rfl, hb11, hbx, M0⟩
    have B11 := Lib.hid (B10.out.trans (hb11.mono (by omega)))
    have W0 := Lib.hid (W0.out.base hb11 (fun g o h1 h2 => by have := WL1.out g o h1 h2; omega) (fun g o h1 h2 => by have := WL2.out g o h1 h2; omega) (fun g o h1 h2 => by have := WL3.out g o h1 h2; omega))
    have FB := Lib.hid (FB.out.base hb11 (by omega))
    have BG := Lib.hid (hbx _ _ _ _ _ _ _ _ BG.out.lt GL.out BG.out)
    have G0 := Lib.hid M0
    clear hb11 M0 hbx BG0 BG1 BG2 BG3
    obtain ⟨q, hq⟩ : ∃ q : Int, ((1 + Y.A.length + Y.L.length + Y.H.length : Nat) : Int) = q := ⟨_, rfl⟩
    have hq0 : ¬ q < 0 := by omega
    have HQ := Lib.hid hq
    rw [hq]
    clear hq
    obtain ⟨BG0, BG1, BG2⟩ := BG.out
    have BG3 := BG.out.lt
    go_wp2_with fail
    refine (held_bkres Y HYl.out 1 (by omega) zB _ _ _ _ _ _ _ G0.out).mono ?_
    rintro e w12 ⟨rfl, hb12⟩
    have B12 := Lib.hid (bnext B11.out hb12)
    have zq12 := hb12.size
    have W0 := Lib.hid (W0.out.later hb12)
    have G0 := Lib.hid (G0.out.later hb12)
    have FB := Lib.hid (FB.out.later hb12)
    have BG := Lib.hid (BG.out.later hb12)
    clear hb12 BG0 BG1 BG2 BG3
    rw [HQ.out]
    obtain ⟨p0, p1, p2⟩ := KB.out _ B12.out
    go_wp2_with fail
    refine (to_bk X a b c ca cb cc HL.out _ (HA.out.later B12.out)).mono ?_
    rintro e w13 ⟨gZ, hZ, mZ, rfl, oZ, hb13⟩
    have B13 := Lib.hid (bnext B12.out hb13)
    have zq13 := hb13.size
    have W0 := Lib.hid (W0.out.later hb13)
    have G0 := Lib.hid (G0.out.later hb13)
    have FB := Lib.hid (FB.out.later hb13)
    have BG := Lib.hid (BG.out.later hb13)
    clear hb13 p0 p1 p2
    have OZ := Lib.hid oZ.arg
    clear oZ
    go_wp2_with fail
    refine (I.out _ _ _ _ _ _ _ OZ.out).mono ?_
    rintro e w14 ⟨aH, bH, cH, xH, yH, zH, rfl, oH, hb14⟩
    have B14 := Lib.hid (bnext B13.out hb14)
    have zq14 := hb14.size
    have W0 := Lib.hid (W0.out.later hb14)
    have G0 := Lib.hid (G0.out.later hb14)
    have FB := Lib.hid (FB.out.later hb14)
    have BG := Lib.hid (BG.out.later hb14)
    have OZ := Lib.hid (OZ.out.later hb14)
    clear hb14
    have H0 := Lib.hid oH.arg
    clear oH
    obtain ⟨FB0, FB1, FB2⟩ := FB.out
    have FB3 := FB.out.lt
    have bq := balloc0 w14 (.cells #[.slice aH Y.A.length xH, .slice bH Y.L.length yH, .slice cH Y.H.length zH] 27)
    have BQ := Lib.hid (bnext B14.out bq)
    have BH := Lib.hid (BkBox.new w14 Y aH bH cH xH yH zH 27)
    have W0 := Lib.hid (W0.out.later bq)
    have G0 := Lib.hid (G0.out.later bq)
    have FB := Lib.hid (FB.out.later bq)
    have BG := Lib.hid (BG.out.later bq)
    have H0 := Lib.hid (H0.out.later bq)
    obtain ⟨VH, hVH⟩ : ∃ V, w14.alloc (.cells #[.slice aH Y.A.length xH, .slice bH Y.L.length yH, .slice cH Y.H.length zH] 27) = V := ⟨_, rfl⟩
    have zVH : VH.heap.size = w14.heap.size + 1 := by rw [← hVH]; simp
    rw [hVH] at BQ BH W0 G0 FB BG H0
    have BVH := BQ
    clear BQ bq
    have HVH := Lib.hid hVH
    clear hVH
    go_wp2_with fail
    rw [HVH.out]
    refine (eq_bk Y _ _ _ _ _ _ _ _ _ _ _ _ HYl.out _ H0.out W0.out).mono ?_
    rintro e w15 ⟨rfl, hb15⟩
    have B15 := Lib.hid (bnext BVH.out hb15)
    have zq15 := hb15.size
    have W0 := Lib.hid (W0.out.later hb15)
    have G0 := Lib.hid (G0.out.later hb15)
    have FB := Lib.hid (FB.out.later hb15)
    have BG := Lib.hid (BG.out.later hb15)
    have H0 := Lib.hid (H0.out.later hb15)
    have BH := Lib.hid (BH.out.later hb15)
    clear hb15 FB0 FB1 FB2 FB3
    obtain ⟨BG0, BG1, BG2⟩ := BG.out
    have BG3 := BG.out.lt
    go_wp2_with fail
    refine (held_bkres Y HYl.out 1 (by omega) zB _ _ _ _ _ _ _ G0.out).mono ?_
    rintro e w16 ⟨rfl, hb16⟩
    have B16 := Lib.hid (bnext B15.out hb16)
    have zq16 := hb16.size
    have W0 := Lib.hid (W0.out.later hb16)
    have G0 := Lib.hid (G0.out.later hb16)
    have FB := Lib.hid (FB.out.later hb16)
    have BG := Lib.hid (BG.out.later hb16)
    have H0 := Lib.hid (H0.out.later hb16)
    have BH := Lib.hid (BH.out.later hb16)
    clear hb16 BG0 BG1 BG2 BG3
    rw [HQ.out]
    go_wp2
    go_ret
    exact ⟨rfl, bnext E0.out B16.out⟩
end Go.Proofs.Ytlglijalhacmhaa
