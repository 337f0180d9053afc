/-
  The walk of the law on FrontLines.
-/
import Derived.Test.YtplggghhhgmebaaFtJ
import Derived.Test.YtplggghhhgmebaaFtS
import Derived.Test.YtplggghhhgmebaaSt
import Derived.Test.YtplggghhhgmebaaStM
import Derived.Test.YtplggghhhgmebaaFr
import Derived.Deep.RegionWith
namespace Go.Proofs.Ytplggghhhgmebaa
open Go.ChangeShapes Go.WideShapes Go.ChangeAt Go.RowKit Go.Joins

set_option maxRecDepth 100000 in
set_option maxHeartbeats 12800000 in
theorem walk_FnExactFrontLines (F C : Int) (L : List Og) (a : Option Addr) (cap : Nat) (hl : L.length ≤ maxLen) (w : World) (ha : OgArg w a L) :
    Calls Try.prog 12 #[.agg #[.int .i64 F, .int .i64 C, .slice a L.length cap]] w fun e w' => e = .returned (.bool true) ∧ Below w.heap.size w w' := by
  have d := FrBox.new w F C a cap L 24
  have E0 := Lib.hid (balloc0 w (.cells #[.int .i64 F, .int .i64 C, .slice a L.length cap] 24))
  obtain ⟨W0, hW⟩ : ∃ W0, w.alloc (.cells #[.int .i64 F, .int .i64 C, .slice a L.length cap] 24) = W0 := ⟨_, rfl⟩
  rw [hW] at d E0
  have K : Hid (∀ wx, Below W0.heap.size W0 wx → FrBox w.heap.size F C a cap L wx) := fun wx hx => d.later hx
  have E0 : Hid (Below w.heap.size w W0) := E0.out
  have HW := Lib.hid hW
  have Z := Lib.hid (sz_front F C L a cap 1048576 (by omega) (by omega) hl W0)
  have HA := Lib.hid (ha.later E0.out)
  clear ha hl hW d
  go_enter Try.func12, Try.ntmps12
  go_wp2_with fail
  rw [HW.out]
  obtain ⟨k0, k1, k2⟩ := K.out _ (Below.refl _ _)
  go_wp2_with fail
  refine Z.out.mono ?_
  rintro e w1 ⟨r, rfl, r0, r1, r2, hb1⟩
  have B1 := Lib.hid hb1
  have R2 := Lib.hid r2
  clear hb1 r2 k0 k1 k2
  by_cases hr : r < 0
  · go_wp2
    go_ret
    exact ⟨rfl, bnext E0.out B1.out⟩
  have hL := R2.out (by omega)
  have S := Lib.hid (fun g wx (h : OgArg wx g L) => frontLines_spec F C L g L.length hL  wx h)
  have I := Lib.hid (fun g wx (h : OgArg wx g L) => frontLines_impl F C L g L.length hL (Nat.le_refl _)  wx h)
  unfold FtAns at S I
  have hQ := flL_length F C L 
  obtain ⟨Q, hQe⟩ : ∃ Q, flL F C L = Q := ⟨_, rfl⟩
  obtain ⟨c, hce⟩ : ∃ c : Int, flK F C L = c := ⟨_, rfl⟩
  rw [hQe, hce] at S I
  rw [hQe] at hQ
  clear hQe hce
  obtain ⟨k0, k1, k2⟩ := K.out _ B1.out
  go_wp2_with fail
  refine (to_front F C L a cap hL _ (HA.out.later B1.out)).mono ?_
  rintro e w2 ⟨g2, rfl, o2, hb2⟩
  have B2 := Lib.hid (bnext B1.out hb2)
  have O2 := Lib.hid o2.arg
  clear hb2 o2 k0 k1 k2
  go_wp2_with fail
  refine (S.out _ _ O2.out).mono ?_
  rintro e w3 ⟨a3, c3, rfl, o3, hb3⟩
  have B3 := Lib.hid (bnext B2.out hb3)
  have M := Lib.hid (LowStr.of o3)
  clear hb3 o3
  obtain ⟨k0, k1, k2⟩ := K.out _ B3.out
  go_wp2_with fail
  refine (to_front F C L a cap hL _ (HA.out.later B3.out)).mono ?_
  rintro e w4 ⟨g4, rfl, o4, hb4⟩
  have z4 : w3.heap.size ≤ w4.heap.size := hb4.size
  have B4 := Lib.hid (bnext B3.out hb4)
  have M4 := Lib.hid (M.out.later hb4)
  have g4ge : w3.heap.size ≤ g4 := o4.1
  have g4lt : g4 < w4.heap.size := o4.2.2.2
  have O4 := Lib.hid o4
  clear hb4 o4 k0 k1 k2
  go_wp2_with fail
  refine (I.out _ _ (O4.out.arg.later (balloc0 _ _))).mono ?_
  rintro e w5 ⟨a5, c5, rfl, o5, hb5⟩
  have z5 : w4.heap.size + 1 ≤ w5.heap.size := by have := hb5.size; simp at this; omega
  have B5 := Lib.hid (bnext (balloc B4.out _) hb5)
  have A5 := Lib.hid ((O4.out.later (balloc0 _ _)).later hb5)
  have M5 := Lib.hid ((M4.out.later (balloc0 _ _)).later hb5)
  have G5 : Hid (StrRes (w4.heap.size + 1) Q a5 w5) := by
    rcases o5 with h | ⟨g, h1, h2⟩
    · exact .inl h
    · exact .inr ⟨g, h1, by have := h2.1; simp at this; omega, h2.2⟩
  have X5 := Lib.hid ((FrBox.new w4 F C (some ⟨g4, 0, none⟩) L.length L 29).later hb5)
  clear hb5 o5
  go_wp2_with fail
  refine (eq_strs Q a5 a3 c5 c3 (by omega) _ G5.out.arg M5.out.arg).mono ?_
  rintro e w6 ⟨rfl, hb6⟩
  have z6 : w5.heap.size ≤ w6.heap.size := hb6.size
  have B6 := Lib.hid (bnext B5.out hb6)
  have A6 := Lib.hid (A5.out.later hb6)
  have M6 := Lib.hid (M5.out.later hb6)
  have G6 := Lib.hid (G5.out.later hb6)
  have X6 := Lib.hid (X5.out.later hb6)
  clear hb6
  obtain ⟨k0, k1, k2⟩ := K.out _ B6.out.drew
  obtain ⟨y0, y1, y2⟩ := X6.out.drew
  go_wp2_with fail
  go_region_with (first | (go_at_call 15; refine (to_front F C L a cap hL _ (HA.out.later B6.out.drew)).mono ?_; rintro e w7 ⟨g7, rfl, o7, hb7⟩; have z7 : w6.heap.size ≤ w7.heap.size := hb7.size; have B7 := Lib.hid (bnext B6.out.drew hb7); have A7 := Lib.hid (OgOwn.later (w := w6.drew) A6.out hb7); have M7 := Lib.hid (LowStr.later (w := w6.drew) M6.out hb7); have G7 := Lib.hid (StrRes.later (w := w6.drew) G6.out hb7); have O7 := Lib.hid o7.arg; have X7 := Lib.hid (FrBox.later (w := w6.drew) X6.out hb7); obtain ⟨v0, v1, v2⟩ := X7.out; clear hb7 o7) | (go_at_call 17; refine (eq_front F C L _ _ _ _ (by omega) _ A7.out.arg O7.out).mono ?_; rintro e w8 ⟨rfl, hb8⟩; have z8 : w7.heap.size ≤ w8.heap.size := hb8.size; have B8 := Lib.hid (bnext B7.out hb8); have A8 := Lib.hid (A7.out.later hb8); have M8 := Lib.hid (M7.out.later hb8); have G8 := Lib.hid (G7.out.later hb8); obtain ⟨u0, u1, u2⟩ := X7.out.later hb8; clear hb8))
  all_goals
    clear k0 k1 k2 y0 y1 y2 v0 v1 v2
    go_wp2_with fail
    refine (mark_front F C L (by omega) 1 (by omega) w3.heap.size g4 _ _ A8.out).mono ?_
    rintro e w9 ⟨rfl, hO9, _⟩
    have z9 : w8.heap.size ≤ w9.heap.size := hO9.size
    have sW : W0.heap.size ≤ w3.heap.size := B3.out.size
    have B9 := Lib.hid (B8.out.trans (hO9.base (by omega) (by omega)))
    have G9 := Lib.hid (G8.out.only hO9 (by omega))
    have M9 := Lib.hid (M8.out.only hO9 g4ge)
    clear hO9 u0 u1 u2
    obtain ⟨KK, hK⟩ : ∃ KK : Nat, 1 + 4 * L.length = KK := ⟨_, rfl⟩
    have hK1 : ¬ (KK : Int) < 0 := by omega
    rw [hK]
    clear hK
    go_wp2_with fail
    refine (eq_strs Q a5 a3 c5 c3 (by omega) _ G9.out.arg M9.out.arg).mono ?_
    rintro e w10 ⟨rfl, hb10⟩
    have z10 : w9.heap.size ≤ w10.heap.size := hb10.size
    have B10 := Lib.hid (bnext B9.out hb10)
    have M10 := Lib.hid (M9.out.later hb10)
    have G10 := Lib.hid (G9.out.later hb10)
    clear hb10
    have bg : w4.heap.size + 1 ≤ w10.heap.size := by omega
    go_wp2_with fail
    refine (mark_sres Q (by omega) 1 (by omega) (by omega) (w4.heap.size + 1) c5 a5 _ bg G10.out).mono ?_
    rintro e w11 ⟨rfl, hb11, m11⟩
    have z11 : w10.heap.size ≤ w11.heap.size := hb11.size
    have B11 := Lib.hid (B10.out.trans (hb11.mono (by omega)))
    have M11 := Lib.hid (M10.out.below hb11 (by omega))
    have G11 := Lib.hid m11
    clear hb11 m11
    obtain ⟨q, hq⟩ : ∃ q : Int, ((1 + Q.length : Nat) : Int) = q := ⟨_, rfl⟩
    have hq0 : ¬ q < 0 := by omega
    have HQ := Lib.hid hq
    rw [hq]
    clear hq
    go_wp2_with fail
    refine (held_sres Q.length (by omega) 1 (by omega) (by omega) c5 a5 _ _ G11.out).mono ?_
    rintro e w12 ⟨rfl, hb12⟩
    rw [HQ.out]
    have B12 := Lib.hid (bnext B11.out hb12)
    have M12 := Lib.hid (M11.out.later hb12)
    have G12 := Lib.hid (G11.out.later hb12)
    clear hb12
    obtain ⟨k0, k1, k2⟩ := K.out _ B12.out
    go_wp2_with fail
    refine (to_front F C L a cap hL _ (HA.out.later B12.out)).mono ?_
    rintro e w13 ⟨g13, rfl, o13, hb13⟩
    have B13 := Lib.hid (bnext B12.out hb13)
    have O13 := Lib.hid o13.arg
    have M13 := Lib.hid (M12.out.later hb13)
    have G13 := Lib.hid (G12.out.later hb13)
    clear hb13 o13 k0 k1 k2
    go_wp2_with fail
    refine (I.out _ _ O13.out).mono ?_
    rintro e w14 ⟨a14, c14, rfl, o14, hb14⟩
    have B14 := Lib.hid (bnext B13.out hb14)
    have M14 := Lib.hid (M13.out.later hb14)
    have G14 := Lib.hid (G13.out.later hb14)
    have R14 := Lib.hid o14
    clear hb14 o14
    go_wp2_with fail
    refine (eq_strs Q a14 a3 c14 c3 (by omega) _ R14.out.arg M14.out.arg).mono ?_
    rintro e w15 ⟨rfl, hb15⟩
    have B15 := Lib.hid (bnext B14.out hb15)
    have G15 := Lib.hid (G14.out.later hb15)
    clear hb15
    go_wp2_with fail
    refine (held_sres Q.length (by omega) 1 (by omega) (by omega) c5 a5 _ _ G15.out).mono ?_
    rintro e w16 ⟨rfl, hb16⟩
    rw [HQ.out]
    have B16 := Lib.hid (bnext B15.out hb16)
    clear hb16
    go_wp2
    go_ret
    exact ⟨rfl, bnext E0.out B16.out⟩
end Go.Proofs.Ytplggghhhgmebaa
