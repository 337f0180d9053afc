/-
  The walk of the law on CheapestBlend.
-/
import Derived.Test.YtpmklnldgafkjaaCheapJ
import Derived.Test.YtpmklnldgafkjaaCwL
import Derived.Test.YtpmklnldgafkjaaCwF
namespace Go.Proofs.Ytpmklnldgafkjaa
open Go.ChangeShapes Go.WideShapes Go.ChangeAt Go.RowKit Go.Joins

set_option maxRecDepth 100000 in
set_option maxHeartbeats 12800000 in
theorem walk_FnExactCheapestBlend (L : List Cl) (a : Option Addr) (cap : Nat) (hl : L.length ≤ maxLen) (hs : NamesLe maxLen L) (t x0 x1 x2 x3 : Int) (w : World) (ha : ClArg w a L) :
    Calls Try.prog 11 #[.slice a L.length cap, .int .i64 t, .agg #[.int .i64 x0, .int .i64 x1, .int .i64 x2, .int .i64 x3]] w fun e w' => e = .returned (.bool true) ∧ Below w.heap.size w w' := by
  obtain ⟨x, hx0, hx1, hx2, hx3⟩ : ∃ x : Li, x0 = x.lo ∧ x1 = x.hi ∧ x2 = x.ml ∧ x3 = x.ms := ⟨⟨x0, x1, x2, x3⟩, rfl, rfl, rfl, rfl⟩
  rw [hx0, hx1, hx2, hx3]
  clear hx0 hx1 hx2 hx3
  have RX0 := range_new w #[.int .i64 x.lo, .int .i64 x.hi, .int .i64 x.ml, .int .i64 x.ms] 49
  have B0 : Hid (Below w.heap.size w (w.alloc (.cells #[.int .i64 x.lo, .int .i64 x.hi, .int .i64 x.ml, .int .i64 x.ms] 49))) := balloc0 _ _
  have HA := Lib.hid (ha.later B0.out)
  obtain ⟨W0, hW0⟩ : ∃ W0, w.alloc (.cells #[.int .i64 x.lo, .int .i64 x.hi, .int .i64 x.ml, .int .i64 x.ms] 49) = W0 := ⟨_, rfl⟩
  rw [hW0] at RX0 B0 HA
  have RX : Hid (∀ wx, Below W0.heap.size W0 wx → wx.rangeAt w.heap.size 0 x.vals) := fun wx h => range_below RX0 h
  have HW := Lib.hid hW0
  have Z := Lib.hid (sz_clays L a cap 1048576 (by omega) (by omega) hl hs W0 HA.out)
  clear hW0 RX0 hs ha hl
  go_enter Try.func11, Try.ntmps11
  go_wp2_with fail
  rw [HW.out]
  refine Z.out.mono ?_
  rintro e w1 ⟨r, rfl, r0, r1, r2, hb1⟩
  have H1 := Lib.hid hb1
  have R2 := Lib.hid r2
  clear hb1 r2
  by_cases hr : r < 0
  · go_wp2
    go_ret
    exact ⟨rfl, B0.out.trans (H1.out.mono B0.out.size)⟩
  have hL := (R2.out (by omega)).1
  have hQ := cheapL_length L t x
  have S := Lib.hid (fun g cp wx (h : ClArg wx g L) => cheap_spec L g cp hL t x wx h)
  have I := Lib.hid (fun g cp wx (h : ClArg wx g L) => cheap_impl L g cp hL t x wx h)
  unfold CheapOut at S I
  obtain ⟨Q, hQe⟩ : ∃ Q, cheapL L t x = Q := ⟨_, rfl⟩
  obtain ⟨c, hce⟩ : ∃ c, cheapCode L t x = c := ⟨_, rfl⟩
  rw [hQe, hce] at S I
  rw [hQe] at hQ
  clear hQe hce
  obtain ⟨d0, d1, d2, d3⟩ := cells4 (RX.out _ H1.out)
  go_wp2_with fail
  go_region_with (first | (go_at_call 17; refine (to_clays L a cap hL _ (HA.out.later H1.out.drew)).mono ?_; rintro e w2 ⟨g2, rfl, o2, hb2⟩; have H2 := Lib.hid (bnext H1.out.drew hb2); have O2 := Lib.hid o2.arg; clear hb2 o2; obtain ⟨d0, d1, d2, d3⟩ := cells4 (RX.out _ H2.out)) | (go_at_call 38; refine (to_limits x _).mono ?_; rintro e w3 ⟨rfl, hb3⟩; have H3 := Lib.hid (bnext H2.out hb3); have O2 := Lib.hid (O2.out.later hb3); clear hb3) | (go_at_call 42; refine (S.out _ _ _ O2.out).mono ?_; rintro e w4 ⟨hb4, a4, c4, rfl, o4⟩; have H4 := Lib.hid (bnext H3.out hb4); have WL := Lib.hid o4.lt; have W0' := Lib.hid o4.arg; clear hb4 o4))
  all_goals
    clear d0 d1 d2 d3
    go_wp2_with fail
    refine (to_clays L a cap hL _ (HA.out.later H4.out)).mono ?_
    rintro e w5 ⟨g5, rfl, o5, hb5⟩
    have z5 : w4.heap.size ≤ w5.heap.size := hb5.size
    have H5 := Lib.hid (bnext H4.out hb5)
    have W0' := Lib.hid (W0'.out.later hb5)
    have Y0 := Lib.hid o5
    have y0lt : g5 < w5.heap.size := Y0.out.2.2.2
    have y0ge : w4.heap.size ≤ g5 := Y0.out.1
    clear hb5 o5
    obtain ⟨d0, d1, d2, d3⟩ := cells4 (RX.out _ H5.out)
    go_wp2_with fail
    refine (to_limits x _).mono ?_
    rintro e w6 ⟨rfl, hb6⟩
    have z6 : w5.heap.size ≤ w6.heap.size := hb6.size
    have H6 := Lib.hid (bnext H5.out hb6)
    have W0' := Lib.hid (W0'.out.later hb6)
    have Y0 := Lib.hid (Y0.out.later hb6)
    clear hb6 d0 d1 d2 d3
    go_wp2_with fail
    refine (I.out _ _ _ Y0.out.arg).mono ?_
    rintro e w7 ⟨hb7, a7, c7, rfl, o7⟩
    have z7 : w6.heap.size ≤ w7.heap.size := hb7.size
    have H7 := Lib.hid (bnext H6.out hb7)
    have W0' := Lib.hid (W0'.out.later hb7)
    have Y0 := Lib.hid (Y0.out.later hb7)
    have G0 := Lib.hid o7
    clear hb7 o7
    go_wp2_with fail
    refine (eq_ints Q a7 a4 c7 c4 (by omega) _ G0.out.arg W0'.out).mono ?_
    rintro e w8 ⟨rfl, hb8⟩
    have z8 : w7.heap.size ≤ w8.heap.size := hb8.size
    have H8 := Lib.hid (bnext H7.out hb8)
    have W0' := Lib.hid (W0'.out.later hb8)
    have Y0 := Lib.hid (Y0.out.later hb8)
    have G0 := Lib.hid (G0.out.later hb8)
    clear hb8
    go_wp2_with fail
    refine (to_clays L a cap hL _ (HA.out.later H8.out)).mono ?_
    rintro e w9 ⟨g9, rfl, o9, hb9⟩
    have z9 : w8.heap.size ≤ w9.heap.size := hb9.size
    have H9 := Lib.hid (bnext H8.out hb9)
    have W0' := Lib.hid (W0'.out.later hb9)
    have Y0 := Lib.hid (Y0.out.later hb9)
    have G0 := Lib.hid (G0.out.later hb9)
    have O9 := Lib.hid o9.arg
    clear hb9 o9
    go_wp2_with fail
    refine (eq_clays L _ _ _ _ (by omega) _ Y0.out.arg O9.out).mono ?_
    rintro e w10 ⟨rfl, hb10⟩
    have z10 : w9.heap.size ≤ w10.heap.size := hb10.size
    have H10 := Lib.hid (bnext H9.out hb10)
    have W0' := Lib.hid (W0'.out.later hb10)
    have Y0 := Lib.hid (Y0.out.later hb10)
    have G0 := Lib.hid (G0.out.later hb10)
    have hH4 := H4.out.size
    clear hb10
    go_wp2_with fail
    refine (mark_clays L.length (by omega) 1 (by omega) (by omega) g5 _ _ Y0.out.2.2.1).mono ?_
    rintro e w11 ⟨rfl, hO11⟩
    have z11 : w10.heap.size ≤ w11.heap.size := hO11.size
    have H11 := Lib.hid (H10.out.trans (hO11.base (by omega) (by omega)))
    have G0 := Lib.hid (G0.out.only hO11 (by omega))
    have W0' := Lib.hid (W0'.out.only hO11 (fun g o h1 h2 => by have := WL.out g o h1 h2; omega))
    clear hO11
    obtain ⟨K, hK⟩ : ∃ K : Nat, 1 + 5 * L.length = K := ⟨_, rfl⟩
    have hK1 : ¬ (K : Int) < 0 := by omega
    rw [hK]
    clear hK
    go_wp2_with fail
    refine (eq_ints Q a7 a4 c7 c4 (by omega) _ G0.out.arg W0'.out).mono ?_
    rintro e w12 ⟨rfl, hb12⟩
    have z12 : w11.heap.size ≤ w12.heap.size := hb12.size
    have H12 := Lib.hid (bnext H11.out hb12)
    have W0' := Lib.hid (W0'.out.later hb12)
    have G0 := Lib.hid (G0.out.later hb12)
    clear hb12
    have bg : w6.heap.size ≤ w12.heap.size := by omega
    go_wp2_with fail
    refine (mark_res Q (by omega) 1 (by omega) w6.heap.size c7 a7 _ bg G0.out).mono ?_
    rintro e w13 ⟨rfl, hb13, M0⟩
    have H13 := Lib.hid (H12.out.trans (hb13.mono (by omega)))
    have W0' := Lib.hid (W0'.out.base hb13 (fun g o h1 h2 => by have := WL.out g o h1 h2; omega))
    have G0 := Lib.hid M0
    clear hb13 M0
    obtain ⟨q, hq⟩ : ∃ q : Int, ((1 + Q.length : Nat) : Int) = q := ⟨_, rfl⟩
    have hq0 : ¬ q < 0 := by omega
    have HQ := Lib.hid hq
    rw [hq]
    clear hq
    go_wp2_with fail
    refine (held_res Q.length (by omega) 1 (by omega) c7 a7 _ _ G0.out).mono ?_
    rintro e w14 ⟨rfl, hb14⟩
    rw [HQ.out]
    have H14 := Lib.hid (bnext H13.out hb14)
    have W0' := Lib.hid (W0'.out.later hb14)
    have G0 := Lib.hid (G0.out.later hb14)
    clear hb14
    obtain ⟨d0, d1, d2, d3⟩ := cells4 (RX.out _ H14.out)
    go_wp2_with fail
    go_region_with (first | (go_at_call 17; refine (to_clays L a cap hL _ (HA.out.later H14.out.drew)).mono ?_; rintro e w16 ⟨g16, rfl, o16, hb16⟩; have H16 := Lib.hid (bnext H14.out.drew hb16); have O16 := Lib.hid o16.arg; have W16 := Lib.hid (W0'.out.later (bnext (Below.refl _ _).drew hb16)); have G16 := Lib.hid (G0.out.later (bnext (Below.refl _ _).drew hb16)); clear hb16 o16; obtain ⟨d0, d1, d2, d3⟩ := cells4 (RX.out _ H16.out)) | (go_at_call 38; refine (to_limits x _).mono ?_; rintro e w17 ⟨rfl, hb17⟩; have H17 := Lib.hid (bnext H16.out hb17); have O17 := Lib.hid (O16.out.later hb17); have W17 := Lib.hid (W16.out.later hb17); have G17 := Lib.hid (G16.out.later hb17); clear hb17) | (go_at_call 43; refine (I.out _ _ _ O17.out).mono ?_; rintro e w18 ⟨hb18, a18, c18, rfl, o18⟩; have H18 := Lib.hid (bnext H17.out hb18); have W18 := Lib.hid (W17.out.later hb18); have G18 := Lib.hid (G17.out.later hb18); have R18 := Lib.hid o18.arg; clear hb18 o18))
    all_goals
      clear d0 d1 d2 d3
      go_wp2_with fail
      refine (eq_ints Q a18 a4 c18 c4 (by omega) _ R18.out W18.out).mono ?_
      rintro e w19 ⟨rfl, hb19⟩
      have H19 := Lib.hid (bnext H18.out hb19)
      have G19 := Lib.hid (G18.out.later hb19)
      clear hb19
      go_wp2_with fail
      refine (held_res Q.length (by omega) 1 (by omega) c7 a7 _ _ G19.out).mono ?_
      rintro e w20 ⟨rfl, hb20⟩
      rw [HQ.out]
      have H20 := Lib.hid (bnext H19.out hb20)
      clear hb20
      go_wp2
      go_ret
      exact ⟨rfl, B0.out.trans (H20.out.mono B0.out.size)⟩
end Go.Proofs.Ytpmklnldgafkjaa
