/-
  The walk of the law on ShareUses.
-/
import Derived.Test.YtcjmdmkcipiabaaSuS
import Derived.Test.YtcjmdmkcipiabaaSuI
import Derived.Test.YtcjmdmkcipiabaaMoL
import Derived.Test.YtcjmdmkcipiabaaMoK
import Derived.Test.YtcjmdmkcipiabaaIntX
namespace Go.Proofs.Ytcjmdmkcipiabaa
open Go.ChangeShapes Go.WideShapes Go.ChangeAt Go.RowKit Go.Joins

set_option maxRecDepth 100000 in
set_option maxHeartbeats 12800000 in
theorem walk_FnExactShareUses (L0 : List Mo) (a0 : Option Addr) (cap0 : Nat) (hl0 : L0.length ≤ maxLen) (x1 : Int) (_wf1 : (Lit.int .i64 x1).wf = true) (w : World) (ha0 : MoArg w a0 L0) :
    Calls Try.prog 4 #[.slice a0 L0.length cap0, .int .i64 x1] w fun e w' => e = .returned (.bool true) ∧ Below w.heap.size w w' := by
  have B0 : Hid (Below w.heap.size w w) := Below.refl _ _
  have HA0 := Lib.hid ha0
  clear ha0
  have H0 : Hid (Below w.heap.size w w) := Below.refl _ _
  have hb0sz : w.heap.size ≤ w.heap.size := B0.out.size
  go_enter Try.func4, Try.ntmps4
  go_wp2_with fail
  refine (sz_moulds L0.length a0 cap0 1048576 (by omega) (by omega) hl0 w).mono ?_
  rintro e wz0 ⟨r0, rfl, r00, r01, r02, rfl⟩
  by_cases hr0 : r0 < 0
  · go_wp2
    go_ret
    exact ⟨rfl, B0.out.trans (H0.out.mono B0.out.size)⟩
  have hL0 := r02 (by omega)
  clear r02 hl0
  have S := Lib.hid (fun g0 cp0 wx (h0 : MoArg wx g0 L0) => share_spec L0 g0 cp0 hL0 x1 wx h0)
  have I := Lib.hid (fun g0 cp0 wx (h0 : MoArg wx g0 L0) => share_impl L0 g0 cp0 hL0 x1 wx h0)
  have hQ : (suL L0 x1).length ≤ 1048577 := suL_length L0 x1 hL0
  obtain ⟨Q, hv0⟩ : ∃ Q, suL L0 x1 = Q := ⟨_, rfl⟩
  rw [hv0] at S I hQ
  obtain ⟨y1, hv1⟩ : ∃ y1, suC L0 x1 = y1 := ⟨_, rfl⟩
  rw [hv1] at S I
  clear hv0 hv1
  have HQL := Lib.hid hQ
  clear hQ
  go_wp2_with fail
  refine (to_moulds L0 a0 cap0 hL0 _ (HA0.out.later H0.out)).mono ?_
  rintro e w1 ⟨gX0, rfl, o1, hb1⟩
  have z1 : w.heap.size ≤ w1.heap.size := hb1.size
  have H1 := Lib.hid (bnext H0.out hb1)
  have X0 := Lib.hid o1
  clear hb1
  clear o1
  go_wp2_with fail
  refine (S.out _ _ _ X0.out.arg).mono ?_
  rintro e w2 ⟨aW0, cW0, rfl, o2, hb2⟩
  have z2 : w1.heap.size ≤ w2.heap.size := hb2.size
  have H2 := Lib.hid (bnext H1.out hb2)
  have X0 := Lib.hid (X0.out.later hb2)
  have W0 := Lib.hid o2
  clear o2
  clear hb2
  have WL := Lib.hid W0.out.lt
  have W0 := Lib.hid W0.out.arg
  go_wp2_with fail
  refine (to_moulds L0 a0 cap0 hL0 _ (HA0.out.later H2.out)).mono ?_
  rintro e w3 ⟨gY0, rfl, o3, hb3⟩
  have z3 : w2.heap.size ≤ w3.heap.size := hb3.size
  have H3 := Lib.hid (bnext H2.out hb3)
  have W0 := Lib.hid (W0.out.later hb3)
  have Y0 := Lib.hid o3
  have YLT0 := Lib.hid o3.2.2.2
  clear hb3
  clear o3
  go_wp2_with fail
  refine (I.out _ _ _ Y0.out.arg).mono ?_
  rintro e w4 ⟨aG0, cG0, rfl, o4, hb4⟩
  have z4 : w3.heap.size ≤ w4.heap.size := hb4.size
  have H4 := Lib.hid (bnext H3.out hb4)
  have W0 := Lib.hid (W0.out.later hb4)
  have Y0 := Lib.hid (Y0.out.later hb4)
  have G0 := Lib.hid o4
  clear o4
  clear hb4
  go_wp2_with fail
  refine (eq_ints Q aG0 aW0 cG0 cW0 (by have := HQL.out; omega) _ G0.out.arg W0.out).mono ?_
  rintro e w5 ⟨rfl, hb5⟩
  have z5 : w4.heap.size ≤ w5.heap.size := hb5.size
  have H5 := Lib.hid (bnext H4.out hb5)
  have W0 := Lib.hid (W0.out.later hb5)
  have Y0 := Lib.hid (Y0.out.later hb5)
  have G0 := Lib.hid (G0.out.later hb5)
  clear hb5
  go_wp2_with fail
  refine (to_moulds L0 a0 cap0 hL0 _ (HA0.out.later H5.out)).mono ?_
  rintro e w6 ⟨gT0, rfl, o6, hb6⟩
  have z6 : w5.heap.size ≤ w6.heap.size := hb6.size
  have H6 := Lib.hid (bnext H5.out hb6)
  have W0 := Lib.hid (W0.out.later hb6)
  have Y0 := Lib.hid (Y0.out.later hb6)
  have G0 := Lib.hid (G0.out.later hb6)
  have T0 := Lib.hid o6
  clear hb6
  clear o6
  go_wp2_with fail
  refine (eq_moulds L0 _ _ _ _ (by omega) _ Y0.out.arg T0.out.arg).mono ?_
  rintro e w7 ⟨rfl, hb7⟩
  have z7 : w6.heap.size ≤ w7.heap.size := hb7.size
  have H7 := Lib.hid (bnext H6.out hb7)
  have W0 := Lib.hid (W0.out.later hb7)
  have Y0 := Lib.hid (Y0.out.later hb7)
  have G0 := Lib.hid (G0.out.later hb7)
  have T0 := Lib.hid (T0.out.later hb7)
  clear hb7
  go_wp2_with fail
  have y0ge : w2.heap.size ≤ gY0 := Y0.out.1
  have y0lt : gY0 < w3.heap.size := YLT0.out
  have hks := H2.out.size
  refine (mark_moulds L0.length (by omega) 1 (by omega) gY0 _ _ Y0.out.2.2.1).mono ?_
  rintro e w8 ⟨rfl, hO8, _⟩
  have z8 : w7.heap.size ≤ w8.heap.size := hO8.size
  have H8 := Lib.hid (H7.out.trans (hO8.base (by omega) (by omega)))
  have G0 := Lib.hid (G0.out.only hO8 (by omega))
  have W0 := Lib.hid (W0.out.only hO8 (fun g o h1 h2 => by have := WL.out g o h1 h2; omega))
  clear hO8
  obtain ⟨K0, hK0⟩ : ∃ K : Nat, 1 + 4 * L0.length = K := ⟨_, rfl⟩
  have hKK0 : K0 ≤ 40000000 := by omega
  have hKn0 : ¬ (K0 : Int) < 0 := by omega
  rw [hK0]
  clear hK0
  go_wp2_with fail
  refine (eq_ints Q aG0 aW0 cG0 cW0 (by have := HQL.out; omega) _ G0.out.arg W0.out).mono ?_
  rintro e w9 ⟨rfl, hb9⟩
  have z9 : w8.heap.size ≤ w9.heap.size := hb9.size
  have H9 := Lib.hid (bnext H8.out hb9)
  have W0 := Lib.hid (W0.out.later hb9)
  have G0 := Lib.hid (G0.out.later hb9)
  clear hb9
  have bg : w3.heap.size ≤ w9.heap.size := by omega
  go_wp2_with fail
  refine (mark_res Q (by have := HQL.out; omega) 1 (by omega) w3.heap.size cG0 aG0 _ bg G0.out).mono ?_
  rintro e w10 ⟨rfl, hb10, M0⟩
  have z10 : w9.heap.size ≤ w10.heap.size := hb10.size
  have hks2 := H3.out.size
  have H10 := Lib.hid (H9.out.trans (hb10.mono (by omega)))
  have W0 := Lib.hid (W0.out.base hb10 (fun g o h1 h2 => by have := WL.out g o h1 h2; omega))
  have G0 := Lib.hid M0
  clear hb10 M0
  obtain ⟨t, ht⟩ : ∃ t : Int, ((1 + Q.length : Nat) : Int) = t := ⟨_, rfl⟩
  have ht0 : ¬ t < 0 := by omega
  have HT := Lib.hid ht
  rw [ht]
  clear ht
  go_wp2_with fail
  refine (held_res Q.length (by have := HQL.out; omega) 1 (by omega) cG0 aG0 _ _ G0.out).mono ?_
  rintro e w11 ⟨rfl, hb11⟩
  have z11 : w10.heap.size ≤ w11.heap.size := hb11.size
  have H11 := Lib.hid (bnext H10.out hb11)
  have W0 := Lib.hid (W0.out.later hb11)
  have G0 := Lib.hid (G0.out.later hb11)
  rw [HT.out]
  clear hb11
  go_wp2_with fail
  refine (to_moulds L0 a0 cap0 hL0 _ (HA0.out.later H11.out)).mono ?_
  rintro e w12 ⟨gZ0, rfl, o12, hb12⟩
  have z12 : w11.heap.size ≤ w12.heap.size := hb12.size
  have H12 := Lib.hid (bnext H11.out hb12)
  have W0 := Lib.hid (W0.out.later hb12)
  have G0 := Lib.hid (G0.out.later hb12)
  have Z0 := Lib.hid o12
  clear hb12
  clear o12
  go_wp2_with fail
  refine (I.out _ _ _ Z0.out.arg).mono ?_
  rintro e w13 ⟨aH0x, cH0x, rfl, o13, hb13⟩
  have z13 : w12.heap.size ≤ w13.heap.size := hb13.size
  have H13 := Lib.hid (bnext H12.out hb13)
  have W0 := Lib.hid (W0.out.later hb13)
  have G0 := Lib.hid (G0.out.later hb13)
  have Z0 := Lib.hid (Z0.out.later hb13)
  have H0x := Lib.hid o13
  clear o13
  clear hb13
  go_wp2_with fail
  refine (eq_ints Q aH0x aW0 cH0x cW0 (by have := HQL.out; omega) _ H0x.out.arg W0.out).mono ?_
  rintro e w14 ⟨rfl, hb14⟩
  have z14 : w13.heap.size ≤ w14.heap.size := hb14.size
  have H14 := Lib.hid (bnext H13.out hb14)
  have W0 := Lib.hid (W0.out.later hb14)
  have G0 := Lib.hid (G0.out.later hb14)
  have H0x := Lib.hid (H0x.out.later hb14)
  clear hb14
  go_wp2_with fail
  refine (held_res Q.length (by have := HQL.out; omega) 1 (by omega) cG0 aG0 _ _ G0.out).mono ?_
  rintro e w15 ⟨rfl, hb15⟩
  have z15 : w14.heap.size ≤ w15.heap.size := hb15.size
  have H15 := Lib.hid (bnext H14.out hb15)
  have W0 := Lib.hid (W0.out.later hb15)
  have G0 := Lib.hid (G0.out.later hb15)
  rw [HT.out]
  clear hb15
  go_wp2
  go_ret
  exact ⟨rfl, B0.out.trans (H15.out.mono B0.out.size)⟩
end Go.Proofs.Ytcjmdmkcipiabaa
