/-
  The walk of the law on FiredSize.
-/
import Derived.Test.YtgffgcobgjngnaaMoF
import Derived.Test.YtgffgcobgjngnaaMoL
import Derived.Test.YtgffgcobgjngnaaIntX
namespace Go.Proofs.Ytgffgcobgjngnaa
open Go.ChangeShapes Go.WideShapes Go.ChangeAt Go.RowKit Go.Joins

set_option maxRecDepth 100000 in
set_option maxHeartbeats 12800000 in
theorem walk_FnExactFiredSize (c0 : Mo) (x1 : Int) (_wf1 : (Lit.int .i64 x1).wf = true) (w : World)  :
    Calls Try.prog 4 #[.agg #[.int .i64 c0.le, .int .i64 c0.wi, .int .i64 c0.he, .int .i64 c0.us], .int .i64 x1] w fun e w' => e = .returned (.bool true) ∧ Below w.heap.size w w' := by
  have RX0 : (w.alloc (.cells #[.int .i64 c0.le, .int .i64 c0.wi, .int .i64 c0.he, .int .i64 c0.us] 30)).rangeAt w.heap.size 0 c0.vals := range_new w #[.int .i64 c0.le, .int .i64 c0.wi, .int .i64 c0.he, .int .i64 c0.us] 30
  have B0 : Hid (Below w.heap.size w (w.alloc (.cells #[.int .i64 c0.le, .int .i64 c0.wi, .int .i64 c0.he, .int .i64 c0.us] 30))) := balloc0 _ _
  obtain ⟨W0, hW0⟩ : ∃ W0, w.alloc (.cells #[.int .i64 c0.le, .int .i64 c0.wi, .int .i64 c0.he, .int .i64 c0.us] 30) = W0 := ⟨_, rfl⟩
  rw [hW0] at RX0 B0 
  have RX : Hid (∀ wx, Below W0.heap.size W0 wx → wx.rangeAt w.heap.size 0 c0.vals) := fun wx h => range_below RX0 h
  have HW := Lib.hid hW0
  clear hW0 RX0 
  have H0 : Hid (Below W0.heap.size W0 W0) := Below.refl _ _
  have hb0sz : w.heap.size ≤ W0.heap.size := B0.out.size
  go_enter Try.func4, Try.ntmps4
  have S := Lib.hid (fun  wx  => fs_spec c0 x1 wx )
  have I := Lib.hid (fun  wx  => fs_impl c0 x1 wx )
  have hQ : (fsL c0 x1).length ≤ 1048577 := fsL_length c0 x1
  obtain ⟨Q, hv0⟩ : ∃ Q, fsL c0 x1 = Q := ⟨_, rfl⟩
  rw [hv0] at S I hQ
  obtain ⟨y1, hv1⟩ : ∃ y1, fsC c0 x1 = y1 := ⟨_, rfl⟩
  rw [hv1] at S I
  clear hv0 hv1
  have HQL := Lib.hid hQ
  clear hQ
  obtain ⟨d0, d1, d2, d3⟩ := boxedMo (RX.out _ H0.out)
  go_wp2_with fail
  rw [HW.out]
  refine (to_mould c0 _).mono ?_
  rintro e w1 ⟨rfl, hb1⟩
  have z1 : W0.heap.size ≤ w1.heap.size := hb1.size
  have H1 := Lib.hid (bnext H0.out hb1)
  clear hb1
  clear d0 d1 d2 d3
  go_wp2_with fail
  refine (S.out  _ ).mono ?_
  rintro e w2 ⟨aW0, cW0, rfl, o2, hb2⟩
  have z2 : w1.heap.size ≤ w2.heap.size := hb2.size
  have H2 := Lib.hid (bnext H1.out hb2)
  have W0 := Lib.hid o2
  clear o2
  clear hb2
  have WL := Lib.hid W0.out.lt
  have W0 := Lib.hid W0.out.arg
  obtain ⟨d0, d1, d2, d3⟩ := boxedMo (RX.out _ H2.out)
  go_wp2_with fail
  refine (to_mould c0 _).mono ?_
  rintro e w3 ⟨rfl, hb3⟩
  have z3 : w2.heap.size ≤ w3.heap.size := hb3.size
  have H3 := Lib.hid (bnext H2.out hb3)
  have W0 := Lib.hid (W0.out.later hb3)
  clear hb3
  clear d0 d1 d2 d3
  go_wp2_with fail
  refine (I.out  _ ).mono ?_
  rintro e w4 ⟨aG0, cG0, rfl, o4, hb4⟩
  have z4 : w3.heap.size ≤ w4.heap.size := hb4.size
  have H4 := Lib.hid (bnext H3.out hb4)
  have W0 := Lib.hid (W0.out.later hb4)
  have G0 := Lib.hid o4
  clear o4
  clear hb4
  go_wp2_with fail
  refine (eq_ints Q aG0 aW0 cG0 cW0 (by have := HQL.out; omega) _ G0.out.arg W0.out).mono ?_
  rintro e w5 ⟨rfl, hb5⟩
  have z5 : w4.heap.size ≤ w5.heap.size := hb5.size
  have H5 := Lib.hid (bnext H4.out hb5)
  have W0 := Lib.hid (W0.out.later hb5)
  have G0 := Lib.hid (G0.out.later hb5)
  clear hb5
  have bg : w3.heap.size ≤ w5.heap.size := by omega
  go_wp2_with fail
  refine (mark_res Q (by have := HQL.out; omega) 1 (by omega) w3.heap.size cG0 aG0 _ bg G0.out).mono ?_
  rintro e w6 ⟨rfl, hb6, M0⟩
  have z6 : w5.heap.size ≤ w6.heap.size := hb6.size
  have hks2 := H3.out.size
  have H6 := Lib.hid (H5.out.trans (hb6.mono (by omega)))
  have W0 := Lib.hid (W0.out.base hb6 (fun g o h1 h2 => by have := WL.out g o h1 h2; omega))
  have G0 := Lib.hid M0
  clear hb6 M0
  obtain ⟨t, ht⟩ : ∃ t : Int, ((1 + Q.length : Nat) : Int) = t := ⟨_, rfl⟩
  have ht0 : ¬ t < 0 := by omega
  have HT := Lib.hid ht
  rw [ht]
  clear ht
  go_wp2_with fail
  refine (held_res Q.length (by have := HQL.out; omega) 1 (by omega) cG0 aG0 _ _ G0.out).mono ?_
  rintro e w7 ⟨rfl, hb7⟩
  have z7 : w6.heap.size ≤ w7.heap.size := hb7.size
  have H7 := Lib.hid (bnext H6.out hb7)
  have W0 := Lib.hid (W0.out.later hb7)
  have G0 := Lib.hid (G0.out.later hb7)
  rw [HT.out]
  clear hb7
  obtain ⟨d0, d1, d2, d3⟩ := boxedMo (RX.out _ H7.out)
  go_wp2_with fail
  refine (to_mould c0 _).mono ?_
  rintro e w8 ⟨rfl, hb8⟩
  have z8 : w7.heap.size ≤ w8.heap.size := hb8.size
  have H8 := Lib.hid (bnext H7.out hb8)
  have W0 := Lib.hid (W0.out.later hb8)
  have G0 := Lib.hid (G0.out.later hb8)
  clear hb8
  clear d0 d1 d2 d3
  go_wp2_with fail
  refine (I.out  _ ).mono ?_
  rintro e w9 ⟨aH0x, cH0x, rfl, o9, hb9⟩
  have z9 : w8.heap.size ≤ w9.heap.size := hb9.size
  have H9 := Lib.hid (bnext H8.out hb9)
  have W0 := Lib.hid (W0.out.later hb9)
  have G0 := Lib.hid (G0.out.later hb9)
  have H0x := Lib.hid o9
  clear o9
  clear hb9
  go_wp2_with fail
  refine (eq_ints Q aH0x aW0 cH0x cW0 (by have := HQL.out; omega) _ H0x.out.arg W0.out).mono ?_
  rintro e w10 ⟨rfl, hb10⟩
  have z10 : w9.heap.size ≤ w10.heap.size := hb10.size
  have H10 := Lib.hid (bnext H9.out hb10)
  have W0 := Lib.hid (W0.out.later hb10)
  have G0 := Lib.hid (G0.out.later hb10)
  have H0x := Lib.hid (H0x.out.later hb10)
  clear hb10
  go_wp2_with fail
  refine (held_res Q.length (by have := HQL.out; omega) 1 (by omega) cG0 aG0 _ _ G0.out).mono ?_
  rintro e w11 ⟨rfl, hb11⟩
  have z11 : w10.heap.size ≤ w11.heap.size := hb11.size
  have H11 := Lib.hid (bnext H10.out hb11)
  have W0 := Lib.hid (W0.out.later hb11)
  have G0 := Lib.hid (G0.out.later hb11)
  rw [HT.out]
  clear hb11
  go_wp2
  go_ret
  exact ⟨rfl, B0.out.trans (H11.out.mono B0.out.size)⟩
end Go.Proofs.Ytgffgcobgjngnaa
