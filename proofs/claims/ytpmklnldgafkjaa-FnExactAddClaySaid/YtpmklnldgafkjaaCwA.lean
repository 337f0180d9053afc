/-
  The walk of the law on AddClay.
-/
import Derived.Test.YtpmklnldgafkjaaAddJ
import Derived.Test.YtpmklnldgafkjaaMarkD
import Derived.Test.YtpmklnldgafkjaaCwV
namespace Go.Proofs.Ytpmklnldgafkjaa
open Go.ChangeShapes Go.WideShapes Go.ChangeAt Go.RowKit Go.Joins

theorem ClRes.later {B : Nat} {M : List Cl} {a : Option Addr} {w w' : World} (h : ClRes B M a w) (hb : Below w.heap.size w w') : ClRes B M a w' := by
  rcases h with h | ⟨g, h1, h2⟩
  · exact .inl h
  · exact .inr ⟨g, h1, h2.1, h2.2.1.later hb, there_below h2.2.2.1 hb, Nat.lt_of_lt_of_le h2.2.2.2 hb.size⟩
theorem ClRes.arg {B : Nat} {M : List Cl} {a : Option Addr} {w : World} (h : ClRes B M a w) : ClArg w a M := by
  rcases h with h | ⟨g, h1, h2⟩
  · exact .inl h
  · rw [h1]; exact h2.arg
theorem ClRes.lt {B : Nat} {M : List Cl} {a : Option Addr} {w : World} (h : ClRes B M a w) : ∀ g o, ¬ M = [] → a = some ⟨g, o, none⟩ → g < w.heap.size := by
  intro g o hq ha
  rcases h with h | ⟨g', h1, h2⟩
  · exact absurd h hq
  · rw [h1] at ha
    cases ha
    exact h2.2.2.2
theorem ClOwn.later {B : Nat} {L : List Cl} {g : Nat} {w w' : World} (h : ClOwn B L g w) (hb : Below w.heap.size w w') : ClOwn B L g w' := ⟨h.1, h.2.1.later hb, there_below h.2.2.1 hb, Nat.lt_of_lt_of_le h.2.2.2 hb.size⟩
theorem ClRes.only {B b : Nat} {M : List Cl} {a : Option Addr} {w w' : World} (h : ClRes B M a w) (hb : Only b w w') (hne : b < B) : ClRes B M a w' := by
  rcases h with h | ⟨g, h1, h2⟩
  · exact .inl h
  · have hgb : g ≠ b := by have := h2.1; omega
    exact .inr ⟨g, h1, h2.1, fun k c hk => hb.range hgb (h2.2.1 k c hk), hb.there hgb h2.2.2.1, Nat.lt_of_lt_of_le h2.2.2.2 hb.size⟩
theorem ClArg.only {M : List Cl} {a : Option Addr} {b : Nat} {w w' : World} (h : ClArg w a M) (hb : Only b w w') (hB : ∀ g o, ¬ M = [] → a = some ⟨g, o, none⟩ → g ≠ b) : ClArg w' a M := by
  by_cases hq : M = []
  · exact .inl hq
  rcases h with h | ⟨g, o, h1, h2⟩
  · exact .inl h
  · exact .inr ⟨g, o, h1, fun k c hk => hb.range (hB g o hq h1) (h2 k c hk)⟩
theorem ClArg.base {M : List Cl} {a : Option Addr} {B : Nat} {w w' : World} (h : ClArg w a M) (hb : Below B w w') (hB : ∀ g o, ¬ M = [] → a = some ⟨g, o, none⟩ → g < B) : ClArg w' a M := by
  by_cases hq : M = []
  · exact .inl hq
  rcases h with h | ⟨g, o, h1, h2⟩
  · exact .inl h
  · exact .inr ⟨g, o, h1, h2.below hb (hB g o hq h1)⟩
set_option maxRecDepth 100000 in
theorem markC_nil (a : Option Addr) (cap K : Nat) (w : World) :
    Calls Try.prog 26 #[.slice a 0 cap, .int .i64 K] w fun e w' => e = .returned (.int .i64 (K : Int)) ∧ w = w' := by
  go_enter Try.func26, Try.ntmps26
  go_wp2
  go_loopw [1, 5] (fun u i wr => u = .int .i64 (K : Int) ∧ i = .int .i64 0 ∧ w = wr) (fun _ _ _ => 0)
  case atStart => exact ⟨rfl, rfl, rfl⟩
  case round =>
    obtain ⟨rfl, rfl, rfl⟩ := hrel
    go_wp2
    go_ret
    exact ⟨rfl, rfl⟩
set_option maxRecDepth 100000 in
theorem heldC_nil (a : Option Addr) (cap K : Nat) (w : World) :
    Calls Try.prog 27 #[.slice a 0 cap, .int .i64 K] w fun e w' => e = .returned (.int .i64 (K : Int)) ∧ w = w' := by
  go_enter Try.func27, Try.ntmps27
  go_wp2
  go_loopw [1, 5] (fun u i wr => u = .int .i64 (K : Int) ∧ i = .int .i64 0 ∧ w = wr) (fun _ _ _ => 0)
  case atStart => exact ⟨rfl, rfl, rfl⟩
  case round =>
    obtain ⟨rfl, rfl, rfl⟩ := hrel
    go_wp2
    go_ret
    exact ⟨rfl, rfl⟩
theorem markC_res (M : List Cl) (hn : M.length ≤ 1048577) (K : Nat) (h1 : 1 ≤ K) (hK2 : K ≤ 100000000) (B cap : Nat) (a : Option Addr) (w : World) (hB : B ≤ w.heap.size) (h : ClRes B M a w) :
    Calls Try.prog 26 #[.slice a M.length cap, .int .i64 K] w fun e w' => e = .returned (.int .i64 ((K + 5 * M.length : Nat) : Int)) ∧ Below B w w' ∧ ClRes B (mclL K M.length) a w' := by
  rcases h with h | ⟨g, h2, h3⟩
  · subst h
    refine (markC_nil a cap K w).mono ?_
    rintro e w' ⟨h1, h2⟩
    subst h2
    exact ⟨h1, Below.refl _ _, .inl rfl⟩
  · subst h2
    refine (mark_clays2 M.length hn K h1 hK2 g cap w h3.2.2.1).mono ?_
    rintro e w' ⟨h4, h5, h6, h7⟩
    exact ⟨h4, h5.base h3.1 hB, .inr ⟨g, rfl, h3.1, h6, by rw [mclL_length]; exact h7, Nat.lt_of_lt_of_le h3.2.2.2 h5.size⟩⟩
theorem heldC_res (n : Nat) (hn : n ≤ 1048577) (K : Nat) (h1 : 1 ≤ K) (hK2 : K ≤ 100000000) (cap : Nat) (a : Option Addr) (w : World) (B : Nat) (h : ClRes B (mclL K n) a w) :
    Calls Try.prog 27 #[.slice a n cap, .int .i64 K] w fun e w' => e = .returned (.int .i64 ((K + 5 * n : Nat) : Int)) ∧ Below w.heap.size w w' := by
  rcases h with h | ⟨g, h2, h3⟩
  · have hn0 : n = 0 := by have := congrArg List.length h; simpa [mclL_length] using this
    subst hn0
    refine (heldC_nil a cap K w).mono ?_
    rintro e w' ⟨h1, h2⟩
    subst h2
    exact ⟨h1, Below.refl _ _⟩
  · subst h2
    exact held_clays n hn K h1 hK2 g cap w h3.2.1
theorem addL_length (L : List Cl) (c : Cl) : (addL L c).length ≤ L.length + 1 := by
  unfold addL
  split
  · simp
  · exact Nat.zero_le _

set_option maxRecDepth 100000 in
set_option maxHeartbeats 12800000 in
theorem walk_FnExactAddClay (L : List Cl) (a : Option Addr) (cap : Nat) (hl : L.length ≤ maxLen) (hs : NamesLe maxLen L) (c : Cl) (sc : c.name.size ≤ maxLen) (w : World) (ha : ClArg w a L) :
    Calls Try.prog 5 #[.slice a L.length cap, .agg #[.string c.name, .int .i64 c.sh, .int .i64 c.li, .int .i64 c.sa, .int .i64 c.pr]] w fun e w' => e = .returned (.bool true) ∧ Below w.heap.size w w' := by
  have RX0 : (w.alloc (.cells #[.string c.name, .int .i64 c.sh, .int .i64 c.li, .int .i64 c.sa, .int .i64 c.pr] 31)).rangeAt w.heap.size 0 c.vals := range_new w #[.string c.name, .int .i64 c.sh, .int .i64 c.li, .int .i64 c.sa, .int .i64 c.pr] 31
  have B0 : Hid (Below w.heap.size w (w.alloc (.cells #[.string c.name, .int .i64 c.sh, .int .i64 c.li, .int .i64 c.sa, .int .i64 c.pr] 31))) := balloc0 _ _
  have HA := Lib.hid (ha.later B0.out)
  obtain ⟨W0, hW0⟩ : ∃ W0, w.alloc (.cells #[.string c.name, .int .i64 c.sh, .int .i64 c.li, .int .i64 c.sa, .int .i64 c.pr] 31) = W0 := ⟨_, rfl⟩
  rw [hW0] at RX0 B0 HA
  have RX : Hid (∀ wx, Below W0.heap.size W0 wx → wx.rangeAt w.heap.size 0 c.vals) := fun wx h => range_below RX0 h
  have HW := Lib.hid hW0
  have Z := Lib.hid (sz_clays L a cap 1048576 (by omega) (by omega) hl hs W0 HA.out)
  have ZC := Lib.hid (fun left h0 h1 => sz_clay c left h0 h1 sc)
  clear hW0 RX0 hs ha hl sc
  go_enter Try.func5, Try.ntmps5
  go_wp2_with fail
  rw [HW.out]
  refine Z.out.mono ?_
  rintro e w1 ⟨r, rfl, r0, r1, r2, hb1⟩
  have H1 := Lib.hid hb1
  have R2 := Lib.hid r2
  clear hb1 r2
  by_cases hr : r < 0
  · go_wp2
    go_ret
    exact ⟨rfl, B0.out.trans (H1.out.mono B0.out.size)⟩
  have hL := (R2.out (by omega)).1
  obtain ⟨d0, d1, d2, d3, d4⟩ := boxed (RX.out _ H1.out)
  go_wp2_with fail
  refine (ZC.out r (by omega) (by omega) _).mono ?_
  rintro e w2 ⟨q, rfl, q0, q1, _, hb2⟩
  have H2 := Lib.hid (bnext H1.out hb2)
  clear hb2 d0 d1 d2 d3 d4
  by_cases hq : q < 0
  · go_wp2
    go_ret
    exact ⟨rfl, B0.out.trans (H2.out.mono B0.out.size)⟩
  have S := Lib.hid (fun b o cp wx (h : ClAt wx b o L) => add_spec L c b o cp hL wx h)
  have I := Lib.hid (fun b o cp wx (h : ClAt wx b o L) => add_impl L c b o cp hL wx h)
  have hM := addL_length L c
  unfold AddOut at S I
  obtain ⟨M, hMe⟩ : ∃ M, addL L c = M := ⟨_, rfl⟩
  obtain ⟨y, hye⟩ : ∃ y, addCode L c = y := ⟨_, rfl⟩
  rw [hMe, hye] at S I
  rw [hMe] at hM
  clear hMe hye
  obtain ⟨d0, d1, d2, d3, d4⟩ := boxed (RX.out _ H2.out)
  go_wp2_with fail
  go_region_with (first | (go_at_call 17; refine (to_clays L a cap hL _ (HA.out.later H2.out.drew)).mono ?_; rintro e w3 ⟨g3, rfl, o3, hb3⟩; have H3 := Lib.hid (bnext H2.out.drew hb3); have O3 := Lib.hid o3; clear hb3 o3; obtain ⟨d0, d1, d2, d3, d4⟩ := boxed (RX.out _ H3.out)) | (go_at_call 24; refine (to_clay c _).mono ?_; rintro e w4 ⟨rfl, hb4⟩; have H4 := Lib.hid (bnext H3.out hb4); have O4 := Lib.hid (O3.out.later hb4); clear hb4) | (go_at_call 23; refine (S.out _ _ _ _ O4.out.2.1).mono ?_; rintro e w5 ⟨hb5, a5, c5, rfl, o5⟩; have H5 := Lib.hid (bnext H4.out hb5); have WL := Lib.hid o5.lt; have W0' := Lib.hid o5.arg; clear hb5 o5))
  all_goals
    clear d0 d1 d2 d3 d4
    go_wp2_with fail
    refine (to_clays L a cap hL _ (HA.out.later H5.out)).mono ?_
    rintro e w6 ⟨g6, rfl, o6, hb6⟩
    have z6 : w5.heap.size ≤ w6.heap.size := hb6.size
    have H6 := Lib.hid (bnext H5.out hb6)
    have W0' := Lib.hid (W0'.out.later hb6)
    have Y0 := Lib.hid o6
    have y0lt : g6 < w6.heap.size := Y0.out.2.2.2
    have y0ge : w5.heap.size ≤ g6 := Y0.out.1
    clear hb6 o6
    obtain ⟨d0, d1, d2, d3, d4⟩ := boxed (RX.out _ H6.out)
    go_wp2_with fail
    refine (to_clay c _).mono ?_
    rintro e w7 ⟨rfl, hb7⟩
    have z7 : w6.heap.size ≤ w7.heap.size := hb7.size
    have H7 := Lib.hid (bnext H6.out hb7)
    have W0' := Lib.hid (W0'.out.later hb7)
    have Y0 := Lib.hid (Y0.out.later hb7)
    clear hb7 d0 d1 d2 d3 d4
    go_wp2_with fail
    refine (I.out _ _ _ _ Y0.out.2.1).mono ?_
    rintro e w8 ⟨hb8, a8, c8, rfl, o8⟩
    have z8 : w7.heap.size ≤ w8.heap.size := hb8.size
    have H8 := Lib.hid (bnext H7.out hb8)
    have W0' := Lib.hid (W0'.out.later hb8)
    have Y0 := Lib.hid (Y0.out.later hb8)
    have G0 := Lib.hid o8
    clear hb8 o8
    go_wp2_with fail
    refine (eq_clays M a8 a5 c8 c5 (by omega) _ G0.out.arg W0'.out).mono ?_
    rintro e w9 ⟨rfl, hb9⟩
    have z9 : w8.heap.size ≤ w9.heap.size := hb9.size
    have H9 := Lib.hid (bnext H8.out hb9)
    have W0' := Lib.hid (W0'.out.later hb9)
    have Y0 := Lib.hid (Y0.out.later hb9)
    have G0 := Lib.hid (G0.out.later hb9)
    clear hb9
    go_wp2_with fail
    refine (to_clays L a cap hL _ (HA.out.later H9.out)).mono ?_
    rintro e w10 ⟨g10, rfl, o10, hb10⟩
    have z10 : w9.heap.size ≤ w10.heap.size := hb10.size
    have H10 := Lib.hid (bnext H9.out hb10)
    have W0' := Lib.hid (W0'.out.later hb10)
    have Y0 := Lib.hid (Y0.out.later hb10)
    have G0 := Lib.hid (G0.out.later hb10)
    have O10 := Lib.hid o10.arg
    clear hb10 o10
    go_wp2_with fail
    refine (eq_clays L _ _ _ _ (by omega) _ Y0.out.arg O10.out).mono ?_
    rintro e w11 ⟨rfl, hb11⟩
    have z11 : w10.heap.size ≤ w11.heap.size := hb11.size
    have H11 := Lib.hid (bnext H10.out hb11)
    have W0' := Lib.hid (W0'.out.later hb11)
    have Y0 := Lib.hid (Y0.out.later hb11)
    have G0 := Lib.hid (G0.out.later hb11)
    have hH5 := H5.out.size
    clear hb11
    go_wp2_with fail
    refine (mark_clays L.length (by omega) 1 (by omega) (by omega) g6 _ _ Y0.out.2.2.1).mono ?_
    rintro e w12 ⟨rfl, hO12⟩
    have z12 : w11.heap.size ≤ w12.heap.size := hO12.size
    have H12 := Lib.hid (H11.out.trans (hO12.base (by omega) (by omega)))
    have G0 := Lib.hid (G0.out.only hO12 (by omega))
    have W0' := Lib.hid (W0'.out.only hO12 (fun g o h1 h2 => by have := WL.out g o h1 h2; omega))
    clear hO12
    obtain ⟨K, hK⟩ : ∃ K : Nat, 1 + 5 * L.length = K := ⟨_, rfl⟩
    have hK1 : ¬ (K : Int) < 0 := by omega
    rw [hK]
    clear hK
    go_wp2_with fail
    refine (eq_clays M a8 a5 c8 c5 (by omega) _ G0.out.arg W0'.out).mono ?_
    rintro e w13 ⟨rfl, hb13⟩
    have z13 : w12.heap.size ≤ w13.heap.size := hb13.size
    have H13 := Lib.hid (bnext H12.out hb13)
    have W0' := Lib.hid (W0'.out.later hb13)
    have G0 := Lib.hid (G0.out.later hb13)
    clear hb13
    have bg : w7.heap.size ≤ w13.heap.size := by omega
    go_wp2_with fail
    refine (markC_res M (by omega) 1 (by omega) (by omega) w7.heap.size c8 a8 _ bg G0.out).mono ?_
    rintro e w14 ⟨rfl, hb14, M0⟩
    have H14 := Lib.hid (H13.out.trans (hb14.mono (by omega)))
    have W0' := Lib.hid (W0'.out.base hb14 (fun g o h1 h2 => by have := WL.out g o h1 h2; omega))
    have G0 := Lib.hid M0
    clear hb14 M0
    obtain ⟨t, ht⟩ : ∃ t : Int, ((1 + 5 * M.length : Nat) : Int) = t := ⟨_, rfl⟩
    have ht0 : ¬ t < 0 := by omega
    have HT := Lib.hid ht
    rw [ht]
    clear ht
    go_wp2_with fail
    refine (heldC_res M.length (by omega) 1 (by omega) (by omega) c8 a8 _ _ G0.out).mono ?_
    rintro e w15 ⟨rfl, hb15⟩
    rw [HT.out]
    have H15 := Lib.hid (bnext H14.out hb15)
    have W0' := Lib.hid (W0'.out.later hb15)
    have G0 := Lib.hid (G0.out.later hb15)
    clear hb15
    obtain ⟨d0, d1, d2, d3, d4⟩ := boxed (RX.out _ H15.out)
    go_wp2_with fail
    go_region_with (first | (go_at_call 17; refine (to_clays L a cap hL _ (HA.out.later H15.out.drew)).mono ?_; rintro e w16 ⟨g16, rfl, o16, hb16⟩; have H16 := Lib.hid (bnext H15.out.drew hb16); have O16 := Lib.hid o16; have W16 := Lib.hid (W0'.out.later (bnext (Below.refl _ _).drew hb16)); have G16 := Lib.hid (G0.out.later (bnext (Below.refl _ _).drew hb16)); clear hb16 o16; obtain ⟨d0, d1, d2, d3, d4⟩ := boxed (RX.out _ H16.out)) | (go_at_call 24; refine (to_clay c _).mono ?_; rintro e w17 ⟨rfl, hb17⟩; have H17 := Lib.hid (bnext H16.out hb17); have O17 := Lib.hid (O16.out.later hb17); have W17 := Lib.hid (W16.out.later hb17); have G17 := Lib.hid (G16.out.later hb17); clear hb17) | (go_at_call 25; refine (I.out _ _ _ _ O17.out.2.1).mono ?_; rintro e w18 ⟨hb18, a18, c18, rfl, o18⟩; have H18 := Lib.hid (bnext H17.out hb18); have W18 := Lib.hid (W17.out.later hb18); have G18 := Lib.hid (G17.out.later hb18); have R18 := Lib.hid o18.arg; clear hb18 o18))
    all_goals
      clear d0 d1 d2 d3 d4
      go_wp2_with fail
      refine (eq_clays M a18 a5 c18 c5 (by omega) _ R18.out W18.out).mono ?_
      rintro e w19 ⟨rfl, hb19⟩
      have H19 := Lib.hid (bnext H18.out hb19)
      have G19 := Lib.hid (G18.out.later hb19)
      clear hb19
      go_wp2_with fail
      refine (heldC_res M.length (by omega) 1 (by omega) (by omega) c8 a8 _ _ G19.out).mono ?_
      rintro e w20 ⟨rfl, hb20⟩
      rw [HT.out]
      have H20 := Lib.hid (bnext H19.out hb20)
      clear hb20
      go_wp2
      go_ret
      exact ⟨rfl, B0.out.trans (H20.out.mono B0.out.size)⟩
end Go.Proofs.Ytpmklnldgafkjaa
