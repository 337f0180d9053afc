/-
  The walk of the law on LeastParts.
-/
import Derived.Test.YtlglijalhacmhabLeastI
import Derived.Test.YtlglijalhacmhabMarkI
import Derived.Test.YtlglijalhacmhabMarkC
import Derived.Test.YtlglijalhacmhabCwV
namespace Go.Proofs.Ytlglijalhacmhab
open Go.ChangeShapes Go.WideShapes Go.ChangeAt Go.RowKit Go.Joins

/-- What is handed back, whatever the code: the numbers Q, and c. -/
def leastQ (L : List Cl) (P : List Int) : List Int := if codeP L P true = 0 then leastL P else []
theorem LeastOut.res {w w' : World} {L : List Cl} {P : List Int} {e : Ending} (h : LeastOut w L P e w') : ∃ a cap, e = .returned (.tuple #[.slice a (leastQ L P).length cap, .int .i64 (codeP L P true)]) ∧ IntRes w.heap.size (leastQ L P) a w' ∧ Below w.heap.size w w' := by
  unfold LeastOut sliceE at h
  obtain ⟨hb, h | h⟩ := h
  · obtain ⟨h1, h2⟩ := h
    have hq : leastQ L P = [] := by unfold leastQ; rw [if_neg h1]
    rw [hq]
    exact ⟨none, 0, h2, .inl rfl, hb⟩
  · obtain ⟨h1, g, cap, h2, h3⟩ := h
    have hq : leastQ L P = leastL P := by unfold leastQ; rw [if_pos h1]
    rw [hq, leastL_length, h1]
    exact ⟨_, cap, h2, .inr ⟨g, rfl, h3⟩, hb⟩
theorem leastQ_length (L : List Cl) (P : List Int) : (leastQ L P).length ≤ P.length := by
  unfold leastQ
  split
  · rw [leastL_length]; exact Nat.le_refl _
  · exact Nat.zero_le _
theorem ClOwn.later {B : Nat} {L : List Cl} {g : Nat} {w w' : World} (h : ClOwn B L g w) (hb : Below w.heap.size w w') : ClOwn B L g w' := ⟨h.1, h.2.1.later hb, there_below h.2.2.1 hb, Nat.lt_of_lt_of_le h.2.2.2 hb.size⟩
theorem IntOwn.only {B b : Nat} {Q : List Int} {g : Nat} {w w' : World} (h : IntOwn B Q g w) (hb : Only b w w') (hne : b < B) : IntOwn B Q g w' := by
  have hgb : g ≠ b := by have := h.1; omega
  refine ⟨h.1, fun k z hk => ?_, hb.there hgb h.2.2.1, Nat.lt_of_lt_of_le h.2.2.2 hb.size⟩
  have h3 := h.2.1 k z hk
  rw [World.cell?_of_block (w := w) (a := ⟨g, 0 + k, none⟩) (hb.block g h.2.2.2 (fun e => hgb (by cases e; rfl)))]
  exact h3
theorem IntArg.only {Q : List Int} {a : Option Addr} {b : Nat} {w w' : World} (h : IntArg w a Q) (hb : Only b w w') (hB : ∀ g o, ¬ Q = [] → a = some ⟨g, o, none⟩ → g ≠ b) : IntArg w' a Q := by
  by_cases hq : Q = []
  · exact .inl hq
  rcases h with h | ⟨g, o, h1, h2⟩
  · exact .inl h
  · refine .inr ⟨g, o, h1, fun k z hk => ?_⟩
    have h3 := h2 k z hk
    have h4 := World.block_lt_of_cell? w _ h3
    rw [World.cell?_of_block (w := w) (a := ⟨g, o + k, none⟩) (hb.block g h4 (fun e => hB g o hq h1 (by cases e; rfl)))]
    exact h3
theorem IntArg.base {Q : List Int} {a : Option Addr} {B : Nat} {w w' : World} (h : IntArg w a Q) (hb : Below B w w') (hB : ∀ g o, ¬ Q = [] → a = some ⟨g, o, none⟩ → g < B) : IntArg w' a Q := by
  by_cases hq : Q = []
  · exact .inl hq
  rcases h with h | ⟨g, o, h1, h2⟩
  · exact .inl h
  · refine .inr ⟨g, o, h1, fun k z hk => ?_⟩
    rw [hb.cell (p := ⟨g, o + k, none⟩) (hB g o hq h1)]
    exact h2 k z hk
theorem IntRes.lt {B : Nat} {Q : List Int} {a : Option Addr} {w : World} (h : IntRes B Q a w) : ∀ g o, ¬ Q = [] → a = some ⟨g, o, none⟩ → g < w.heap.size := by
  intro g o hq ha
  rcases h with h | ⟨g', h1, h2⟩
  · exact absurd h hq
  · rw [h1] at ha
    cases ha
    exact h2.2.2.2

set_option maxRecDepth 100000 in
set_option maxHeartbeats 6400000 in
theorem walk_FnExactLeastParts (L : List Cl) (a : Option Addr) (cap : Nat) (hl : L.length ≤ maxLen) (hs : NamesLe maxLen L) (P : List Int) (a' : Option Addr) (cap' : Nat) (_hl' : P.length ≤ maxLen) (w : World) (ha : ClArg w a L) (ha' : IntArg w a' P) :
    Calls Try.prog 7 #[.slice a L.length cap, .slice a' P.length cap'] w fun e w' => e = .returned (.bool true) ∧ Below w.heap.size w w' := by
  by_cases hp : (1048576 : Int) < (P.length : Int)
  · clear ha ha' hl hs
    go_enter Try.func7, Try.ntmps7
    go_wp2
    go_ret
    exact ⟨rfl, Below.refl _ _⟩
  have hP : P.length ≤ 1048576 := by omega
  have Z := Lib.hid (sz_clays L a cap 1048576 (by omega) (by omega) hl hs w ha)
  have HA := Lib.hid ha
  have HA' := Lib.hid ha'
  clear hs ha ha' hl
  go_enter Try.func7, Try.ntmps7
  go_wp2_with fail
  refine Z.out.mono ?_
  rintro e w1 ⟨r, rfl, r0, r1, r2, hb1⟩
  have B1 := Lib.hid hb1
  have R2 := Lib.hid r2
  clear hb1 r2
  by_cases hr : r < 0
  · go_wp2
    go_ret
    exact ⟨rfl, B1.out⟩
  have hL := (R2.out (by omega)).1
  have hQ := Nat.le_trans (leastQ_length L P) hP
  have S := Lib.hid (fun g cp g' cp' wx (h : ClArg wx g L) (h' : IntArg wx g' P) => (least_spec L g cp hL P g' cp' hP wx h h').mono (fun e w' h => h.res))
  have I := Lib.hid (fun g cp g' cp' wx (h : ClArg wx g L) (h' : IntArg wx g' P) => (least_impl L g cp hL P g' cp' hP wx h h').mono (fun e w' h => h.res))
  obtain ⟨Q, hQe⟩ : ∃ Q, leastQ L P = Q := ⟨_, rfl⟩
  obtain ⟨c, hce⟩ : ∃ c, codeP L P true = c := ⟨_, rfl⟩
  rw [hQe, hce] at S I
  rw [hQe] at hQ
  clear hQe hce
  go_wp2_with fail
  refine (to_clays L a cap hL _ (HA.out.later B1.out)).mono ?_
  rintro e w2 ⟨g2, rfl, o2, hb2⟩
  have B2 := Lib.hid (bnext B1.out hb2)
  have X2 := Lib.hid o2
  clear o2
  clear hb2
  go_wp2_with fail
  refine (to_ints P a' cap' hP _ (HA'.out.later B2.out)).mono ?_
  rintro e w3 ⟨g3, rfl, o3, hb3⟩
  have B3 := Lib.hid (bnext B2.out hb3)
  have X2 := Lib.hid (X2.out.later hb3)
  have X3 := Lib.hid o3
  clear o3
  clear hb3
  go_wp2_with fail
  refine (S.out _ _ _ _ _ X2.out.arg X3.out.arg).mono ?_
  rintro e w4 ⟨a4, c4, rfl, o4, hb4⟩
  have B4 := Lib.hid (bnext B3.out hb4)
  have X2 := Lib.hid (X2.out.later hb4)
  have X3 := Lib.hid (X3.out.later hb4)
  have W0 := Lib.hid o4
  clear hb4 o4
  have WL := Lib.hid W0.out.lt
  have W0 := Lib.hid W0.out.arg
  go_wp2_with fail
  refine (to_clays L a cap hL _ (HA.out.later B4.out)).mono ?_
  rintro e w5 ⟨g5, rfl, o5, hb5⟩
  have B5 := Lib.hid (bnext B4.out hb5)
  have z5 : w4.heap.size ≤ w5.heap.size := hb5.size
  have W0 := Lib.hid (W0.out.later hb5)
  have Y0 := Lib.hid o5
  clear o5
  clear hb5
  have y0lt : g5 < w5.heap.size := Y0.out.2.2.2
  have y0ge : w4.heap.size ≤ g5 := Y0.out.1
  go_wp2_with fail
  refine (to_ints P a' cap' hP _ (HA'.out.later B5.out)).mono ?_
  rintro e w6 ⟨g6, rfl, o6, hb6⟩
  have B6 := Lib.hid (bnext B5.out hb6)
  have z6 : w5.heap.size ≤ w6.heap.size := hb6.size
  have W0 := Lib.hid (W0.out.later hb6)
  have Y0 := Lib.hid (Y0.out.later hb6)
  have Y1 := Lib.hid o6
  clear o6
  clear hb6
  have y1lt : g6 < w6.heap.size := Y1.out.2.2.2
  have y1ge : w5.heap.size ≤ g6 := Y1.out.1
  go_wp2_with fail
  refine (I.out _ _ _ _ _ Y0.out.arg Y1.out.arg).mono ?_
  rintro e w7 ⟨a7, c7, rfl, o7, hb7⟩
  have B7 := Lib.hid (bnext B6.out hb7)
  have z7 : w6.heap.size ≤ w7.heap.size := hb7.size
  have W0 := Lib.hid (W0.out.later hb7)
  have Y0 := Lib.hid (Y0.out.later hb7)
  have Y1 := Lib.hid (Y1.out.later hb7)
  have G0 := Lib.hid o7
  clear hb7 o7
  go_wp2_with fail
  refine (eq_ints Q a7 a4 c7 c4 (by omega) _ G0.out.arg W0.out).mono ?_
  rintro e w8 ⟨rfl, hb8⟩
  have B8 := Lib.hid (bnext B7.out hb8)
  have z8 : w7.heap.size ≤ w8.heap.size := hb8.size
  have W0 := Lib.hid (W0.out.later hb8)
  have Y0 := Lib.hid (Y0.out.later hb8)
  have Y1 := Lib.hid (Y1.out.later hb8)
  have G0 := Lib.hid (G0.out.later hb8)
  clear hb8
  go_wp2_with fail
  refine (to_clays L a cap hL _ (HA.out.later B8.out)).mono ?_
  rintro e w9 ⟨g9, rfl, o9, hb9⟩
  have B9 := Lib.hid (bnext B8.out hb9)
  have z9 : w8.heap.size ≤ w9.heap.size := hb9.size
  have W0 := Lib.hid (W0.out.later hb9)
  have Y0 := Lib.hid (Y0.out.later hb9)
  have Y1 := Lib.hid (Y1.out.later hb9)
  have G0 := Lib.hid (G0.out.later hb9)
  have T0 := Lib.hid o9
  clear o9
  clear hb9
  go_wp2_with fail
  refine (eq_clays L _ _ _ _ (by omega) _ Y0.out.arg T0.out.arg).mono ?_
  rintro e w10 ⟨rfl, hb10⟩
  have B10 := Lib.hid (bnext B9.out hb10)
  have z10 : w9.heap.size ≤ w10.heap.size := hb10.size
  have W0 := Lib.hid (W0.out.later hb10)
  have Y0 := Lib.hid (Y0.out.later hb10)
  have Y1 := Lib.hid (Y1.out.later hb10)
  have G0 := Lib.hid (G0.out.later hb10)
  have T0 := Lib.hid (T0.out.later hb10)
  clear hb10
  go_wp2_with fail
  refine (to_ints P a' cap' hP _ (HA'.out.later B10.out)).mono ?_
  rintro e w11 ⟨g11, rfl, o11, hb11⟩
  have B11 := Lib.hid (bnext B10.out hb11)
  have z11 : w10.heap.size ≤ w11.heap.size := hb11.size
  have W0 := Lib.hid (W0.out.later hb11)
  have Y0 := Lib.hid (Y0.out.later hb11)
  have Y1 := Lib.hid (Y1.out.later hb11)
  have G0 := Lib.hid (G0.out.later hb11)
  have T1 := Lib.hid o11
  clear o11
  clear hb11
  go_wp2_with fail
  refine (eq_ints P _ _ _ _ (by omega) _ Y1.out.arg T1.out.arg).mono ?_
  rintro e w12 ⟨rfl, hb12⟩
  have B12 := Lib.hid (bnext B11.out hb12)
  have z12 : w11.heap.size ≤ w12.heap.size := hb12.size
  have W0 := Lib.hid (W0.out.later hb12)
  have Y0 := Lib.hid (Y0.out.later hb12)
  have Y1 := Lib.hid (Y1.out.later hb12)
  have G0 := Lib.hid (G0.out.later hb12)
  have T1 := Lib.hid (T1.out.later hb12)
  clear hb12
  have bks : w.heap.size ≤ w4.heap.size := B4.out.size
  go_wp2_with fail
  refine (mark_clays L.length (by omega) 1 (by omega) (by omega) g5 _ _ Y0.out.2.2.1).mono ?_
  rintro e w13 ⟨rfl, hO13⟩
  have B13 := Lib.hid (B12.out.trans (hO13.base (by omega) B12.out.size))
  have z13 : w12.heap.size ≤ w13.heap.size := hO13.size
  have G0 := Lib.hid (G0.out.only hO13 (by omega))
  have Y1 := Lib.hid (Y1.out.only hO13 (by omega))
  have W0 := Lib.hid (W0.out.only hO13 (fun g o h1 h2 => by have := WL.out g o h1 h2; omega))
  clear hO13
  obtain ⟨K, hK⟩ : ∃ K : Nat, 1 + 5 * L.length = K := ⟨_, rfl⟩
  have hK1 : K ≤ 6000000 := by omega
  rw [hK]
  clear hK
  go_wp2_with fail
  refine (mark_ints P (by omega) K (by omega) _ g6 _ _ Y1.out).mono ?_
  rintro e w14 ⟨rfl, hO14, _⟩
  have B14 := Lib.hid (B13.out.trans (hO14.base (by omega) B13.out.size))
  have z14 : w13.heap.size ≤ w14.heap.size := hO14.size
  have G0 := Lib.hid (G0.out.only hO14 (by omega))
  have W0 := Lib.hid (W0.out.only hO14 (fun g o h1 h2 => by have := WL.out g o h1 h2; omega))
  clear hO14
  have hKP : ¬ ((K + P.length : Nat) : Int) < 0 := by omega
  go_wp2_with fail
  refine (eq_ints Q a7 a4 c7 c4 (by omega) _ G0.out.arg W0.out).mono ?_
  rintro e w15 ⟨rfl, hb15⟩
  have B15 := Lib.hid (bnext B14.out hb15)
  have z15 : w14.heap.size ≤ w15.heap.size := hb15.size
  have W0 := Lib.hid (W0.out.later hb15)
  have G0 := Lib.hid (G0.out.later hb15)
  clear hb15
  have bg : w6.heap.size ≤ w15.heap.size := by
    omega
  go_wp2_with fail
  refine (mark_res Q (by omega) 1 (by omega) w6.heap.size c7 a7 _ bg G0.out).mono ?_
  rintro e w16 ⟨rfl, hb16, M0⟩
  have B16 := Lib.hid (B15.out.trans (hb16.mono (by omega)))
  have W0 := Lib.hid (W0.out.base hb16 (fun g o h1 h2 => by have := WL.out g o h1 h2; omega))
  have G0 := Lib.hid M0
  clear hb16 M0
  obtain ⟨q, hq⟩ : ∃ q : Int, ((1 + Q.length : Nat) : Int) = q := ⟨_, rfl⟩
  have hq0 : ¬ q < 0 := by omega
  have HQ := Lib.hid hq
  rw [hq]
  clear hq
  go_wp2_with fail
  refine (held_res Q.length (by omega) 1 (by omega) c7 a7 _ _ G0.out).mono ?_
  rintro e w17 ⟨rfl, hb17⟩
  rw [HQ.out]
  have B17 := Lib.hid (bnext B16.out hb17)
  have z17 : w16.heap.size ≤ w17.heap.size := hb17.size
  have W0 := Lib.hid (W0.out.later hb17)
  have G0 := Lib.hid (G0.out.later hb17)
  clear hb17
  go_wp2_with fail
  refine (to_clays L a cap hL _ (HA.out.later B17.out)).mono ?_
  rintro e w18 ⟨g18, rfl, o18, hb18⟩
  have B18 := Lib.hid (bnext B17.out hb18)
  have z18 : w17.heap.size ≤ w18.heap.size := hb18.size
  have W0 := Lib.hid (W0.out.later hb18)
  have G0 := Lib.hid (G0.out.later hb18)
  have Z0 := Lib.hid o18
  clear o18
  clear hb18
  go_wp2_with fail
  refine (to_ints P a' cap' hP _ (HA'.out.later B18.out)).mono ?_
  rintro e w19 ⟨g19, rfl, o19, hb19⟩
  have B19 := Lib.hid (bnext B18.out hb19)
  have z19 : w18.heap.size ≤ w19.heap.size := hb19.size
  have W0 := Lib.hid (W0.out.later hb19)
  have G0 := Lib.hid (G0.out.later hb19)
  have Z0 := Lib.hid (Z0.out.later hb19)
  have Z1 := Lib.hid o19
  clear o19
  clear hb19
  go_wp2_with fail
  refine (I.out _ _ _ _ _ Z0.out.arg Z1.out.arg).mono ?_
  rintro e w20 ⟨a20, c20, rfl, o20, hb20⟩
  have B20 := Lib.hid (bnext B19.out hb20)
  have z20 : w19.heap.size ≤ w20.heap.size := hb20.size
  have W0 := Lib.hid (W0.out.later hb20)
  have G0 := Lib.hid (G0.out.later hb20)
  have Z0 := Lib.hid (Z0.out.later hb20)
  have Z1 := Lib.hid (Z1.out.later hb20)
  have H0 := Lib.hid o20
  clear hb20 o20
  go_wp2_with fail
  refine (eq_ints Q a20 a4 c20 c4 (by omega) _ H0.out.arg W0.out).mono ?_
  rintro e w21 ⟨rfl, hb21⟩
  have B21 := Lib.hid (bnext B20.out hb21)
  have z21 : w20.heap.size ≤ w21.heap.size := hb21.size
  have W0 := Lib.hid (W0.out.later hb21)
  have G0 := Lib.hid (G0.out.later hb21)
  have H0 := Lib.hid (H0.out.later hb21)
  clear hb21
  go_wp2_with fail
  refine (held_res Q.length (by omega) 1 (by omega) c7 a7 _ _ G0.out).mono ?_
  rintro e w22 ⟨rfl, hb22⟩
  rw [HQ.out]
  have B22 := Lib.hid (bnext B21.out hb22)
  have z22 : w21.heap.size ≤ w22.heap.size := hb22.size
  clear hb22
  go_wp2
  go_ret
  exact ⟨rfl, B22.out⟩
end Go.Proofs.Ytlglijalhacmhab
