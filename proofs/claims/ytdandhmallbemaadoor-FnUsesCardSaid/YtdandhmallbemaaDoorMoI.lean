/-
  Moulds: the program's answers, one by one.
-/
import Derived.Test.YtdandhmallbemaaDoorMoV
namespace Go.Proofs.YtdandhmallbemaaDoor
open Go.ChangeShapes Go.WideShapes Go.ChangeAt Go.RowKit Go.Joins

theorem sizes_impl (c : Mo) (w : World) : Calls Tryd.prog 62 #[.agg #[.int .i64 c.le, .int .i64 c.wi, .int .i64 c.he, .int .i64 c.us]] w fun e w' => ∃ g, e = .returned (.slice (some ⟨g, 0, none⟩) 3 3) ∧ IntOwn w.heap.size (szL c) g w' ∧ Below w.heap.size w w' := by
  have H := ints_new (w.alloc (.cells #[.int .i64 c.le, .int .i64 c.wi, .int .i64 c.he, .int .i64 c.us] 47)) (szL c)
  have H0 := H.down (B' := w.heap.size) (by simp)
  have e : (w.alloc (.cells #[.int .i64 c.le, .int .i64 c.wi, .int .i64 c.he, .int .i64 c.us] 47)).heap.size = w.heap.size + 1 := by simp
  rw [e] at H0
  go_enter Tryd.func62, Tryd.ntmps62
  go_wp2
  go_ret
  exact ⟨_, rfl, H0, balloc (balloc0 _ _) _⟩

theorem nearest_impl (p : Int) (h0 : 0 ≤ p) (h1 : p ≤ 1000000) (w : World) : Calls Tryd.prog 70 #[.int .i64 p, .int .i64 1000] w fun e w' => e = .returned (.int .i64 ((2 * p + 1000) / 2000)) ∧ w = w' := by
  have e1 : IntKind.i64.wrap (2 * p) = 2 * p := IntWalk.i64_in _ (by omega)
  have e2 : IntKind.i64.wrap (2 * p + 1000) = 2 * p + 1000 := IntWalk.i64_in _ (by omega)
  have e3 : (2 * p + 1000).tdiv 2000 = (2 * p + 1000) / 2000 := Int.tdiv_eq_ediv_of_nonneg (by omega)
  have e4 : IntKind.i64.wrap ((2 * p + 1000) / 2000) = (2 * p + 1000) / 2000 := IntWalk.i64_in _ (by omega)
  go_enter Tryd.func70, Tryd.ntmps70
  go_wp2
  go_ret
  exact ⟨rfl, rfl⟩
theorem fired_impl (x s : Int) (h0 : 0 ≤ x) (h1 : x ≤ 1000) (s0 : 0 ≤ s) (s1 : s ≤ 200) (w : World) :
    Calls Tryd.prog 69 #[.int .i64 x, .int .i64 s] w fun e w' => e = .returned (.int .i64 (firedF x s)) ∧ w = w' := by
  obtain ⟨b0, b1, b2, b3, b4⟩ := fired_bounds h0 h1 s0 s1
  have e1 : IntKind.i64.wrap (1000 - s) = 1000 - s := IntWalk.i64_in _ (by omega)
  have e3 : IntKind.i64.wrap (x * (1000 - s)) = x * (1000 - s) := IntWalk.i64_in _ (by omega)
  have N := Lib.hid (nearest_impl (x * (1000 - s)) b0 b1)
  go_enter Tryd.func69, Tryd.ntmps69
  go_wp2_with fail
  refine (N.out _).mono ?_
  rintro e w1 ⟨rfl, rfl⟩
  go_wp2
  go_ret
  exact ⟨rfl, rfl⟩

set_option maxRecDepth 100000 in
set_option maxHeartbeats 1600000 in
theorem isMould_impl (c : Mo) (w : World) : Calls Tryd.prog 45 #[.agg #[.int .i64 c.le, .int .i64 c.wi, .int .i64 c.he, .int .i64 c.us]] w fun e w' => e = .returned (.bool c.ok) ∧ Below w.heap.size w w' := by
  have X := Lib.hid (box_mo w c)
  have HB0 := Lib.hid (balloc0 w (.cells #[.int .i64 c.le, .int .i64 c.wi, .int .i64 c.he, .int .i64 c.us] 47))
  obtain ⟨W0, hW⟩ : ∃ W0, w.alloc (.cells #[.int .i64 c.le, .int .i64 c.wi, .int .i64 c.he, .int .i64 c.us] 47) = W0 := ⟨_, rfl⟩
  rw [hW] at X HB0
  have HW := Lib.hid hW
  clear hW
  have C := Lib.hid (sizes_impl c)
  go_enter Tryd.func45, Tryd.ntmps45
  go_wp2_with fail
  rw [HW.out]
  refine (C.out _).mono ?_
  rintro e w1 ⟨g1, rfl, o1, hb1⟩
  have B1 := Lib.hid hb1
  have Z1 := Lib.hid o1.2.1
  clear hb1 o1
  go_wp2
  go_loopw [8] (fun i wr => ∃ (k : Nat), k ≤ 3 ∧ i = .int .i64 k ∧ Hid (∀ (j : Nat) (z : Int), j < k → (szL c)[j]? = some z → inB z 30 800 = true) ∧ Hid (Below w1.heap.size w1 wr)) (fun i _ => 3 - (intOf i).toNat)
  case atStart => exact ⟨0, by omega, rfl, fun j z hj => by omega, Below.refl _ _⟩
  case round =>
    obtain ⟨k, hk, rfl, hF, hB⟩ := hrel
    by_cases hlt : k < 3
    · have hlt' : (k : Int) < 3 := by omega
      have hk0 : (0 : Int) ≤ (k : Int) := by omega
      obtain ⟨z, hz⟩ : ∃ z, (szL c)[k]? = some z := ⟨_, List.getElem?_eq_getElem (by simpa [szL] using hlt)⟩
      have cz := (Z1.out.later hB.out) k z hz
      rw [Nat.zero_add] at cz
      have HZ := Lib.hid hz
      have I := Lib.hid (within_impl z 30 800)
      cases hin : inB z 30 800
      · rw [hin] at I
        have HX : Hid (c.ok = false) := Mo.bad_of hz hin
        clear hz
        go_wp2_with fail
        refine (I.out _).mono ?_
        rintro e w2 ⟨rfl, rfl⟩
        go_wp2
        go_ret
        exact ⟨ret_bool HX.out.symm, HB0.out.trans ((B1.out.trans (hB.out.mono B1.out.size)).mono HB0.out.size)⟩
      · rw [hin] at I
        have HN := Lib.hid hin
        clear hz
        go_wp2_with fail
        refine (I.out _).mono ?_
        rintro e w2 ⟨rfl, rfl⟩
        go_wp2
        go_roundw
        case rel =>
          refine ⟨k + 1, by omega, by go_num, fun j d hj hd => ?_, hB.out⟩
          by_cases e : j = k
          · subst e
            have := HZ.out
            rw [hd] at this
            cases this
            exact HN.out
          · exact hF.out j d (by omega) hd
        case measure => simp [intOf]; omega
    · have hge : ¬ (k : Int) < 3 := by omega
      have hk3 : k = 3 := by omega
      subst hk3
      have HX : Hid (c.ok = inB c.us 0 100000) := Mo.ok_of hF.out
      have HB := Lib.hid (B1.out.trans (hB.out.mono B1.out.size))
      obtain ⟨k0, k1, k2, k3⟩ := X.out _ HB.out
      have I := Lib.hid (within_impl c.us 0 100000)
      rw [← HX.out] at I
      go_wp2_with fail
      refine (I.out _).mono ?_
      rintro e w2 ⟨rfl, rfl⟩
      go_wp2
      go_ret
      exact ⟨rfl, HB0.out.trans (HB.out.mono HB0.out.size)⟩

set_option maxRecDepth 100000 in
set_option maxHeartbeats 1600000 in
theorem valid_moimpl (L : List Mo) (a : Option Addr) (cap : Nat) (hl : L.length ≤ 1048576) (w : World) (ha : MoArg w a L) : Calls Tryd.prog 21 #[.slice a L.length cap] w fun e w' => e = .returned (.bool (okMos L)) ∧ Below w.heap.size w w' := by
  have HA := Lib.hid ha
  clear ha
  go_enter Tryd.func21, Tryd.ntmps21
  go_wp2
  go_loopw [7] (fun i wr => ∃ (k : Nat), k ≤ L.length ∧ i = .int .i64 k ∧ Hid (∀ (j : Nat) (c : Mo), j < k → L[j]? = some c → c.ok = true) ∧ Hid (Below w.heap.size w wr)) (fun i _ => L.length - (intOf i).toNat)
  case atStart => exact ⟨0, Nat.zero_le _, rfl, fun j c hj => by omega, Below.refl _ _⟩
  case round =>
    obtain ⟨k, hk, rfl, hF, hB⟩ := hrel
    by_cases hlt : k < L.length
    · have hlt' : (k : Int) < (L.length : Int) := by omega
      have hk0 : (0 : Int) ≤ (k : Int) := by omega
      obtain ⟨b, o, c, rfl, hc, hat⟩ := (HA.out.later hB.out).at hlt
      obtain ⟨c0, c1, c2, c3⟩ := hat.cells hc
      have HC := Lib.hid hc
      have C := Lib.hid (isMould_impl c)
      clear hc hat
      cases hok : c.ok
      · rw [hok] at C
        have HK := Lib.hid hok
        clear hok
        go_wp2_with fail
        refine (C.out _).mono ?_
        rintro e w1 ⟨rfl, hb1⟩
        have B1 := Lib.hid (bnext (balloc hB.out (.cells #[.int .i64 c.le, .int .i64 c.wi, .int .i64 c.he, .int .i64 c.us] 47)) hb1)
        clear hb1 c0 c1 c2 c3
        go_wp2
        go_ret
        exact ⟨ret_bool (okMos_no HC.out HK.out).symm, B1.out⟩
      · rw [hok] at C
        have HK := Lib.hid hok
        clear hok
        go_wp2_with fail
        refine (C.out _).mono ?_
        rintro e w1 ⟨rfl, hb1⟩
        have B1 := Lib.hid (bnext (balloc hB.out (.cells #[.int .i64 c.le, .int .i64 c.wi, .int .i64 c.he, .int .i64 c.us] 47)) hb1)
        clear hb1 c0 c1 c2 c3
        go_wp2
        go_roundw
        case rel =>
          refine ⟨k + 1, by omega, by go_num, fun j d hj hd => ?_, B1.out⟩
          by_cases e : j = k
          · subst e
            have := HC.out
            rw [hd] at this
            cases this
            exact HK.out
          · exact hF.out j d (by omega) hd
        case measure => simp [intOf]; omega
    · have hge : ¬ (k : Int) < (L.length : Int) := by omega
      have hkn : k = L.length := by omega
      subst hkn
      have HF : Hid (okMos L = decide (L.length ≤ 20)) := by
        show okMos L = _
        by_cases h20 : L.length ≤ 20
        · rw [okMos_yes (fun j c hc => hF.out j c (List.getElem?_eq_some_iff.1 hc).1 hc) h20]; simp [h20]
        · rw [okMos_long h20]; simp [h20]
      by_cases h20 : (L.length : Int) ≤ 20
      all_goals
        go_wp2
        go_ret
        refine ⟨ret_bool ?_, hB.out⟩
        rw [HF.out]
        simp
        omega
end Go.Proofs.YtdandhmallbemaaDoor
