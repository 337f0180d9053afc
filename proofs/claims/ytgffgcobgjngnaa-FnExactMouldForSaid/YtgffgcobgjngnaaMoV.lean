/-
  Lists of moulds as told: the model's word.
-/
import Derived.Test.YtgffgcobgjngnaaMoS
namespace Go.Proofs.Ytgffgcobgjngnaa
open Go.ChangeShapes Go.WideShapes Go.ChangeAt Go.RowKit Go.Joins

set_option maxHeartbeats 1600000 in
theorem okM_spec (L : List Mo) (a : Option Addr) (cap : Nat) (hl : L.length ≤ 1048576) (w : World) (ha : MoArg w a L) : Calls Try.prog 38 #[.slice a L.length cap] w fun e w' => e = .returned (.bool (okMos L)) ∧ Below w.heap.size w w' := by
  have HA := Lib.hid ha
  clear ha
  go_enter Try.func38, Try.ntmps38
  go_wp2
  go_loopw [3] (fun i wr => ∃ (k : Nat), k ≤ L.length ∧ i = .int .i64 k ∧ Hid (∀ (j : Nat) (c : Mo), j < k → L[j]? = some c → c.ok = true) ∧ Hid (Below w.heap.size w wr)) (fun i _ => L.length - (intOf i).toNat)
  case atStart => exact ⟨0, Nat.zero_le _, rfl, fun j c hj => by omega, Below.refl _ _⟩
  case round =>
    obtain ⟨k, hk, rfl, hF, hB⟩ := hrel
    by_cases hlt : k < L.length
    · have hlt' : (k : Int) < (L.length : Int) := by omega
      have hk0 : (0 : Int) ≤ (k : Int) := by omega
      obtain ⟨b, o, c, rfl, hc, hat⟩ := (HA.out.later hB.out).at hlt
      obtain ⟨c0, c1, c2, c3⟩ := hat.cells hc
      have HC := Lib.hid hc
      have C := Lib.hid (mo_one_spec c b (o + k * 4))
      clear hc hat
      cases hok : c.ok
      · go_wp2_with (go_at_call 40; refine (C.out _ c0 c1 c2 c3).mono ?_; rintro e w1 ⟨rfl, rfl⟩)
        go_ret
        exact ⟨ret_bool (okMos_no HC.out hok).symm, hB.out⟩
      · have HK := Lib.hid hok
        go_wp2_with (go_at_call 40; refine (C.out _ c0 c1 c2 c3).mono ?_; rintro e w1 ⟨rfl, rfl⟩)
        go_roundw
        case rel =>
          refine ⟨k + 1, by omega, by go_num, fun j d hj hd => ?_, hB.out⟩
          by_cases e : j = k
          · subst e
            have := HC.out
            rw [hd] at this
            cases this
            exact HK.out
          · exact hF.out j d (by omega) hd
        case measure => simp [intOf]; omega
    · have hge : ¬ (k : Int) < (L.length : Int) := by omega
      have hkn : k = L.length := by omega
      subst hkn
      have HF : Hid (okMos L = decide (L.length ≤ 20)) := by
        show okMos L = _
        by_cases h20 : L.length ≤ 20
        · rw [okMos_yes (fun j c hc => hF.out j c (List.getElem?_eq_some_iff.1 hc).1 hc) h20]; simp [h20]
        · rw [okMos_long h20]; simp [h20]
      by_cases h20 : (L.length : Int) ≤ 20
      all_goals
        go_wp2
        go_ret
        refine ⟨ret_bool ?_, hB.out⟩
        rw [HF.out]
        simp
        omega
theorem valid_mospec (L : List Mo) (a : Option Addr) (cap : Nat) (hl : L.length ≤ 1048576) (w : World) (ha : MoArg w a L) : Calls Try.prog 12 #[.slice a L.length cap] w fun e w' => e = .returned (.bool (okMos L)) ∧ Below w.heap.size w w' := by
  have C := Lib.hid (okM_spec L a cap hl w ha)
  clear ha
  go_enter Try.func12, Try.ntmps12
  go_wp2_with fail
  refine C.out.mono ?_
  rintro e w1 ⟨rfl, hb1⟩
  go_wp2
  go_ret
  exact ⟨rfl, hb1⟩

/-- A mould in a box of its own. -/
theorem box_mo (w : World) (c : Mo) : ∀ wx, Below (w.alloc (.cells #[.int .i64 c.le, .int .i64 c.wi, .int .i64 c.he, .int .i64 c.us] 34)).heap.size (w.alloc (.cells #[.int .i64 c.le, .int .i64 c.wi, .int .i64 c.he, .int .i64 c.us] 34)) wx → wx.cell? ⟨w.heap.size, 0, none⟩ = some (.int .i64 c.le) ∧ wx.cell? ⟨w.heap.size, 1, none⟩ = some (.int .i64 c.wi) ∧ wx.cell? ⟨w.heap.size, 2, none⟩ = some (.int .i64 c.he) ∧ wx.cell? ⟨w.heap.size, 3, none⟩ = some (.int .i64 c.us) := by
  intro wx h
  have hr : (w.alloc (.cells #[.int .i64 c.le, .int .i64 c.wi, .int .i64 c.he, .int .i64 c.us] 34)).rangeAt w.heap.size 0 c.vals := range_new w #[.int .i64 c.le, .int .i64 c.wi, .int .i64 c.he, .int .i64 c.us] 34
  have := boxedMo (range_below hr h)
  simpa using this

set_option maxRecDepth 100000 in
set_option maxHeartbeats 1600000 in
theorem fs_spec (c : Mo) (s : Int) (w : World) : Calls Try.prog 16 #[.agg #[.int .i64 c.le, .int .i64 c.wi, .int .i64 c.he, .int .i64 c.us], .int .i64 s] w fun e w' => ∃ a cap, e = .returned (.tuple #[.slice a (fsL c s).length cap, .int .i64 (fsC c s)]) ∧ IntRes w.heap.size (fsL c s) a w' ∧ Below w.heap.size w w' := by
  have X := Lib.hid (box_mo w c)
  have HB0 := Lib.hid (balloc0 w (.cells #[.int .i64 c.le, .int .i64 c.wi, .int .i64 c.he, .int .i64 c.us] 34))
  obtain ⟨W0, hW⟩ : ∃ W0, w.alloc (.cells #[.int .i64 c.le, .int .i64 c.wi, .int .i64 c.he, .int .i64 c.us] 34) = W0 := ⟨_, rfl⟩
  have hz0 : W0.heap.size = w.heap.size + 1 := by rw [← hW]; simp
  rw [hW] at X HB0
  have HW := Lib.hid hW
  clear hW
  obtain ⟨k0, k1, k2, k3⟩ := X.out _ (Below.refl _ _)
  have C := Lib.hid (mo_one_spec c w.heap.size 0 W0 k0 k1 k2 k3)
  clear k0 k1 k2 k3
  cases hok : c.ok
  · have E1 : Hid (fsC c s = 1) := by show fsC c s = 1; simp [fsC, hok]
    have E2 : Hid (fsL c s = []) := by show fsL c s = []; simp [fsL, fsC, hok]
    rw [E1.out, E2.out]
    rw [hok] at C
    go_enter Try.func16, Try.ntmps16
    go_wp2_with fail
    rw [HW.out]
    refine C.out.mono ?_
    rintro e w1 ⟨rfl, rfl⟩
    go_wp2
    go_ret2
    first | exact ⟨none, ⟨0, rfl⟩, .inl rfl, HB0.out⟩ | exact ⟨none, 0, rfl, .inl rfl, HB0.out⟩
  · by_cases h2 : 0 ≤ s ∧ s ≤ 200
    · have E1 : Hid (fsC c s = 0) := by show fsC c s = 0; simp [fsC, hok, inB_true.2 h2]
      have E2 : Hid (fsL c s = firedL c s) := by show fsL c s = _; simp [fsL, fsC, hok, inB_true.2 h2]
      rw [E1.out, E2.out]
      have hin : inB s 0 200 = true := inB_true.2 h2
      have D := Lib.hid (fun wx (h : Below W0.heap.size W0 wx) => all_spec c hok s h2.1 h2.2 w.heap.size 0 wx (X.out wx h).1 (X.out wx h).2.1 (X.out wx h).2.2.1)
      rw [hok] at C
      have I := Lib.hid (in_any s 0 200)
      rw [hin] at I
      clear hin
      go_enter Try.func16, Try.ntmps16
      go_wp2_with fail
      rw [HW.out]
      refine C.out.mono ?_
      rintro e w1 ⟨rfl, rfl⟩
      go_wp2_with fail
      refine (I.out _).mono ?_
      rintro e w1 ⟨rfl, rfl⟩
      go_wp2_with fail
      refine (D.out _ (Below.refl _ _)).mono ?_
      rintro e w2 ⟨g, cap, rfl, o2, hb2⟩
      go_wp2
      go_ret2
      first | exact ⟨some ⟨g, 0, none⟩, ⟨cap, rfl⟩, .inr ⟨g, rfl, o2.down HB0.out.size⟩, HB0.out.trans (hb2.mono HB0.out.size)⟩ | exact ⟨some ⟨g, 0, none⟩, cap, rfl, .inr ⟨g, rfl, o2.down HB0.out.size⟩, HB0.out.trans (hb2.mono HB0.out.size)⟩
    · have hin : inB s 0 200 = false := inB_false.2 h2
      have E1 : Hid (fsC c s = 2) := by show fsC c s = 2; simp [fsC, hok, hin]
      have E2 : Hid (fsL c s = []) := by show fsL c s = []; simp [fsL, fsC, hok, hin]
      rw [E1.out, E2.out]
      rw [hok] at C
      have I := Lib.hid (in_any s 0 200)
      rw [hin] at I
      clear hin h2
      go_enter Try.func16, Try.ntmps16
      go_wp2_with fail
      rw [HW.out]
      refine C.out.mono ?_
      rintro e w1 ⟨rfl, rfl⟩
      go_wp2_with fail
      refine (I.out _).mono ?_
      rintro e w1 ⟨rfl, rfl⟩
      go_wp2
      go_ret2
      first | exact ⟨none, ⟨0, rfl⟩, .inl rfl, HB0.out⟩ | exact ⟨none, 0, rfl, .inl rfl, HB0.out⟩
end Go.Proofs.Ytgffgcobgjngnaa
