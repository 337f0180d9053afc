/-
  Blocks of arches: which are right, and their moments: model and program.
-/
import Derived.Test.YtlglijalhacmhaaBk
import Derived.Test.YtlglijalhacmhaaWi
import Derived.Deep.RegionWith
import Derived.Deep.RegionHeld3
namespace Go.Proofs.Ytlglijalhacmhaa
open Go.ChangeShapes Go.WideShapes Go.ChangeAt Go.RowKit Go.Joins

theorem ok_no1 {X : Bk} (h : inB (X.A.length : Int) 2 10 = false) : okBk X = false := by simp [okBk, h]
theorem ok_no2 {X : Bk} (h : ¬ (X.L.length : Int) = (X.A.length : Int) + 1) : okBk X = false := by
  cases e : okBk X
  · rfl
  · have := (okBk_true.1 e).2.1; omega
theorem ok_no3 {X : Bk} (h : ¬ (X.H.length : Int) = (X.A.length : Int) + 1) : okBk X = false := by
  cases e : okBk X
  · rfl
  · have := (okBk_true.1 e).2.2.1; omega
theorem ok_no4 {X : Bk} {k : Nat} (hk : k < X.A.length + 1) (h : inB (X.L.getD k 0) (-1000) (X.H.getD k 0) = false) : okBk X = false := by
  cases e : okBk X
  · rfl
  · have := okBk_at e hk
    rw [inB_false] at h
    omega
theorem ok_no5 {X : Bk} {k : Nat} {z : Int} (hz : X.A[k]? = some z) (h : inB z 1 1000 = false) : okBk X = false := by
  cases e : okBk X
  · rfl
  · have := allB_true.1 (okBk_true.1 e).2.2.2.1 k z hz; rw [h] at this; cases this
theorem ok_no6 {X : Bk} {k : Nat} (hk : k < X.A.length + 1) (h : hgtB X k = false) : okBk X = false := by
  cases e : okBk X
  · rfl
  · have := (okBk_true.1 e).2.2.2.2 k hk; rw [h] at this; cases this
theorem ok_end {X : Bk} (h1 : inB (X.A.length : Int) 2 10 = true) (h2 : X.L.length = X.A.length + 1) (h3 : X.H.length = X.A.length + 1) (h4 : ∀ k, k < X.L.length → inB (X.L.getD k 0) (-1000) (X.H.getD k 0) = true) : okBk X = (allB X.A 1 1000 && allB X.H (-1000) 1000) := by
  rw [Bool.eq_iff_iff, okBk_true, Bool.and_eq_true]
  have h0 := inB_true.1 h1
  constructor
  · rintro ⟨_, _, _, h5, h6⟩
    refine ⟨h5, allB_true.2 fun k z hz => ?_⟩
    have hk := (List.getElem?_eq_some_iff.1 hz).1
    have := h6 k (by omega)
    simp only [hgtB, Bool.and_eq_true, inB_true, getD_of hz] at this
    rw [inB_true]; omega
  · rintro ⟨h5, h6⟩
    refine ⟨by omega, h2, h3, h5, fun k hk => ?_⟩
    have h7 := allB_getD h6 (k := k) (by omega)
    have h8 := inB_true.1 (h4 k (by omega))
    simp only [hgtB, Bool.and_eq_true, inB_true]
    omega
set_option maxRecDepth 100000 in
set_option maxHeartbeats 3200000 in
theorem bk_impl (X : Bk) (a b c : Option Addr) (ca cb cc : Nat) (hl : BkLen X 1048576) (w : World) (ha : BkArg w a b c X) :
    Calls Try.prog 18 #[.agg #[.slice a X.A.length ca, .slice b X.L.length cb, .slice c X.H.length cc]] w fun e w' => e = .returned (.bool (okBk X)) ∧ Below w.heap.size w w' := by
  have CA := Lib.hid (fun wx (hx : Below w.heap.size w wx) => allin_impl X.A 1 1000 a ca hl.1 wx (ha.1.later hx))
  have CH := Lib.hid (fun wx (hx : Below w.heap.size w wx) => allin_impl X.H (-1000) 1000 c cc hl.2.2 wx (ha.2.2.later hx))
  have HL := Lib.hid (fun wx (hx : Below w.heap.size w wx) => ha.2.1.later hx)
  have HH := Lib.hid (fun wx (hx : Below w.heap.size w wx) => ha.2.2.later hx)
  have IL : Hid (IntArg (w.alloc (.cells #[.slice a X.A.length ca, .slice b X.L.length cb, .slice c X.H.length cc] 27)) b X.L) := HL.out _ (balloc0 _ _)
  have IH : Hid (IntArg (w.alloc (.cells #[.slice a X.A.length ca, .slice b X.L.length cb, .slice c X.H.length cc] 27)) c X.H) := HH.out _ (balloc0 _ _)
  have IW := Lib.hid (fun z lo hi => within_impl z lo hi)
  obtain ⟨l1, l2, l3⟩ := hl
  clear ha
  obtain ⟨d0, d1, d2⟩ := BkBox.new w X a b c ca cb cc 27
  have W0 := Lib.hid (within_impl (X.A.length : Int) 2 10)
  cases h1 : inB (X.A.length : Int) 2 10
  · have HR := Lib.hid (ok_no1 h1)
    rw [h1] at W0
    clear h1
    go_enter Try.func18, Try.ntmps18
    go_wp2_with (go_at_call 51; refine (W0.out _).mono ?_; rintro e w1 ⟨rfl, rfl⟩)
    go_ret
    exact ⟨ret_bool HR.out.symm, balloc0 _ _⟩
  rw [h1] at W0
  have H1 := Lib.hid h1
  clear h1
  by_cases h2 : (X.L.length : Int) = (X.A.length : Int) + 1
  case neg =>
    have HR := Lib.hid (ok_no2 h2)
    go_enter Try.func18, Try.ntmps18
    go_wp2_with (go_at_call 51; refine (W0.out _).mono ?_; rintro e w1 ⟨rfl, rfl⟩)
    go_ret
    exact ⟨ret_bool HR.out.symm, balloc0 _ _⟩
  by_cases h3 : (X.H.length : Int) = (X.A.length : Int) + 1
  case neg =>
    have HR := Lib.hid (ok_no3 h3)
    go_enter Try.func18, Try.ntmps18
    go_wp2_with (go_at_call 51; refine (W0.out _).mono ?_; rintro e w1 ⟨rfl, rfl⟩)
    go_ret
    exact ⟨ret_bool HR.out.symm, balloc0 _ _⟩
  have H2 : Hid (X.L.length = X.A.length + 1) := by show _ = _; omega
  have H3 : Hid (X.H.length = X.A.length + 1) := by show _ = _; omega
  go_enter Try.func18, Try.ntmps18
  go_wp2_with (go_at_call 51; refine (W0.out _).mono ?_; rintro e w1 ⟨rfl, rfl⟩)
  clear h2 h3
  go_loop [31] (fun i => ∃ k : Nat, k ≤ X.L.length ∧ i = .int .i64 (k : Int) ∧ Hid (∀ j : Nat, j < k → inB (X.L.getD j 0) (-1000) (X.H.getD j 0) = true)) (fun i => X.L.length - (intOf i).toNat)
  case atStart => exact ⟨0, Nat.zero_le _, rfl, fun j h => by omega⟩
  case round =>
    obtain ⟨k, hk, rfl, hM⟩ := hrel
    by_cases hlt : k < X.L.length
    · have hlt' : (k : Int) < (X.L.length : Int) := by omega
      have hk0 : (0 : Int) ≤ (k : Int) := by omega
      have hltH : k < X.H.length := by have := H2.out; have := H3.out; omega
      have hltH' : (k : Int) < (X.H.length : Int) := by omega
      have hltA : (k : Int) < (X.A.length : Int) + 1 := by have := H2.out; omega
      obtain ⟨b1, o1, z1, rfl, hz1, hat1⟩ := IL.out.at hlt
      obtain ⟨b2, o2, z2, rfl, hz2, hat2⟩ := IH.out.at hltH
      have c1 := hat1 k z1 hz1
      have c2 := hat2 k z2 hz2
      have g1 := Lib.hid (getD_of hz1)
      have g2 := Lib.hid (getD_of hz2)
      have W1 := Lib.hid (IW.out z1 (-1000) z2)
      clear hat1 hat2 hz1 hz2
      cases hin : inB z1 (-1000) z2
      · have HR : Hid (okBk X = false) := ok_no4 (k := k) (by have := H2.out; omega) (by rw [g1.out, g2.out]; exact hin)
        rw [hin] at W1
        clear hin
        go_wp2_with (go_at_call 51; refine (W1.out _).mono ?_; rintro e w1 ⟨rfl, rfl⟩)
        go_ret
        exact ⟨ret_bool HR.out.symm, balloc0 _ _⟩
      · rw [hin] at W1
        have HI := Lib.hid hin
        clear hin
        go_wp2_with (go_at_call 51; refine (W1.out _).mono ?_; rintro e w1 ⟨rfl, rfl⟩)
        go_round
        case rel =>
          refine ⟨k + 1, by omega, by go_num, fun j hj => ?_⟩
          by_cases e : j = k
          · rw [e, g1.out, g2.out]; exact HI.out
          · exact hM.out j (by omega)
        case measure => simp [intOf]; omega
    · have hge : ¬ (k : Int) < (X.L.length : Int) := by omega
      have hgeA : ¬ (k : Int) < (X.A.length : Int) + 1 := by have := H2.out; omega
      have HR : Hid (okBk X = (allB X.A 1 1000 && allB X.H (-1000) 1000)) := ok_end H1.out H2.out H3.out fun j hj => hM.out j (by omega)
      obtain ⟨v1, hv1⟩ : ∃ v, allB X.A 1 1000 = v := ⟨_, rfl⟩
      obtain ⟨v2, hv2⟩ : ∃ v, allB X.H (-1000) 1000 = v := ⟨_, rfl⟩
      rw [hv1] at CA HR
      rw [hv2] at CH HR
      clear hv1 hv2
      cases v1
      all_goals
        go_wp2_with (first | (go_at_call_of 52 (Value.slice a X.A.length ca); refine (CA.out _ (balloc0 _ _)).mono ?_; rintro e w1 ⟨rfl, rfl⟩) | (go_at_call 52; refine (CH.out _ (balloc0 _ _)).mono ?_; rintro e w1 ⟨rfl, rfl⟩))
        go_ret
        exact ⟨ret_bool HR.out.symm, balloc0 _ _⟩
end Go.Proofs.Ytlglijalhacmhaa
