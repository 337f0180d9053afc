/-
  Blocks of arches: which are right: the model.
-/
import Derived.Test.YtlglijalhacmhaaBkV
namespace Go.Proofs.Ytlglijalhacmhaa
open Go.ChangeShapes Go.WideShapes Go.ChangeAt Go.RowKit Go.Joins

set_option maxRecDepth 100000 in
set_option maxHeartbeats 3200000 in
theorem bk_spec (X : Bk) (a b c : Option Addr) (ca cb cc : Nat) (n : Nat) (hl : BkLen X 1048576) (w : World) (ha : BkArg w a b c X) (hb : BkBox n X a b c ca cb cc w) :
    Calls Try.prog 50 #[.pointer (some ⟨n, 0, none⟩)] w fun e w' => e = .returned (.bool (okBk X)) ∧ Below w.heap.size w w' := by
  have HA := Lib.hid (fun wx (hx : Below w.heap.size w wx) => ha.1.later hx)
  have HL := Lib.hid (fun wx (hx : Below w.heap.size w wx) => ha.2.1.later hx)
  have HH := Lib.hid (fun wx (hx : Below w.heap.size w wx) => ha.2.2.later hx)
  have IW := Lib.hid (fun z lo hi => in_any z lo hi)
  obtain ⟨l1, l2, l3⟩ := hl
  obtain ⟨d0, d1, d2⟩ := hb
  clear ha
  have W0 := Lib.hid (in_any (X.A.length : Int) 2 10)
  cases h1 : inB (X.A.length : Int) 2 10
  · have HR := Lib.hid (ok_no1 h1)
    rw [h1] at W0
    clear h1
    go_enter Try.func50, Try.ntmps50
    go_wp2_with (go_at_call 68; refine (W0.out _).mono ?_; rintro e w1 ⟨rfl, rfl⟩)
    go_ret
    exact ⟨ret_bool HR.out.symm, Below.refl _ _⟩
  rw [h1] at W0
  have H1 := Lib.hid h1
  clear h1
  by_cases h2 : (X.L.length : Int) = (X.A.length : Int) + 1
  case neg =>
    have HR := Lib.hid (ok_no2 h2)
    go_enter Try.func50, Try.ntmps50
    go_wp2_with (go_at_call 68; refine (W0.out _).mono ?_; rintro e w1 ⟨rfl, rfl⟩)
    go_ret
    exact ⟨ret_bool HR.out.symm, Below.refl _ _⟩
  by_cases h3 : (X.H.length : Int) = (X.A.length : Int) + 1
  case neg =>
    have HR := Lib.hid (ok_no3 h3)
    go_enter Try.func50, Try.ntmps50
    go_wp2_with (go_at_call 68; refine (W0.out _).mono ?_; rintro e w1 ⟨rfl, rfl⟩)
    go_ret
    exact ⟨ret_bool HR.out.symm, Below.refl _ _⟩
  have H2 : Hid (X.L.length = X.A.length + 1) := by show _ = _; omega
  have H3 : Hid (X.H.length = X.A.length + 1) := by show _ = _; omega
  go_enter Try.func50, Try.ntmps50
  go_wp2_with (go_at_call 68; refine (W0.out _).mono ?_; rintro e w1 ⟨rfl, rfl⟩)
  clear h2 h3
  go_loop [4] (fun i => ∃ k : Nat, k ≤ X.A.length ∧ i = .int .i64 (k : Int) ∧ Hid (∀ (j : Nat) (z : Int), j < k → X.A[j]? = some z → inB z 1 1000 = true)) (fun i => X.A.length - (intOf i).toNat)
  case atStart => exact ⟨0, Nat.zero_le _, rfl, fun j z h => by omega⟩
  case round =>
    obtain ⟨k, hk, rfl, hM⟩ := hrel
    by_cases hlt : k < X.A.length
    · have hlt' : (k : Int) < (X.A.length : Int) := by omega
      have hk0 : (0 : Int) ≤ (k : Int) := by omega
      obtain ⟨b1, o1, z1, rfl, hz1, hat1⟩ := (HA.out _ (Below.refl _ _)).at hlt
      have c1 := hat1 k z1 hz1
      have HZ := Lib.hid hz1
      have W1 := Lib.hid (IW.out z1 1 1000)
      clear hat1 hz1
      cases hin : inB z1 1 1000
      · have HR : Hid (okBk X = false) := ok_no5 HZ.out hin
        rw [hin] at W1
        clear hin
        go_wp2_with (go_at_call 68; refine (W1.out _).mono ?_; rintro e w1 ⟨rfl, rfl⟩)
        go_ret
        exact ⟨ret_bool HR.out.symm, Below.refl _ _⟩
      · rw [hin] at W1
        have HI := Lib.hid hin
        clear hin
        go_wp2_with (go_at_call 68; refine (W1.out _).mono ?_; rintro e w1 ⟨rfl, rfl⟩)
        go_round
        case rel =>
          refine ⟨k + 1, by omega, by go_num, fun j y hj hy => ?_⟩
          by_cases e : j = k
          · subst e
            rw [HZ.out] at hy
            cases hy
            exact HI.out
          · exact hM.out j y (by omega) hy
        case measure => simp [intOf]; omega
    have hge : ¬ (k : Int) < (X.A.length : Int) := by omega
    have H4 : Hid (allB X.A 1 1000 = true) := allB_true.2 fun j z hz => hM.out j z (by have := (List.getElem?_eq_some_iff.1 hz).1; omega) hz
    clear hM
    go_wp2
    go_loopw [5] (fun i wr => ∃ k : Nat, k ≤ X.A.length + 1 ∧ i = .int .i64 (k : Int) ∧ Hid (∀ j : Nat, j < k → hgtB X j = true) ∧ Hid (Below w.heap.size w wr)) (fun i _ => X.A.length + 1 - (intOf i).toNat)
    case atStart => exact ⟨0, Nat.zero_le _, rfl, fun j h => by omega, Below.refl _ _⟩
    case round =>
      obtain ⟨q, hq, rfl, hM, hB⟩ := hrel
      by_cases hlq : q < X.A.length + 1
      · have hlq' : (q : Int) ≤ (X.A.length : Int) := by omega
        have hq0 : (0 : Int) ≤ (q : Int) := by omega
        have hL1 : q < X.L.length := by have := H2.out; omega
        have hH1 : q < X.H.length := by have := H3.out; omega
        have hL' : (q : Int) < (X.L.length : Int) := by omega
        have hH' : (q : Int) < (X.H.length : Int) := by omega
        obtain ⟨b1, o1, z1, rfl, hz1, hat1⟩ := (HL.out _ hB.out).at hL1
        obtain ⟨b2, o2, z2, rfl, hz2, hat2⟩ := (HH.out _ hB.out).at hH1
        have c1 := hat1 q z1 hz1
        have c2 := hat2 q z2 hz2
        have g1 := Lib.hid (getD_of hz1)
        have g2 := Lib.hid (getD_of hz2)
        have W1 := Lib.hid (IW.out z1 (-1000) 1000)
        have W2 := Lib.hid (IW.out z2 z1 1000)
        have e0 := (hB.out.cell (World.block_lt_of_cell? w _ d0)).trans d0
        have e1 := (hB.out.cell (World.block_lt_of_cell? w _ d1)).trans d1
        have e2 := (hB.out.cell (World.block_lt_of_cell? w _ d2)).trans d2
        have HG : Hid (hgtB X q = (inB z1 (-1000) 1000 && inB z2 z1 1000)) := by show _ = _; unfold hgtB; rw [g1.out, g2.out]
        clear hat1 hat2 hz1 hz2
        cases hin1 : inB z1 (-1000) 1000 <;> cases hin2 : inB z2 z1 1000
        all_goals
          rw [hin1] at W1 HG
          rw [hin2] at W2 HG
          clear hin1 hin2
          go_wp2_with fail
          go_quiet (first | (go_at_call_of 68 (Value.int .i64 z2); exact Calls.quiet_of_same ((W2.out _).mono (fun _ _ h => ⟨h.1, h.2.symm⟩))) | (go_at_call 68; exact Calls.quiet_of_same ((W1.out _).mono (fun _ _ h => ⟨h.1, h.2.symm⟩))))
          go_wp2
        iterate 3
          · go_ret
            exact ⟨ret_bool (ok_no6 hlq (by rw [HG.out]; rfl)).symm, below_drewN hB.out nq⟩
        · go_roundw
          case rel =>
            refine ⟨q + 1, by omega, by go_num, fun j hj => ?_, below_drewN hB.out nq⟩
            by_cases e : j = q
            · rw [e, HG.out]; rfl
            · exact hM.out j (by omega)
          case measure => simp [intOf]; omega
      · have hge : ¬ (q : Int) ≤ (X.A.length : Int) := by omega
        have HR : Hid (okBk X = true) := okBk_true.2 ⟨by have := inB_true.1 H1.out; omega, H2.out, H3.out, H4.out, fun j hj => hM.out j (by omega)⟩
        go_wp2
        go_ret
        exact ⟨ret_bool HR.out.symm, hB.out⟩
theorem spec_valid_bk (X : Bk) (a b c : Option Addr) (ca cb cc : Nat) (hl : BkLen X 1048576) (w : World) (ha : BkArg w a b c X) :
    Calls Try.prog 16 #[.agg #[.slice a X.A.length ca, .slice b X.L.length cb, .slice c X.H.length cc]] w fun e w' => e = .returned (.bool (okBk X)) ∧ Below w.heap.size w w' := by
  have C := Lib.hid (bk_spec X a b c ca cb cc w.heap.size hl (w.alloc (.cells #[.slice a X.A.length ca, .slice b X.L.length cb, .slice c X.H.length cc] 27)) (ha.later (balloc0 _ _)) (BkBox.new w X a b c ca cb cc 27))
  clear ha
  go_enter Try.func16, Try.ntmps16
  go_wp2_with fail
  refine C.out.mono ?_
  rintro e w1 ⟨rfl, hb1⟩
  have B1 := Lib.hid (bnext (balloc0 w _) hb1)
  clear hb1
  go_wp2
  go_ret
  exact ⟨rfl, B1.out⟩
end Go.Proofs.Ytlglijalhacmhaa
