/-
  Lines of thrust: the model.
-/
import Derived.Test.YtlglijalhacmhaaBkLp
import Derived.Test.YtlglijalhacmhaaBkM
namespace Go.Proofs.Ytlglijalhacmhaa
open Go.ChangeShapes Go.WideShapes Go.ChangeAt Go.RowKit Go.Joins

set_option maxRecDepth 100000 in
set_option maxHeartbeats 6400000 in
theorem IsLine_spec (X : Bk) (P : List Int) (d : Int) (a b c : Option Addr) (ca cb cc : Nat) (hl : BkLen X 1048576) (s : Option Addr) (t : Nat) (hlP : P.length ≤ 1048576) (w : World) (ha : BkArg w a b c X) (hp : IntArg w s P) :
    Calls Try.prog 35 #[.agg #[.slice a X.A.length ca, .slice b X.L.length cb, .slice c X.H.length cc], .slice s P.length t, .int .i64 d] w fun e w' => e = .returned (.tuple #[.bool (lnV X P d), .int .i64 (lnC X P d)]) ∧ Below w.heap.size w w' := by
  have k0 := BkBox.new w X a b c ca cb cc 27
  have E0 := Lib.hid (balloc0 w (.cells #[.slice a X.A.length ca, .slice b X.L.length cb, .slice c X.H.length cc] 27))
  obtain ⟨U, hU⟩ : ∃ U, World.alloc w (.cells #[.slice a X.A.length ca, .slice b X.L.length cb, .slice c X.H.length cc] 27) = U := ⟨_, rfl⟩
  rw [hU] at k0 E0
  have E0 : Hid (Below w.heap.size w U) := E0.out
  have HU := Lib.hid hU
  have C := Lib.hid (bk_spec X a b c ca cb cc w.heap.size hl U (ha.later E0.out) k0)
  have CI := Lib.hid (fun wx => in_any d 1 100000000 wx)
  have IW := Lib.hid (fun z lo hi => in_any z lo hi)
  have KB := Lib.hid k0
  have HA := Lib.hid (ha.later E0.out)
  have HP := Lib.hid (hp.later E0.out)
  obtain ⟨l1, l2, l3⟩ := hl
  cases hok : okBk X
  · have HR := Lib.hid (ln_no1 (P := P) (d := d) hok)
    rw [hok] at C
    clear hU k0 ha hp hok
    go_enter Try.func35, Try.ntmps35
    go_wp2_with fail
    rw [HU.out]
    refine C.out.mono ?_
    rintro e w1 ⟨rfl, hb1⟩
    have B0 := Lib.hid hb1
    have B1 := Lib.hid (bnext E0.out hb1)
    obtain ⟨p0, p1, p2⟩ := KB.out.later hb1
    clear hb1
    go_wp2
    go_ret2
    exact ⟨ret_bi HR.out.1.symm HR.out.2.symm, B1.out⟩
  have OK := Lib.hid hok
  rw [hok] at C
  clear hU k0 ha hp hok
  by_cases h2 : (P.length : Int) = (X.L.length : Int)
  case neg =>
    have HR := Lib.hid (ln_no2 (P := P) (d := d) OK.out (fun h => h2 (by rw [h.1])))
    go_enter Try.func35, Try.ntmps35
    go_wp2_with fail
    rw [HU.out]
    refine C.out.mono ?_
    rintro e w1 ⟨rfl, hb1⟩
    have B0 := Lib.hid hb1
    have B1 := Lib.hid (bnext E0.out hb1)
    obtain ⟨p0, p1, p2⟩ := KB.out.later hb1
    clear hb1
    go_wp2
    go_ret2
    exact ⟨ret_bi HR.out.1.symm HR.out.2.symm, B1.out⟩
  have H2 : Hid (P.length = X.L.length) := by show _ = _; omega
  have h2b : ((P.length : Int) != (X.L.length : Int)) = false := by simp [h2]
  clear h2
  cases h4 : inB d 1 100000000
  · have HR := Lib.hid (ln_no2 (P := P) (d := d) OK.out (fun h => by rw [h4] at h; exact Bool.noConfusion h.2.2))
    rw [h4] at CI
    clear h4
    go_enter Try.func35, Try.ntmps35
    go_wp2_with fail
    rw [HU.out]
    refine C.out.mono ?_
    rintro e w1 ⟨rfl, hb1⟩
    have B0 := Lib.hid hb1
    have B1 := Lib.hid (bnext E0.out hb1)
    obtain ⟨p0, p1, p2⟩ := KB.out.later hb1
    clear hb1
    go_wp2_with (first | (go_at_call 68; refine (CI.out _).mono ?_; rintro e w3 ⟨rfl, rfl⟩))
    go_ret2
    exact ⟨ret_bi HR.out.1.symm HR.out.2.symm, B1.out⟩
  obtain ⟨d0, d1⟩ := inB_true.1 h4
  have H4 := Lib.hid h4
  rw [h4] at CI
  clear h4
  have hn := (okBk_true.1 OK.out).1
  have hLl : Hid (X.L.length = X.A.length + 1) := (okBk_true.1 OK.out).2.1
  have hHl : Hid (X.H.length = X.A.length + 1) := (okBk_true.1 OK.out).2.2.1
  have hP11 : P.length ≤ 11 := by have := hLl.out; have := H2.out; omega
  obtain ⟨hn2, hn10⟩ := hn
  go_enter Try.func35, Try.ntmps35
  go_wp2_with fail
  rw [HU.out]
  refine C.out.mono ?_
  rintro e w1 ⟨rfl, hb1⟩
  have B0 := Lib.hid hb1
  obtain ⟨p0, p1, p2⟩ := KB.out.later hb1
  clear hb1
  go_wp2_with (first | (go_at_call 68; refine (CI.out _).mono ?_; rintro e w3 ⟨rfl, rfl⟩))
  clear h2b
  go_loopw [8] (fun i wr => ∃ k : Nat, k ≤ P.length ∧ i = .int .i64 (k : Int) ∧ Hid (∀ (j : Nat) (z : Int), j < k → P[j]? = some z → inB z (-100000000000) 100000000000 = true) ∧ Hid (Below U.heap.size U wr)) (fun i _ => P.length - (intOf i).toNat)
  case atStart => exact ⟨0, Nat.zero_le _, rfl, fun j z h => by omega, B0.out⟩
  case round =>
    obtain ⟨k, hk, rfl, hM, hB⟩ := hrel
    by_cases hlt : k < P.length
    · have hlt' : (k : Int) < (P.length : Int) := by omega
      have hk0 : (0 : Int) ≤ (k : Int) := by omega
      obtain ⟨b1, o1, z1, rfl, hz1, hat1⟩ := (HP.out.later hB.out).at hlt
      have c1 := hat1 k z1 hz1
      have HZ := Lib.hid hz1
      have W1 := Lib.hid (IW.out z1 (-100000000000) 100000000000)
      clear hat1 hz1
      cases hin : inB z1 (-100000000000) 100000000000
      · have HR := Lib.hid (ln_no2 (d := d) OK.out (fun h => by have := allB_no HZ.out hin; rw [this] at h; exact Bool.noConfusion h.2.1))
        rw [hin] at W1
        clear hin
        go_wp2_with (first | (go_at_call 68; refine (W1.out _).mono ?_; rintro e w3 ⟨rfl, rfl⟩))
        go_ret2
        exact ⟨ret_bi HR.out.1.symm HR.out.2.symm, bnext E0.out hB.out⟩
      · rw [hin] at W1
        have HI := Lib.hid hin
        clear hin
        go_wp2_with (first | (go_at_call 68; refine (W1.out _).mono ?_; rintro e w3 ⟨rfl, rfl⟩))
        go_roundw
        case rel =>
          refine ⟨k + 1, by omega, by go_num, fun j y hj hy => ?_, hB.out⟩
          by_cases e : j = k
          · subst e
            rw [HZ.out] at hy
            cases hy
            exact HI.out
          · exact hM.out j y (by omega) hy
        case measure => simp [intOf]; omega
    have hge : ¬ (k : Int) < (P.length : Int) := by omega
    have H3 : Hid (allB P (-100000000000) 100000000000 = true) := allB_true.2 fun j z hz => hM.out j z (by have := (List.getElem?_eq_some_iff.1 hz).1; omega) hz
    have HR := Lib.hid (ln_yes (P := P) (d := d) OK.out ⟨H2.out, H3.out, H4.out⟩)
    clear hM
    go_wp2
    go_loopw [9] (fun i wr => ∃ k : Nat, k ≤ P.length ∧ i = .int .i64 (k : Int) ∧ Hid (∀ j : Nat, j < k → witB X P d j = true) ∧ Hid (Below U.heap.size U wr)) (fun i _ => P.length - (intOf i).toNat)
    case atStart => exact ⟨0, Nat.zero_le _, rfl, fun j h => by omega, hB.out⟩
    case round =>
      obtain ⟨q, hq, rfl, hW, hB2⟩ := hrel
      obtain ⟨p0, p1, p2⟩ := KB.out.later hB2.out
      by_cases hlq : q < P.length
      · have hlt' : (q : Int) < (P.length : Int) := by omega
        have hk0 : (0 : Int) ≤ (q : Int) := by omega
        have hL1 : q < X.L.length := by have := H2.out; omega
        have hH1 : q < X.H.length := by have := H2.out; have := hLl.out; have := hHl.out; omega
        have hL' : (q : Int) < (X.L.length : Int) := by omega
        have hH' : (q : Int) < (X.H.length : Int) := by omega
        obtain ⟨b1, o1, z1, rfl, hz1, hat1⟩ := (HA.out.2.1.later hB2.out).at hL1
        obtain ⟨b2, o2, z2, rfl, hz2, hat2⟩ := (HA.out.2.2.later hB2.out).at hH1
        obtain ⟨b3, o3, z3, rfl, hz3, hat3⟩ := (HP.out.later hB2.out).at hlq
        have c1 := hat1 q z1 hz1
        have c2 := hat2 q z2 hz2
        have c3 := hat3 q z3 hz3
        have hr := okBk_at OK.out (k := q) (by have := hLl.out; omega)
        have g1 := getD_of hz1
        have g2 := getD_of hz2
        have g3 := getD_of hz3
        rw [g1, g2] at hr
        obtain ⟨q0, q1, q2⟩ := hr
        obtain ⟨m10, m11⟩ := mul_den q0 (by omega : z1 ≤ 1000) d0 d1
        obtain ⟨m20, m21⟩ := mul_den (by omega : -1000 ≤ z2) q2 d0 d1
        have HW : Hid (witB X P d q = inB z3 (z1 * d) (z2 * d)) := by show _ = _; unfold witB; rw [g1, g2, g3]
        clear hat1 hat2 hat3 hz1 hz2 hz3 g1 g2 g3
        by_cases hlo : z3 < z1 * d
        · have HN := Lib.hid (isLn_wit (d := d) hlq (by rw [HW.out, inB_false]; omega))
          go_wp2_with fail
          go_quiet (fail)
          go_wp2
          go_ret2
          exact ⟨ret_bi (by rw [HR.out.1, HN.out]) HR.out.2.symm, bnext E0.out (below_drewN hB2.out nq)⟩
        have hd1 : decide (z3 < z1 * d) = false := decide_eq_false hlo
        have hd2 : (decide (z3 < z1 * d) = true) = False := by simp [hlo]
        by_cases hhi : z2 * d < z3
        · have HN := Lib.hid (isLn_wit (d := d) hlq (by rw [HW.out, inB_false]; omega))
          go_wp2_with fail
          go_quiet (fail)
          go_wp2
          go_ret2
          exact ⟨ret_bi (by rw [HR.out.1, HN.out]) HR.out.2.symm, bnext E0.out (below_drewN hB2.out nq)⟩
        · have HY : Hid (witB X P d q = true) := by show _ = _; rw [HW.out, inB_true]; omega
          go_wp2_with fail
          go_quiet (fail)
          go_wp2
          go_roundw
          case rel =>
            refine ⟨q + 1, by omega, by go_num, fun j hj => ?_, below_drewN hB2.out nq⟩
            by_cases e : j = q
            · rw [e, HY.out]
            · exact hW.out j (by omega)
          case measure => simp [intOf]; omega
      have hgq : ¬ (q : Int) < (P.length : Int) := by omega
      have HWA : Hid (∀ j : Nat, j < P.length → witB X P d j = true) := fun j hj => hW.out j (by omega)
      clear hW
      have hPl : P.length = X.A.length + 1 := by have := hLl.out; have := H2.out; omega
      obtain ⟨b3, o3, z0, rfl, hz0, hat3⟩ := (HP.out.later hB2.out).at (show 0 < P.length by omega)
      have hz1 := List.getElem?_eq_getElem (show 1 < P.length by omega)
      have hz2 := List.getElem?_eq_getElem (show 2 < P.length by omega)
      obtain ⟨z1, e1⟩ : ∃ z, P[1]'(by omega) = z := ⟨_, rfl⟩
      obtain ⟨z2, e2⟩ : ∃ z, P[2]'(by omega) = z := ⟨_, rfl⟩
      rw [e1] at hz1
      rw [e2] at hz2
      have c0 : wr.cell? ⟨b3, o3, none⟩ = some (.int .i64 z0) := hat3 0 z0 hz0
      have c1 := hat3 1 z1 hz1
      have c2 := hat3 2 z2 hz2
      have r0 := inB_true.1 (allB_true.1 H3.out 0 z0 hz0)
      have r1 := inB_true.1 (allB_true.1 H3.out 1 z1 hz1)
      have r2 := inB_true.1 (allB_true.1 H3.out 2 z2 hz2)
      have HF : Hid (bnd P 0 = z0 - 2 * z1 + z2) := by show _ = _; unfold bnd; rw [getD_of hz0, getD_of hz1, getD_of hz2]
      have hP2 : (2 : Int) < (P.length : Int) := by omega
      have HPl := Lib.hid hPl
      obtain ⟨r00, r01⟩ := r0
      obtain ⟨r10, r11⟩ := r1
      obtain ⟨r20, r21⟩ := r2
      clear hPl e1 e2 hat3 hz0 hz1 hz2
      go_wp2_with fail
      go_quiet (fail)
      go_wp2_with fail
      have rf := bnd_range H3.out (k := 0) (by rw [HPl.out]; omega)
      obtain ⟨f, hf⟩ : ∃ f, z0 - 2 * z1 + z2 = f := ⟨_, rfl⟩
      rw [hf] at HF ⊢
      rw [HF.out] at rf
      obtain ⟨rf0, rf1⟩ := rf
      clear hf c0 c1 c2 r00 r01 r10 r11 r20 r21 p0 p1 p2
      have HWT : Hid ((List.range P.length).all (witB X P d) = true) := by
        show _ = _
        rw [List.all_eq_true]
        intro j hj
        exact HWA.out j (List.mem_range.1 hj)
      go_loopw [11] (fun i wr2 => ∃ n : Nat, 1 ≤ n ∧ n ≤ X.A.length - 1 ∧ i = .int .i64 (n : Int) ∧ Hid (∀ j : Nat, j < n → curB X P j = true) ∧ Hid (Below U.heap.size U wr2)) (fun i _ => X.A.length - (intOf i).toNat)
      case atStart => exact ⟨1, by omega, by omega, rfl, fun j h => by
        have : j = 0 := by omega
        subst this
        simp [curB], below_drewN hB2.out nq⟩
      case round =>
        obtain ⟨n, hn1, hnA, rfl, hCC, hB3⟩ := hrel
        obtain ⟨p0, p1, p2⟩ := KB.out.later hB3.out
        by_cases hln : n < X.A.length - 1
        · have hln' : (n : Int) + 1 < (X.A.length : Int) := by omega
          have hn0 : (0 : Int) ≤ (n : Int) := by omega
          have hP' : (n : Int) + 2 < (P.length : Int) := by have := HPl.out; omega
          have hat := (HP.out.later hB3.out).lies
          have hy0 := List.getElem?_eq_getElem (show n < P.length by omega)
          have hy1 := List.getElem?_eq_getElem (show n + 1 < P.length by omega)
          have hy2 := List.getElem?_eq_getElem (show n + 2 < P.length by omega)
          obtain ⟨y0, e0⟩ : ∃ z, P[n]'(by omega) = z := ⟨_, rfl⟩
          obtain ⟨y1, e1⟩ : ∃ z, P[n + 1]'(by omega) = z := ⟨_, rfl⟩
          obtain ⟨y2, e2⟩ : ∃ z, P[n + 2]'(by omega) = z := ⟨_, rfl⟩
          rw [e0] at hy0
          rw [e1] at hy1
          rw [e2] at hy2
          have c0 := hat n y0 hy0
          have c1 : wr.cell? ⟨b3, o3 + (n + 1), none⟩ = some (.int .i64 y1) := hat (n + 1) y1 hy1
          have c2 : wr.cell? ⟨b3, o3 + (n + 2), none⟩ = some (.int .i64 y2) := hat (n + 2) y2 hy2
          obtain ⟨s00, s01⟩ := inB_true.1 (allB_true.1 H3.out n y0 hy0)
          obtain ⟨s10, s11⟩ := inB_true.1 (allB_true.1 H3.out (n + 1) y1 hy1)
          obtain ⟨s20, s21⟩ := inB_true.1 (allB_true.1 H3.out (n + 2) y2 hy2)
          have HY : Hid (bnd P n = y0 - 2 * y1 + y2) := by show _ = _; unfold bnd; rw [getD_of hy0, getD_of hy1, getD_of hy2]
          have t0 : ((n : Int)).toNat = n := by omega
          have t1 : ((n : Int) + 1).toNat = n + 1 := by omega
          have t2 : ((n : Int) + 2).toNat = n + 2 := by omega
          clear e0 e1 e2 hat hy0 hy1 hy2
          obtain ⟨b4, o4, x0, rfl, hx0, hat⟩ := (HA.out.1.later hB3.out).at (show 0 < X.A.length by omega)
          have hx1 := some_getD (show 1 < X.A.length by omega)
          have hx2 := some_getD (show n < X.A.length by omega)
          have hx3 := some_getD (show n + 1 < X.A.length by omega)
          have f0 := okBk_load1 OK.out (k := 0) (by omega)
          rw [getD_of hx0] at f0
          have f1 := okBk_load1 OK.out (k := 1) (by omega)
          have f2 := okBk_load1 OK.out (k := n) (by omega)
          have f3 := okBk_load1 OK.out (k := n + 1) (by omega)
          have HC : Hid (curB X P n = decide (bnd P n * (x0 + X.A.getD 1 0) = bnd P 0 * (X.A.getD n 0 + X.A.getD (n + 1) 0))) := by show _ = _; unfold curB; rw [getD_of hx0]
          obtain ⟨x1, hx1e⟩ : ∃ z, X.A.getD 1 0 = z := ⟨_, rfl⟩
          obtain ⟨x2, hx2e⟩ : ∃ z, X.A.getD n 0 = z := ⟨_, rfl⟩
          obtain ⟨x3, hx3e⟩ : ∃ z, X.A.getD (n + 1) 0 = z := ⟨_, rfl⟩
          rw [hx1e] at hx1 f1 HC
          rw [hx2e] at hx2 f2 HC
          rw [hx3e] at hx3 f3 HC
          rw [HF.out] at HC
          have d0 : wr.cell? ⟨b4, o4, none⟩ = some (.int .i64 x0) := hat 0 x0 hx0
          have d1' := hat 1 x1 hx1
          have d2 := hat n x2 hx2
          have d3 : wr.cell? ⟨b4, o4 + (n + 1), none⟩ = some (.int .i64 x3) := hat (n + 1) x3 hx3
          have ry := bnd_range H3.out (k := n) (by rw [HPl.out]; omega)
          rw [HY.out] at ry HC
          obtain ⟨g00, g01⟩ := f0
          obtain ⟨g10, g11⟩ := f1
          obtain ⟨g20, g21⟩ := f2
          obtain ⟨g30, g31⟩ := f3
          obtain ⟨m10, m11⟩ := mul_bend ry.1 ry.2 (show 0 ≤ x0 + x1 by omega) (show x0 + x1 ≤ 2000 by omega)
          obtain ⟨m20, m21⟩ := mul_bend rf0 rf1 (show 0 ≤ x2 + x3 by omega) (show x2 + x3 ≤ 2000 by omega)
          have hnA2 : (n : Int) < (X.A.length : Int) := by omega
          have h1A : (1 : Int) < (X.A.length : Int) := by omega
          have h0A : (0 : Int) < (X.A.length : Int) := by omega
          have hn10' : (n : Int) ≤ 10 := by omega
          clear hx1e hx2e hx3e hat hx0 hx1 hx2 hx3 ry
          by_cases heq : (y0 - 2 * y1 + y2) * (x0 + x1) = f * (x2 + x3)
          case neg =>
            have hw1 : IntKind.i64.wrap ((y0 - 2 * y1 + y2) * (x0 + x1)) = (y0 - 2 * y1 + y2) * (x0 + x1) := IntWalk.i64_in _ (by omega)
            have hw2 : IntKind.i64.wrap (f * (x2 + x3)) = f * (x2 + x3) := IntWalk.i64_in _ (by omega)
            have HN := Lib.hid (isLn_cur (d := d) hln (by rw [HC.out]; exact decide_eq_false heq))
            go_wp2_with fail
            go_quiet (fail)
            go_wp2_with fail
            go_quiet (fail)
            go_wp2
            go_ret2
            exact ⟨ret_bi (by rw [HR.out.1, HN.out]) HR.out.2.symm, bnext E0.out (below_drewN (below_drewN hB3.out _) _)⟩
          · go_wp2_with fail
            go_quiet (fail)
            go_wp2_with fail
            go_quiet (fail)
            go_wp2
            go_roundw
            case rel =>
              refine ⟨n + 1, by omega, by omega, by go_num, fun j hj => ?_, below_drewN hB3.out _⟩
              by_cases e : j = n
              · rw [e, HC.out]; exact decide_eq_true heq
              · exact hCC.out j (by omega)
            case measure => simp [intOf]; omega
        · have hge : ¬ (n : Int) + 1 < (X.A.length : Int) := by omega
          have HN : Hid (isLn X P d = decide (f < 0)) := by
            show _ = _
            have h1 : (List.range (X.A.length - 1)).all (curB X P) = true := by
              rw [List.all_eq_true]
              intro j hj
              exact hCC.out j (by have := List.mem_range.1 hj; omega)
            unfold isLn
            rw [HWT.out, HF.out, h1]
            simp
          have hn10' : (n : Int) ≤ 10 := by omega
          go_wp2
          go_ret2
          exact ⟨ret_bi (by rw [HR.out.1, HN.out]) HR.out.2.symm, bnext E0.out hB3.out⟩
end Go.Proofs.Ytlglijalhacmhaa
