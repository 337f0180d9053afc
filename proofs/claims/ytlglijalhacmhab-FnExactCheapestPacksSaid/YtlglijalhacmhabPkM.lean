/-
  The cheapest packs: the model's answer.
-/
import Derived.Test.YtlglijalhacmhabPkS
namespace Go.Proofs.Ytlglijalhacmhab
open Go.ChangeShapes Go.WideShapes Go.ChangeAt Go.RowKit Go.Joins

theorem agK_of {f : Nat → Int} {K j : Nat} (hj : j < K) (h1 : f j = mnK f K) (h2 : ∀ i, j < i → i < K → ¬ f i = mnK f K) : j = agK f K := by
  obtain ⟨L, rfl⟩ : ∃ L, K = L + 1 := ⟨K - 1, by omega⟩
  obtain ⟨a, b, c⟩ := agK_val f L
  by_cases e : j = agK f (L + 1)
  · exact e
  · by_cases h : j < agK f (L + 1)
    · exact absurd a (h2 _ h b)
    · exact absurd h1 (c j (by omega) hj)
theorem lpP_of {S P : List Int} (h : pkOk S P = true) {n : Nat} (hn : 1 ≤ n) : lpP S P n = mnK (csP S P n) S.length := by
  obtain ⟨m, rfl⟩ : ∃ m, n = m + 1 := ⟨n - 1, by omega⟩
  exact lpP_succ (fun k hk => ((pkOk_true h).2.2.1 k hk).1) m
theorem lpP_hit {S P : List Int} (h : pkOk S P = true) {n : Nat} (hn : 1 ≤ n) : ∃ j, j < S.length ∧ csP S P n j = lpP S P n := by
  rw [lpP_of h hn]
  obtain ⟨⟨s0, -⟩, -⟩ := pkOk_true h
  obtain ⟨L, hL⟩ : ∃ L, S.length = L + 1 := ⟨S.length - 1, by omega⟩
  rw [hL]
  obtain ⟨a, b, -⟩ := agK_val (csP S P n) L
  exact ⟨_, b, a⟩
theorem pkP_length (S P : List Int) (f n : Nat) (X : List Int) : (pkP S P f n X).length = X.length := by
  induction f generalizing n X with
  | zero => rfl
  | succ f ih =>
    by_cases e : n = 0
    · subst e; rw [pkP_zero]
    · rw [pkP_step _ _ _ _ _ e, ih]; simp
theorem mxn_spec (a b : Int) (w : World) : Calls Try.prog 72 #[.int .i64 a, .int .i64 b] w fun e w' => e = .returned (.int .i64 (max a b)) ∧ w = w' := by
  by_cases h : b < a
  all_goals
    go_enter Try.func72, Try.ntmps72
    go_wp2
    go_ret
    exact ⟨ret_int (by omega), rfl⟩
set_option maxRecDepth 100000 in
set_option maxHeartbeats 12800000 in
theorem packs_spec (S P : List Int) (N : Int) (a : Option Addr) (ca : Nat) (hl : S.length ≤ 1048576) (b : Option Addr) (cb : Nat) (hp : P.length ≤ 1048576) (w : World) (ha : IntArg w a S) (hb : IntArg w b P) :
    Calls Try.prog 34 #[.slice a S.length ca, .slice b P.length cb, .int .i64 N] w fun e w' => ∃ ao cp, e = .returned (.tuple #[.slice ao (pkL S P N).length cp, .int .i64 (pkC S P N)]) ∧ IntRes w.heap.size (pkL S P N) ao w' ∧ Below w.heap.size w w' := by
  have C := Lib.hid (sizes_spec S P a b ca cb hl hp w ha hb)
  have I := Lib.hid (in_any N 0 3000)
  cases h1 : pkOk S P
  · have hc : pkC S P N = 2 := by simp [pkC, pkG, h1]
    have hq : pkL S P N = [] := by simp [pkL, pkG, h1]
    rw [hc, hq]
    rw [h1] at C
    clear ha hb h1 hc hq
    go_enter Try.func34, Try.ntmps34
    go_wp2_with fail
    refine C.out.mono ?_
    rintro e w1 ⟨rfl, hb1⟩
    go_wp2
    go_ret2
    exact ⟨none, 0, rfl, .inl rfl, hb1⟩
  cases h2 : inB N 0 3000
  · have hc : pkC S P N = 2 := by simp [pkC, pkG, h2]
    have hq : pkL S P N = [] := by simp [pkL, pkG, h2]
    rw [hc, hq]
    rw [h1] at C
    rw [h2] at I
    clear ha hb h1 hc hq h2
    go_enter Try.func34, Try.ntmps34
    go_wp2_with fail
    refine C.out.mono ?_
    rintro e w1 ⟨rfl, hb1⟩
    have B1 := Lib.hid hb1
    clear hb1
    go_wp2_with fail
    refine (I.out _).mono ?_
    rintro e w2 ⟨rfl, rfl⟩
    go_wp2
    go_ret2
    exact ⟨none, 0, rfl, .inl rfl, B1.out⟩
  have hg : pkG S P N = true := by simp [pkG, h1, h2]
  obtain ⟨n0, n1⟩ := inB_true.1 h2
  obtain ⟨M, rfl⟩ : ∃ M : Nat, N = (M : Int) := ⟨N.toNat, by omega⟩
  have hc : pkC S P (M : Int) = 0 := by simp [pkC, hg]
  rw [hc, pkL_good hg, pkP_length, List.length_replicate]
  rw [h1] at C
  rw [h2] at I
  obtain ⟨⟨s0, s1⟩, hlen, hS, hP⟩ := pkOk_true h1
  have HS := Lib.hid hS
  have HP := Lib.hid hP
  have HOK := Lib.hid h1
  have HLN := Lib.hid hlen
  have HA : Hid (∀ wx, Below w.heap.size w wx → IntArg wx a S) := fun wx h => ha.later h
  have HB : Hid (∀ wx, Below w.heap.size w wx → IntArg wx b P) := fun wx h => hb.later h
  obtain ⟨R, hR⟩ : ∃ R, pkP S P M M (List.replicate S.length 0) = R := ⟨_, rfl⟩
  rw [hR]
  have HR := Lib.hid hR
  clear ha hb h1 h2 hc hg hS hP hR hlen
  go_enter Try.func34, Try.ntmps34
  go_wp2_with fail
  refine C.out.mono ?_
  rintro e w1 ⟨rfl, hb1⟩
  have B1 := Lib.hid hb1
  clear hb1
  go_wp2_with fail
  refine (I.out _).mono ?_
  rintro e w2 ⟨rfl, rfl⟩
  have hmk := make_nuz (M + 1) (by omega) w1
  rw [show ((M + 1 : Nat) : Int) = (M : Int) + 1 by omega] at hmk
  have R0 := Lib.hid (NzOwn.new (B := w.heap.size) (n := M + 1) B1.out.size (by omega))
  have B2 := Lib.hid (balloc B1.out (.cells (madeCells #[.int .i64 0] (M + 1)) 2))
  obtain ⟨g, hgg⟩ : ∃ g, w1.heap.size = g := ⟨_, rfl⟩
  rw [hgg] at hmk R0
  obtain ⟨W, hW⟩ : ∃ W, w1.alloc (.cells (madeCells #[.int .i64 0] (M + 1)) 2) = W := ⟨_, rfl⟩
  rw [hW] at hmk R0 B2
  clear hW hgg
  go_wp2
  clear hmk
  go_loopw [9] (fun v wr => ∃ (n : Nat) (X : List Int), 1 ≤ n ∧ n ≤ M + 1 ∧ v = .int .i64 (n : Int) ∧ Hid (∀ i, i < n → X.getD i 0 = lpP S P i) ∧ Hid (NzOwn w.heap.size g (M + 1) X wr) ∧ Hid (Below w.heap.size w wr)) (fun v _ => M + 1 - (intOf v).toNat)
  case atStart =>
    refine ⟨1, List.replicate (M + 1) 0, by omega, by omega, rfl, fun i hi => ?_, R0.out, B2.out⟩
    obtain rfl : i = 0 := by omega
    rw [lpP_zero]; rfl
  case round =>
    obtain ⟨n, X, hn1, hn, rfl, hM, hX, hBr⟩ := hrel
    by_cases hlt : n ≤ M
    · have hlt' : (n : Int) ≤ (M : Int) := by omega
      go_wp2
      go_loopw [10] (fun v wx => ∃ (k : Nat) (Y : List Int), k ≤ S.length ∧ v = .int .i64 (k : Int) ∧ Hid (∀ i, i < n → Y.getD i 0 = lpP S P i) ∧ Hid (0 < k → Y.getD n 0 = mnK (csP S P n) k) ∧ Hid (NzOwn w.heap.size g (M + 1) Y wx) ∧ Hid (Below w.heap.size w wx)) (fun v _ => S.length - (intOf v).toNat)
      case atStart => exact ⟨0, X, by omega, rfl, hM.out, fun h => by omega, hX.out, hBr.out⟩
      case round =>
        obtain ⟨k, Y, hk, rfl, hMY, hY, hXY, hBx⟩ := hrel
        by_cases hlk : k < S.length
        · have hlk' : (k : Int) < (S.length : Int) := by omega
          have hlk2 : (k : Int) < (P.length : Int) := by have := HLN.out; omega
          have hk0 : (0 : Int) ≤ (k : Int) := by omega
          obtain ⟨bs, os, s, rfl, hs, hats⟩ := (HA.out _ hBx.out).at hlk
          have cs := hats k s hs
          obtain ⟨bp, op, p, rfl, hpp, hatp⟩ := (HB.out _ hBx.out).at (show k < P.length by have := HLN.out; omega)
          have cp := hatp k p hpp
          have gs := getD_of hs
          have gp := getD_of hpp
          have r1 := HS.out k hlk
          rw [gs] at r1
          have r2 := HP.out k hlk
          rw [gp] at r2
          obtain ⟨r10, r11⟩ := r1
          obtain ⟨r20, r21⟩ := r2
          obtain ⟨q, hq⟩ : ∃ q : Nat, ((n : Int) - s).toNat = q := ⟨_, rfl⟩
          have hqn : q < n := by omega
          have hq0 : (0 : Int) ≤ (q : Int) := by omega
          have hqM : (q : Int) < (M : Int) + 1 := by omega
          have MX := Lib.hid (fun wx => mxn_spec 0 ((n : Int) - s) wx)
          rw [show max 0 ((n : Int) - s) = (q : Int) by omega] at MX
          have cl := hXY.out.cell (k := q) (by omega)
          rw [hMY.out q hqn] at cl
          have rq := lpP_range HOK.out q
          have HC : Hid (csP S P n k = p + lpP S P q) := by show _ = _; unfold csP; rw [gs, gp, hq]
          obtain ⟨lq, hlq⟩ : ∃ z, lpP S P q = z := ⟨_, rfl⟩
          rw [hlq] at cl rq HC
          obtain ⟨rq0, rq1⟩ := rq
          have e1 : IntKind.i64.wrap (p + lq) = p + lq := IntWalk.i64_in _ (by omega)
          have e2 : IntKind.i64.wrap ((n : Int) - s) = (n : Int) - s := IntWalk.i64_in _ (by omega)
          have hnM : (n : Int) < (M : Int) + 1 := by omega
          have hn0 : (0 : Int) ≤ (n : Int) := by omega
          have hYl : Hid (n < Y.length) := by show _ < _; rw [hXY.out.1]; omega
          clear hs hats hpp hatp gs gp hlq
          have cn := hXY.out.cell (k := n) (by omega)
          have fn := hXY.out.frozen (k := n)
          have PX := Lib.hid (fun nq => (hXY.out.later (below_drewN (Below.refl wr.heap.size wr) nq)).put (k := n) (p + lq))
          have BX := Lib.hid (fun nq => (below_drewN hBx.out nq).setCell (p := ⟨g, n, none⟩) hXY.out.base (.int .i64 (p + lq)))
          go_wp2_with fail
          go_quiet (first | (go_at_call 72; exact Calls.quiet_of_same ((MX.out _).mono (fun _ _ h => ⟨h.1, h.2.symm⟩))))
          clear cs cp cl e1 e2
          by_cases hk1 : k = 0
          · have hkb : ((k : Int) == 0) = true := by simp [hk1]
            have HN : Hid (mnK (csP S P n) (k + 1) = p + lq) := by show _ = _; rw [mnK_step (.inl hk1), HC.out]
            obtain ⟨y0, hy0⟩ : ∃ z, Y.getD n 0 = z := ⟨_, rfl⟩
            rw [hy0] at cn
            clear hy0
            go_wp2
            go_roundw
            case rel => exact ⟨k + 1, Y.set n (p + lq), by omega, by go_num, fun i hi => by rw [set_getD_ne (by omega)]; exact hMY.out i hi, fun _ => by rw [set_getD_self hYl.out, HN.out], PX.out nq, BX.out nq⟩
            case measure => simp [intOf] <;> omega
          · have hkb : ((k : Int) == 0) = false := by simp; omega
            have hm := hY.out (by omega)
            have HM := Lib.hid hm
            rw [hm] at cn
            obtain ⟨mn, hmn⟩ : ∃ z, mnK (csP S P n) k = z := ⟨_, rfl⟩
            have HMN := Lib.hid hmn
            rw [hmn] at cn
            clear hm hmn
            by_cases hc : p + lq < mn
            · have HN : Hid (mnK (csP S P n) (k + 1) = p + lq) := by show _ = _; rw [mnK_step (.inr (by rw [HC.out, HMN.out]; exact hc)), HC.out]
              go_wp2
              go_roundw
              case rel => exact ⟨k + 1, Y.set n (p + lq), by omega, by go_num, fun i hi => by rw [set_getD_ne (by omega)]; exact hMY.out i hi, fun _ => by rw [set_getD_self hYl.out, HN.out], PX.out nq, BX.out nq⟩
              case measure => simp [intOf] <;> omega
            · have HN : Hid (mnK (csP S P n) (k + 1) = mn) := by show _ = _; rw [mnK_stay (by rw [HC.out, HMN.out]; omega), HMN.out]
              go_wp2
              go_roundw
              case rel => exact ⟨k + 1, Y, by omega, by go_num, hMY.out, fun _ => by rw [HM.out, HMN.out, HN.out], hXY.out.later (below_drewN (Below.refl wr.heap.size wr) nq), below_drewN hBx.out nq⟩
              case measure => simp [intOf] <;> omega
        · have hgk : ¬ (k : Int) < (S.length : Int) := by omega
          have hkn : k = S.length := by omega
          have HL : Hid (lpP S P n = Y.getD n 0) := by show _ = _; rw [lpP_of HOK.out hn1, hY.out (by omega), hkn]
          clear hkn
          go_wp2
          go_roundw
          case rel =>
            refine ⟨n + 1, Y, by omega, by omega, by go_num, fun i hi => ?_, hXY.out, hBx.out⟩
            by_cases e : i = n
            · rw [e, HL.out]
            · exact hMY.out i (by omega)
          case measure => simp [intOf] <;> omega
    · have hge : ¬ (n : Int) ≤ (M : Int) := by omega
      have hnM : n = M + 1 := by omega
      have HX : Hid (∀ i, i < M + 1 → X.getD i 0 = lpP S P i) := fun i hi => hM.out i (by omega)
      have hmk2 := make_nuz S.length hl wr
      have R2 := Lib.hid (NzOwn.new (B := w.heap.size) (n := S.length) hBr.out.size hl)
      have B3 := Lib.hid (balloc hBr.out (.cells (madeCells #[.int .i64 0] S.length) 2))
      have X3 := Lib.hid (hX.out.later (balloc0 wr (.cells (madeCells #[.int .i64 0] S.length) 2)))
      have hgl := hX.out.lt
      obtain ⟨g2, hg2⟩ : ∃ g2, wr.heap.size = g2 := ⟨_, rfl⟩
      rw [hg2] at hmk2 R2 hgl
      obtain ⟨W2, hW2⟩ : ∃ W, wr.alloc (.cells (madeCells #[.int .i64 0] S.length) 2) = W := ⟨_, rfl⟩
      rw [hW2] at hmk2 R2 B3
      have X3 : Hid (NzOwn w.heap.size g (M + 1) X W2) := by have := X3.out; rw [hW2] at this; exact this
      clear hW2 hg2
      go_wp2
      clear hmk2
      go_loopw [13] (fun v wx => ∃ (r : Nat) (Z : List Int), v = .int .i64 (r : Int) ∧ Hid (PkAt S P M r Z) ∧ Hid (NzOwn w.heap.size g2 S.length Z wx) ∧ Hid (NzOwn w.heap.size g (M + 1) X wx) ∧ Hid (Below w.heap.size w wx)) (fun v _ => (intOf v).toNat)
      case atStart => exact ⟨M, List.replicate S.length 0, rfl, PkAt.start S P M, R2.out, X3.out, B3.out⟩
      case round =>
        obtain ⟨r, Z, rfl, hK, hZ, hX4, hB4⟩ := hrel
        have rM := hK.out.1
        by_cases hr : 0 < r
        · have hr' : (r : Int) > 0 := by omega
          go_wp2
          go_loopw [13, 14] (fun u v wx => ∃ (k : Nat), k ≤ S.length ∧ u = .int .i64 (r : Int) ∧ v = .int .i64 ((k : Int) - 1) ∧ Hid (∀ i, k ≤ i → i < S.length → ¬ csP S P r i = lpP S P r) ∧ Hid (Below wr.heap.size wr wx)) (fun _ v _ => (intOf v + 1).toNat)
          case atStart => exact ⟨S.length, Nat.le_refl _, rfl, by go_num, fun i h1 h2 => by omega, Below.refl _ _⟩
          case round =>
            obtain ⟨k, hk, rfl, rfl, hNo, hBy⟩ := hrel
            cases k with
            | zero =>
              exfalso
              obtain ⟨j, hj, he⟩ := lpP_hit HOK.out (n := r) (by omega)
              exact hNo.out j (by omega) hj he
            | succ j =>
              rw [show ((j + 1 : Nat) : Int) - 1 = (j : Int) by omega]
              have hj' : (j : Int) < (S.length : Int) := by omega
              have hj2 : (j : Int) < (P.length : Int) := by have := HLN.out; omega
              have hj0 : (0 : Int) ≤ (j : Int) := by omega
              have hBz := Lib.hid (bnext hB4.out hBy.out)
              obtain ⟨bs, os, s, rfl, hs, hats⟩ := (HA.out _ hBz.out).at (show j < S.length by omega)
              have cs := hats j s hs
              obtain ⟨bp, op, p, rfl, hpp, hatp⟩ := (HB.out _ hBz.out).at (show j < P.length by have := HLN.out; omega)
              have cp := hatp j p hpp
              have gs := getD_of hs
              have gp := getD_of hpp
              have r1 := HS.out j (by omega)
              rw [gs] at r1
              have r2 := HP.out j (by omega)
              rw [gp] at r2
              obtain ⟨r10, r11⟩ := r1
              obtain ⟨r20, r21⟩ := r2
              obtain ⟨q, hq⟩ : ∃ q : Nat, ((r : Int) - s).toNat = q := ⟨_, rfl⟩
              have hqn : q < r := by omega
              have hq0 : (0 : Int) ≤ (q : Int) := by omega
              have hqM : (q : Int) < (M : Int) + 1 := by omega
              have MX := Lib.hid (fun wx => mxn_spec 0 ((r : Int) - s) wx)
              rw [show max 0 ((r : Int) - s) = (q : Int) by omega] at MX
              have hX5 := Lib.hid (hX4.out.later hBy.out)
              have cl := hX5.out.cell (k := q) (by omega)
              rw [HX.out q (by omega)] at cl
              have cr := hX5.out.cell (k := r) (by omega)
              rw [HX.out r (by omega)] at cr
              have rq := lpP_range HOK.out q
              have HC : Hid (csP S P r j = p + lpP S P q) := by show _ = _; unfold csP; rw [gs, gp, hq]
              obtain ⟨lq, hlq⟩ : ∃ z, lpP S P q = z := ⟨_, rfl⟩
              obtain ⟨lr, hlr⟩ : ∃ z, lpP S P r = z := ⟨_, rfl⟩
              have HLR := Lib.hid hlr
              have HQ : Hid (q = ((r : Int) - S.getD j 0).toNat) := by show _ = _; rw [gs, hq]
              rw [hlq] at cl rq HC
              rw [hlr] at cr
              obtain ⟨rq0, rq1⟩ := rq
              have e1 : IntKind.i64.wrap (p + lq) = p + lq := IntWalk.i64_in _ (by omega)
              have e2 : IntKind.i64.wrap ((r : Int) - s) = (r : Int) - s := IntWalk.i64_in _ (by omega)
              have hrM : (r : Int) < (M : Int) + 1 := by omega
              have hr0 : (0 : Int) ≤ (r : Int) := by omega
              clear hs hats hpp hatp gs gp hlq hlr
              go_wp2_with (go_at_call 72; refine (MX.out _).mono ?_; rintro e w3 ⟨rfl, rfl⟩)
              go_quiet (first | fail)
              clear cs cp cl cr e1 e2
              by_cases heq : p + lq = lr
              · have HJ : Hid (j = agK (csP S P r) S.length) := by
                  refine agK_of (by omega) ?_ fun i h1 h2 => ?_
                  · rw [← lpP_of HOK.out (by omega), HC.out, HLR.out]; exact heq
                  · rw [← lpP_of HOK.out (by omega)]; exact hNo.out i (by omega) h2
                have HKN : Hid (PkAt S P M q (Z.set j (Z.getD j 0 + 1))) := hK.out.next (by omega) HJ.out HQ.out hqn
                have hZ5 := Lib.hid (hZ.out.later hBy.out)
                have cz := hZ5.out.cell (k := j) (by omega)
                have fz := hZ5.out.frozen (k := j)
                have bz := hK.out.2.2.1 j
                obtain ⟨z, hz⟩ : ∃ z, Z.getD j 0 = z := ⟨_, rfl⟩
                rw [hz] at cz bz HKN
                clear hz
                have PX := Lib.hid ((hZ5.out.later (below_drewN (Below.refl wr.heap.size wr) nq)).put (k := j) (z + 1))
                have BX := Lib.hid ((below_drewN hBz.out nq).setCell (p := ⟨g2, j, none⟩) hZ5.out.base (.int .i64 (z + 1)))
                have LX := Lib.hid ((hX5.out.later (below_drewN (Below.refl wr.heap.size wr) nq)).set (b := g2) (o := j) (u := .int .i64 (z + 1)) (by omega))
                have e3 : IntKind.i64.wrap (z + 1) = z + 1 := IntWalk.i64_in _ (by omega)
                go_wp2
                go_roundw
                case rel => exact ⟨q, Z.set j (z + 1), rfl, HKN.out, PX.out, LX.out, BX.out⟩
                case measure => simp [intOf] <;> omega
              · have HNJ : Hid (¬ csP S P r j = lpP S P r) := by show ¬ _; rw [HC.out, HLR.out]; exact heq
                go_wp2
                go_roundw
                case rel =>
                  refine ⟨j, by omega, rfl, by go_num, fun i h1 h2 => ?_, below_drewN hBy.out nq⟩
                  by_cases e : i = j
                  · rw [e]; exact HNJ.out
                  · exact hNo.out i (by omega) h2
                case measure => simp [intOf] <;> omega
        · obtain rfl : r = 0 := by omega
          have hz' : ¬ ((0 : Nat) : Int) > 0 := by omega
          have HD : Hid (R = Z) := by show _ = _; rw [← HR.out]; exact hK.out.done
          have HZL := Lib.hid hK.out.2.1
          have HO := Lib.hid hZ.out.own
          go_wp2
          go_ret2
          have HI : Hid (IntRes w.heap.size R (some ⟨g2, 0, none⟩) wr) := by rw [HD.out]; exact .inr ⟨g2, rfl, HO.out⟩
          first | exact ⟨some ⟨g2, 0, none⟩, ⟨S.length, rfl⟩, HI.out, hB4.out⟩ | exact ⟨some ⟨g2, 0, none⟩, S.length, rfl, HI.out, hB4.out⟩
end Go.Proofs.Ytlglijalhacmhab
