/-
  The cheapest packs: the program's row of purchases.
-/
import Derived.Test.YtlglijalhacmhabPkI
namespace Go.Proofs.Ytlglijalhacmhab
open Go.ChangeShapes Go.WideShapes Go.ChangeAt Go.RowKit Go.Joins

/-- A purchase in a box of the call's own. -/
def PuBox (h : Nat) (x y z : Int) (w : World) : Prop := (w.cell? ⟨h, 0, none⟩ = some (.int .i64 x) ∧ w.cell? ⟨h, 1, none⟩ = some (.int .i64 y) ∧ w.cell? ⟨h, 2, none⟩ = some (.int .i64 z)) ∧ (w.frozen? ⟨h, 0, none⟩ = false ∧ w.frozen? ⟨h, 1, none⟩ = false ∧ w.frozen? ⟨h, 2, none⟩ = false) ∧ h < w.heap.size
theorem PuBox.later {h : Nat} {x y z : Int} {w w' : World} (H : PuBox h x y z w) (hb : Below w.heap.size w w') : PuBox h x y z w' := by
  have e : ∀ o, w'.cell? ⟨h, o, none⟩ = w.cell? ⟨h, o, none⟩ := fun o => hb.cell H.2.2
  have f : ∀ o, w'.frozen? ⟨h, o, none⟩ = w.frozen? ⟨h, o, none⟩ := fun o => hb.frozen H.2.2
  exact ⟨⟨(e 0).trans H.1.1, (e 1).trans H.1.2.1, (e 2).trans H.1.2.2⟩, ⟨(f 0).trans H.2.1.1, (f 1).trans H.2.1.2.1, (f 2).trans H.2.1.2.2⟩, Nat.lt_of_lt_of_le H.2.2 hb.size⟩
theorem PuBox.put {h : Nat} {x y z : Int} {w : World} (H : PuBox h x y z w) (x' y' z' : Int) : PuBox h x' y' z' (((w.setCell ⟨h, 0, none⟩ (.int .i64 x')).setCell ⟨h, 1, none⟩ (.int .i64 y')).setCell ⟨h, 2, none⟩ (.int .i64 z')) := by
  have n01 : (⟨h, 0, none⟩ : Addr) ≠ ⟨h, 1, none⟩ := fun e => by cases e
  have n02 : (⟨h, 0, none⟩ : Addr) ≠ ⟨h, 2, none⟩ := fun e => by cases e
  have n12 : (⟨h, 1, none⟩ : Addr) ≠ ⟨h, 2, none⟩ := fun e => by cases e
  have c1 : (w.setCell ⟨h, 0, none⟩ (.int .i64 x')).cell? ⟨h, 1, none⟩ = some (.int .i64 y) := (World.cell?_setCell_other _ _ _ _ n01).trans H.1.2.1
  have c2 : ((w.setCell ⟨h, 0, none⟩ (.int .i64 x')).setCell ⟨h, 1, none⟩ (.int .i64 y')).cell? ⟨h, 2, none⟩ = some (.int .i64 z) := (World.cell?_setCell_other _ _ _ _ n12).trans ((World.cell?_setCell_other _ _ _ _ n02).trans H.1.2.2)
  refine ⟨⟨?_, ?_, World.cell?_setCell_same _ _ _ c2⟩, ⟨by simpa using H.2.1.1, by simpa using H.2.1.2.1, by simpa using H.2.1.2.2⟩, ?_⟩
  · exact (World.cell?_setCell_other _ _ _ _ (Ne.symm n02)).trans ((World.cell?_setCell_other _ _ _ _ (Ne.symm n01)).trans (World.cell?_setCell_same _ _ _ H.1.1))
  · exact (World.cell?_setCell_other _ _ _ _ (Ne.symm n12)).trans (World.cell?_setCell_same _ _ _ c1)
  · exact World.block_lt_of_cell? _ _ (World.cell?_setCell_same _ _ _ c2)
theorem PuRow.set {B n g cap b o : Nat} {S P : List Int} {u : Value} {w : World} (h : PuRow B S P n g cap w) (hne : g ≠ b) : PuRow B S P n g cap (w.setCell ⟨b, o, none⟩ u) :=
  ownsRow_setCell_other h (fun e => hne (by simpa [Value.ownBlock] using e)) u
theorem infoPu : (Try.prog.info? 103).map (fun i => (i.zero, i.size, i.bytes)) = some (some (.agg #[.int .i64 0, .int .i64 0, .int .i64 0]), 3, 24) := by kernel_rfl
theorem info_pu : ∃ i, Try.prog.info? 103 = some i ∧ i.zero = some (.agg #[.int .i64 0, .int .i64 0, .int .i64 0]) ∧ i.size = 3 ∧ i.bytes = 24 := by
  have h := infoPu
  cases hi : Try.prog.info? 103 with
  | none => rw [hi] at h; cases h
  | some i =>
    rw [hi] at h
    simp at h
    exact ⟨i, rfl, h.1, h.2.1, h.2.2⟩
theorem cells_pu (w : World) (x y z : Value) (t : TypeId) : ∀ j u, [x, y, z][j]? = some u → (w.alloc (.cells #[x, y, z] t)).cell? ((⟨w.heap.size, 0, none⟩ : Addr).add j) = some u := by
  intro j u hj
  match j, hj with
  | 0, hj => simp at hj; subst hj; simp [Addr.add]
  | 1, hj => simp at hj; subst hj; simp [Addr.add]
  | 2, hj => simp at hj; subst hj; simp [Addr.add]
set_option maxRecDepth 100000 in
set_option maxHeartbeats 12800000 in
theorem purchases_impl (S P : List Int) (M : Nat) (hM : M ≤ 3000) (hok : pkOk S P = true) (a : Option Addr) (ca : Nat) (hl : S.length ≤ 1048576) (b : Option Addr) (cb : Nat) (_hp : P.length ≤ 1048576) (w : World) (ha : IntArg w a S) (hb : IntArg w b P) :
    Calls Try.prog 75 #[.slice a S.length ca, .slice b P.length cb, .int .i64 (M : Int)] w fun e w' => ∃ g cap, e = .returned (.slice (some ⟨g, 0, none⟩) (M + 1) cap) ∧ PuRow w.heap.size S P (M + 1) g cap w' ∧ Below w.heap.size w w' := by
  obtain ⟨⟨s0, s1⟩, hlen, hS, hP⟩ := pkOk_true hok
  have HS := Lib.hid hS
  have HP := Lib.hid hP
  have HOK := Lib.hid hok
  have HLN := Lib.hid hlen
  have HA : Hid (∀ wx, Below w.heap.size w wx → IntArg wx a S) := fun wx h => ha.later h
  have HB : Hid (∀ wx, Below w.heap.size w wx → IntArg wx b P) := fun wx h => hb.later h
  clear ha hb hok hlen hS hP
  go_enter Try.func75, Try.ntmps75
  go_wp2
  go_loopw [7, 8] (fun u v wr => ∃ (n g cap : Nat), 1 ≤ n ∧ n ≤ M + 1 ∧ u = .slice (some ⟨g, 0, none⟩) n cap ∧ v = .int .i64 (n : Int) ∧ Hid (PuRow w.heap.size S P n g cap wr) ∧ Hid (Below w.heap.size w wr)) (fun _ v _ => M + 1 - (intOf v).toNat)
  case atStart =>
    refine ⟨1, w.heap.size, 1, by omega, by omega, rfl, rfl, ?_, balloc0 w _⟩
    refine ⟨rfl, .inr ⟨w.heap.size, 1, _, rfl, Nat.le_refl _, heap_alloc_new w _, Nat.le_refl _, by decide, rfl, ?_⟩⟩
    simp [puVals, puE, puA, puR, lpP_zero, List.range_succ]
  case round =>
    obtain ⟨n, g, cap, hn1, hn, rfl, rfl, hR, hBr⟩ := hrel
    by_cases hlt : n ≤ M
    · have hlt' : (n : Int) ≤ (M : Int) := by omega
      have hsz := hBr.out.size
      have BX0 : Hid (PuBox wr.heap.size 0 0 0 (wr.alloc (.cells #[.int .i64 0, .int .i64 0, .int .i64 0] 103))) := by
        have r := range_new wr #[.int .i64 0, .int .i64 0, .int .i64 0] 103
        exact ⟨⟨r 0 _ rfl, r 1 _ rfl, r 2 _ rfl⟩, ⟨World.frozen?_alloc_at _ _ _ _ rfl, World.frozen?_alloc_at _ _ _ _ rfl, World.frozen?_alloc_at _ _ _ _ rfl⟩, World.block_lt_of_cell? _ _ (r 0 _ rfl)⟩
      have RW := Lib.hid (hR.out.later (balloc0 wr (.cells #[.int .i64 0, .int .i64 0, .int .i64 0] 103)))
      have BW := Lib.hid (balloc hBr.out (.cells #[.int .i64 0, .int .i64 0, .int .i64 0] 103))
      have gl := hR.out.lt
      obtain ⟨b9, hh⟩ : ∃ h, wr.heap.size = h := ⟨_, rfl⟩
      have HH := Lib.hid hh
      rw [hh] at BX0 hsz gl
      clear hh
      go_wp2
      rw [HH.out]
      go_loopw [23] (fun v wx => ∃ (k : Nat) (x : Int) (y z : Nat), k ≤ S.length ∧ v = .int .i64 (k : Int) ∧ Hid (0 < k → x = mnK (csP S P n) k ∧ y = agK (csP S P n) k ∧ z = ((n : Int) - S.getD y 0).toNat) ∧ Hid (PuBox b9 x y z wx) ∧ Hid (PuRow w.heap.size S P n g cap wx) ∧ Hid (Below w.heap.size w wx)) (fun v _ => S.length - (intOf v).toNat)
      case atStart => exact ⟨0, 0, 0, 0, by omega, rfl, fun h => by omega, BX0.out, RW.out, BW.out⟩
      case round =>
        obtain ⟨k, x, y, z, hk, rfl, hX, hBox, hRx, hBx⟩ := hrel
        by_cases hlk : k < S.length
        · have hlk' : (k : Int) < (S.length : Int) := by omega
          have hlk2 : (k : Int) < (P.length : Int) := by have := HLN.out; omega
          have hk0 : (0 : Int) ≤ (k : Int) := by omega
          obtain ⟨bs, os, s, rfl, hs, hats⟩ := (HA.out _ hBx.out).at hlk
          have cs := hats k s hs
          obtain ⟨bp, op, p, rfl, hpp, hatp⟩ := (HB.out _ hBx.out).at (show k < P.length by have := HLN.out; omega)
          have cp := hatp k p hpp
          have gs := getD_of hs
          have gp := getD_of hpp
          have r1 := HS.out k hlk
          rw [gs] at r1
          have r2 := HP.out k hlk
          rw [gp] at r2
          obtain ⟨r10, r11⟩ := r1
          obtain ⟨r20, r21⟩ := r2
          obtain ⟨q, hq⟩ : ∃ q : Nat, ((n : Int) - s).toNat = q := ⟨_, rfl⟩
          have hqn : q < n := by omega
          have hq0 : (0 : Int) ≤ (q : Int) := by omega
          have hqn' : (q : Int) < (n : Int) := by omega
          have cl := (hRx.out.cells hqn).1
          have rq := lpP_range HOK.out q
          have HC : Hid (csP S P n k = p + lpP S P q) := by show _ = _; unfold csP; rw [gs, gp, hq]
          have HQ : Hid (q = ((n : Int) - S.getD k 0).toNat) := by show _ = _; rw [gs, hq]
          obtain ⟨lq, hlq⟩ : ∃ z, lpP S P q = z := ⟨_, rfl⟩
          rw [hlq] at cl rq HC
          obtain ⟨rq0, rq1⟩ := rq
          have e1 : IntKind.i64.wrap (p + lq) = p + lq := IntWalk.i64_in _ (by omega)
          clear hs hats hpp hatp gs gp hlq
          have PX := Lib.hid (fun nq => (hBox.out.later (below_drewN (Below.refl wr.heap.size wr) nq)).put (p + lq) (k : Int) (q : Int))
          have RX := Lib.hid (fun nq => (((hRx.out.later (below_drewN (Below.refl wr.heap.size wr) nq)).set (b := b9) (o := 0) (u := .int .i64 (p + lq)) (by omega)).set (b := b9) (o := 1) (u := .int .i64 (k : Int)) (by omega)).set (b := b9) (o := 2) (u := .int .i64 (q : Int)) (by omega))
          have BX := Lib.hid (fun nq => (((below_drewN hBx.out nq).setCell (p := ⟨b9, 0, none⟩) hsz (.int .i64 (p + lq))).setCell (p := ⟨b9, 1, none⟩) hsz (.int .i64 (k : Int))).setCell (p := ⟨b9, 2, none⟩) hsz (.int .i64 (q : Int)))
          go_wp2_with fail
          · have hz : q = 0 := by omega
            subst hz
            rw [Nat.zero_mul] at cl
            go_quiet (first | fail)
            clear cs cp cl e1
            obtain ⟨⟨x0, x1, x2⟩, ⟨f0, f1, f2⟩, hbz⟩ := hBox.out
            by_cases hk1 : k = 0
            · have hkb : ((k : Int) == 0) = true := by simp [hk1]
              have HN : Hid (mnK (csP S P n) (k + 1) = p + lq) := by show _ = _; rw [mnK_le (.inl hk1), HC.out]
              have HG : Hid (agK (csP S P n) (k + 1) = k) := agK_step (.inl hk1)
              subst hk1
              go_wp2
              go_roundw
              case rel => exact ⟨0 + 1, p + lq, 0, 0, by omega, by go_num, fun _ => ⟨HN.out.symm, HG.out.symm, HQ.out⟩, PX.out nq, RX.out nq, BX.out nq⟩
              case measure => simp [intOf] <;> omega
            · have hkb : ((k : Int) == 0) = false := by simp; omega
              have HX := Lib.hid (hX.out (by omega))
              by_cases hc : p + lq ≤ x
              · have HN : Hid (mnK (csP S P n) (k + 1) = p + lq) := by show _ = _; rw [mnK_le (.inr (by rw [HC.out, ← HX.out.1]; exact hc)), HC.out]
                have HG : Hid (agK (csP S P n) (k + 1) = k) := agK_step (.inr (by rw [HC.out, ← HX.out.1]; exact hc))
                go_wp2
                go_roundw
                case rel => exact ⟨k + 1, p + lq, k, 0, by omega, by go_num, fun _ => ⟨HN.out.symm, HG.out.symm, HQ.out⟩, PX.out nq, RX.out nq, BX.out nq⟩
                case measure => simp [intOf] <;> omega
              · have HN : Hid (mnK (csP S P n) (k + 1) = x) := by show _ = _; rw [mnK_stay (by rw [HC.out, ← HX.out.1]; omega), HX.out.1]
                have HG : Hid (agK (csP S P n) (k + 1) = y) := by show _ = _; rw [agK_stay (by rw [HC.out, ← HX.out.1]; omega), HX.out.2.1]
                go_wp2
                go_roundw
                case rel => exact ⟨k + 1, x, y, z, by omega, by go_num, fun _ => ⟨HN.out.symm, HG.out.symm, HX.out.2.2⟩, hBox.out.later (below_drewN (Below.refl wr.heap.size wr) nq), hRx.out.later (below_drewN (Below.refl wr.heap.size wr) nq), below_drewN hBx.out nq⟩
                case measure => simp [intOf] <;> omega
          · have hq2 : (n : Int) - s = (q : Int) := by omega
            rw [hq2]
            go_quiet (first | fail)
            clear cs cp cl e1
            obtain ⟨⟨x0, x1, x2⟩, ⟨f0, f1, f2⟩, hbz⟩ := hBox.out
            by_cases hk1 : k = 0
            · have hkb : ((k : Int) == 0) = true := by simp [hk1]
              have HN : Hid (mnK (csP S P n) (k + 1) = p + lq) := by show _ = _; rw [mnK_le (.inl hk1), HC.out]
              have HG : Hid (agK (csP S P n) (k + 1) = k) := agK_step (.inl hk1)
              subst hk1
              go_wp2
              go_roundw
              case rel => exact ⟨0 + 1, p + lq, 0, q, by omega, by go_num, fun _ => ⟨HN.out.symm, HG.out.symm, HQ.out⟩, PX.out nq, RX.out nq, BX.out nq⟩
              case measure => simp [intOf] <;> omega
            · have hkb : ((k : Int) == 0) = false := by simp; omega
              have HX := Lib.hid (hX.out (by omega))
              by_cases hc : p + lq ≤ x
              · have HN : Hid (mnK (csP S P n) (k + 1) = p + lq) := by show _ = _; rw [mnK_le (.inr (by rw [HC.out, ← HX.out.1]; exact hc)), HC.out]
                have HG : Hid (agK (csP S P n) (k + 1) = k) := agK_step (.inr (by rw [HC.out, ← HX.out.1]; exact hc))
                go_wp2
                go_roundw
                case rel => exact ⟨k + 1, p + lq, k, q, by omega, by go_num, fun _ => ⟨HN.out.symm, HG.out.symm, HQ.out⟩, PX.out nq, RX.out nq, BX.out nq⟩
                case measure => simp [intOf] <;> omega
              · have HN : Hid (mnK (csP S P n) (k + 1) = x) := by show _ = _; rw [mnK_stay (by rw [HC.out, ← HX.out.1]; omega), HX.out.1]
                have HG : Hid (agK (csP S P n) (k + 1) = y) := by show _ = _; rw [agK_stay (by rw [HC.out, ← HX.out.1]; omega), HX.out.2.1]
                go_wp2
                go_roundw
                case rel => exact ⟨k + 1, x, y, z, by omega, by go_num, fun _ => ⟨HN.out.symm, HG.out.symm, HX.out.2.2⟩, hBox.out.later (below_drewN (Below.refl wr.heap.size wr) nq), hRx.out.later (below_drewN (Below.refl wr.heap.size wr) nq), below_drewN hBx.out nq⟩
                case measure => simp [intOf] <;> omega
        · have hgk : ¬ (k : Int) < (S.length : Int) := by omega
          have hkn : k = S.length := by omega
          obtain ⟨e1, e2, e3⟩ := hX.out (by omega)
          rw [hkn] at e1 e2
          have HE : Hid (puE S P n = [.int .i64 x, .int .i64 (y : Int), .int .i64 (z : Int)]) := by
            show _ = _
            unfold puE puA puR
            rw [if_neg (by omega), if_neg (by omega), lpP_of HOK.out hn1, ← e1, ← e2, ← e3]
          obtain ⟨⟨x0, x1, x2⟩, ⟨f0, f1, f2⟩, hbz⟩ := hBox.out
          obtain ⟨i0, hi, hz0, hz1, hz2⟩ := info_pu
          have hbase := hBx.out.size
          clear e1 e2 e3 hkn
          go_wp2_with (at_builtin; refine wpList_append_own _ rfl _ _ 100 rfl w.heap.size 103 i0 (.agg #[.int .i64 0, .int .i64 0, .int .i64 0]) 3 24 Try.underlying100 hi hz0 hz1 hz2 rfl (by decide) (.slice (some ⟨g, 0, none⟩) n cap) n (puVals S P n) rfl (hRx.out.alloc _) ⟨wr.heap.size, 0, none⟩ 1 1 [.int .i64 x, .int .i64 (y : Int), .int .i64 (z : Int)] rfl rfl (cells_pu _ _ _ _ _) (by simp [Value.oneCell']) (by unfold maxLen; omega) (by omega) (by simp; omega) ?_; intro v' w3 hown' hgrow _)
          obtain ⟨g', cap', rfl⟩ := own_form8 hown' (by omega)
          rw [← HE.out, ← puVals_succ] at hown'
          have HO : Hid (PuRow w.heap.size S P (n + 1) g' cap' w3) := hown'
          have BG := Lib.hid ((balloc hBx.out (.cells #[.int .i64 x, .int .i64 (y : Int), .int .i64 (z : Int)] 103)).grown hgrow (by simp; omega) (fun r hr => by have := (World.ownsRow.lt hRx.out r hr).1; omega))
          clear hown' hgrow
          go_roundw
          case rel => exact ⟨n + 1, g', cap', by omega, by omega, rfl, by go_num, HO.out, BG.out⟩
          case measure => simp [intOf] <;> omega
    · have hge : ¬ (n : Int) ≤ (M : Int) := by omega
      obtain rfl : n = M + 1 := by omega
      go_wp2
      go_ret
      first | exact ⟨g, ⟨cap, rfl⟩, hR.out, hBr.out⟩ | exact ⟨g, cap, rfl, hR.out, hBr.out⟩
end Go.Proofs.Ytlglijalhacmhab
