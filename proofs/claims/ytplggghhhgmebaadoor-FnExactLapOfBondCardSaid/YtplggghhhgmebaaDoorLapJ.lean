/-
  LapBetween and LapOfBond by the program.
-/
import Derived.Test.YtplggghhhgmebaaDoorLapI
namespace Go.Proofs.YtplggghhhgmebaaDoor
open Go.ChangeShapes Go.WideShapes Go.ChangeAt Go.RowKit Go.Joins

theorem pairD_length {nm : ByteArray} {L : List Co} (hok : okBond nm L = true) (low high u : Nat) (hu : 1 ≤ u) (hu2 : u ≤ 200) : (pairD L low high u).length ≤ 40000 := by
  have h1 := perpsV_le (crs_ok hok low) hu
  have h2 := perpsV_le (crs_ok hok high) hu
  unfold pairD
  rw [distL_length]
  have : (perpsV L low u).length * (perpsV L high u).length ≤ 200 * 200 := Nat.mul_le_mul (by omega) (by omega)
  omega
theorem bCode2_facts {nm : ByteArray} {L : List Co} {low high til : Int} (h : bCode2 nm L low high til = 0) : bCode nm L low til = 0 ∧ bCode nm L high til = 0 := by
  unfold bCode2 at h
  split at h
  · rename_i h1; exact ⟨h1, h⟩
  · rename_i h1; exact absurd h h1

set_option maxRecDepth 100000 in
set_option maxHeartbeats 1600000 in
theorem lapBetween_impl (nm : ByteArray) (L : List Co) (a : Option Addr) (cap : Nat) (hl : L.length ≤ 1048576) (hs : CosLe 1048576 L) (low high til : Int) (w : World) (ha : CoArg w a L) :
    Calls Tryd.prog 8 #[.agg #[.string nm, .slice a L.length cap], .int .i64 low, .int .i64 high, .int .i64 til] w fun e w' => e = .returned (.tuple #[.int .i64 (lapV nm L low high til), .int .i64 (lapC nm L low high til)]) ∧ Below w.heap.size w w' := by
  obtain ⟨d0, d1⟩ := box2 w nm (.slice a L.length cap) 30
  obtain ⟨W0, hW⟩ : ∃ W0, w.alloc (.cells #[.string nm, .slice a L.length cap] 30) = W0 := ⟨_, rfl⟩
  have E0 : Hid (Below w.heap.size w W0) := by show Below w.heap.size w W0; rw [← hW]; exact balloc0 _ _
  rw [hW] at d0 d1
  have K : Hid (∀ wx, Below W0.heap.size W0 wx → wx.cell? ⟨w.heap.size, 0, none⟩ = some (.string nm) ∧ wx.cell? ⟨w.heap.size, 1, none⟩ = some (.slice a L.length cap)) := fun wx hx =>
    ⟨(hx.cell (p := ⟨w.heap.size, 0, none⟩) (World.block_lt_of_cell? W0 _ d0)).trans d0, (hx.cell (p := ⟨w.heap.size, 1, none⟩) (World.block_lt_of_cell? W0 _ d1)).trans d1⟩
  have HW := Lib.hid hW
  have HA := Lib.hid (ha.later E0.out)
  have Z0 : W0.heap.size = w.heap.size + 1 := by rw [← hW]; simp
  have iarg := two_arg W0 low high
  rw [Z0] at iarg
  have C : Hid (Calls Tryd.prog 16 #[.agg #[.string nm, .slice a L.length cap], .int .i64 til, .slice (some ⟨w.heap.size + 1, 0, none⟩) 2 2] (W0.alloc (.cells #[.int .i64 low, .int .i64 high] 2)) fun e w' => e = .returned (.int .i64 (bCodeL nm L [low, high] til)) ∧ Below (W0.alloc (.cells #[.int .i64 low, .int .i64 high] 2)).heap.size (W0.alloc (.cells #[.int .i64 low, .int .i64 high] 2)) w') :=
    checkBond_impl nm L a cap hl hs [low, high] (some ⟨w.heap.size + 1, 0, none⟩) 2 (by simp) til _ (HA.out.later (balloc0 _ _)) iarg
  rw [bCodeL_two] at C
  by_cases hc : bCode2 nm L low high til = 0
  case neg =>
    obtain ⟨q, hq⟩ : ∃ q, bCode2 nm L low high til = q := ⟨_, rfl⟩
    have hV : lapV nm L low high til = 0 := by simp [lapV, hc]
    have hC : lapC nm L low high til = q := by simp only [lapC, if_neg hc]; exact hq
    rw [hV, hC]
    rw [hq] at C hc
    clear hW hq ha iarg d0 d1 Z0 hV hC
    go_enter Tryd.func8, Tryd.ntmps8
    go_wp2_with fail
    rw [HW.out]
    refine C.out.mono ?_
    rintro e w1 ⟨rfl, hb1⟩
    have B1 := Lib.hid (bnext E0.out (bnext (balloc0 _ _) hb1))
    clear hb1
    go_wp2_with fail
    go_ret2
    exact ⟨rfl, B1.out⟩
  obtain ⟨hc1, hc2⟩ := bCode2_facts hc
  obtain ⟨hok, ⟨k0, k1⟩, u0, u1⟩ := bCode_facts hc1
  obtain ⟨_, ⟨j0, j1⟩, _, _⟩ := bCode_facts hc2
  have hV : lapV nm L low high til = lapN (pairD L low.toNat high.toNat til.toNat) := by simp [lapV, hc]
  have hC : lapC nm L low high til = lapE (pairD L low.toNat high.toNat til.toNat) := by simp [lapC, hc]
  rw [hV, hC]
  obtain ⟨k, rfl⟩ := Int.eq_ofNat_of_zero_le k0
  obtain ⟨j, rfl⟩ := Int.eq_ofNat_of_zero_le j0
  obtain ⟨u, rfl⟩ := Int.eq_ofNat_of_zero_le (show 0 ≤ til by omega)
  simp only [Int.toNat_natCast]
  have P1 := Lib.hid (fun wx (hx : Below W0.heap.size W0 wx) => distances_impl hok a cap k j u (by omega) (by omega) (by omega) (by omega) wx (HA.out.later hx))
  have hD0 := pairD_pos L k j u
  have hDl := pairD_length hok k j u (by omega) (by omega)
  rw [hc] at C
  obtain ⟨D, hD⟩ : ∃ D, pairD L k j u = D := ⟨_, rfl⟩
  rw [hD] at P1 hD0 hDl ⊢
  have LE := Lib.hid (fun ao cp wx (h : IntArg wx ao D) => least_impl D hD0 (by omega) ao cp wx h)
  clear hW ha iarg d0 d1 hc hc1 hc2 Z0 hD hV hC hD0
  go_enter Tryd.func8, Tryd.ntmps8
  go_wp2_with fail
  rw [HW.out]
  refine C.out.mono ?_
  rintro e w1 ⟨rfl, hb1⟩
  have B1 := Lib.hid (bnext (balloc0 _ _) hb1)
  clear hb1
  obtain ⟨c0, c1⟩ := K.out _ B1.out
  go_wp2_with fail
  refine (P1.out _ B1.out).mono ?_
  rintro e w2 ⟨ao, cp, rfl, o2, hb2⟩
  have B2 := Lib.hid (bnext B1.out hb2)
  have I2 := Lib.hid (own_arg o2)
  clear hb2 o2 c0 c1
  go_wp2_with fail
  refine (LE.out _ _ _ I2.out).mono ?_
  rintro e w3 ⟨rfl, rfl⟩
  go_wp2_with fail
  go_ret2
  exact ⟨rfl, bnext E0.out B2.out⟩

theorem allD_length {nm : ByteArray} {L : List Co} (hok : okBond nm L = true) (u : Nat) (hu : 1 ≤ u) (hu2 : u ≤ 200) : ∀ n, (allD L u n).length ≤ 40000 * n
  | 0 => Nat.le_refl _
  | n + 1 => by
    have h1 := allD_length hok u hu hu2 n
    have h2 := pairD_length hok n (n + 1) u hu hu2
    simp only [allD, List.length_append]
    omega

set_option maxRecDepth 100000 in
set_option maxHeartbeats 3200000 in
theorem lapOfBond_impl (nm : ByteArray) (L : List Co) (a : Option Addr) (cap : Nat) (hl : L.length ≤ 1048576) (hs : CosLe 1048576 L) (til : Int) (w : World) (ha : CoArg w a L) :
    Calls Tryd.prog 11 #[.agg #[.string nm, .slice a L.length cap], .int .i64 til] w fun e w' => e = .returned (.tuple #[.int .i64 (lapAV nm L til), .int .i64 (lapAC nm L til)]) ∧ Below w.heap.size w w' := by
  obtain ⟨d0, d1⟩ := box2 w nm (.slice a L.length cap) 30
  obtain ⟨W0, hW⟩ : ∃ W0, w.alloc (.cells #[.string nm, .slice a L.length cap] 30) = W0 := ⟨_, rfl⟩
  have E0 : Hid (Below w.heap.size w W0) := by show Below w.heap.size w W0; rw [← hW]; exact balloc0 _ _
  rw [hW] at d0 d1
  have K : Hid (∀ wx, Below W0.heap.size W0 wx → wx.cell? ⟨w.heap.size, 0, none⟩ = some (.string nm) ∧ wx.cell? ⟨w.heap.size, 1, none⟩ = some (.slice a L.length cap)) := fun wx hx =>
    ⟨(hx.cell (p := ⟨w.heap.size, 0, none⟩) (World.block_lt_of_cell? W0 _ d0)).trans d0, (hx.cell (p := ⟨w.heap.size, 1, none⟩) (World.block_lt_of_cell? W0 _ d1)).trans d1⟩
  have HW := Lib.hid hW
  have HA := Lib.hid (ha.later E0.out)
  have C := Lib.hid (checkBond_impl nm L a cap hl hs [] none 0 (by simp) til W0 HA.out (.inl rfl))
  rw [bCodeL_nil] at C
  simp only [List.length_nil] at C
  by_cases hc : bCode nm L 0 til = 0
  case neg =>
    obtain ⟨q, hq⟩ : ∃ q, bCode nm L 0 til = q := ⟨_, rfl⟩
    have hV : lapAV nm L til = 0 := by simp [lapAV, hc]
    have hC : lapAC nm L til = q := by simp only [lapAC, if_neg hc]; exact hq
    rw [hV, hC]
    rw [hq] at C hc
    clear hW hq ha d0 d1 hV hC
    go_enter Tryd.func11, Tryd.ntmps11
    go_wp2_with fail
    rw [HW.out]
    refine C.out.mono ?_
    rintro e w1 ⟨rfl, hb1⟩
    have B1 := Lib.hid (bnext E0.out hb1)
    clear hb1
    go_wp2_with fail
    go_ret2
    exact ⟨rfl, B1.out⟩
  obtain ⟨hok, _, u0, u1⟩ := bCode_facts hc
  obtain ⟨_, h1, h8, _⟩ := okBond_facts hok
  have hV : lapAV nm L til = lapN (allD L til.toNat L.length) := by simp [lapAV, hc]
  have hC : lapAC nm L til = lapE (allD L til.toNat L.length) := by simp [lapAC, hc]
  rw [hV, hC]
  obtain ⟨u, rfl⟩ := Int.eq_ofNat_of_zero_le (show 0 ≤ til by omega)
  simp only [Int.toNat_natCast]
  have P1 := Lib.hid (fun k (hk : k ≤ 8) wx (hx : Below W0.heap.size W0 wx) => distances_impl hok a cap k (k + 1) u (by omega) (by omega) (by omega) (by omega) wx (HA.out.later hx))
  have AL := Lib.hid (allD_length hok u (by omega) (by omega))
  have PL := Lib.hid (fun k => pairD_length hok k (k + 1) u (by omega) (by omega))
  have AP := Lib.hid (allD_pos L u)
  rw [hc] at C
  clear hW ha d0 d1 hc hV hC
  go_enter Tryd.func11, Tryd.ntmps11
  go_wp2_with fail
  rw [HW.out]
  refine C.out.mono ?_
  rintro e w1 ⟨rfl, hb1⟩
  have B1 := Lib.hid hb1
  clear hb1
  obtain ⟨c0, c1⟩ := K.out _ B1.out
  go_wp2
  clear c0 c1
  go_loopw [7, 18] (fun v i wr => ∃ (n : Nat) (ao : Option Addr) (cp : Nat) (D : List Int), n ≤ L.length ∧ v = .slice ao D.length cp ∧ i = .int .i64 (n : Int) ∧ Hid (D = allD L u n) ∧ Hid (wr.ownsRow w1.heap.size 2 1 (.slice ao D.length cp) D.length (intVals D)) ∧ Hid (Below w1.heap.size w1 wr)) (fun _ i _ => L.length - (intOf i).toNat)
  case atStart => exact ⟨0, none, 0, [], Nat.zero_le _, rfl, rfl, rfl, ⟨rfl, .inl ⟨rfl, rfl⟩⟩, Below.refl _ _⟩
  case round =>
    obtain ⟨n, ao, cp, D, hn, rfl, rfl, hD, hO, hB⟩ := hrel
    by_cases hlt : n < L.length
    · have hlt' : (n : Int) < (L.length : Int) := by omega
      have hn0 : (0 : Int) ≤ (n : Int) := by omega
      have hB0 := bnext B1.out hB.out
      obtain ⟨c0, c1⟩ := K.out _ hB0
      have DI := Lib.hid (P1.out n (by omega) wr hB0)
      have hcast : ((n + 1 : Nat) : Int) = (n : Int) + 1 := by omega
      rw [hcast] at DI
      have hE : Hid (D ++ pairD L n (n + 1) u = allD L u (n + 1)) := by show D ++ _ = _; rw [hD.out]; rfl
      have hDl : D.length ≤ 40000 * 8 := by have := AL.out n; rw [← hD.out] at this; omega
      have hEl := PL.out n
      obtain ⟨E, hEe⟩ : ∃ E, pairD L n (n + 1) u = E := ⟨_, rfl⟩
      rw [hEe] at DI hE hEl
      have c3 : Hid (D.length + E.length ≤ maxLen) := by show D.length + E.length ≤ maxLen; unfold maxLen; omega
      have hbase : w1.heap.size ≤ wr.heap.size := hB.out.size
      obtain ⟨i0, hi0, hz0, hz1, hz2⟩ := info_parts infoInt
      clear hEe hcast hB0
      go_wp2_with fail
      refine DI.out.mono ?_
      rintro e w2 ⟨a2, cp2, rfl, o2, hb2⟩
      have O2 := Lib.hid o2
      have B2 : Hid (Below w1.heap.size w1 w2) := hB.out.trans (hb2.mono hbase)
      have R2 := Lib.hid (own_later hO.out hb2)
      have hbase2 : w1.heap.size ≤ w2.heap.size := B2.out.size
      clear o2 hb2 c0 c1
      rcases O2.out.2 with ⟨hv2, h02⟩ | ⟨g2, cc2, cur2, hv2, hBg, hg2, _⟩
      · have hE0 : E = [] := List.eq_nil_of_length_eq_zero h02
        subst hE0
        cases hv2
        go_wp2_with (at_builtin; go_must ((refine wpList_append_own_none rfl _ _ 43 rfl w1.heap.size 2 i0 1 Tryd.underlying43 hi0 (.slice ao D.length cp) D.length (intVals D) rfl R2.out rfl ?_)))
        go_roundw
        case rel => exact ⟨n + 1, ao, cp, D, by omega, rfl, by go_num, by show D = _; rw [← hE.out]; simp, R2.out, B2.out⟩
        case measure => simp [intOf]; omega
      · cases hv2
        have hcells : ∀ j x, (intVals E)[j]? = some x → w2.cell? ((⟨g2, 0, none⟩ : Addr).add j) = some x := O2.out.cells rfl
        go_wp2_with (at_builtin; go_must ((refine wpList_append_own _ rfl _ _ 43 rfl w1.heap.size 2 i0 (.int .i64 0) 1 8 Tryd.underlying43 hi0 hz0 hz1 hz2 rfl (by decide) (.slice ao D.length cp) D.length (intVals D) rfl R2.out ⟨g2, 0, none⟩ E.length cp2 (intVals E) rfl (by simp [intVals]) hcells (intVals_one E) c3.out (by omega) hbase2 ?_; intro v4 w4 hown4 hgrow4 _; have O4 := Lib.hid hown4; have B4 : Hid (Below w1.heap.size w1 w4) := B2.out.grown hgrow4 hbase2 (fun q hq => (R2.out.lt q hq).1); clear hown4 hgrow4)))
        have hEn : D.length + E.length = (D ++ E).length := by simp
        have hIv : intVals D ++ intVals E = intVals (D ++ E) := by simp [intVals]
        have o4 := O4.out
        rw [hEn, hIv] at o4
        obtain ⟨a4, cp4, hv4, _⟩ := row_res (w := w1) o4
        subst hv4
        have O5 := Lib.hid o4
        go_roundw
        case rel => exact ⟨n + 1, a4, cp4, D ++ E, by omega, rfl, by go_num, hE.out, O5.out, B4.out⟩
        case measure => simp [intOf]; omega
    · have hge : ¬ (n : Int) < (L.length : Int) := by omega
      have hnn : n = L.length := by omega
      subst hnn
      have LE := Lib.hid (least_impl D (by rw [hD.out]; exact AP.out _) (by have := AL.out L.length; rw [← hD.out] at this; omega) ao cp wr (own_arg hO.out))
      rw [show lapN D = lapN (allD L u L.length) by rw [hD.out], show lapE D = lapE (allD L u L.length) by rw [hD.out]] at LE
      go_wp2_with fail
      refine LE.out.mono ?_
      rintro e w3 ⟨rfl, rfl⟩
      go_wp2_with fail
      go_ret2
      exact ⟨rfl, bnext E0.out (bnext B1.out hB.out)⟩
end Go.Proofs.YtplggghhhgmebaaDoor
