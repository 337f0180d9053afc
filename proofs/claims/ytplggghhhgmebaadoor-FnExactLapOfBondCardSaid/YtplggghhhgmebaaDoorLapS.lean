/-
  LapBetween and LapOfBond: the model's answers.
-/
import Derived.Test.YtplggghhhgmebaaDoorLapJ
namespace Go.Proofs.YtplggghhhgmebaaDoor
open Go.ChangeShapes Go.WideShapes Go.ChangeAt Go.RowKit Go.Joins

set_option maxRecDepth 100000 in
set_option maxHeartbeats 3200000 in
theorem lapBetween_spec (nm : ByteArray) (L : List Co) (a : Option Addr) (cap : Nat) (hl : L.length ≤ 1048576) (hs : CosLe 1048576 L) (low high til : Int) (w : World) (ha : CoArg w a L) :
    Calls Tryd.prog 6 #[.agg #[.string nm, .slice a L.length cap], .int .i64 low, .int .i64 high, .int .i64 til] w fun e w' => e = .returned (.tuple #[.int .i64 (lapV nm L low high til), .int .i64 (lapC nm L low high til)]) ∧ Below w.heap.size w w' := by
  have hbd := bd_new w nm L a cap 30 ha
  obtain ⟨W0, hW⟩ : ∃ W0, w.alloc (.cells #[.string nm, .slice a L.length cap] 30) = W0 := ⟨_, rfl⟩
  have E0 : Hid (Below w.heap.size w W0) := by show Below w.heap.size w W0; rw [← hW]; exact balloc0 _ _
  rw [hW] at hbd
  have HW := Lib.hid hW
  have C1 := Lib.hid (code_spec nm L a cap hl hs w.heap.size low til W0 hbd)
  have C2 := Lib.hid (fun wx (hx : Below W0.heap.size W0 wx) => code_spec nm L a cap hl hs w.heap.size high til wx (hbd.later hx))
  by_cases hc1 : bCode nm L low til = 0
  case neg =>
    obtain ⟨q, hq⟩ : ∃ q, bCode nm L low til = q := ⟨_, rfl⟩
    have h2 : bCode2 nm L low high til = q := by simp only [bCode2, if_neg hc1]; exact hq
    rw [hq] at hc1 C1
    have hV : lapV nm L low high til = 0 := by simp only [lapV, h2, if_neg hc1]
    have hC : lapC nm L low high til = q := by simp only [lapC, h2, if_neg hc1]
    rw [hV, hC]
    clear hW hbd ha hV hC h2 hq
    go_enter Tryd.func6, Tryd.ntmps6
    go_wp2_with fail
    rw [HW.out]
    refine C1.out.mono ?_
    rintro e w1 ⟨rfl, hb1⟩
    have B1 := Lib.hid (bnext E0.out hb1)
    clear hb1
    go_wp2_with fail
    go_ret2
    exact ⟨rfl, B1.out⟩
  have h2 : bCode2 nm L low high til = bCode nm L high til := by simp only [bCode2, if_pos hc1]
  have hcc1 := hc1
  rw [hc1] at C1
  by_cases hc2 : bCode nm L high til = 0
  case neg =>
    obtain ⟨q, hq⟩ : ∃ q, bCode nm L high til = q := ⟨_, rfl⟩
    rw [hq] at hc2 C2 h2
    have hV : lapV nm L low high til = 0 := by simp only [lapV, h2, if_neg hc2]
    have hC : lapC nm L low high til = q := by simp only [lapC, h2, if_neg hc2]
    rw [hV, hC]
    clear hW hbd ha hV hC h2 hq hc1 hcc1
    go_enter Tryd.func6, Tryd.ntmps6
    go_wp2_with fail
    rw [HW.out]
    refine C1.out.mono ?_
    rintro e w1 ⟨rfl, hb1⟩
    have B1 := Lib.hid hb1
    clear hb1
    go_wp2_with fail
    refine (C2.out _ B1.out).mono ?_
    rintro e w2 ⟨rfl, hb2⟩
    have B2 := Lib.hid (bnext B1.out hb2)
    clear hb2
    go_wp2_with fail
    go_ret2
    exact ⟨rfl, bnext E0.out B2.out⟩
  obtain ⟨hok, ⟨k0, k1⟩, u0, u1⟩ := bCode_facts hc1
  obtain ⟨_, ⟨j0, j1⟩, _, _⟩ := bCode_facts hc2
  rw [hc2] at C2 h2
  have hV : lapV nm L low high til = lapN (pairD L low.toNat high.toNat til.toNat) := by simp [lapV, h2]
  have hC : lapC nm L low high til = lapE (pairD L low.toNat high.toNat til.toNat) := by simp [lapC, h2]
  rw [hV, hC]
  obtain ⟨k, rfl⟩ := Int.eq_ofNat_of_zero_le k0
  obtain ⟨j, rfl⟩ := Int.eq_ofNat_of_zero_le j0
  obtain ⟨u, rfl⟩ := Int.eq_ofNat_of_zero_le (show 0 ≤ til by omega)
  simp only [Int.toNat_natCast]
  have P1 := Lib.hid (fun wx (hx : Below W0.heap.size W0 wx) => between_spec hok a cap w.heap.size k j u (by omega) (by omega) (by omega) (by omega) wx (hbd.later hx))
  obtain ⟨D, hD⟩ : ∃ D, pairD L k j u = D := ⟨_, rfl⟩
  rw [hD] at P1 ⊢
  have HN : Hid (lapN D = if lapOf D < 0 then 0 else lapOf D) := rfl
  have HE : Hid (lapE D = if lapOf D < 0 then 3 else 0) := rfl
  obtain ⟨V, hVv⟩ : ∃ V, lapOf D = V := ⟨_, rfl⟩
  rw [hVv] at P1 HN HE
  clear hW hbd ha hV hC h2 hc1 hc2 hcc1 hD hVv
  go_enter Tryd.func6, Tryd.ntmps6
  go_wp2_with fail
  rw [HW.out]
  refine C1.out.mono ?_
  rintro e w1 ⟨rfl, hb1⟩
  have B1 := Lib.hid hb1
  clear hb1
  go_wp2_with fail
  refine (C2.out _ B1.out).mono ?_
  rintro e w2 ⟨rfl, hb2⟩
  have B2 := Lib.hid (bnext B1.out hb2)
  clear hb2
  go_wp2_with fail
  refine (P1.out _ B2.out).mono ?_
  rintro e w3 ⟨rfl, hb3⟩
  have B3 := Lib.hid (bnext B2.out hb3)
  clear hb3
  by_cases hneg : V < 0
  · go_wp2_with fail
    go_ret2
    exact ⟨by rw [HN.out, HE.out, if_pos hneg, if_pos hneg]; rfl, bnext E0.out B3.out⟩
  · go_wp2_with fail
    go_ret2
    exact ⟨by rw [HN.out, HE.out, if_neg (by omega), if_neg (by omega)]; rfl, bnext E0.out B3.out⟩

set_option maxRecDepth 100000 in
set_option maxHeartbeats 3200000 in
theorem lapOfBond_spec (nm : ByteArray) (L : List Co) (a : Option Addr) (cap : Nat) (hl : L.length ≤ 1048576) (hs : CosLe 1048576 L) (til : Int) (w : World) (ha : CoArg w a L) :
    Calls Tryd.prog 10 #[.agg #[.string nm, .slice a L.length cap], .int .i64 til] w fun e w' => e = .returned (.tuple #[.int .i64 (lapAV nm L til), .int .i64 (lapAC nm L til)]) ∧ Below w.heap.size w w' := by
  have hbd := bd_new w nm L a cap 30 ha
  obtain ⟨W0, hW⟩ : ∃ W0, w.alloc (.cells #[.string nm, .slice a L.length cap] 30) = W0 := ⟨_, rfl⟩
  have E0 : Hid (Below w.heap.size w W0) := by show Below w.heap.size w W0; rw [← hW]; exact balloc0 _ _
  rw [hW] at hbd
  have HW := Lib.hid hW
  have C1 := Lib.hid (code_spec nm L a cap hl hs w.heap.size 0 til W0 hbd)
  by_cases hc : bCode nm L 0 til = 0
  case neg =>
    obtain ⟨q, hq⟩ : ∃ q, bCode nm L 0 til = q := ⟨_, rfl⟩
    have hV : lapAV nm L til = 0 := by simp [lapAV, hc]
    have hC : lapAC nm L til = q := by simp only [lapAC, if_neg hc]; exact hq
    rw [hV, hC]
    rw [hq] at C1 hc
    clear hW hbd ha hq hV hC
    go_enter Tryd.func10, Tryd.ntmps10
    go_wp2_with fail
    rw [HW.out]
    refine C1.out.mono ?_
    rintro e w1 ⟨rfl, hb1⟩
    have B1 := Lib.hid (bnext E0.out hb1)
    clear hb1
    go_wp2_with fail
    go_ret2
    exact ⟨rfl, B1.out⟩
  obtain ⟨hok, _, u0, u1⟩ := bCode_facts hc
  obtain ⟨_, h1, h8, _⟩ := okBond_facts hok
  have hV : lapAV nm L til = lapN (allD L til.toNat L.length) := by simp [lapAV, hc]
  have hC : lapAC nm L til = lapE (allD L til.toNat L.length) := by simp [lapAC, hc]
  rw [hV, hC]
  obtain ⟨u, rfl⟩ := Int.eq_ofNat_of_zero_le (show 0 ≤ til by omega)
  simp only [Int.toNat_natCast]
  have P1 := Lib.hid (fun k (hk : k ≤ 8) wx (hx : Below W0.heap.size W0 wx) => between_spec hok a cap w.heap.size k (k + 1) u (by omega) (by omega) (by omega) (by omega) wx (hbd.later hx))
  have K := Lib.hid (fun wx (hx : Below W0.heap.size W0 wx) => hbd.later hx)
  have HN : Hid (lapN (allD L u L.length) = if lapOf (allD L u L.length) < 0 then 0 else lapOf (allD L u L.length)) := rfl
  have HE : Hid (lapE (allD L u L.length) = if lapOf (allD L u L.length) < 0 then 3 else 0) := rfl
  have HAp : Hid (∀ k, lapOf (allD L u (k + 1)) = if lapOf (pairD L k (k + 1) u) < 0 then lapOf (allD L u k) else minStep (lapOf (allD L u k)) (lapOf (pairD L k (k + 1) u))) := fun k => lapOf_append (allD_pos L u k) (pairD_pos L k (k + 1) u)
  rw [hc] at C1
  clear hW hbd ha hc hV hC
  go_enter Tryd.func10, Tryd.ntmps10
  go_wp2_with fail
  rw [HW.out]
  refine C1.out.mono ?_
  rintro e w1 ⟨rfl, hb1⟩
  have B1 := Lib.hid hb1
  clear hb1
  go_wp2
  go_loopw [7, 8] (fun b i wr => ∃ (n : Nat) (r : Int), n ≤ L.length ∧ b = .int .i64 r ∧ i = .int .i64 (n : Int) ∧ Hid (r = lapOf (allD L u n)) ∧ Hid (Below W0.heap.size W0 wr)) (fun _ i _ => L.length - (intOf i).toNat)
  case atStart => exact ⟨0, -1, Nat.zero_le _, rfl, rfl, rfl, B1.out⟩
  case round =>
    obtain ⟨n, r, hn, rfl, rfl, hR, hB⟩ := hrel
    obtain ⟨c0, c1, _⟩ := K.out _ hB.out
    by_cases hlt : n < L.length
    · have hlt' : (n : Int) < (L.length : Int) := by omega
      have hn0 : (0 : Int) ≤ (n : Int) := by omega
      have DI := Lib.hid (P1.out n (by omega) wr hB.out)
      have hcast : ((n + 1 : Nat) : Int) = (n : Int) + 1 := by omega
      rw [hcast] at DI
      have HA := Lib.hid (HAp.out n)
      rw [← hR.out] at HA
      obtain ⟨V, hV⟩ : ∃ V, lapOf (pairD L n (n + 1) u) = V := ⟨_, rfl⟩
      rw [hV] at DI HA
      clear hV hcast
      go_wp2_with fail
      refine DI.out.mono ?_
      rintro e w2 ⟨rfl, hb2⟩
      have B2 := Lib.hid (bnext hB.out hb2)
      clear hb2 c0 c1
      by_cases hv : V < 0
      · have hv' : ¬ 0 ≤ V := by omega
        go_wp2
        go_roundw
        case rel => exact ⟨n + 1, r, by omega, rfl, by go_num, by show r = lapOf (allD L u (n + 1)); rw [HA.out, if_pos hv], B2.out⟩
        case measure => simp [intOf]; omega
      · have hv' : 0 ≤ V := by omega
        by_cases hr : r < 0
        · have hM : Hid (minStep r V = V) := by show minStep r V = V; simp [minStep, hr]
          go_wp2
          go_roundw
          case rel => exact ⟨n + 1, V, by omega, rfl, by go_num, by show V = lapOf (allD L u (n + 1)); rw [HA.out, if_neg (by omega), hM.out], B2.out⟩
          case measure => simp [intOf]; omega
        · by_cases hvr : V < r
          · have hM : Hid (minStep r V = V) := by show minStep r V = V; simp [minStep, hvr]
            go_wp2
            go_roundw
            case rel => exact ⟨n + 1, V, by omega, rfl, by go_num, by show V = lapOf (allD L u (n + 1)); rw [HA.out, if_neg (by omega), hM.out], B2.out⟩
            case measure => simp [intOf]; omega
          · have hM : Hid (minStep r V = r) := by show minStep r V = r; simp [minStep, hvr, hr]
            go_wp2
            go_roundw
            case rel => exact ⟨n + 1, r, by omega, rfl, by go_num, by show r = lapOf (allD L u (n + 1)); rw [HA.out, if_neg (by omega), hM.out], B2.out⟩
            case measure => simp [intOf]; omega
    · have hge : ¬ (n : Int) < (L.length : Int) := by omega
      have hnn : n = L.length := by omega
      subst hnn
      rw [← hR.out] at HN HE
      by_cases hr : r < 0
      · go_wp2
        go_ret2
        exact ⟨by rw [HN.out, HE.out, if_pos hr, if_pos hr]; rfl, bnext E0.out hB.out⟩
      · go_wp2
        go_ret2
        exact ⟨by rw [HN.out, HE.out, if_neg (by omega), if_neg (by omega)]; rfl, bnext E0.out hB.out⟩
end Go.Proofs.YtplggghhhgmebaaDoor
