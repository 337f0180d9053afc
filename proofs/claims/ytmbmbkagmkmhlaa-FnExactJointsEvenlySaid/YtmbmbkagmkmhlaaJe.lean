/-
  Joints that are told evenly: the model's word and the program's.
-/
import Derived.Test.YtmbmbkagmkmhlaaGm
import Derived.Test.YtmbmbkagmkmhlaaIRow
import Derived.Test.YtmbmbkagmkmhlaaJeR
namespace Go.Proofs.Ytmbmbkagmkmhlaa
open Go.ChangeShapes Go.WideShapes Go.ChangeAt Go.RowKit Go.Joins

def jeV (t r : Int) (i : Nat) : Int := if (i : Int) < r then t + 1 else t
def jeL (t r : Int) (k : Nat) : List Int := (List.range k).map (jeV t r)
theorem jeL_length (t r : Int) (k : Nat) : (jeL t r k).length = k := by simp [jeL]
theorem jeL_succ (t r : Int) (k : Nat) : jeL t r (k + 1) = jeL t r k ++ [jeV t r k] := by simp [jeL, List.range_succ]
def joinsQ (l wd ht j H c : Int) : List Int := if bedC l wd ht j H c = 0 then jeL ((H - c * ht) / c) ((H - c * ht) % c) c.toNat else []
theorem joinsQ_len (l wd ht j H c : Int) : (joinsQ l wd ht j H c).length ≤ 1048576 := by
  unfold joinsQ
  split
  · rename_i h
    rcases bedC_cases l wd ht j H c with ⟨h1, hc'⟩ | ⟨h1, h2, hc'⟩ | ⟨h1, h2, h3, hc'⟩ | ⟨h1, h2, h3, hc'⟩
    · rw [hc'] at h; cases h
    · rw [hc'] at h; cases h
    · rw [hc'] at h; cases h
    · obtain ⟨-, c0, c1⟩ := gB_true.1 h2
      rw [jeL_length]
      omega
  · simp
theorem bed_ok {l wd ht j H c : Int} (hc : bedC l wd ht j H c = 0) : okB l wd ht j = true ∧ gB H c = true ∧ ¬ H < c * ht := by
  rcases bedC_cases l wd ht j H c with ⟨h1, hc'⟩ | ⟨h1, h2, hc'⟩ | ⟨h1, h2, h3, hc'⟩ | ⟨h1, h2, h3, hc'⟩
  · rw [hc'] at hc; cases hc
  · rw [hc'] at hc; cases hc
  · rw [hc'] at hc; cases hc
  · exact ⟨h1, h2, h3⟩
theorem quo_rem {q : Int} {n : Nat} (hq : 0 ≤ q) (hq1 : q ≤ 6000) (hn : 1 ≤ n) : 0 ≤ q / n ∧ q / n ≤ 6000 ∧ 0 ≤ q % n ∧ q % n < n :=
  ⟨Int.ediv_nonneg hq (by omega), Int.le_trans (Int.ediv_le_self _ hq) hq1, Int.emod_nonneg _ (by omega), Int.emod_lt_of_pos _ (by omega)⟩
set_option maxRecDepth 100000 in
set_option maxHeartbeats 12800000 in
theorem joins_spec (l wd ht j H c : Int) (w : World) : Calls Try.prog 29 #[.agg #[.int .i64 l, .int .i64 wd, .int .i64 ht, .int .i64 j], .int .i64 H, .int .i64 c] w fun e w' => ∃ ao cp, e = .returned (.tuple #[.slice ao (joinsQ l wd ht j H c).length cp, .int .i64 (bedC l wd ht j H c)]) ∧ IntRes w.heap.size (joinsQ l wd ht j H c) ao w' ∧ Below w.heap.size w w' := by
  have F0 := Lib.hid (FmBox.new w l wd ht j 35)
  by_cases hc : bedC l wd ht j H c = 0
  · obtain ⟨h1, h2, h3⟩ := bed_ok hc
    obtain ⟨m0, m1⟩ := cht_range h1 h2
    obtain ⟨⟨H0, H1⟩, c0, c1⟩ := gB_true.1 h2
    obtain ⟨n, rfl⟩ := Int.eq_ofNat_of_zero_le (show 0 ≤ c by omega)
    have hq : joinsQ l wd ht j H n = jeL ((H - n * ht) / n) ((H - n * ht) % n) n := by unfold joinsQ; rw [if_pos hc]; rfl
    obtain ⟨q, hqq⟩ : ∃ q, H - n * ht = q := ⟨_, rfl⟩
    have hq0 : 0 ≤ q ∧ q ≤ 6000 := by omega
    obtain ⟨t0, t1, r0, r1⟩ := quo_rem hq0.1 hq0.2 (show 1 ≤ n by omega)
    obtain ⟨q0, q1⟩ := hq0
    rw [hqq] at hq
    rw [hq, hc]
    have CC := Lib.hid (fun wx => bcode_spec l wd ht j H n wx)
    rw [hc] at CC
    have HQ := Lib.hid hqq
    obtain ⟨t, ht⟩ : ∃ t, q / n = t := ⟨_, rfl⟩
    obtain ⟨r, hr⟩ : ∃ r, q % n = r := ⟨_, rfl⟩
    have e1 : Hid (Int.tdiv q n = t) := by show _ = _; rw [Int.tdiv_eq_ediv_of_nonneg q0, ht]
    have e2 : Hid (Int.tmod q n = r) := by show _ = _; rw [Int.tmod_eq_emod_of_nonneg q0, hr]
    rw [ht, hr]
    rw [ht] at t0 t1
    rw [hr] at r0 r1
    have hn0 : ¬ (n : Int) = 0 := by omega
    have HT := Lib.hid ht
    have HR := Lib.hid hr
    clear hq hqq ht hr
    go_enter Try.func29, Try.ntmps29
    go_wp2_with fail
    refine (CC.out _).mono ?_
    rintro e w1 ⟨rfl, hb1⟩
    obtain ⟨f0, f1, f2, f3⟩ := (F0.out.later hb1).later (balloc0 w1 (.cells #[] 2))
    have B1 := Lib.hid (bnext (balloc0 w _) hb1)
    clear hb1
    go_wp2
    try rw [HQ.out]
    go_loopw [9, 11, 12] (fun v i u wr => ∃ (k : Nat) (ao : Option Addr) (cp : Nat) (D : List Int), k ≤ n ∧ v = .slice ao D.length cp ∧ i = .int .i64 (k : Int) ∧ Hid (D = jeL t r k) ∧ Hid (IRow w.heap.size D ao cp wr) ∧ Hid (Below w.heap.size w wr)) (fun _ i _ _ => n - (intOf i).toNat)
    case atStart => exact ⟨0, _, 0, [], Nat.zero_le _, rfl, rfl, rfl, (IRow.start w1).mono B1.out.size, balloc B1.out _⟩
    case round =>
      obtain ⟨k, ao, cp, D, hk, rfl, rfl, hD, hO, hB⟩ := hrel
      by_cases hlt : k < n
      · have hlt' : (k : Int) < (n : Int) := by omega
        have hk0 : (0 : Int) ≤ (k : Int) := by omega
        have HN : Hid (D ++ [jeV t r k] = jeL t r (k + 1)) := by show _ = _; rw [jeL_succ, hD.out]
        have hDk : D.length ≤ 40 := by rw [hD.out, jeL_length]; omega
        have c3 : Hid (D.length + 1 ≤ maxLen) := by show D.length + 1 ≤ maxLen; unfold maxLen; omega
        obtain ⟨i0, hi0, hz0, hz1, hz2⟩ := info_partsQ
        have hbase : w.heap.size ≤ wr.heap.size := hB.out.size
        have et := HT.out
        have er := HR.out
        have et2 := e1.out
        have er2 := e2.out
        by_cases hm : (k : Int) < r
        · have hv : jeV t r k = t + 1 := by simp [jeV, hm]
          rw [hv] at HN
          clear hv
          go_wp2_with (at_builtin; go_must ((refine wpList_append_own _ rfl _ _ 22 rfl w.heap.size 2 i0 (.int .i64 0) 1 8 Try.underlying22 hi0 hz0 hz1 hz2 rfl (by decide) (.slice ao D.length cp) D.length (intVals D) rfl (IRow.later hO.out (balloc0 _ _)) ⟨wr.heap.size, 0, none⟩ 1 1 [.int .i64 (t + 1)] rfl rfl ((lit8 w.heap.size wr _ hbase).cells rfl) (by simp [Value.oneCell']) c3.out (by omega) (by simp; omega) ?_; intro v4 w4 hown4 hgrow4 _; have B4 := Lib.hid ((hB.out.alloc hbase _).grown hgrow4 (by simp; omega) (fun q hq => (World.ownsRow.lt hO.out q hq).1)); obtain ⟨g4, cp4, hv4, o4⟩ := IRow.snoc hown4; subst hv4; have O4 := Lib.hid o4; clear hown4 hgrow4 o4)))
          go_roundw
          case rel => exact ⟨k + 1, some ⟨g4, 0, none⟩, cp4, D ++ [t + 1], by omega, by simp, by go_num, HN.out, O4.out, B4.out⟩
          case measure => simp [intOf]; omega
        · have hv : jeV t r k = t := by simp [jeV, hm]
          rw [hv] at HN
          clear hv
          go_wp2_with (at_builtin; go_must ((refine wpList_append_own _ rfl _ _ 22 rfl w.heap.size 2 i0 (.int .i64 0) 1 8 Try.underlying22 hi0 hz0 hz1 hz2 rfl (by decide) (.slice ao D.length cp) D.length (intVals D) rfl (IRow.later hO.out (balloc0 _ _)) ⟨wr.heap.size, 0, none⟩ 1 1 [.int .i64 t] rfl rfl ((lit8 w.heap.size wr _ hbase).cells rfl) (by simp [Value.oneCell']) c3.out (by omega) (by simp; omega) ?_; intro v4 w4 hown4 hgrow4 _; have B4 := Lib.hid ((hB.out.alloc hbase _).grown hgrow4 (by simp; omega) (fun q hq => (World.ownsRow.lt hO.out q hq).1)); obtain ⟨g4, cp4, hv4, o4⟩ := IRow.snoc hown4; subst hv4; have O4 := Lib.hid o4; clear hown4 hgrow4 o4)))
          go_roundw
          case rel => exact ⟨k + 1, some ⟨g4, 0, none⟩, cp4, D ++ [t], by omega, by simp, by go_num, HN.out, O4.out, B4.out⟩
          case measure => simp [intOf]; omega
      · have hge : ¬ (k : Int) < (n : Int) := by omega
        have hkn : k = n := by omega
        have HN : Hid (D = jeL t r n) := by show _ = _; rw [hD.out, hkn]
        clear hkn
        go_wp2
        go_ret2
        refine ⟨ao, ⟨cp, by rw [← HN.out]; rfl⟩, ?_, hB.out⟩
        rw [← HN.out]
        exact hO.out.res
  · obtain ⟨q, hq⟩ : ∃ q, bedC l wd ht j H c = q := ⟨_, rfl⟩
    have hn : joinsQ l wd ht j H c = [] := by unfold joinsQ; rw [if_neg hc]
    have CC := Lib.hid (fun wx => bcode_spec l wd ht j H c wx)
    rw [hn]
    rw [hq] at hc CC ⊢
    clear hn hq
    go_enter Try.func29, Try.ntmps29
    go_wp2_with fail
    refine (CC.out _).mono ?_
    rintro e w1 ⟨rfl, hb1⟩
    go_wp2
    go_ret2
    exact ⟨none, 0, rfl, .inl rfl, bnext (balloc0 _ _) hb1⟩
def jeAt (t : Int) (k j : Nat) : Int := if j < k then t + 1 else t
set_option maxRecDepth 100000 in
set_option maxHeartbeats 12800000 in
theorem joins_impl (l wd ht j H c : Int) (w : World) : Calls Try.prog 30 #[.agg #[.int .i64 l, .int .i64 wd, .int .i64 ht, .int .i64 j], .int .i64 H, .int .i64 c] w fun e w' => ∃ ao cp, e = .returned (.tuple #[.slice ao (joinsQ l wd ht j H c).length cp, .int .i64 (bedC l wd ht j H c)]) ∧ IntRes w.heap.size (joinsQ l wd ht j H c) ao w' ∧ Below w.heap.size w w' := by
  have F0 := (FmBox.new w l wd ht j 35).later (balloc0 _ (.cells #[.int .i64 H, .int .i64 c] 58))
  have T0 := TwBox.new (w.alloc (.cells #[.int .i64 l, .int .i64 wd, .int .i64 ht, .int .i64 j] 35)) H c 58
  rw [World.size_alloc] at T0
  have E0 := Lib.hid (balloc (balloc0 w (.cells #[.int .i64 l, .int .i64 wd, .int .i64 ht, .int .i64 j] 35)) (.cells #[.int .i64 H, .int .i64 c] 58))
  obtain ⟨W0, hW⟩ : ∃ W0, (w.alloc (.cells #[.int .i64 l, .int .i64 wd, .int .i64 ht, .int .i64 j] 35)).alloc (.cells #[.int .i64 H, .int .i64 c] 58) = W0 := ⟨_, rfl⟩
  rw [hW] at F0 T0 E0
  have K : Hid (∀ wx, Below W0.heap.size W0 wx → FmBox w.heap.size l wd ht j wx ∧ TwBox (w.heap.size + 1) H c wx) := fun wx hx => ⟨F0.later hx, T0.later hx⟩
  have E0 : Hid (Below w.heap.size w W0) := E0.out
  have HW := Lib.hid hW
  clear hW F0 T0
  obtain ⟨⟨f0, f1, f2, f3⟩, k0, k1⟩ := K.out _ (Below.refl _ _)
  by_cases hc : bedC l wd ht j H c = 0
  · obtain ⟨h1, h2, h3⟩ := bed_ok hc
    obtain ⟨m0, m1⟩ := cht_range h1 h2
    obtain ⟨⟨H0, H1⟩, c0, c1⟩ := gB_true.1 h2
    obtain ⟨n, rfl⟩ := Int.eq_ofNat_of_zero_le (show 0 ≤ c by omega)
    have hq : joinsQ l wd ht j H n = jeL ((H - n * ht) / n) ((H - n * ht) % n) n := by unfold joinsQ; rw [if_pos hc]; rfl
    have le := left_impl l wd ht j H n h1 h2
    obtain ⟨q, hqq⟩ : ∃ q, H - n * ht = q := ⟨_, rfl⟩
    have hq0 : 0 ≤ q ∧ q ≤ 6000 := by omega
    obtain ⟨t0, t1, r0, r1⟩ := quo_rem hq0.1 hq0.2 (show 1 ≤ n by omega)
    obtain ⟨q0, q1⟩ := hq0
    rw [hqq] at hq le
    rw [hq, hc]
    have LE := Lib.hid le
    have CC := Lib.hid (fun wx => bcode_impl l wd ht j H n wx)
    rw [hc] at CC
    obtain ⟨t, et⟩ : ∃ t, q / n = t := ⟨_, rfl⟩
    obtain ⟨r, er⟩ : ∃ r, q % n = r := ⟨_, rfl⟩
    rw [et] at t0 t1
    rw [er] at r0 r1
    obtain ⟨rn, rfl⟩ := Int.eq_ofNat_of_zero_le r0
    have et2 : Int.tdiv q n = t := by rw [Int.tdiv_eq_ediv_of_nonneg q0, et]
    have er2 : Int.tmod q n = rn := by rw [Int.tmod_eq_emod_of_nonneg q0, er]
    have etw : IntKind.i64.wrap (Int.tdiv q n) = t := by rw [et2]; exact IntWalk.i64_in _ (by omega)
    have ewt : IntKind.i64.wrap t = t := IntWalk.i64_in _ (by omega)
    rw [et, er]
    have hn0 : ¬ (n : Int) = 0 := by omega
    have hn00 : ¬ n = 0 := by omega
    have hrn : rn < n := by omega
    have RQ := Lib.hid (fun b wx => repeatQ_impl t n b (by omega) (by omega) wx)
    clear hq hqq le h1 h2 h3 m0 m1 hc
    go_enter Try.func30, Try.ntmps30
    go_wp2_with fail
    try rw [HW.out]
    try go_wp2_with fail
    refine (CC.out _).mono ?_
    rintro e w1 ⟨rfl, hb1⟩
    have B1 := Lib.hid hb1
    clear hb1 f0 f1 f2 f3 k0 k1
    go_wp2_with fail
    refine wp_region_held_drew (S := fun W => Below W0.heap.size W0 W) (by kernel_rfl) ?_ (fun hHeld => ?_)
    · exact B1.out.drew
    refine wpAnyH_take (i := 0) (v := .agg #[.int .i64 H, .int .i64 (n : Int)]) rfl (by kernel_rfl) (by kernel_rfl) (by kernel_rfl) (fun _ _ _ h => h) (Or.inl ⟨by kernel_rfl, ?_⟩) (by assumption) ?_
    · intro w hSw
      try dsimp only at hSw
      obtain ⟨⟨f0, f1, f2, f3⟩, k0, k1⟩ := K.out _ hSw
      go_simp
    try simp only [Act.put, List.setIfInBounds_toArray, List.set_cons_zero, List.set_cons_succ, List.getElem_toArray, List.getElem_cons_zero]
    refine wpAnyH_take (i := 1) (v := .agg #[.int .i64 l, .int .i64 wd, .int .i64 ht, .int .i64 j]) rfl (by kernel_rfl) (by kernel_rfl) (by kernel_rfl) (fun _ _ _ h => h) (Or.inl ⟨by kernel_rfl, ?_⟩) (by assumption) ?_
    · intro w hSw
      try dsimp only at hSw
      obtain ⟨⟨f0, f1, f2, f3⟩, k0, k1⟩ := K.out _ hSw
      go_simp
    try simp only [Act.put, List.setIfInBounds_toArray, List.set_cons_zero, List.set_cons_succ, List.getElem_toArray, List.getElem_cons_zero, List.getElem_cons_succ]
    refine wpAnyH_take (i := 3) (v := .int .i64 (n : Int)) rfl (by kernel_rfl) (by kernel_rfl) (by kernel_rfl) (fun _ _ _ h => h) (Or.inl ⟨by kernel_rfl, ?_⟩) (by assumption) ?_
    · intro w hSw
      try dsimp only at hSw
      skip
      go_simp
    try simp only [Act.put, List.setIfInBounds_toArray, List.set_cons_zero, List.set_cons_succ, List.getElem_toArray, List.getElem_cons_zero, List.getElem_cons_succ]
    refine wpAnyH_take (i := 5) (v := .agg #[.int .i64 H, .int .i64 (n : Int)]) rfl (by kernel_rfl) (by kernel_rfl) (by kernel_rfl) (fun _ _ _ h => h) (Or.inl ⟨by kernel_rfl, ?_⟩) (by assumption) ?_
    · intro w hSw
      try dsimp only at hSw
      obtain ⟨⟨f0, f1, f2, f3⟩, k0, k1⟩ := K.out _ hSw
      go_simp
    try simp only [Act.put, List.setIfInBounds_toArray, List.set_cons_zero, List.set_cons_succ, List.getElem_toArray, List.getElem_cons_zero, List.getElem_cons_succ]
    refine wpAnyH_take (i := 6) (v := .agg #[.int .i64 l, .int .i64 wd, .int .i64 ht, .int .i64 j]) rfl (by kernel_rfl) (by kernel_rfl) (by kernel_rfl) (fun _ _ _ h => h) (Or.inl ⟨by kernel_rfl, ?_⟩) (by assumption) ?_
    · intro w hSw
      try dsimp only at hSw
      obtain ⟨⟨f0, f1, f2, f3⟩, k0, k1⟩ := K.out _ hSw
      go_simp
    try simp only [Act.put, List.setIfInBounds_toArray, List.set_cons_zero, List.set_cons_succ, List.getElem_toArray, List.getElem_cons_zero, List.getElem_cons_succ]
    refine wpAnyH_take (i := 8) (v := .int .i64 (n : Int)) rfl (by kernel_rfl) (by kernel_rfl) (by kernel_rfl) (fun _ _ _ h => h) (Or.inl ⟨by kernel_rfl, ?_⟩) (by assumption) ?_
    · intro w hSw
      try dsimp only at hSw
      skip
      go_simp
    try simp only [Act.put, List.setIfInBounds_toArray, List.set_cons_zero, List.set_cons_succ, List.getElem_toArray, List.getElem_cons_zero, List.getElem_cons_succ]
    refine wpAnyH_ready (rs := [2]) (by kernel_rfl) (by simp) ?_
    refine AllReadyH.cons rfl (fun K hK => ?_) AllReadyH.nil
    go_simp
    go_at_call 57
    refine (LE.out _).mono ?_
    rintro e wL ⟨rfl, hbL⟩
    refine hK.out _ _ ?_ (fun hHeld' => ?_)
    · exact bnext hHeld hbL
    clear hK K hHeld
    have hHeld := hHeld'
    clear hHeld'
    clear hbL
    try simp only [Act.put, List.setIfInBounds_toArray, List.set_cons_zero, List.set_cons_succ, List.getElem_toArray, List.getElem_cons_zero, List.getElem_cons_succ]
    refine wpAnyH_take (i := 4) (v := .int .i64 t) rfl (by kernel_rfl) (by kernel_rfl) (by kernel_rfl) (fun _ _ _ h => h) (Or.inl ⟨by kernel_rfl, ?_⟩) (by assumption) ?_
    · intro w hSw
      try dsimp only at hSw
      skip
      go_simp
      all_goals first | omega | exact IntWalk.i64_in _ (by omega)
    try simp only [Act.put, List.setIfInBounds_toArray, List.set_cons_zero, List.set_cons_succ, List.getElem_toArray, List.getElem_cons_zero, List.getElem_cons_succ]
    refine wpAnyH_ready (rs := [7]) (by kernel_rfl) (by simp) ?_
    refine AllReadyH.cons rfl (fun K hK => ?_) AllReadyH.nil
    go_simp
    go_at_call 57
    refine (LE.out _).mono ?_
    rintro e wL ⟨rfl, hbL⟩
    refine hK.out _ _ ?_ (fun hHeld' => ?_)
    · exact bnext hHeld hbL
    clear hK K hHeld
    have hHeld := hHeld'
    clear hHeld'
    clear hbL
    try simp only [Act.put, List.setIfInBounds_toArray, List.set_cons_zero, List.set_cons_succ, List.getElem_toArray, List.getElem_cons_zero, List.getElem_cons_succ]
    refine wpAnyH_take (i := 9) (v := .int .i64 (rn : Int)) rfl (by kernel_rfl) (by kernel_rfl) (by kernel_rfl) (fun _ _ _ h => h) (Or.inl ⟨by kernel_rfl, ?_⟩) (by assumption) ?_
    · intro w hSw
      try dsimp only at hSw
      skip
      go_simp
      all_goals first | omega | exact IntWalk.i64_in _ (by omega)
    try simp only [Act.put, List.setIfInBounds_toArray, List.set_cons_zero, List.set_cons_succ, List.getElem_toArray, List.getElem_cons_zero, List.getElem_cons_succ]
    refine wpAnyH_take (i := 10) (v := .int .i64 t) rfl (by kernel_rfl) (by kernel_rfl) (by kernel_rfl) (fun _ _ _ h => h) (Or.inl ⟨by kernel_rfl, ?_⟩) (by assumption) ?_
    · intro w hSw
      try dsimp only at hSw
      skip
      go_simp
    try simp only [Act.put, List.setIfInBounds_toArray, List.set_cons_zero, List.set_cons_succ, List.getElem_toArray, List.getElem_cons_zero, List.getElem_cons_succ]
    refine wpAnyH_take (i := 11) (v := .int .i64 (rn : Int)) rfl (by kernel_rfl) (by kernel_rfl) (by kernel_rfl) (fun _ _ _ h => h) (Or.inl ⟨by kernel_rfl, ?_⟩) (by assumption) ?_
    · intro w hSw
      try dsimp only at hSw
      skip
      go_simp
    try simp only [Act.put, List.setIfInBounds_toArray, List.set_cons_zero, List.set_cons_succ, List.getElem_toArray, List.getElem_cons_zero, List.getElem_cons_succ]
    refine wpAnyH_done (by kernel_rfl) ?_ _
    clear et er et2 er2 etw ewt
    rename_i w5
    have B5 := Lib.hid hHeld
    clear hHeld
    go_wp2_with fail
    refine (RQ.out _ _ (by simp)).mono ?_
    rintro e w6 ⟨g, rfl, hO, hb6⟩
    have B6' := balloc (bnext E0.out B5.out) (.cells #[.int .i64 t] 2)
    have HG := Lib.hid (Nat.le_trans B6'.size hO.1)
    have B6 := Lib.hid (bnext B6' hb6)
    have HM : Hid (∀ j, j < n → w6.cell? ⟨g, j, none⟩ = some (.int .i64 t)) := fun j hj => by
      have h9 := hO.2.1 j t (by simp [hj])
      rw [Nat.zero_add] at h9
      exact h9
    have HT : Hid (w6.there g 0 n) := by
      have h9 := hO.2.2.1
      rw [List.length_replicate] at h9
      exact h9
    have HZ := Lib.hid hO.2.2.2
    clear B6' hO hb6
    go_wp2
    go_loopw [38] (fun i wr => ∃ (k : Nat), k ≤ rn ∧ i = .int .i64 (k : Int) ∧ Hid (∀ j, j < n → wr.cell? ⟨g, j, none⟩ = some (.int .i64 (jeAt t k j))) ∧ Hid (wr.there g 0 n) ∧ Hid (Below w.heap.size w wr) ∧ Hid (g < wr.heap.size)) (fun i _ => rn - (intOf i).toNat)
    case atStart => exact ⟨0, Nat.zero_le _, rfl, fun j hj => by rw [HM.out j hj]; simp [jeAt], HT.out, B6.out, HZ.out⟩
    case round =>
      obtain ⟨k, hk, rfl, hM, hT, hB, hZ⟩ := hrel
      by_cases hlt : k < rn
      · have hlt' : (k : Int) < (rn : Int) := by omega
        have hk0 : (0 : Int) ≤ (k : Int) := by omega
        have hkn : k < n := by omega
        have hkn' : (k : Int) < (n : Int) := by omega
        have c0 := hM.out k hkn
        have ek : jeAt t k k = t := by simp [jeAt]
        rw [ek] at c0
        obtain ⟨u, v0, v1⟩ := there_at hT.out hkn
        have IS := Lib.hid (int_store hT.out hkn (.int .i64 (t + 1)))
        have BS : Hid (Below w.heap.size w (wr.setCell ⟨g, k, none⟩ (.int .i64 (t + 1)))) := hB.out.setCell (p := ⟨g, k, none⟩) HG.out _
        clear ek
        go_wp2
        go_roundw
        case rel =>
          refine ⟨k + 1, by omega, by go_num, fun j hj => ?_, IS.out.1, BS.out, Lib.hid (by simpa [World.setCell] using hZ.out)⟩
          by_cases e : j = k
          · subst e
            have : jeAt t (j + 1) j = t + 1 := by simp [jeAt]
            rw [this]
            exact IS.out.2.1
          · rw [IS.out.2.2 _ (fun h => e (by cases h; rfl)), hM.out j hj]
            have : jeAt t (k + 1) j = jeAt t k j := by
              unfold jeAt
              by_cases h9 : j < k
              · rw [if_pos h9, if_pos (by omega)]
              · rw [if_neg h9, if_neg (by omega)]
            rw [this]
        case measure => simp [intOf]; omega
      · have hge : ¬ (k : Int) < (rn : Int) := by omega
        have hkn : k = rn := by omega
        subst hkn
        go_wp2
        go_ret2
        refine ⟨some ⟨g, 0, none⟩, ⟨n, by rw [jeL_length]; rfl⟩, .inr ⟨g, rfl, HG.out, fun j z hj => ?_, by rw [jeL_length]; exact hT.out, hZ.out⟩, hB.out⟩
        have hl := (List.getElem?_eq_some_iff.1 hj).1
        rw [jeL_length] at hl
        have e : z = jeAt t k j := by
          simp [jeL, jeV, hl] at hj
          rw [← hj]
          simp [jeAt]
        rw [Nat.zero_add, e]
        exact hM.out j hl
  · obtain ⟨q, hq⟩ : ∃ q, bedC l wd ht j H c = q := ⟨_, rfl⟩
    have hn : joinsQ l wd ht j H c = [] := by unfold joinsQ; rw [if_neg hc]
    have CC := Lib.hid (fun wx => bcode_impl l wd ht j H c wx)
    rw [hn]
    rw [hq] at hc CC ⊢
    clear hn hq
    go_enter Try.func30, Try.ntmps30
    go_wp2_with fail
    try rw [HW.out]
    try go_wp2_with fail
    refine (CC.out _).mono ?_
    rintro e w1 ⟨rfl, hb1⟩
    have B1 := Lib.hid hb1
    clear hb1 f0 f1 f2 f3 k0 k1
    go_wp2
    go_ret2
    exact ⟨none, 0, rfl, .inl rfl, bnext E0.out B1.out⟩
end Go.Proofs.Ytmbmbkagmkmhlaa
