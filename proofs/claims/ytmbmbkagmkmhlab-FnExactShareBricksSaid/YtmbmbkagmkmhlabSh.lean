/-
  Bricks shared among walls: the model's word and the program's.
-/
import Derived.Test.YtmbmbkagmkmhlabQc
import Derived.Test.YtmbmbkagmkmhlabGt
import Derived.Deep.RegionWith
import Derived.Deep.RegionHeld3
namespace Go.Proofs.Ytmbmbkagmkmhlab
open Go.ChangeShapes Go.WideShapes Go.ChangeAt Go.RowKit Go.Joins

def shAt (N A : Int) (D : List Int) (k : Nat) : Int := N * (D.take k).sum / A
def shTo (N A : Int) (D : List Int) (k : Nat) : List Int := (List.range k).map fun (i : Nat) => shAt N A D (i + 1) - shAt N A D i
theorem shTo_length (N A : Int) (D : List Int) (k : Nat) : (shTo N A D k).length = k := by simp [shTo]
theorem shTo_succ (N A : Int) (D : List Int) (k : Nat) : shTo N A D (k + 1) = shTo N A D k ++ [shAt N A D (k + 1) - shAt N A D k] := by simp [shTo, List.range_succ]
theorem sum_nonneg {D : List Int} (h : ∀ z ∈ D, 0 ≤ z ∧ z ≤ 4000001) : 0 ≤ D.sum ∧ D.sum ≤ 4000001 * (D.length : Int) := by
  induction D with
  | nil => simp
  | cons x r ih =>
    have a := h x (by simp)
    have b := ih (fun z hz => h z (by simp [hz]))
    simp only [List.sum_cons, List.length_cons]
    omega
theorem shAt_range {N A : Int} {D : List Int} {k : Nat} (hN : 0 ≤ N ∧ N ≤ 1000000) (hA : 1 ≤ A) (h : ∀ z ∈ D, 0 ≤ z ∧ z ≤ 4000001) (hl : D.length ≤ 20) : (0 ≤ (D.take k).sum ∧ (D.take k).sum ≤ 80000020) ∧ (0 ≤ N * (D.take k).sum ∧ N * (D.take k).sum ≤ 80000020000000) ∧ 0 ≤ shAt N A D k ∧ shAt N A D k ≤ 80000020000000 := by
  have s := sum_nonneg (D := D.take k) (fun z hz => h z (List.mem_of_mem_take hz))
  have hl2 : (D.take k).length ≤ 20 := by rw [List.length_take]; omega
  have s0 : 0 ≤ (D.take k).sum := s.1
  have s1 : (D.take k).sum ≤ 80000020 := by omega
  have m0 : 0 ≤ N * (D.take k).sum := Int.mul_nonneg hN.1 s0
  have m1 : N * (D.take k).sum ≤ 1000000 * 80000020 := Int.mul_le_mul hN.2 s1 s0 (by omega)
  exact ⟨⟨s0, s1⟩, ⟨m0, by omega⟩, Int.ediv_nonneg m0 (by omega), Int.le_trans (Int.ediv_le_self _ m0) (by omega)⟩
def shC (l wd ht j : Int) (L : List Pc) (N : Int) : Int := if allB l wd ht j L = true then (if inB N 0 1000000 = true then (if L.length = 0 then 3 else 0) else 2) else 1
def shL (l wd ht j : Int) (L : List Pc) (N : Int) : List Int := if shC l wd ht j L N = 0 then shTo N (brL l ht j L).sum (brL l ht j L) L.length else []
theorem shC_cases (l wd ht j : Int) (L : List Pc) (N : Int) : (okB l wd ht j = false ∧ shC l wd ht j L N = 1) ∨ (okB l wd ht j = true ∧ pcsB L = false ∧ shC l wd ht j L N = 1) ∨ (okB l wd ht j = true ∧ pcsB L = true ∧ inB N 0 1000000 = false ∧ shC l wd ht j L N = 2) ∨ (okB l wd ht j = true ∧ pcsB L = true ∧ inB N 0 1000000 = true ∧ L.length = 0 ∧ shC l wd ht j L N = 3) ∨ (okB l wd ht j = true ∧ pcsB L = true ∧ inB N 0 1000000 = true ∧ ¬ L.length = 0 ∧ shC l wd ht j L N = 0) := by
  cases h1 : okB l wd ht j
  · exact .inl ⟨rfl, by simp [shC, allB, h1]⟩
  · cases h2 : pcsB L
    · exact .inr (.inl ⟨rfl, rfl, by simp [shC, allB, h2]⟩)
    · cases h3 : inB N 0 1000000
      · exact .inr (.inr (.inl ⟨rfl, rfl, rfl, by simp [shC, allB, h1, h2, h3]⟩))
      · by_cases h4 : L.length = 0
        · exact .inr (.inr (.inr (.inl ⟨rfl, rfl, rfl, h4, by simp only [shC, allB, h1, h2, h3, Bool.and_self, if_true]; rw [if_pos h4]⟩)))
        · exact .inr (.inr (.inr (.inr ⟨rfl, rfl, rfl, h4, by simp only [shC, allB, h1, h2, h3, Bool.and_self, if_true]; rw [if_neg h4]⟩)))
theorem shL_len (l wd ht j : Int) (L : List Pc) (N : Int) : (shL l wd ht j L N).length ≤ 1048576 := by
  rcases shC_cases l wd ht j L N with ⟨_, h⟩ | ⟨_, _, h⟩ | ⟨_, _, _, h⟩ | ⟨_, _, _, _, h⟩ | ⟨_, h2, _, _, h⟩
  · simp [shL, h]
  · simp [shL, h]
  · simp [shL, h]
  · simp [shL, h]
  · have := pcsB_len h2
    unfold shL
    rw [if_pos h, shTo_length]
    omega
theorem brL_pos {l wd ht j : Int} {L : List Pc} (hf : okB l wd ht j = true) (hL : pcsB L = true) (h0 : ¬ L.length = 0) : 1 ≤ (brL l ht j L).sum := by
  cases L with
  | nil => simp at h0
  | cons p r =>
    have a := brQ_range hf (pcsB_all hL 0 p rfl)
    have b := sum_nonneg (D := brL l ht j r) (fun z hz => brL_mem hf hL z (by simp only [brL, List.map_cons, List.mem_cons]; exact .inr hz))
    simp only [brL, List.map_cons, List.sum_cons] at b ⊢
    omega
set_option maxRecDepth 100000 in
set_option maxHeartbeats 12800000 in
theorem share_spec (l wd ht j : Int) (L : List Pc) (N : Int) (a : Option Addr) (cap : Nat) (hl : L.length ≤ 1048576) (w : World) (ha : PcArg w a L) :
    Calls Try.prog 35 #[.agg #[.int .i64 l, .int .i64 wd, .int .i64 ht, .int .i64 j], .slice a L.length cap, .int .i64 N] w fun e w' => ∃ ao cp, e = .returned (.tuple #[.slice ao (shL l wd ht j L N).length cp, .int .i64 (shC l wd ht j L N)]) ∧ IntRes w.heap.size (shL l wd ht j L N) ao w' ∧ Below w.heap.size w w' := by
  have F0 := FmBox.new w l wd ht j 35
  have HA := Lib.hid (ha.later (balloc0 w (.cells #[.int .i64 l, .int .i64 wd, .int .i64 ht, .int .i64 j] 35)))
  have E0 := Lib.hid (balloc0 w (.cells #[.int .i64 l, .int .i64 wd, .int .i64 ht, .int .i64 j] 35))
  obtain ⟨W0, hW⟩ : ∃ W0, w.alloc (.cells #[.int .i64 l, .int .i64 wd, .int .i64 ht, .int .i64 j] 35) = W0 := ⟨_, rfl⟩
  rw [hW] at F0 HA E0
  have K : Hid (∀ wx, Below W0.heap.size W0 wx → FmBox w.heap.size l wd ht j wx) := fun wx hx => F0.later hx
  have E0 : Hid (Below w.heap.size w W0) := E0.out
  have HW := Lib.hid hW
  clear ha hW F0
  obtain ⟨f0, f1, f2, f3⟩ := K.out _ (Below.refl _ _)
  rcases shC_cases l wd ht j L N with ⟨h1, hc⟩ | ⟨h1, h2, hc⟩ | ⟨h1, h2, h3, hc⟩ | ⟨h1, h2, h3, h4, hc⟩ | ⟨h1, h2, h3, h4, hc⟩
  · skip
    have hq : shL l wd ht j L N = [] := by simp [shL, hc]
    rw [hc, hq]
    clear hq
    go_enter Try.func35, Try.ntmps35
    go_wp2_with fail
    try rw [HW.out]
    try go_wp2_with fail
    refine (l02ok l wd ht j _).mono ?_
    rintro e w1 ⟨rfl, hb1⟩
    have B1 := Lib.hid hb1
    clear hb1 f0 f1 f2 f3
    go_wp2
    go_ret2
    exact ⟨none, 0, rfl, .inl rfl, bnext E0.out B1.out⟩
  · skip
    have hq : shL l wd ht j L N = [] := by simp [shL, hc]
    rw [hc, hq]
    clear hq
    go_enter Try.func35, Try.ntmps35
    go_wp2_with fail
    try rw [HW.out]
    try go_wp2_with fail
    refine (l02ok l wd ht j _).mono ?_
    rintro e w1 ⟨rfl, hb1⟩
    have B1 := Lib.hid hb1
    clear hb1 f0 f1 f2 f3
    go_wp2_with fail
    refine (validPcs_spec' L a cap hl _ (HA.out.later B1.out)).mono ?_
    rintro e w2 ⟨rfl, hb2⟩
    have B2 := Lib.hid (bnext B1.out hb2)
    clear hb2
    go_wp2
    go_ret2
    exact ⟨none, 0, rfl, .inl rfl, bnext E0.out B2.out⟩
  · skip
    have hq : shL l wd ht j L N = [] := by simp [shL, hc]
    rw [hc, hq]
    clear hq
    go_enter Try.func35, Try.ntmps35
    go_wp2_with fail
    try rw [HW.out]
    try go_wp2_with fail
    refine (l02ok l wd ht j _).mono ?_
    rintro e w1 ⟨rfl, hb1⟩
    have B1 := Lib.hid hb1
    clear hb1 f0 f1 f2 f3
    go_wp2_with fail
    refine (validPcs_spec' L a cap hl _ (HA.out.later B1.out)).mono ?_
    rintro e w2 ⟨rfl, hb2⟩
    have B2 := Lib.hid (bnext B1.out hb2)
    clear hb2
    go_wp2_with (go_at_call 54; refine (many_spec _ _).mono ?_; rintro e w' ⟨rfl, rfl⟩)
    go_ret2
    exact ⟨none, 0, rfl, .inl rfl, bnext E0.out B2.out⟩
  · skip
    have hq : shL l wd ht j L N = [] := by simp [shL, hc]
    rw [hc, hq]
    clear hq
    have h4' : (L.length : Int) = 0 := by omega
    have H4 := Lib.hid h4
    clear h4
    go_enter Try.func35, Try.ntmps35
    go_wp2_with fail
    try rw [HW.out]
    try go_wp2_with fail
    refine (l02ok l wd ht j _).mono ?_
    rintro e w1 ⟨rfl, hb1⟩
    have B1 := Lib.hid hb1
    clear hb1 f0 f1 f2 f3
    go_wp2_with fail
    refine (validPcs_spec' L a cap hl _ (HA.out.later B1.out)).mono ?_
    rintro e w2 ⟨rfl, hb2⟩
    have B2 := Lib.hid (bnext B1.out hb2)
    clear hb2
    go_wp2_with (go_at_call 54; refine (many_spec _ _).mono ?_; rintro e w' ⟨rfl, rfl⟩)
    go_ret2
    exact ⟨none, 0, rfl, .inl rfl, bnext E0.out B2.out⟩
  · have hq : shL l wd ht j L N = shTo N (brL l ht j L).sum (brL l ht j L) L.length := by unfold shL; rw [if_pos hc]
    rw [hc, hq]
    clear hq hc
    have h4' : ¬ (L.length : Int) = 0 := by omega
    have h20 := pcsB_len h2
    have HF := Lib.hid h1
    have HL := Lib.hid (pcsB_all h2)
    have HB := Lib.hid (brL_mem h1 h2)
    have hAp := brL_pos h1 h2 h4
    have hN := inB_true.1 h3
    have hDl := brL_length l ht j L
    have H2 := Lib.hid h2
    have HS := Lib.hid (fun k => shAt_range (k := k) (A := (brL l ht j L).sum) hN hAp HB.out (by omega))
    have hAu := (sum_nonneg HB.out).2
    rw [hDl] at hAu
    have HTK : Hid (∀ k, (brL l ht j L).take k = brL l ht j (L.take k)) := fun k => by simp [brL, List.map_take]
    obtain ⟨A, hA⟩ : ∃ A, (brL l ht j L).sum = A := ⟨_, rfl⟩
    rw [hA] at hAp HS hAu ⊢
    have HAe := Lib.hid hA
    obtain ⟨hN0, hN1⟩ := hN
    have hAz : ¬ A = 0 := by omega
    have h4z : (0 : Int) < (L.length : Int) := by omega
    have HDl := Lib.hid hDl
    clear h4 hDl hA
    go_enter Try.func35, Try.ntmps35
    go_wp2_with fail
    try rw [HW.out]
    try go_wp2_with fail
    refine (l02ok l wd ht j _).mono ?_
    rintro e w1 ⟨rfl, hb1⟩
    have B1 := Lib.hid hb1
    clear hb1 f0 f1 f2 f3
    go_wp2_with fail
    refine (validPcs_spec' L a cap hl _ (HA.out.later B1.out)).mono ?_
    rintro e w2 ⟨rfl, hb2⟩
    have B2 := Lib.hid (bnext B1.out hb2)
    clear hb2
    obtain ⟨f0, f1, f2, f3⟩ := K.out _ B2.out
    have AS := Lib.hid (fun wx (hx : Below W0.heap.size W0 wx) => all_spec l wd ht j HF.out L H2.out a cap wx (HA.out.later hx))
    rw [HAe.out] at AS
    go_wp2_with (go_at_call 54; refine (many_spec _ _).mono ?_; rintro e w' ⟨rfl, rfl⟩)
    refine (AS.out _ B2.out).mono ?_
    rintro e w3 ⟨rfl, hb3⟩
    have B3 := Lib.hid (bnext B2.out hb3)
    clear hb3 f0 f1 f2 f3
    go_wp2
    have R3 := Lib.hid ((IRow.start w3).mono B3.out.size)
    have B4 := Lib.hid (balloc B3.out (.cells #[] 2))
    go_loopw [9, 10, 11, 12] (fun v d s i wr => ∃ (k : Nat) (ao : Option Addr) (cp : Nat) (D : List Int) (P T : Int), k ≤ L.length ∧ v = .slice ao D.length cp ∧ d = .int .i64 P ∧ s = .int .i64 T ∧ i = .int .i64 (k : Int) ∧ (0 ≤ T ∧ T ≤ 80000020) ∧ (0 ≤ P ∧ P ≤ 80000020000000) ∧ Hid (T = ((brL l ht j L).take k).sum) ∧ Hid (P = shAt N A (brL l ht j L) k) ∧ Hid (D = shTo N A (brL l ht j L) k) ∧ Hid (IRow W0.heap.size D ao cp wr) ∧ Hid (Below W0.heap.size W0 wr)) (fun _ _ _ i _ => L.length - (intOf i).toNat)
    case atStart => exact ⟨0, _, 0, [], 0, 0, Nat.zero_le _, rfl, rfl, rfl, rfl, by omega, by omega, rfl, by show (0 : Int) = N * (List.sum []) / A; simp, rfl, R3.out, B4.out⟩
    case round =>
      obtain ⟨k, ao, cp, D, P, T, hk, rfl, rfl, rfl, rfl, hT, hP, hTe, hPe, hD, hO, hB⟩ := hrel
      obtain ⟨hT0, hT1⟩ := hT
      obtain ⟨hP0, hP1⟩ := hP
      by_cases hlt : k < L.length
      · have hlt' : (k : Int) < (L.length : Int) := by omega
        have hk0 : (0 : Int) ≤ (k : Int) := by omega
        obtain ⟨b, o, p, rfl, hp, hat⟩ := (HA.out.later hB.out).at hlt
        have HP := Lib.hid hp
        have HAT := Lib.hid hat
        have HPB := Lib.hid (HL.out k p hp)
        obtain ⟨q0, q1⟩ := brQ_range HF.out HPB.out
        obtain ⟨x, hx⟩ : ∃ x, brQ l ht j p = x := ⟨_, rfl⟩
        have HX := Lib.hid hx
        have HTn : Hid (T + x = ((brL l ht j L).take (k + 1)).sum) := by show _ = _; rw [HTK.out, brL_take hp, hTe.out, HTK.out, hx]; simp
        rw [hx] at q0 q1
        have hn := HS.out (k + 1)
        rw [← HTn.out] at hn
        obtain ⟨⟨t0, t1⟩, ⟨m0, m1⟩, s0, s1⟩ := hn
        have hse : shAt N A (brL l ht j L) (k + 1) = N * (T + x) / A := by unfold shAt; rw [← HTn.out]
        obtain ⟨y, hy⟩ : ∃ y, shAt N A (brL l ht j L) (k + 1) = y := ⟨_, rfl⟩
        have HYn : Hid (y = shAt N A (brL l ht j L) (k + 1)) := hy.symm
        have HDn : Hid (D ++ [y - P] = shTo N A (brL l ht j L) (k + 1)) := by show _ = _; rw [shTo_succ, hD.out, hPe.out, hy]
        rw [hy] at s0 s1 hse
        have e3 : (N * (T + x)).tdiv A = y := by rw [hse]; exact Int.tdiv_eq_ediv_of_nonneg m0
        have e4 : N * (T + x) / A = y := hse.symm
        have e1 : IntKind.i64.wrap (N * (T + x)) = N * (T + x) := IntWalk.i64_in _ (by omega)
        have e2 : IntKind.i64.wrap y = y := IntWalk.i64_in _ (by omega)
        have hDk : D.length ≤ 20 := by rw [hD.out, shTo_length]; omega
        have c3 : Hid (D.length + 1 ≤ maxLen) := by show D.length + 1 ≤ maxLen; unfold maxLen; omega
        obtain ⟨i0, hi0, hz0, hz1, hz2⟩ := info_partsQ
        clear hp hat hx hy hse
        go_wp2_with fail
        refine wp_region_held_drew (S := fun W => Below wr.heap.size wr W) (by kernel_rfl) ?_ (fun hHeld => ?_)
        · exact (Below.refl _ _).drew
        refine wpAnyH_take (i := 0) (v := .int .i64 T) rfl (by kernel_rfl) (by kernel_rfl) (by kernel_rfl) (fun _ _ _ h => h) (Or.inl ⟨by kernel_rfl, ?_⟩) (by assumption) ?_
        · intro w hSw
          try dsimp only at hSw
          skip
          go_simp
        try simp only [Act.put, List.setIfInBounds_toArray, List.set_cons_zero, List.set_cons_succ, List.getElem_toArray, List.getElem_cons_zero]
        refine wpAnyH_take (i := 1) (v := .agg #[.int .i64 l, .int .i64 wd, .int .i64 ht, .int .i64 j]) rfl (by kernel_rfl) (by kernel_rfl) (by kernel_rfl) (fun _ _ _ h => h) (Or.inl ⟨by kernel_rfl, ?_⟩) (by assumption) ?_
        · intro w hSw
          try dsimp only at hSw
          obtain ⟨f0, f1, f2, f3⟩ := K.out _ (bnext hB.out hSw)
          go_simp
        try simp only [Act.put, List.setIfInBounds_toArray, List.set_cons_zero, List.set_cons_succ, List.getElem_toArray, List.getElem_cons_zero, List.getElem_cons_succ]
        refine wpAnyH_take (i := 2) (v := .slice (some ⟨b, o, none⟩) L.length cap) rfl (by kernel_rfl) (by kernel_rfl) (by kernel_rfl) (fun _ _ _ h => h) (Or.inl ⟨by kernel_rfl, ?_⟩) (by assumption) ?_
        · intro w hSw
          try dsimp only at hSw
          skip
          go_simp
        try simp only [Act.put, List.setIfInBounds_toArray, List.set_cons_zero, List.set_cons_succ, List.getElem_toArray, List.getElem_cons_zero, List.getElem_cons_succ]
        refine wpAnyH_take (i := 3) (v := .int .i64 (k : Int)) rfl (by kernel_rfl) (by kernel_rfl) (by kernel_rfl) (fun _ _ _ h => h) (Or.inl ⟨by kernel_rfl, ?_⟩) (by assumption) ?_
        · intro w hSw
          try dsimp only at hSw
          skip
          go_simp
        try simp only [Act.put, List.setIfInBounds_toArray, List.set_cons_zero, List.set_cons_succ, List.getElem_toArray, List.getElem_cons_zero, List.getElem_cons_succ]
        refine wpAnyH_take (i := 4) (v := .pointer (some ⟨b, o + k * 3, none⟩)) rfl (by kernel_rfl) (by kernel_rfl) (by kernel_rfl) (fun _ _ _ h => h) (Or.inl ⟨by kernel_rfl, ?_⟩) (by assumption) ?_
        · intro w hSw
          try dsimp only at hSw
          skip
          go_simp
          all_goals first | omega | exact IntWalk.i64_in _ (by omega)
        try simp only [Act.put, List.setIfInBounds_toArray, List.set_cons_zero, List.set_cons_succ, List.getElem_toArray, List.getElem_cons_zero, List.getElem_cons_succ]
        refine wpAnyH_ready (rs := [5]) (by kernel_rfl) (by simp) ?_
        refine AllReadyH.cons rfl (fun K hK => ?_) AllReadyH.nil
        obtain ⟨c0, c1, c2⟩ := (HAT.out.later hHeld).cells HP.out
        go_simp
        go_at_call 46
        refine (bricks_spec l wd ht j HF.out p HPB.out b (o + k * 3) _ c0 c1 c2).mono ?_
        rw [HX.out]
        rintro e w4 ⟨rfl, hb4⟩
        refine hK.out _ _ ?_ (fun hHeld' => ?_)
        · exact bnext hHeld hb4
        clear hK K hHeld
        have hHeld := hHeld'
        clear hHeld'
        have O4 := Lib.hid (IRow.later (w := wr.drew) hO.out hb4)
        clear hb4 c0 c1 c2
        try simp only [Act.put, List.setIfInBounds_toArray, List.set_cons_zero, List.set_cons_succ, List.getElem_toArray, List.getElem_cons_zero, List.getElem_cons_succ]
        refine wpAnyH_take (i := 6) (v := .int .i64 (T + x)) rfl (by kernel_rfl) (by kernel_rfl) (by kernel_rfl) (fun _ _ _ h => h) (Or.inl ⟨by kernel_rfl, ?_⟩) (by assumption) ?_
        · intro w hSw
          try dsimp only at hSw
          skip
          go_simp
          all_goals first | omega | exact IntWalk.i64_in _ (by omega)
        try simp only [Act.put, List.setIfInBounds_toArray, List.set_cons_zero, List.set_cons_succ, List.getElem_toArray, List.getElem_cons_zero, List.getElem_cons_succ]
        refine wpAnyH_take (i := 7) (v := .int .i64 (T + x)) rfl (by kernel_rfl) (by kernel_rfl) (by kernel_rfl) (fun _ _ _ h => h) (Or.inl ⟨by kernel_rfl, ?_⟩) (by assumption) ?_
        · intro w hSw
          try dsimp only at hSw
          skip
          go_simp
        try simp only [Act.put, List.setIfInBounds_toArray, List.set_cons_zero, List.set_cons_succ, List.getElem_toArray, List.getElem_cons_zero, List.getElem_cons_succ]
        refine wpAnyH_done (by kernel_rfl) ?_ _
        have B5 := Lib.hid (bnext hB.out hHeld)
        have hbase : W0.heap.size ≤ w4.heap.size := B5.out.size
        clear hHeld
        go_wp2_with (at_builtin; go_must ((refine wpList_append_own _ rfl _ _ 58 rfl W0.heap.size 2 i0 (.int .i64 0) 1 8 Try.underlying58 hi0 hz0 hz1 hz2 rfl (by decide) (.slice ao D.length cp) D.length (intVals D) rfl (IRow.later O4.out (balloc0 _ _)) ⟨w4.heap.size, 0, none⟩ 1 1 [.int .i64 (y - P)] rfl rfl ((lit8 W0.heap.size w4 _ hbase).cells rfl) (by simp [Value.oneCell']) c3.out (by omega) (by simp; omega) ?_; intro v6 w6 hown6 hgrow6 _; have B6 := Lib.hid ((B5.out.alloc hbase _).grown hgrow6 (by simp; omega) (fun q hq => (World.ownsRow.lt O4.out q hq).1)); obtain ⟨g6, cp6, hv6, o6⟩ := IRow.snoc hown6; subst hv6; have O6 := Lib.hid o6; clear hown6 hgrow6 o6)))
        go_roundw
        case rel => exact ⟨k + 1, some ⟨g6, 0, none⟩, cp6, D ++ [y - P], y, T + x, by omega, by simp, rfl, rfl, by go_num, by omega, by omega, HTn.out, HYn.out, HDn.out, O6.out, B6.out⟩
        case measure => simp [intOf]; omega
      · have hge : ¬ (k : Int) < (L.length : Int) := by omega
        have HN : Hid (D = shTo N A (brL l ht j L) L.length) := by show _ = _; rw [hD.out, show k = L.length by omega]
        go_wp2
        go_ret2
        refine ⟨ao, ⟨cp, by rw [← HN.out]; rfl⟩, ?_, bnext E0.out hB.out⟩
        rw [← HN.out]
        exact (hO.out.mono E0.out.size).res
set_option maxRecDepth 100000 in
set_option maxHeartbeats 12800000 in
theorem share_impl (l wd ht j : Int) (L : List Pc) (N : Int) (a : Option Addr) (cap : Nat) (hl : L.length ≤ 1048576) (w : World) (ha : PcArg w a L) :
    Calls Try.prog 36 #[.agg #[.int .i64 l, .int .i64 wd, .int .i64 ht, .int .i64 j], .slice a L.length cap, .int .i64 N] w fun e w' => ∃ ao cp, e = .returned (.tuple #[.slice ao (shL l wd ht j L N).length cp, .int .i64 (shC l wd ht j L N)]) ∧ IntRes w.heap.size (shL l wd ht j L N) ao w' ∧ Below w.heap.size w w' := by
  have F0 := FmBox.new w l wd ht j 35
  have HA := Lib.hid (ha.later (balloc0 w (.cells #[.int .i64 l, .int .i64 wd, .int .i64 ht, .int .i64 j] 35)))
  have E0 := Lib.hid (balloc0 w (.cells #[.int .i64 l, .int .i64 wd, .int .i64 ht, .int .i64 j] 35))
  obtain ⟨W0, hW⟩ : ∃ W0, w.alloc (.cells #[.int .i64 l, .int .i64 wd, .int .i64 ht, .int .i64 j] 35) = W0 := ⟨_, rfl⟩
  rw [hW] at F0 HA E0
  have K : Hid (∀ wx, Below W0.heap.size W0 wx → FmBox w.heap.size l wd ht j wx) := fun wx hx => F0.later hx
  have E0 : Hid (Below w.heap.size w W0) := E0.out
  have HW := Lib.hid hW
  clear ha hW F0
  obtain ⟨f0, f1, f2, f3⟩ := K.out _ (Below.refl _ _)
  rcases shC_cases l wd ht j L N with ⟨h1, hc⟩ | ⟨h1, h2, hc⟩ | ⟨h1, h2, h3, hc⟩ | ⟨h1, h2, h3, h4, hc⟩ | ⟨h1, h2, h3, h4, hc⟩
  · skip
    have hq : shL l wd ht j L N = [] := by simp [shL, hc]
    rw [hc, hq]
    clear hq
    go_enter Try.func36, Try.ntmps36
    go_wp2_with fail
    try rw [HW.out]
    try go_wp2_with fail
    refine (vf_any l wd ht j _).mono ?_
    rintro e w1 ⟨rfl, hb1⟩
    have B1 := Lib.hid hb1
    clear hb1 f0 f1 f2 f3
    go_wp2
    go_ret2
    exact ⟨none, 0, rfl, .inl rfl, bnext E0.out B1.out⟩
  · skip
    have hq : shL l wd ht j L N = [] := by simp [shL, hc]
    rw [hc, hq]
    clear hq
    go_enter Try.func36, Try.ntmps36
    go_wp2_with fail
    try rw [HW.out]
    try go_wp2_with fail
    refine (vf_any l wd ht j _).mono ?_
    rintro e w1 ⟨rfl, hb1⟩
    have B1 := Lib.hid hb1
    clear hb1 f0 f1 f2 f3
    go_wp2_with fail
    refine (validPcs_impl L a cap hl _ (HA.out.later B1.out)).mono ?_
    rintro e w2 ⟨rfl, hb2⟩
    have B2 := Lib.hid (bnext B1.out hb2)
    clear hb2
    go_wp2
    go_ret2
    exact ⟨none, 0, rfl, .inl rfl, bnext E0.out B2.out⟩
  · skip
    have hq : shL l wd ht j L N = [] := by simp [shL, hc]
    rw [hc, hq]
    clear hq
    go_enter Try.func36, Try.ntmps36
    go_wp2_with fail
    try rw [HW.out]
    try go_wp2_with fail
    refine (vf_any l wd ht j _).mono ?_
    rintro e w1 ⟨rfl, hb1⟩
    have B1 := Lib.hid hb1
    clear hb1 f0 f1 f2 f3
    go_wp2_with fail
    refine (validPcs_impl L a cap hl _ (HA.out.later B1.out)).mono ?_
    rintro e w2 ⟨rfl, hb2⟩
    have B2 := Lib.hid (bnext B1.out hb2)
    clear hb2
    go_wp2_with (go_at_call 56; refine (order_impl _ _).mono ?_; rintro e w' ⟨rfl, rfl⟩)
    go_ret2
    exact ⟨none, 0, rfl, .inl rfl, bnext E0.out B2.out⟩
  · skip
    have hq : shL l wd ht j L N = [] := by simp [shL, hc]
    rw [hc, hq]
    clear hq
    have h4' : (L.length : Int) = 0 := by omega
    have H4 := Lib.hid h4
    clear h4
    go_enter Try.func36, Try.ntmps36
    go_wp2_with fail
    try rw [HW.out]
    try go_wp2_with fail
    refine (vf_any l wd ht j _).mono ?_
    rintro e w1 ⟨rfl, hb1⟩
    have B1 := Lib.hid hb1
    clear hb1 f0 f1 f2 f3
    go_wp2_with fail
    refine (validPcs_impl L a cap hl _ (HA.out.later B1.out)).mono ?_
    rintro e w2 ⟨rfl, hb2⟩
    have B2 := Lib.hid (bnext B1.out hb2)
    clear hb2
    go_wp2_with (go_at_call 56; refine (order_impl _ _).mono ?_; rintro e w' ⟨rfl, rfl⟩)
    go_ret2
    exact ⟨none, 0, rfl, .inl rfl, bnext E0.out B2.out⟩
  · have hq : shL l wd ht j L N = shTo N (brL l ht j L).sum (brL l ht j L) L.length := by unfold shL; rw [if_pos hc]
    rw [hc, hq]
    clear hq hc
    have h4' : ¬ (L.length : Int) = 0 := by omega
    have h20 := pcsB_len h2
    have HF := Lib.hid h1
    have HL := Lib.hid (pcsB_all h2)
    have HB := Lib.hid (brL_mem h1 h2)
    have hAp := brL_pos h1 h2 h4
    have hN := inB_true.1 h3
    have hDl := brL_length l ht j L
    have H2 := Lib.hid h2
    have HS := Lib.hid (fun k => shAt_range (k := k) (A := (brL l ht j L).sum) hN hAp HB.out (by omega))
    have hAu := (sum_nonneg HB.out).2
    rw [hDl] at hAu
    have HTK : Hid (∀ k, (brL l ht j L).take k = brL l ht j (L.take k)) := fun k => by simp [brL, List.map_take]
    obtain ⟨A, hA⟩ : ∃ A, (brL l ht j L).sum = A := ⟨_, rfl⟩
    rw [hA] at hAp HS hAu ⊢
    have HAe := Lib.hid hA
    obtain ⟨hN0, hN1⟩ := hN
    have hAz : ¬ A = 0 := by omega
    have h4z : (0 : Int) < (L.length : Int) := by omega
    have HDl := Lib.hid hDl
    clear h4 hDl hA
    go_enter Try.func36, Try.ntmps36
    go_wp2_with fail
    try rw [HW.out]
    try go_wp2_with fail
    refine (vf_any l wd ht j _).mono ?_
    rintro e w1 ⟨rfl, hb1⟩
    have B1 := Lib.hid hb1
    clear hb1 f0 f1 f2 f3
    go_wp2_with fail
    refine (validPcs_impl L a cap hl _ (HA.out.later B1.out)).mono ?_
    rintro e w2 ⟨rfl, hb2⟩
    have B2 := Lib.hid (bnext B1.out hb2)
    clear hb2
    obtain ⟨f0, f1, f2, f3⟩ := K.out _ B2.out
    have AE := Lib.hid (fun wx (hx : Below W0.heap.size W0 wx) => each_impl l wd ht j HF.out L H2.out a cap wx (HA.out.later hx))
    go_wp2_with (go_at_call 56; refine (order_impl _ _).mono ?_; rintro e w' ⟨rfl, rfl⟩)
    refine (AE.out _ B2.out).mono ?_
    rintro e w3 ⟨an, cn, rfl, on, hb3⟩
    have B3 := Lib.hid (bnext B2.out hb3)
    have N3 := Lib.hid on.res
    clear hb3 f0 f1 f2 f3 on
    go_wp2_with fail
    refine (sumQ_impl (brL l ht j L) (fun z hz => by have := HB.out z hz; omega) (by have := HDl.out; omega) an cn _ N3.out.arg).mono ?_
    rintro e w5 ⟨rfl, hw5⟩
    subst hw5
    rw [HAe.out]
    obtain ⟨D0, hD0⟩ : ∃ D0, brL l ht j L = D0 := ⟨_, rfl⟩
    rw [hD0] at N3 HB HS HDl ⊢
    have NL := Lib.hid N3.out.lt
    have NA := Lib.hid (N3.out.arg.later (balloc0 w3 (.cells #[.int .i64 0] 82)))
    have RN := Lib.hid (RunAt.new w3 0 82)
    have B4 := Lib.hid (balloc B3.out (.cells #[.int .i64 0] 82))
    have z4 : w3.heap.size < (w3.alloc (.cells #[.int .i64 0] 82)).heap.size := by simp
    obtain ⟨bR, hbR⟩ : ∃ bR, w3.heap.size = bR := ⟨_, rfl⟩
    have hD20 : D0.length ≤ 20 := by have := HDl.out; omega
    go_wp2
    obtain ⟨W4, hW4⟩ : ∃ W4, w3.alloc (.cells #[.int .i64 0] 82) = W4 := ⟨_, rfl⟩
    rw [hW4] at NA RN B4 z4
    try rw [hW4]
    rw [hbR] at RN NL z4
    try rw [hbR]
    have sR : W0.heap.size ≤ bR := by rw [← hbR]; exact B3.out.size
    clear hW4 hbR
    go_loopw [10, 11, 39] (fun s v i wr => ∃ (k : Nat) (ao : Option Addr) (cp : Nat) (D : List Int) (P T : Int), k ≤ D0.length ∧ v = .slice ao D.length cp ∧ s = .int .i64 T ∧ i = .int .i64 (k : Int) ∧ (0 ≤ T ∧ T ≤ 80000020) ∧ (0 ≤ P ∧ P ≤ 80000020000000) ∧ Hid (T = (D0.take k).sum) ∧ Hid (P = shAt N A D0 k) ∧ Hid (D = shTo N A D0 k) ∧ Hid (IRow W4.heap.size D ao cp wr) ∧ Hid (RunAt bR P wr) ∧ Hid (IntArg wr an D0) ∧ Hid (Below W0.heap.size W0 wr) ∧ W4.heap.size ≤ wr.heap.size) (fun _ _ i _ => D0.length - (intOf i).toNat)
    case atStart => exact ⟨0, none, 0, [], 0, 0, Nat.zero_le _, rfl, rfl, rfl, by omega, by omega, rfl, by show (0 : Int) = N * (List.sum []) / A; simp, rfl, IRow.nil _ _, RN.out, NA.out, B4.out, Nat.le_refl _⟩
    case round =>
      obtain ⟨k, ao, cp, D, P, T, hk, rfl, rfl, rfl, hT, hP, hTe, hPe, hD, hO, hR, hNA, hB, hsz⟩ := hrel
      obtain ⟨hT0, hT1⟩ := hT
      obtain ⟨hP0, hP1⟩ := hP
      by_cases hlt : k < D0.length
      · have hlt' : (k : Int) < (D0.length : Int) := by omega
        have hk0 : (0 : Int) ≤ (k : Int) := by omega
        obtain ⟨b, o, x, rfl, hz, hat⟩ := hNA.out.at hlt
        have d0 := hat k x hz
        obtain ⟨x0, x1⟩ := HB.out x (List.mem_of_getElem? hz)
        have HTn : Hid (T + x = (D0.take (k + 1)).sum) := by show _ = _; rw [List.take_add_one, hz, hTe.out]; simp
        have hn := HS.out (k + 1)
        rw [← HTn.out] at hn
        obtain ⟨⟨t0, t1⟩, ⟨m0, m1⟩, s0, s1⟩ := hn
        have hse : shAt N A D0 (k + 1) = N * (T + x) / A := by unfold shAt; rw [← HTn.out]
        obtain ⟨y, hy⟩ : ∃ y, shAt N A D0 (k + 1) = y := ⟨_, rfl⟩
        have HYn : Hid (y = shAt N A D0 (k + 1)) := hy.symm
        obtain ⟨q, hq⟩ : ∃ q, y - P = q := ⟨_, rfl⟩
        have HDn : Hid (D ++ [q] = shTo N A D0 (k + 1)) := by show _ = _; rw [shTo_succ, hD.out, ← hq, hPe.out, hy]
        rw [hy] at s0 s1 hse
        have e3 : (N * (T + x)).tdiv A = y := by rw [hse]; exact Int.tdiv_eq_ediv_of_nonneg m0
        have e4 : N * (T + x) / A = y := hse.symm
        have e1 : IntKind.i64.wrap (N * (T + x)) = N * (T + x) := IntWalk.i64_in _ (by omega)
        have e2 : IntKind.i64.wrap y = y := IntWalk.i64_in _ (by omega)
        have GR := Lib.hid (growTo_impl bR y P (by omega) (by omega) (by omega) (by omega) wr hR.out)
        rw [hq] at GR
        have hDk : D.length ≤ 20 := by rw [hD.out, shTo_length]; omega
        have c3 : Hid (D.length + 1 ≤ maxLen) := by show D.length + 1 ≤ maxLen; unfold maxLen; omega
        obtain ⟨i0, hi0, hz0, hz1, hz2⟩ := info_partsQ
        clear hz hat hy hse hq
        go_wp2_with fail
        refine GR.out.mono ?_
        rintro e w6 ⟨rfl, r6, o6⟩
        have R6 := Lib.hid r6
        have O6 := Lib.hid (hO.out.only o6 (by omega))
        have NA6 := Lib.hid (hNA.out.only o6 (fun g o h1 h2 => by have := NL.out g o h1 h2; omega))
        have B6 := Lib.hid (hB.out.trans (o6.base sR hB.out.size))
        have s6 : wr.heap.size ≤ w6.heap.size := o6.size
        have hbase : W4.heap.size ≤ w6.heap.size := by omega
        have B7 := Lib.hid (Below.refl W4.heap.size w6)
        clear r6 o6 d0
        go_wp2_with (at_builtin; go_must ((refine wpList_append_own _ rfl _ _ 58 rfl W4.heap.size 2 i0 (.int .i64 0) 1 8 Try.underlying58 hi0 hz0 hz1 hz2 rfl (by decide) (.slice ao D.length cp) D.length (intVals D) rfl (IRow.later O6.out (balloc0 _ _)) ⟨w6.heap.size, 0, none⟩ 1 1 [.int .i64 q] rfl rfl ((lit8 W4.heap.size w6 _ hbase).cells rfl) (by simp [Value.oneCell']) c3.out (by omega) (by simp; omega) ?_; intro v8 w8 hown8 hgrow8 _; have B8 := Lib.hid ((B7.out.alloc hbase _).grown hgrow8 (by simp; omega) (fun q hq => (World.ownsRow.lt O6.out q hq).1)); obtain ⟨g8, cp8, hv8, o8⟩ := IRow.snoc hown8; subst hv8; have O8 := Lib.hid o8; clear hown8 hgrow8 o8)))
        have z8 := B8.out.size
        go_roundw
        case rel => exact ⟨k + 1, some ⟨g8, 0, none⟩, cp8, D ++ [q], y, T + x, by omega, by simp, rfl, by go_num, by omega, by omega, HTn.out, HYn.out, HDn.out, O8.out, ⟨(B8.out.cell (show bR < W4.heap.size by omega)).trans R6.out.1, (B8.out.frozen (show bR < W4.heap.size by omega)).trans R6.out.2⟩, NA6.out.base B8.out (fun g o h1 h2 => by have := NL.out g o h1 h2; omega), B6.out.trans (B8.out.mono (by omega)), by omega⟩
        case measure => simp [intOf]; omega
      · have hge : ¬ (k : Int) < (D0.length : Int) := by omega
        have HN : Hid (D = shTo N A D0 L.length) := by show _ = _; rw [hD.out, show k = L.length by have := HDl.out; omega]
        have hs4 : w.heap.size ≤ W4.heap.size := (bnext E0.out B4.out).size
        go_wp2
        go_ret2
        refine ⟨ao, ⟨cp, by rw [← HN.out]; rfl⟩, ?_, bnext E0.out hB.out⟩
        rw [← HN.out]
        exact (hO.out.mono hs4).res
end Go.Proofs.Ytmbmbkagmkmhlab
