/-
  The best mould: the program's answer.
-/
import Derived.Test.YtdandhmallbemaaDoorBeM
import Derived.Test.YtdandhmallbemaaDoorC2v
import Derived.Test.YtdandhmallbemaaDoorMoE
namespace Go.Proofs.YtdandhmallbemaaDoor
open Go.ChangeShapes Go.WideShapes Go.ChangeAt Go.RowKit Go.Joins

theorem box_f (w : World) (l wd ht j : Int) : ∀ wx, Below (w.alloc (.cells #[.int .i64 l, .int .i64 wd, .int .i64 ht, .int .i64 j] 31)).heap.size (w.alloc (.cells #[.int .i64 l, .int .i64 wd, .int .i64 ht, .int .i64 j] 31)) wx → wx.cell? ⟨w.heap.size, 0, none⟩ = some (.int .i64 l) ∧ wx.cell? ⟨w.heap.size, 1, none⟩ = some (.int .i64 wd) ∧ wx.cell? ⟨w.heap.size, 2, none⟩ = some (.int .i64 ht) ∧ wx.cell? ⟨w.heap.size, 3, none⟩ = some (.int .i64 j) := by
  intro wx h
  have hr : (w.alloc (.cells #[.int .i64 l, .int .i64 wd, .int .i64 ht, .int .i64 j] 31)).rangeAt w.heap.size 0 (⟨l, wd, ht, j⟩ : Mo).vals := range_new w #[.int .i64 l, .int .i64 wd, .int .i64 ht, .int .i64 j] 31
  have := boxedMo (range_below hr h)
  simpa using this
set_option maxRecDepth 100000 in
set_option maxHeartbeats 3200000 in
theorem index_mo (L : List Mo) (n : Nat) (hn : n < L.length) (hl : L.length ≤ 20) (hfirst : ∀ i, i < n → atM L i ≠ atM L n) (t0 t1 t2 t3 : Int) (hv : atM L n = ⟨t0, t1, t2, t3⟩) (b o cap : Nat) (w : World) (ha : MoAt w b o L) :
    Calls Tryd.prog 41 #[.slice (some ⟨b, o, none⟩) L.length cap, .agg #[.int .i64 t0, .int .i64 t1, .int .i64 t2, .int .i64 t3]] w fun e w' => e = .returned (.int .i64 (n : Int)) ∧ Below w.heap.size w w' := by
  have X : Hid (∀ wx, Below (w.alloc (.cells #[.int .i64 t0, .int .i64 t1, .int .i64 t2, .int .i64 t3] 47)).heap.size (w.alloc (.cells #[.int .i64 t0, .int .i64 t1, .int .i64 t2, .int .i64 t3] 47)) wx → _) := box_mo w ⟨t0, t1, t2, t3⟩
  have HB0 := Lib.hid (balloc0 w (.cells #[.int .i64 t0, .int .i64 t1, .int .i64 t2, .int .i64 t3] 47))
  obtain ⟨W0, hW⟩ : ∃ W0, w.alloc (.cells #[.int .i64 t0, .int .i64 t1, .int .i64 t2, .int .i64 t3] 47) = W0 := ⟨_, rfl⟩
  rw [hW] at X HB0
  have HW := Lib.hid hW
  have HA : Hid (∀ wx, Below w.heap.size w wx → MoAt wx b o L) := fun wx h => ha.later h
  have HF := Lib.hid hfirst
  have HV := Lib.hid hv
  clear hW ha hfirst hv
  go_enter Tryd.func41, Tryd.ntmps41
  go_wp2
  rw [HW.out]
  go_loopw [8] (fun i wr => ∃ k : Nat, k ≤ n ∧ i = .int .i64 (k : Int) ∧ Hid (Below W0.heap.size W0 wr)) (fun i _ => L.length - (intOf i).toNat)
  case atStart => exact ⟨0, by omega, rfl, Below.refl _ _⟩
  case round =>
    obtain ⟨k, hk, rfl, hB⟩ := hrel
    have hlt' : (k : Int) < (L.length : Int) := by omega
    have hk0 : (0 : Int) ≤ (k : Int) := by omega
    have HBW := Lib.hid (HB0.out.trans (hB.out.mono HB0.out.size))
    obtain ⟨d0, d1, d2, d3⟩ := X.out _ hB.out
    try dsimp only at d0 d1 d2 d3
    by_cases hlt : k < n
    · have hne := HF.out k hlt
      rw [HV.out] at hne
      obtain ⟨⟨s0, s1, s2, s3⟩, hc⟩ : ∃ c, atM L k = c := ⟨_, rfl⟩
      rw [hc] at hne
      obtain ⟨c0, c1, c2, c3⟩ := (HA.out _ HBW.out).cells (by rw [atM_get (show k < L.length by omega), hc])
      try dsimp only at c0 c1 c2 c3
      have HNE := Lib.hid hne
      clear hc hne
      by_cases e0 : t0 = s0
      case neg =>
        go_wp2_with fail
        go_region
        go_wp2
        go_roundw
        case rel => exact ⟨k + 1, by omega, by go_num, hB.out.drew⟩
        case measure => simp [intOf]; omega
      subst e0
      by_cases e1 : t1 = s1
      case neg =>
        go_wp2_with fail
        go_region
        go_wp2
        go_roundw
        case rel => exact ⟨k + 1, by omega, by go_num, hB.out.drew⟩
        case measure => simp [intOf]; omega
      subst e1
      by_cases e2 : t2 = s2
      case neg =>
        go_wp2_with fail
        go_region
        go_wp2
        go_roundw
        case rel => exact ⟨k + 1, by omega, by go_num, hB.out.drew⟩
        case measure => simp [intOf]; omega
      subst e2
      by_cases e3 : t3 = s3
      case neg =>
        go_wp2_with fail
        go_region
        go_wp2
        go_roundw
        case rel => exact ⟨k + 1, by omega, by go_num, hB.out.drew⟩
        case measure => simp [intOf]; omega
      subst e3
      exact absurd rfl HNE.out
    · have hkn : k = n := by omega
      subst hkn
      obtain ⟨c0, c1, c2, c3⟩ := (HA.out _ HBW.out).cells (by rw [atM_get hn, HV.out])
      try dsimp only at c0 c1 c2 c3
      go_wp2_with fail
      go_region
      go_wp2
      go_ret
      exact ⟨rfl, HBW.out.drew⟩
set_option maxRecDepth 100000 in
set_option maxHeartbeats 3200000 in
theorem be_impl (L : List Mo) (a : Option Addr) (cap : Nat) (hl : L.length ≤ 1048576) (l wd ht j s : Int) (w : World) (ha : MoArg w a L) : Calls Tryd.prog 9 #[.slice a L.length cap, .agg #[.int .i64 l, .int .i64 wd, .int .i64 ht, .int .i64 j], .int .i64 s] w fun e w' => e = .returned (.tuple #[.int .i64 (beN L l wd ht j s), .int .i64 (beC L l wd ht j s)]) ∧ Below w.heap.size w w' := by
  have X := Lib.hid (box_f w l wd ht j)
  have HB0 := Lib.hid (balloc0 w (.cells #[.int .i64 l, .int .i64 wd, .int .i64 ht, .int .i64 j] 31))
  have HA : Hid (∀ wx, Below w.heap.size w wx → MoArg wx a L) := fun wx h => ha.later h
  obtain ⟨W0, hW⟩ : ∃ W0, w.alloc (.cells #[.int .i64 l, .int .i64 wd, .int .i64 ht, .int .i64 j] 31) = W0 := ⟨_, rfl⟩
  rw [hW] at X HB0
  have HW := Lib.hid hW
  clear hW ha
  have C1 := Lib.hid (valid_moimpl L a cap hl W0 (HA.out _ HB0.out))
  have C2 := Lib.hid (vf_any l wd ht j)
  have I1 := Lib.hid (within_impl s 0 200)
  cases h1 : okMos L
  · have E : Hid (beC L l wd ht j s = 1) := by show beC L l wd ht j s = 1; simp [beC, h1]
    rw [E.out, be_bad E.out (by omega)]
    rw [h1] at C1
    clear h1
    go_enter Tryd.func9, Tryd.ntmps9
    go_wp2_with fail
    rw [HW.out]
    refine C1.out.mono ?_
    rintro e w1 ⟨rfl, hb1⟩
    have B1 := Lib.hid hb1
    clear hb1
    go_wp2
    go_ret2
    exact ⟨rfl, HB0.out.trans (B1.out.mono HB0.out.size)⟩
  cases h2 : okB l wd ht j
  · have E : Hid (beC L l wd ht j s = 1) := by show beC L l wd ht j s = 1; simp [beC, h2]
    rw [E.out, be_bad E.out (by omega)]
    rw [h1] at C1
    rw [h2] at C2
    clear h1 h2
    go_enter Tryd.func9, Tryd.ntmps9
    go_wp2_with fail
    rw [HW.out]
    refine C1.out.mono ?_
    rintro e w1 ⟨rfl, hb1⟩
    have B1 := Lib.hid hb1
    clear hb1
    obtain ⟨f0, f1, f2, f3⟩ := X.out _ B1.out
    go_wp2_with fail
    refine (C2.out _).mono ?_
    rintro e w2 ⟨rfl, hb2⟩
    have B2 := Lib.hid (bnext B1.out hb2)
    clear hb2 f0 f1 f2 f3
    go_wp2
    go_ret2
    exact ⟨rfl, HB0.out.trans (B2.out.mono HB0.out.size)⟩
  cases h3 : inB s 0 200
  · have E : Hid (beC L l wd ht j s = 2) := by show beC L l wd ht j s = 2; simp [beC, h1, h2, h3]
    rw [E.out, be_bad E.out (by omega)]
    rw [h1] at C1
    rw [h2] at C2
    rw [h3] at I1
    clear h1 h2 h3
    go_enter Tryd.func9, Tryd.ntmps9
    go_wp2_with fail
    rw [HW.out]
    refine C1.out.mono ?_
    rintro e w1 ⟨rfl, hb1⟩
    have B1 := Lib.hid hb1
    clear hb1
    obtain ⟨f0, f1, f2, f3⟩ := X.out _ B1.out
    go_wp2_with fail
    refine (C2.out _).mono ?_
    rintro e w2 ⟨rfl, hb2⟩
    have B2 := Lib.hid (bnext B1.out hb2)
    clear hb2 f0 f1 f2 f3
    go_wp2_with fail
    refine (I1.out _).mono ?_
    rintro e w3 ⟨rfl, rfl⟩
    go_wp2
    go_ret2
    exact ⟨rfl, HB0.out.trans (B2.out.mono HB0.out.size)⟩
  by_cases h4 : L.length = 0
  · have E : Hid (beC L l wd ht j s = 3) := by show beC L l wd ht j s = 3; simp [beC, h1, h2, h3, h4]
    rw [E.out, be_bad E.out (by omega)]
    rw [h1] at C1
    rw [h2] at C2
    rw [h3] at I1
    have H5 : Hid ((L.length : Int) = 0) := by show (L.length : Int) = 0; omega
    clear h1 h2 h3 h4
    go_enter Tryd.func9, Tryd.ntmps9
    go_wp2_with fail
    rw [HW.out]
    refine C1.out.mono ?_
    rintro e w1 ⟨rfl, hb1⟩
    have B1 := Lib.hid hb1
    clear hb1
    obtain ⟨f0, f1, f2, f3⟩ := X.out _ B1.out
    go_wp2_with fail
    refine (C2.out _).mono ?_
    rintro e w2 ⟨rfl, hb2⟩
    have B2 := Lib.hid (bnext B1.out hb2)
    clear hb2 f0 f1 f2 f3
    go_wp2_with fail
    refine (I1.out _).mono ?_
    rintro e w3 ⟨rfl, rfl⟩
    have h5 := H5.out
    go_wp2
    go_ret2
    exact ⟨rfl, HB0.out.trans (B2.out.mono HB0.out.size)⟩
  have E : Hid (beC L l wd ht j s = 0) := by show beC L l wd ht j s = 0; simp [beC, h1, h2, h3, h4]
  rw [E.out, be_good E.out]
  obtain ⟨s0, s1⟩ := inB_true.1 h3
  have hpos : 0 < L.length := by omega
  have h5 : ¬ (L.length : Int) = 0 := by omega
  have hl20 := (okMos_all h1).1
  have HOK : Hid (∀ k, k < L.length → (atM L k).ok = true) := fun k hk => (okMos_all h1).2 k _ (atM_get hk)
  have hbn := bestTo_lt s l wd ht L L.length (by omega)
  have HFI := Lib.hid (fun i (hi : i < bestTo s l wd ht L L.length) => bestTo_first (s := s) (l := l) (wd := wd) (ht := ht) (L := L) (k := L.length) (by omega) hi)
  obtain ⟨b, o, c, rfl, hc, hat⟩ := (HA.out _ (Below.refl _ _)).at hpos
  have MN : Hid (∀ wx, Below w.heap.size w wx → Calls Tryd.prog 39 #[.slice (some ⟨b, o, none⟩) L.length cap, .func (.func 40) #[.agg #[.int .i64 l, .int .i64 wd, .int .i64 ht, .int .i64 j, .int .i64 s]] #[]] wx fun e w' => e = .returned (.agg #[.int .i64 (atM L (bestTo s l wd ht L L.length)).le, .int .i64 (atM L (bestTo s l wd ht L L.length)).wi, .int .i64 (atM L (bestTo s l wd ht L L.length)).he, .int .i64 (atM L (bestTo s l wd ht L L.length)).us]) ∧ Below wx.heap.size wx w') := fun wx h => min_impl L b o cap hpos hl20 l wd ht j s h2 s0 s1 HOK.out wx (hat.later h)
  obtain ⟨n, hnn⟩ : ∃ n, bestTo s l wd ht L L.length = n := ⟨_, rfl⟩
  rw [hnn] at hbn HFI MN ⊢
  obtain ⟨⟨t0, t1, t2, t3⟩, hv⟩ : ∃ v, atM L n = v := ⟨_, rfl⟩
  rw [hv] at MN
  have IXc : Hid (∀ wx, Below w.heap.size w wx → Calls Tryd.prog 41 #[.slice (some ⟨b, o, none⟩) L.length cap, .agg #[.int .i64 t0, .int .i64 t1, .int .i64 t2, .int .i64 t3]] wx fun e w' => e = .returned (.int .i64 (n : Int)) ∧ Below wx.heap.size wx w') := fun wx h => index_mo L n hbn hl20 HFI.out t0 t1 t2 t3 hv b o cap wx (hat.later h)
  rw [h1] at C1
  rw [h2] at C2
  rw [h3] at I1
  clear h1 h2 h3 s0 s1 hc hat hnn hv
  go_enter Tryd.func9, Tryd.ntmps9
  go_wp2_with fail
  rw [HW.out]
  refine C1.out.mono ?_
  rintro e w1 ⟨rfl, hb1⟩
  have B1 := Lib.hid hb1
  clear hb1
  obtain ⟨f0, f1, f2, f3⟩ := X.out _ B1.out
  go_wp2_with fail
  refine (C2.out _).mono ?_
  rintro e w2 ⟨rfl, hb2⟩
  have B2 := Lib.hid (bnext B1.out hb2)
  clear hb2 f0 f1 f2 f3
  go_wp2_with fail
  refine (I1.out _).mono ?_
  rintro e w3 ⟨rfl, rfl⟩
  obtain ⟨f0, f1, f2, f3⟩ := X.out _ B2.out
  go_wp2_with fail
  refine (MN.out _ (HB0.out.trans (B2.out.mono HB0.out.size))).mono ?_
  rintro e w4 ⟨rfl, hb4⟩
  have B4 := Lib.hid (bnext B2.out hb4)
  clear hb4 f0 f1 f2 f3
  have B5 := Lib.hid (balloc B4.out (.cells #[.int .i64 t0, .int .i64 t1, .int .i64 t2, .int .i64 t3] 47))
  go_wp2_with fail
  refine (IXc.out _ (HB0.out.trans (B5.out.mono HB0.out.size))).mono ?_
  rintro e w5 ⟨rfl, hb5⟩
  have B6 := Lib.hid (bnext B5.out hb5)
  clear hb5
  go_wp2
  go_ret2
  exact ⟨rfl, HB0.out.trans (B6.out.mono HB0.out.size)⟩
end Go.Proofs.YtdandhmallbemaaDoor
