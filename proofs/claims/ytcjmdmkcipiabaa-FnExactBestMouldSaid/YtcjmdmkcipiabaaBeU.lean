/-
  The best mould: the model's answer, whole.
-/
import Derived.Test.YtcjmdmkcipiabaaBeS
import Derived.Deep.RegionHeld3
import Derived.BigQuiet
namespace Go.Proofs.Ytcjmdmkcipiabaa
open Go.ChangeShapes Go.WideShapes Go.ChangeAt Go.RowKit Go.Joins

theorem box_f (w : World) (l wd ht j : Int) : ∀ wx, Below (w.alloc (.cells #[.int .i64 l, .int .i64 wd, .int .i64 ht, .int .i64 j] 30)).heap.size (w.alloc (.cells #[.int .i64 l, .int .i64 wd, .int .i64 ht, .int .i64 j] 30)) wx → wx.cell? ⟨w.heap.size, 0, none⟩ = some (.int .i64 l) ∧ wx.cell? ⟨w.heap.size, 1, none⟩ = some (.int .i64 wd) ∧ wx.cell? ⟨w.heap.size, 2, none⟩ = some (.int .i64 ht) ∧ wx.cell? ⟨w.heap.size, 3, none⟩ = some (.int .i64 j) := by
  intro wx h
  have hr : (w.alloc (.cells #[.int .i64 l, .int .i64 wd, .int .i64 ht, .int .i64 j] 30)).rangeAt w.heap.size 0 (⟨l, wd, ht, j⟩ : Mo).vals := range_new w #[.int .i64 l, .int .i64 wd, .int .i64 ht, .int .i64 j] 30
  have := boxedMo (range_below hr h)
  simpa using this
theorem keepF_call {C b : Nat} {v w1 w2 : World} {l wd ht j : Int} (hlt : b < C) (h : w1.cell? ⟨b, 0, none⟩ = some (.int .i64 l) ∧ w1.cell? ⟨b, 1, none⟩ = some (.int .i64 wd) ∧ w1.cell? ⟨b, 2, none⟩ = some (.int .i64 ht) ∧ w1.cell? ⟨b, 3, none⟩ = some (.int .i64 j) ∧ Below C v w1 ∧ C ≤ w1.heap.size) (hb : Below w1.heap.size w1 w2) : w2.cell? ⟨b, 0, none⟩ = some (.int .i64 l) ∧ w2.cell? ⟨b, 1, none⟩ = some (.int .i64 wd) ∧ w2.cell? ⟨b, 2, none⟩ = some (.int .i64 ht) ∧ w2.cell? ⟨b, 3, none⟩ = some (.int .i64 j) ∧ Below C v w2 ∧ C ≤ w2.heap.size := by
  obtain ⟨h0, h1, h2, h3, h4, h5⟩ := h
  exact ⟨(hb.cell (p := ⟨b, 0, none⟩) (show b < w1.heap.size by omega)).trans h0, (hb.cell (p := ⟨b, 1, none⟩) (show b < w1.heap.size by omega)).trans h1, (hb.cell (p := ⟨b, 2, none⟩) (show b < w1.heap.size by omega)).trans h2, (hb.cell (p := ⟨b, 3, none⟩) (show b < w1.heap.size by omega)).trans h3, h4.trans (hb.mono h5), Nat.le_trans h5 hb.size⟩
set_option maxRecDepth 100000 in
set_option maxHeartbeats 12800000 in
theorem be_spec (L : List Mo) (a : Option Addr) (cap : Nat) (hl : L.length ≤ 1048576) (l wd ht j s : Int) (w : World) (ha : MoArg w a L) : Calls Try.prog 6 #[.slice a L.length cap, .agg #[.int .i64 l, .int .i64 wd, .int .i64 ht, .int .i64 j], .int .i64 s] w fun e w' => e = .returned (.tuple #[.int .i64 (beN L l wd ht j s), .int .i64 (beC L l wd ht j s)]) ∧ Below w.heap.size w w' := by
  have X := Lib.hid (box_f w l wd ht j)
  have HB0 := Lib.hid (balloc0 w (.cells #[.int .i64 l, .int .i64 wd, .int .i64 ht, .int .i64 j] 30))
  have HA : Hid (∀ wx, Below w.heap.size w wx → MoArg wx a L) := fun wx h => ha.later h
  obtain ⟨W0, hW⟩ : ∃ W0, w.alloc (.cells #[.int .i64 l, .int .i64 wd, .int .i64 ht, .int .i64 j] 30) = W0 := ⟨_, rfl⟩
  rw [hW] at X HB0
  have HW := Lib.hid hW
  clear hW ha
  have C1 := Lib.hid (okM_spec L a cap hl W0 (HA.out _ HB0.out))
  have C2 := Lib.hid (l02ok l wd ht j)
  have I1 := Lib.hid (in_any s 0 200)
  cases h1 : okMos L
  · have E : Hid (beC L l wd ht j s = 1) := by show beC L l wd ht j s = 1; simp [beC, h1]
    rw [E.out, be_bad E.out (by omega)]
    rw [h1] at C1
    clear h1
    go_enter Try.func6, Try.ntmps6
    go_wp2_with fail
    rw [HW.out]
    refine C1.out.mono ?_
    rintro e w1 ⟨rfl, hb1⟩
    have B1 := Lib.hid hb1
    clear hb1
    go_wp2
    go_ret2
    exact ⟨rfl, HB0.out.trans (B1.out.mono HB0.out.size)⟩
  cases h2 : okB l wd ht j
  · have E : Hid (beC L l wd ht j s = 1) := by show beC L l wd ht j s = 1; simp [beC, h2]
    rw [E.out, be_bad E.out (by omega)]
    rw [h1] at C1
    rw [h2] at C2
    clear h1 h2
    go_enter Try.func6, Try.ntmps6
    go_wp2_with fail
    rw [HW.out]
    refine C1.out.mono ?_
    rintro e w1 ⟨rfl, hb1⟩
    have B1 := Lib.hid hb1
    clear hb1
    obtain ⟨f0, f1, f2, f3⟩ := X.out _ B1.out
    go_wp2_with fail
    refine (C2.out _).mono ?_
    rintro e w2 ⟨rfl, hb2⟩
    have B2 := Lib.hid (bnext B1.out hb2)
    clear hb2 f0 f1 f2 f3
    go_wp2
    go_ret2
    exact ⟨rfl, HB0.out.trans (B2.out.mono HB0.out.size)⟩
  cases h3 : inB s 0 200
  · have E : Hid (beC L l wd ht j s = 2) := by show beC L l wd ht j s = 2; simp [beC, h1, h2, h3]
    rw [E.out, be_bad E.out (by omega)]
    rw [h1] at C1
    rw [h2] at C2
    rw [h3] at I1
    clear h1 h2 h3
    go_enter Try.func6, Try.ntmps6
    go_wp2_with fail
    rw [HW.out]
    refine C1.out.mono ?_
    rintro e w1 ⟨rfl, hb1⟩
    have B1 := Lib.hid hb1
    clear hb1
    obtain ⟨f0, f1, f2, f3⟩ := X.out _ B1.out
    go_wp2_with fail
    refine (C2.out _).mono ?_
    rintro e w2 ⟨rfl, hb2⟩
    have B2 := Lib.hid (bnext B1.out hb2)
    clear hb2 f0 f1 f2 f3
    go_wp2_with fail
    refine (I1.out _).mono ?_
    rintro e w3 ⟨rfl, rfl⟩
    go_wp2
    go_ret2
    exact ⟨rfl, HB0.out.trans (B2.out.mono HB0.out.size)⟩
  by_cases h4 : L.length = 0
  · have E : Hid (beC L l wd ht j s = 3) := by show beC L l wd ht j s = 3; simp [beC, h1, h2, h3, h4]
    rw [E.out, be_bad E.out (by omega)]
    rw [h1] at C1
    rw [h2] at C2
    rw [h3] at I1
    have H5 : Hid ((L.length : Int) = 0) := by show (L.length : Int) = 0; omega
    clear h1 h2 h3 h4
    go_enter Try.func6, Try.ntmps6
    go_wp2_with fail
    rw [HW.out]
    refine C1.out.mono ?_
    rintro e w1 ⟨rfl, hb1⟩
    have B1 := Lib.hid hb1
    clear hb1
    obtain ⟨f0, f1, f2, f3⟩ := X.out _ B1.out
    go_wp2_with fail
    refine (C2.out _).mono ?_
    rintro e w2 ⟨rfl, hb2⟩
    have B2 := Lib.hid (bnext B1.out hb2)
    clear hb2 f0 f1 f2 f3
    go_wp2_with fail
    refine (I1.out _).mono ?_
    rintro e w3 ⟨rfl, rfl⟩
    have h5 := H5.out
    go_wp2
    go_ret2
    exact ⟨rfl, HB0.out.trans (B2.out.mono HB0.out.size)⟩
  have E : Hid (beC L l wd ht j s = 0) := by show beC L l wd ht j s = 0; simp [beC, h1, h2, h3, h4]
  rw [E.out, be_good E.out]
  obtain ⟨s0, s1⟩ := inB_true.1 h3
  have hpos : 0 < L.length := by omega
  have h5 : ¬ (L.length : Int) = 0 := by omega
  have h6 : ((L.length : Int) == 0) = false := beq_eq_false_iff_ne.2 h5
  have hl20 := (okMos_all h1).1
  have HOK : Hid (∀ k, k < L.length → (atM L k).ok = true) := fun k hk => (okMos_all h1).2 k _ (atM_get hk)
  have OF : Hid (∀ (c : Mo) (b o : Nat) (wx : World), c.ok = true → wx.cell? ⟨b, o, none⟩ = some (.int .i64 c.le) → wx.cell? ⟨b, o + 1, none⟩ = some (.int .i64 c.wi) → wx.cell? ⟨b, o + 2, none⟩ = some (.int .i64 c.he) → Calls Try.prog 20 #[.pointer (some ⟨b, o, none⟩), .agg #[.int .i64 l, .int .i64 wd, .int .i64 ht, .int .i64 j], .int .i64 s] wx fun e w' => e = .returned (.int .i64 (offF c s l wd ht)) ∧ Below wx.heap.size wx w') := fun c b o wx hc c0 c1 c2 => off_spec c hc l wd ht j s h2 s0 s1 b o wx c0 c1 c2
  rw [h1] at C1
  rw [h2] at C2
  rw [h3] at I1
  clear h1 h2 h3 h4 s0 s1
  go_enter Try.func6, Try.ntmps6
  go_wp2_with fail
  rw [HW.out]
  refine C1.out.mono ?_
  rintro e w1 ⟨rfl, hb1⟩
  have B1 := Lib.hid hb1
  clear hb1
  obtain ⟨f0, f1, f2, f3⟩ := X.out _ B1.out
  go_wp2_with fail
  refine (C2.out _).mono ?_
  rintro e w2 ⟨rfl, hb2⟩
  have B2 := Lib.hid (bnext B1.out hb2)
  clear hb2 f0 f1 f2 f3
  go_wp2_with fail
  refine (I1.out _).mono ?_
  rintro e w3 ⟨rfl, rfl⟩
  go_wp2
  go_loopw [8, 9] (fun v i wr => ∃ k : Nat, 1 ≤ k ∧ k ≤ L.length ∧ v = .int .i64 ((bestTo s l wd ht L k : Nat) : Int) ∧ i = .int .i64 (k : Int) ∧ Hid (Below w2.heap.size w2 wr)) (fun _ i _ => L.length - (intOf i).toNat)
  case atStart => exact ⟨1, by omega, by omega, rfl, rfl, Below.refl _ _⟩
  case round =>
    obtain ⟨k, hk1, hk, rfl, rfl, hB⟩ := hrel
    have HX := Lib.hid (B2.out.trans (hB.out.mono B2.out.size))
    have HY := Lib.hid (HB0.out.trans (HX.out.mono HB0.out.size))
    by_cases hlt : k < L.length
    · have hlt' : (k : Int) < (L.length : Int) := by omega
      have hk0 : (0 : Int) ≤ (k : Int) := by omega
      have hbl := bestTo_lt s l wd ht L k hk1
      have HS := Lib.hid (bestTo_step (s := s) (l := l) (wd := wd) (ht := ht) (L := L) hk1)
      obtain ⟨n, hn⟩ : ∃ n, bestTo s l wd ht L k = n := ⟨_, rfl⟩
      rw [hn] at hbl HS ⊢
      have hnL : n < L.length := by omega
      have hn1 : (n : Int) < (L.length : Int) := by omega
      have hn0 : (0 : Int) ≤ (n : Int) := by omega
      obtain ⟨b, o, c, rfl, hc, hat⟩ := (HA.out _ HY.out).at hlt
      have hca := atM_eq hc
      have hd := atM_get hnL
      obtain ⟨d, hda⟩ : ∃ d, atM L n = d := ⟨_, rfl⟩
      rw [hda] at hd
      have kc := HOK.out k hlt
      have kd := HOK.out n hnL
      rw [hca] at kc HS
      rw [hda] at kd HS
      obtain ⟨c0, c1, c2, c3⟩ := hat.cells hc
      obtain ⟨d0, d1, d2, d3⟩ := hat.cells hd
      have K := Lib.hid (And.intro hc hd)
      have OA := Lib.hid (OF.out c b (o + k * 4) wr kc c0 c1 c2)
      have HAt := Lib.hid hat
      obtain ⟨x, hx⟩ : ∃ x, offF c s l wd ht = x := ⟨_, rfl⟩
      obtain ⟨y, hy⟩ : ∃ y, offF d s l wd ht = y := ⟨_, rfl⟩
      have OB : Hid (∀ wx, Below wr.heap.size wr wx → Calls Try.prog 20 #[.pointer (some ⟨b, o + n * 4, none⟩), .agg #[.int .i64 l, .int .i64 wd, .int .i64 ht, .int .i64 j], .int .i64 s] wx fun e w' => e = .returned (.int .i64 y) ∧ Below wx.heap.size wx w') := fun wx h => by
        have hat' := HAt.out.later h
        obtain ⟨d0, d1, d2, d3⟩ := hat'.cells hd
        have := OF.out d b (o + n * 4) wx kd d0 d1 d2
        rw [hy] at this
        exact this
      have OA2 : Hid (∀ wx, Below wr.heap.size wr wx → Calls Try.prog 20 #[.pointer (some ⟨b, o + k * 4, none⟩), .agg #[.int .i64 l, .int .i64 wd, .int .i64 ht, .int .i64 j], .int .i64 s] wx fun e w' => e = .returned (.int .i64 x) ∧ Below wx.heap.size wx w') := fun wx h => by
        have hat' := HAt.out.later h
        obtain ⟨d0, d1, d2, d3⟩ := hat'.cells hc
        have := OF.out c b (o + k * 4) wx kc d0 d1 d2
        rw [hx] at this
        exact this
      have HK : Hid (keyLt s l wd ht c d ↔ (x < y ∨ (x = y ∧ c.us < d.us))) := by show keyLt s l wd ht c d ↔ _; unfold keyLt; rw [hx, hy]
      obtain ⟨f0, f1, f2, f3⟩ := X.out _ HX.out
      clear hc hd hca hda kc kd hat c0 c1 c2 c3 d0 d1 d2 d3 hx hy OA
      obtain ⟨u, hu⟩ : ∃ u, c.us = u := ⟨_, rfl⟩
      obtain ⟨v, hv⟩ : ∃ v, d.us = v := ⟨_, rfl⟩
      have HU := Lib.hid (And.intro hu hv)
      clear hu hv
      go_wp2_with fail
      have hbl := World.block_lt_of_cell? wr _ f0
      go_region_held3 (fun w' => w'.cell? ⟨w.heap.size, 0, none⟩ = some (.int .i64 l) ∧ w'.cell? ⟨w.heap.size, 1, none⟩ = some (.int .i64 wd) ∧ w'.cell? ⟨w.heap.size, 2, none⟩ = some (.int .i64 ht) ∧ w'.cell? ⟨w.heap.size, 3, none⟩ = some (.int .i64 j) ∧ Below wr.heap.size wr w' ∧ wr.heap.size ≤ w'.heap.size)
        (first | exact keepF_call hbl (by assumption) hb | assumption | exact ⟨f0, f1, f2, f3, (Below.refl _ _).drew, Nat.le_refl _⟩)
        (first | (go_at_call 20; refine (OA2.out _ (by first | assumption | (go_split_ands; assumption))).mono ?_; rintro e w5 ⟨rfl, hb⟩))
      all_goals
        go_wp2_with fail
        go_region_held3 (fun w' => w'.cell? ⟨w.heap.size, 0, none⟩ = some (.int .i64 l) ∧ w'.cell? ⟨w.heap.size, 1, none⟩ = some (.int .i64 wd) ∧ w'.cell? ⟨w.heap.size, 2, none⟩ = some (.int .i64 ht) ∧ w'.cell? ⟨w.heap.size, 3, none⟩ = some (.int .i64 j) ∧ Below wr.heap.size wr w' ∧ wr.heap.size ≤ w'.heap.size)
          (first | exact keepF_call hbl (by assumption) hb | assumption | exact keepF_call hbl (by assumption) (Below.refl _ _).drew)
          (first | (go_at_call 20; refine (OB.out _ (by first | assumption | (go_split_ands; assumption))).mono ?_; rintro e w6 ⟨rfl, hb⟩))
      all_goals
        have B6x : Below wr.heap.size wr w6 := by (go_split_ands; assumption)
        have B6 := Lib.hid B6x
        clear B6x
        have hat' := HAt.out.later B6.out
        have c3 := (hat'.cells K.out.1).2.2.2
        have d3 := (hat'.cells K.out.2).2.2.2
        rw [HU.out.1] at c3
        rw [HU.out.2] at d3
        clear hat'
        have BW : Hid (Below w2.heap.size w2 w6) := hB.out.trans (B6.out.mono hB.out.size)
        by_cases hxy : x < y
        · have HR : Hid (bestTo s l wd ht L (k + 1) = k) := by show bestTo s l wd ht L (k + 1) = k; rw [HS.out, if_pos (HK.out.2 (Or.inl hxy))]
          go_wp2_with fail
          go_quiet (first | fail)
          all_goals
            go_wp2
            go_roundw
            case rel => exact ⟨k + 1, by omega, by omega, by rw [HR.out], by go_num, below_drewN BW.out _⟩
            case measure => simp [intOf]; omega
        · by_cases heq : x = y
          · by_cases huv : u < v
            · have HR : Hid (bestTo s l wd ht L (k + 1) = k) := by show bestTo s l wd ht L (k + 1) = k; rw [HS.out, if_pos (HK.out.2 (Or.inr ⟨heq, by rw [HU.out.1, HU.out.2]; exact huv⟩))]
              go_wp2_with fail
              go_quiet (first | fail)
              all_goals
                go_wp2
                go_roundw
                case rel => exact ⟨k + 1, by omega, by omega, by rw [HR.out], by go_num, below_drewN BW.out _⟩
                case measure => simp [intOf]; omega
            · have HR : Hid (bestTo s l wd ht L (k + 1) = n) := by show bestTo s l wd ht L (k + 1) = n; rw [HS.out, if_neg (fun h => by rcases HK.out.1 h with h | h; exact hxy h; rw [HU.out.1, HU.out.2] at h; exact huv h.2)]
              go_wp2_with fail
              go_quiet (first | fail)
              all_goals
                go_wp2
                go_roundw
                case rel => exact ⟨k + 1, by omega, by omega, by rw [HR.out], by go_num, below_drewN BW.out _⟩
                case measure => simp [intOf]; omega
          · have HR : Hid (bestTo s l wd ht L (k + 1) = n) := by show bestTo s l wd ht L (k + 1) = n; rw [HS.out, if_neg (fun h => by rcases HK.out.1 h with h | h; exact hxy h; exact heq h.1)]
            go_wp2_with fail
            go_quiet (first | fail)
            all_goals
              go_wp2
              go_roundw
              case rel => exact ⟨k + 1, by omega, by omega, by rw [HR.out], by go_num, below_drewN BW.out _⟩
              case measure => simp [intOf]; omega
    · have hge : ¬ (k : Int) < (L.length : Int) := by omega
      have hkn : k = L.length := by omega
      subst hkn
      go_wp2
      go_ret2
      exact ⟨rfl, HY.out⟩
end Go.Proofs.Ytcjmdmkcipiabaa
