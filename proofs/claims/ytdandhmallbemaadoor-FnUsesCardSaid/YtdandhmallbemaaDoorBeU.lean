/-
  The best mould: the model's answer.
-/
import Derived.Test.YtdandhmallbemaaDoorBeP
import Derived.Test.YtdandhmallbemaaDoorMoV
import Derived.Test.YtdandhmallbemaaDoorC2a
import Derived.Deep.QuietTactic
import Derived.Deep.RegionWith
import Derived.Test.YtdandhmallbemaaDoorBeI
import Derived.Deep.RegionHeld3
import Derived.BigQuiet
namespace Go.Proofs.YtdandhmallbemaaDoor
open Go.ChangeShapes Go.WideShapes Go.ChangeAt Go.RowKit Go.Joins

theorem sz3_spec (x y : Int) (hx : 0 ≤ x ∧ x ≤ 1000) (hy : 0 ≤ y ∧ y ≤ 1000) (w : World) : Calls Tryd.prog 61 #[.int .i64 (x - y)] w fun e w' => e = .returned (.int .i64 (absD x y)) ∧ w' = w := by
  by_cases h : x - y < 0
  all_goals
    go_enter Tryd.func61, Tryd.ntmps61
    go_wp2
    go_ret
    exact ⟨ret_int (by unfold absD; omega), rfl⟩

set_option maxRecDepth 100000 in
set_option maxHeartbeats 3200000 in
theorem off_spec (c : Mo) (hok : c.ok = true) (l wd ht j s : Int) (hf : okB l wd ht j = true) (s0 : 0 ≤ s) (s1 : s ≤ 200) (b o : Nat) (w : World) (c0 : w.cell? ⟨b, o, none⟩ = some (.int .i64 c.le)) (c1 : w.cell? ⟨b, o + 1, none⟩ = some (.int .i64 c.wi)) (c2 : w.cell? ⟨b, o + 2, none⟩ = some (.int .i64 c.he)) :
    Calls Tryd.prog 43 #[.pointer (some ⟨b, o, none⟩), .agg #[.int .i64 l, .int .i64 wd, .int .i64 ht, .int .i64 j], .int .i64 s] w fun e w' => e = .returned (.int .i64 (offF c s l wd ht)) ∧ Below w.heap.size w w' := by
  have hb : b < w.heap.size := World.block_lt_of_cell? w _ c0
  have B0 := Lib.hid (balloc0 w (.cells #[.int .i64 l, .int .i64 wd, .int .i64 ht, .int .i64 j] 31))
  have AL := Lib.hid (all_spec c hok s s0 s1 b o (w.alloc (.cells #[.int .i64 l, .int .i64 wd, .int .i64 ht, .int .i64 j] 31)) ((World.cell?_alloc_lt _ _ _ hb).trans c0) ((World.cell?_alloc_lt _ _ _ hb).trans c1) ((World.cell?_alloc_lt _ _ _ hb).trans c2))
  have r0 := firedL_range hok s0 s1 (k := 0) (x := firedF c.le s) rfl
  have r1 := firedL_range hok s0 s1 (k := 1) (x := firedF c.wi s) rfl
  have r2 := firedL_range hok s0 s1 (k := 2) (x := firedF c.he s) rfl
  have q0 := okB_size hf (k := 0) (y := l) rfl
  have q1 := okB_size hf (k := 1) (y := wd) rfl
  have q2 := okB_size hf (k := 2) (y := ht) rfl
  have S0 := Lib.hid (sz3_spec (firedF c.le s) l r0 q0)
  have S1 := Lib.hid (sz3_spec (firedF c.wi s) wd r1 q1)
  have S2 := Lib.hid (sz3_spec (firedF c.he s) ht r2 q2)
  have p0 := absD_range r0 q0
  have p1 := absD_range r1 q1
  have p2 := absD_range r2 q2
  have HL : firedL c s = [firedF c.le s, firedF c.wi s, firedF c.he s] := rfl
  rw [HL] at AL
  unfold offF
  obtain ⟨x0, e0⟩ : ∃ x, firedF c.le s = x := ⟨_, rfl⟩
  obtain ⟨x1, e1⟩ : ∃ x, firedF c.wi s = x := ⟨_, rfl⟩
  obtain ⟨x2, e2⟩ : ∃ x, firedF c.he s = x := ⟨_, rfl⟩
  rw [e0] at S0 r0 AL p0 ⊢
  rw [e1] at S1 r1 AL p1 ⊢
  rw [e2] at S2 r2 AL p2 ⊢
  obtain ⟨d0, f0⟩ : ∃ d, absD x0 l = d := ⟨_, rfl⟩
  obtain ⟨d1, f1⟩ : ∃ d, absD x1 wd = d := ⟨_, rfl⟩
  obtain ⟨d2, f2⟩ : ∃ d, absD x2 ht = d := ⟨_, rfl⟩
  rw [f0] at S0 p0 ⊢
  rw [f1] at S1 p1 ⊢
  rw [f2] at S2 p2 ⊢
  have v0 : IntKind.i64.wrap (x0 - l) = x0 - l := IntWalk.i64_in _ (by omega)
  have v1 : IntKind.i64.wrap (x1 - wd) = x1 - wd := IntWalk.i64_in _ (by omega)
  have v2 : IntKind.i64.wrap (x2 - ht) = x2 - ht := IntWalk.i64_in _ (by omega)
  have v3 : IntKind.i64.wrap (d0 + d1) = d0 + d1 := IntWalk.i64_in _ (by omega)
  have v4 : IntKind.i64.wrap (d0 + d1 + d2) = d0 + d1 + d2 := IntWalk.i64_in _ (by omega)
  clear HL e0 e1 e2 f0 f1 f2 c0 c1 c2 hok hf s0 s1 r0 r1 r2 q0 q1 q2 p0 p1 p2
  go_enter Tryd.func43, Tryd.ntmps43
  go_wp2_with fail
  refine AL.out.mono ?_
  rintro e w1 ⟨g, cp, rfl, o1, hb1⟩
  have B1 := Lib.hid (bnext B0.out hb1)
  have y0 := o1.2.1 0 x0 rfl
  have y1 := o1.2.1 1 x1 rfl
  have y2 := o1.2.1 2 x2 rfl
  simp only [Nat.zero_add] at y0 y1 y2
  obtain ⟨hc1, hf1⟩ := bcell hb1
  have z0 : w1.cell? ⟨w.heap.size, 0, none⟩ = some (.int .i64 l) := (hc1 w.heap.size 0 (by simp)).trans (by simp)
  have z1 : w1.cell? ⟨w.heap.size, 1, none⟩ = some (.int .i64 wd) := (hc1 w.heap.size 1 (by simp)).trans (by simp)
  have z2 : w1.cell? ⟨w.heap.size, 2, none⟩ = some (.int .i64 ht) := (hc1 w.heap.size 2 (by simp)).trans (by simp)
  clear hb1 hc1 hf1 o1
  go_wp2
  go_quiet (first | (go_at_call_of 61 (Value.int .i64 (x0 - l)); exact Calls.quiet_of_same (S0.out _)) | (go_at_call_of 61 (Value.int .i64 (x1 - wd)); exact Calls.quiet_of_same (S1.out _)) | (go_at_call_of 61 (Value.int .i64 (x2 - ht)); exact Calls.quiet_of_same (S2.out _)))
  go_wp2
  go_ret
  exact ⟨rfl, below_drewN B1.out _⟩
end Go.Proofs.YtdandhmallbemaaDoor
/-
  The best mould: the model's answer, whole.
-/
namespace Go.Proofs.YtdandhmallbemaaDoor
open Go.ChangeShapes Go.WideShapes Go.ChangeAt Go.RowKit Go.Joins
theorem keepF_call {C b : Nat} {v w1 w2 : World} {l wd ht j : Int} (hlt : b < C) (h : w1.cell? ⟨b, 0, none⟩ = some (.int .i64 l) ∧ w1.cell? ⟨b, 1, none⟩ = some (.int .i64 wd) ∧ w1.cell? ⟨b, 2, none⟩ = some (.int .i64 ht) ∧ w1.cell? ⟨b, 3, none⟩ = some (.int .i64 j) ∧ Below C v w1 ∧ C ≤ w1.heap.size) (hb : Below w1.heap.size w1 w2) : w2.cell? ⟨b, 0, none⟩ = some (.int .i64 l) ∧ w2.cell? ⟨b, 1, none⟩ = some (.int .i64 wd) ∧ w2.cell? ⟨b, 2, none⟩ = some (.int .i64 ht) ∧ w2.cell? ⟨b, 3, none⟩ = some (.int .i64 j) ∧ Below C v w2 ∧ C ≤ w2.heap.size := by
  obtain ⟨h0, h1, h2, h3, h4, h5⟩ := h
  exact ⟨(hb.cell (p := ⟨b, 0, none⟩) (show b < w1.heap.size by omega)).trans h0, (hb.cell (p := ⟨b, 1, none⟩) (show b < w1.heap.size by omega)).trans h1, (hb.cell (p := ⟨b, 2, none⟩) (show b < w1.heap.size by omega)).trans h2, (hb.cell (p := ⟨b, 3, none⟩) (show b < w1.heap.size by omega)).trans h3, h4.trans (hb.mono h5), Nat.le_trans h5 hb.size⟩
set_option maxRecDepth 100000 in
set_option maxHeartbeats 12800000 in
theorem be_spec (L : List Mo) (a : Option Addr) (cap : Nat) (hl : L.length ≤ 1048576) (l wd ht j s : Int) (w : World) (ha : MoArg w a L) : Calls Tryd.prog 10 #[.slice a L.length cap, .agg #[.int .i64 l, .int .i64 wd, .int .i64 ht, .int .i64 j], .int .i64 s] w fun e w' => e = .returned (.tuple #[.int .i64 (beN L l wd ht j s), .int .i64 (beC L l wd ht j s)]) ∧ Below w.heap.size w w' := by
  have X := Lib.hid (box_f w l wd ht j)
  have HB0 := Lib.hid (balloc0 w (.cells #[.int .i64 l, .int .i64 wd, .int .i64 ht, .int .i64 j] 31))
  have HA : Hid (∀ wx, Below w.heap.size w wx → MoArg wx a L) := fun wx h => ha.later h
  obtain ⟨W0, hW⟩ : ∃ W0, w.alloc (.cells #[.int .i64 l, .int .i64 wd, .int .i64 ht, .int .i64 j] 31) = W0 := ⟨_, rfl⟩
  rw [hW] at X HB0
  have HW := Lib.hid hW
  clear hW ha
  have C1 := Lib.hid (okM_spec L a cap hl W0 (HA.out _ HB0.out))
  have C2 := Lib.hid (l02ok l wd ht j)
  have I1 := Lib.hid (in_any s 0 200)
  cases h1 : okMos L
  · have E : Hid (beC L l wd ht j s = 1) := by show beC L l wd ht j s = 1; simp [beC, h1]
    rw [E.out, be_bad E.out (by omega)]
    rw [h1] at C1
    clear h1
    go_enter Tryd.func10, Tryd.ntmps10
    go_wp2_with fail
    rw [HW.out]
    refine C1.out.mono ?_
    rintro e w1 ⟨rfl, hb1⟩
    have B1 := Lib.hid hb1
    clear hb1
    go_wp2
    go_ret2
    exact ⟨rfl, HB0.out.trans (B1.out.mono HB0.out.size)⟩
  cases h2 : okB l wd ht j
  · have E : Hid (beC L l wd ht j s = 1) := by show beC L l wd ht j s = 1; simp [beC, h2]
    rw [E.out, be_bad E.out (by omega)]
    rw [h1] at C1
    rw [h2] at C2
    clear h1 h2
    go_enter Tryd.func10, Tryd.ntmps10
    go_wp2_with fail
    rw [HW.out]
    refine C1.out.mono ?_
    rintro e w1 ⟨rfl, hb1⟩
    have B1 := Lib.hid hb1
    clear hb1
    obtain ⟨f0, f1, f2, f3⟩ := X.out _ B1.out
    go_wp2_with fail
    refine (C2.out _).mono ?_
    rintro e w2 ⟨rfl, hb2⟩
    have B2 := Lib.hid (bnext B1.out hb2)
    clear hb2 f0 f1 f2 f3
    go_wp2
    go_ret2
    exact ⟨rfl, HB0.out.trans (B2.out.mono HB0.out.size)⟩
  cases h3 : inB s 0 200
  · have E : Hid (beC L l wd ht j s = 2) := by show beC L l wd ht j s = 2; simp [beC, h1, h2, h3]
    rw [E.out, be_bad E.out (by omega)]
    rw [h1] at C1
    rw [h2] at C2
    rw [h3] at I1
    clear h1 h2 h3
    go_enter Tryd.func10, Tryd.ntmps10
    go_wp2_with fail
    rw [HW.out]
    refine C1.out.mono ?_
    rintro e w1 ⟨rfl, hb1⟩
    have B1 := Lib.hid hb1
    clear hb1
    obtain ⟨f0, f1, f2, f3⟩ := X.out _ B1.out
    go_wp2_with fail
    refine (C2.out _).mono ?_
    rintro e w2 ⟨rfl, hb2⟩
    have B2 := Lib.hid (bnext B1.out hb2)
    clear hb2 f0 f1 f2 f3
    go_wp2_with fail
    refine (I1.out _).mono ?_
    rintro e w3 ⟨rfl, rfl⟩
    go_wp2
    go_ret2
    exact ⟨rfl, HB0.out.trans (B2.out.mono HB0.out.size)⟩
  by_cases h4 : L.length = 0
  · have E : Hid (beC L l wd ht j s = 3) := by show beC L l wd ht j s = 3; simp [beC, h1, h2, h3, h4]
    rw [E.out, be_bad E.out (by omega)]
    rw [h1] at C1
    rw [h2] at C2
    rw [h3] at I1
    have H5 : Hid ((L.length : Int) = 0) := by show (L.length : Int) = 0; omega
    clear h1 h2 h3 h4
    go_enter Tryd.func10, Tryd.ntmps10
    go_wp2_with fail
    rw [HW.out]
    refine C1.out.mono ?_
    rintro e w1 ⟨rfl, hb1⟩
    have B1 := Lib.hid hb1
    clear hb1
    obtain ⟨f0, f1, f2, f3⟩ := X.out _ B1.out
    go_wp2_with fail
    refine (C2.out _).mono ?_
    rintro e w2 ⟨rfl, hb2⟩
    have B2 := Lib.hid (bnext B1.out hb2)
    clear hb2 f0 f1 f2 f3
    go_wp2_with fail
    refine (I1.out _).mono ?_
    rintro e w3 ⟨rfl, rfl⟩
    have h5 := H5.out
    go_wp2
    go_ret2
    exact ⟨rfl, HB0.out.trans (B2.out.mono HB0.out.size)⟩
  have E : Hid (beC L l wd ht j s = 0) := by show beC L l wd ht j s = 0; simp [beC, h1, h2, h3, h4]
  rw [E.out, be_good E.out]
  obtain ⟨s0, s1⟩ := inB_true.1 h3
  have hpos : 0 < L.length := by omega
  have h5 : ¬ (L.length : Int) = 0 := by omega
  have h6 : ((L.length : Int) == 0) = false := beq_eq_false_iff_ne.2 h5
  have hl20 := (okMos_all h1).1
  have HOK : Hid (∀ k, k < L.length → (atM L k).ok = true) := fun k hk => (okMos_all h1).2 k _ (atM_get hk)
  have OF : Hid (∀ (c : Mo) (b o : Nat) (wx : World), c.ok = true → wx.cell? ⟨b, o, none⟩ = some (.int .i64 c.le) → wx.cell? ⟨b, o + 1, none⟩ = some (.int .i64 c.wi) → wx.cell? ⟨b, o + 2, none⟩ = some (.int .i64 c.he) → Calls Tryd.prog 43 #[.pointer (some ⟨b, o, none⟩), .agg #[.int .i64 l, .int .i64 wd, .int .i64 ht, .int .i64 j], .int .i64 s] wx fun e w' => e = .returned (.int .i64 (offF c s l wd ht)) ∧ Below wx.heap.size wx w') := fun c b o wx hc c0 c1 c2 => off_spec c hc l wd ht j s h2 s0 s1 b o wx c0 c1 c2
  rw [h1] at C1
  rw [h2] at C2
  rw [h3] at I1
  clear h1 h2 h3 h4 s0 s1
  go_enter Tryd.func10, Tryd.ntmps10
  go_wp2_with fail
  rw [HW.out]
  refine C1.out.mono ?_
  rintro e w1 ⟨rfl, hb1⟩
  have B1 := Lib.hid hb1
  clear hb1
  obtain ⟨f0, f1, f2, f3⟩ := X.out _ B1.out
  go_wp2_with fail
  refine (C2.out _).mono ?_
  rintro e w2 ⟨rfl, hb2⟩
  have B2 := Lib.hid (bnext B1.out hb2)
  clear hb2 f0 f1 f2 f3
  go_wp2_with fail
  refine (I1.out _).mono ?_
  rintro e w3 ⟨rfl, rfl⟩
  go_wp2
  go_loopw [8, 9] (fun v i wr => ∃ k : Nat, 1 ≤ k ∧ k ≤ L.length ∧ v = .int .i64 ((bestTo s l wd ht L k : Nat) : Int) ∧ i = .int .i64 (k : Int) ∧ Hid (Below w2.heap.size w2 wr)) (fun _ i _ => L.length - (intOf i).toNat)
  case atStart => exact ⟨1, by omega, by omega, rfl, rfl, Below.refl _ _⟩
  case round =>
    obtain ⟨k, hk1, hk, rfl, rfl, hB⟩ := hrel
    have HX := Lib.hid (B2.out.trans (hB.out.mono B2.out.size))
    have HY := Lib.hid (HB0.out.trans (HX.out.mono HB0.out.size))
    by_cases hlt : k < L.length
    · have hlt' : (k : Int) < (L.length : Int) := by omega
      have hk0 : (0 : Int) ≤ (k : Int) := by omega
      have hbl := bestTo_lt s l wd ht L k hk1
      have HS := Lib.hid (bestTo_step (s := s) (l := l) (wd := wd) (ht := ht) (L := L) hk1)
      obtain ⟨n, hn⟩ : ∃ n, bestTo s l wd ht L k = n := ⟨_, rfl⟩
      rw [hn] at hbl HS ⊢
      have hnL : n < L.length := by omega
      have hn1 : (n : Int) < (L.length : Int) := by omega
      have hn0 : (0 : Int) ≤ (n : Int) := by omega
      obtain ⟨b, o, c, rfl, hc, hat⟩ := (HA.out _ HY.out).at hlt
      have hca := atM_eq hc
      have hd := atM_get hnL
      obtain ⟨d, hda⟩ : ∃ d, atM L n = d := ⟨_, rfl⟩
      rw [hda] at hd
      have kc := HOK.out k hlt
      have kd := HOK.out n hnL
      rw [hca] at kc HS
      rw [hda] at kd HS
      obtain ⟨c0, c1, c2, c3⟩ := hat.cells hc
      obtain ⟨d0, d1, d2, d3⟩ := hat.cells hd
      have K := Lib.hid (And.intro hc hd)
      have OA := Lib.hid (OF.out c b (o + k * 4) wr kc c0 c1 c2)
      have HAt := Lib.hid hat
      obtain ⟨x, hx⟩ : ∃ x, offF c s l wd ht = x := ⟨_, rfl⟩
      obtain ⟨y, hy⟩ : ∃ y, offF d s l wd ht = y := ⟨_, rfl⟩
      have OB : Hid (∀ wx, Below wr.heap.size wr wx → Calls Tryd.prog 43 #[.pointer (some ⟨b, o + n * 4, none⟩), .agg #[.int .i64 l, .int .i64 wd, .int .i64 ht, .int .i64 j], .int .i64 s] wx fun e w' => e = .returned (.int .i64 y) ∧ Below wx.heap.size wx w') := fun wx h => by
        have hat' := HAt.out.later h
        obtain ⟨d0, d1, d2, d3⟩ := hat'.cells hd
        have := OF.out d b (o + n * 4) wx kd d0 d1 d2
        rw [hy] at this
        exact this
      have OA2 : Hid (∀ wx, Below wr.heap.size wr wx → Calls Tryd.prog 43 #[.pointer (some ⟨b, o + k * 4, none⟩), .agg #[.int .i64 l, .int .i64 wd, .int .i64 ht, .int .i64 j], .int .i64 s] wx fun e w' => e = .returned (.int .i64 x) ∧ Below wx.heap.size wx w') := fun wx h => by
        have hat' := HAt.out.later h
        obtain ⟨d0, d1, d2, d3⟩ := hat'.cells hc
        have := OF.out c b (o + k * 4) wx kc d0 d1 d2
        rw [hx] at this
        exact this
      have HK : Hid (keyLt s l wd ht c d ↔ (x < y ∨ (x = y ∧ c.us < d.us))) := by show keyLt s l wd ht c d ↔ _; unfold keyLt; rw [hx, hy]
      obtain ⟨f0, f1, f2, f3⟩ := X.out _ HX.out
      clear hc hd hca hda kc kd hat c0 c1 c2 c3 d0 d1 d2 d3 hx hy OA
      obtain ⟨u, hu⟩ : ∃ u, c.us = u := ⟨_, rfl⟩
      obtain ⟨v, hv⟩ : ∃ v, d.us = v := ⟨_, rfl⟩
      have HU := Lib.hid (And.intro hu hv)
      clear hu hv
      go_wp2_with fail
      have hbl := World.block_lt_of_cell? wr _ f0
      go_region_held3 (fun w' => w'.cell? ⟨w.heap.size, 0, none⟩ = some (.int .i64 l) ∧ w'.cell? ⟨w.heap.size, 1, none⟩ = some (.int .i64 wd) ∧ w'.cell? ⟨w.heap.size, 2, none⟩ = some (.int .i64 ht) ∧ w'.cell? ⟨w.heap.size, 3, none⟩ = some (.int .i64 j) ∧ Below wr.heap.size wr w' ∧ wr.heap.size ≤ w'.heap.size)
        (first | exact keepF_call hbl (by assumption) hb | assumption | exact ⟨f0, f1, f2, f3, (Below.refl _ _).drew, Nat.le_refl _⟩)
        (first | (go_at_call 43; refine (OA2.out _ (by first | assumption | (go_split_ands; assumption))).mono ?_; rintro e w5 ⟨rfl, hb⟩))
      all_goals
        go_wp2_with fail
        go_region_held3 (fun w' => w'.cell? ⟨w.heap.size, 0, none⟩ = some (.int .i64 l) ∧ w'.cell? ⟨w.heap.size, 1, none⟩ = some (.int .i64 wd) ∧ w'.cell? ⟨w.heap.size, 2, none⟩ = some (.int .i64 ht) ∧ w'.cell? ⟨w.heap.size, 3, none⟩ = some (.int .i64 j) ∧ Below wr.heap.size wr w' ∧ wr.heap.size ≤ w'.heap.size)
          (first | exact keepF_call hbl (by assumption) hb | assumption | exact keepF_call hbl (by assumption) (Below.refl _ _).drew)
          (first | (go_at_call 43; refine (OB.out _ (by first | assumption | (go_split_ands; assumption))).mono ?_; rintro e w6 ⟨rfl, hb⟩))
      all_goals
        have B6x : Below wr.heap.size wr w6 := by (go_split_ands; assumption)
        have B6 := Lib.hid B6x
        clear B6x
        have hat' := HAt.out.later B6.out
        have c3 := (hat'.cells K.out.1).2.2.2
        have d3 := (hat'.cells K.out.2).2.2.2
        rw [HU.out.1] at c3
        rw [HU.out.2] at d3
        clear hat'
        have BW : Hid (Below w2.heap.size w2 w6) := hB.out.trans (B6.out.mono hB.out.size)
        by_cases hxy : x < y
        · have HR : Hid (bestTo s l wd ht L (k + 1) = k) := by show bestTo s l wd ht L (k + 1) = k; rw [HS.out, if_pos (HK.out.2 (Or.inl hxy))]
          go_wp2_with fail
          go_quiet (first | fail)
          all_goals
            go_wp2
            go_roundw
            case rel => exact ⟨k + 1, by omega, by omega, by rw [HR.out], by go_num, below_drewN BW.out _⟩
            case measure => simp [intOf]; omega
        · by_cases heq : x = y
          · by_cases huv : u < v
            · have HR : Hid (bestTo s l wd ht L (k + 1) = k) := by show bestTo s l wd ht L (k + 1) = k; rw [HS.out, if_pos (HK.out.2 (Or.inr ⟨heq, by rw [HU.out.1, HU.out.2]; exact huv⟩))]
              go_wp2_with fail
              go_quiet (first | fail)
              all_goals
                go_wp2
                go_roundw
                case rel => exact ⟨k + 1, by omega, by omega, by rw [HR.out], by go_num, below_drewN BW.out _⟩
                case measure => simp [intOf]; omega
            · have HR : Hid (bestTo s l wd ht L (k + 1) = n) := by show bestTo s l wd ht L (k + 1) = n; rw [HS.out, if_neg (fun h => by rcases HK.out.1 h with h | h; exact hxy h; rw [HU.out.1, HU.out.2] at h; exact huv h.2)]
              go_wp2_with fail
              go_quiet (first | fail)
              all_goals
                go_wp2
                go_roundw
                case rel => exact ⟨k + 1, by omega, by omega, by rw [HR.out], by go_num, below_drewN BW.out _⟩
                case measure => simp [intOf]; omega
          · have HR : Hid (bestTo s l wd ht L (k + 1) = n) := by show bestTo s l wd ht L (k + 1) = n; rw [HS.out, if_neg (fun h => by rcases HK.out.1 h with h | h; exact hxy h; exact heq h.1)]
            go_wp2_with fail
            go_quiet (first | fail)
            all_goals
              go_wp2
              go_roundw
              case rel => exact ⟨k + 1, by omega, by omega, by rw [HR.out], by go_num, below_drewN BW.out _⟩
              case measure => simp [intOf]; omega
    · have hge : ¬ (k : Int) < (L.length : Int) := by omega
      have hkn : k = L.length := by omega
      subst hkn
      go_wp2
      go_ret2
      exact ⟨rfl, HY.out⟩
end Go.Proofs.YtdandhmallbemaaDoor
