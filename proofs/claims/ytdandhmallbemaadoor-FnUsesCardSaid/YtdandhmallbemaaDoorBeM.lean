/-
  The best mould: slices.MinFunc at moulds.
-/
import Derived.Test.YtdandhmallbemaaDoorBeC
import Derived.Test.YtdandhmallbemaaDoorMoU
namespace Go.Proofs.YtdandhmallbemaaDoor
open Go.ChangeShapes Go.WideShapes Go.ChangeAt Go.RowKit Go.Joins

theorem keepM_call {B b o : Nat} {w w1 w2 : World} {c d : Mo} (hbB : b < B) (h : w1.cell? ⟨b, o, none⟩ = some (.int .i64 c.le) ∧ w1.cell? ⟨b, o + 1, none⟩ = some (.int .i64 c.wi) ∧ w1.cell? ⟨b, o + 2, none⟩ = some (.int .i64 c.he) ∧ w1.cell? ⟨b, o + 3, none⟩ = some (.int .i64 c.us) ∧ w1.cell? ⟨B + 1, 0, none⟩ = some (.int .i64 d.le) ∧ w1.cell? ⟨B + 1, 1, none⟩ = some (.int .i64 d.wi) ∧ w1.cell? ⟨B + 1, 2, none⟩ = some (.int .i64 d.he) ∧ w1.cell? ⟨B + 1, 3, none⟩ = some (.int .i64 d.us) ∧ Below B w w1 ∧ B + 2 ≤ w1.heap.size) (hb : Below w1.heap.size w1 w2) : w2.cell? ⟨b, o, none⟩ = some (.int .i64 c.le) ∧ w2.cell? ⟨b, o + 1, none⟩ = some (.int .i64 c.wi) ∧ w2.cell? ⟨b, o + 2, none⟩ = some (.int .i64 c.he) ∧ w2.cell? ⟨b, o + 3, none⟩ = some (.int .i64 c.us) ∧ w2.cell? ⟨B + 1, 0, none⟩ = some (.int .i64 d.le) ∧ w2.cell? ⟨B + 1, 1, none⟩ = some (.int .i64 d.wi) ∧ w2.cell? ⟨B + 1, 2, none⟩ = some (.int .i64 d.he) ∧ w2.cell? ⟨B + 1, 3, none⟩ = some (.int .i64 d.us) ∧ Below B w w2 ∧ B + 2 ≤ w2.heap.size := by
  obtain ⟨h0, h1, h2, h3, h4, h5, h6, h7, h8, h9⟩ := h
  exact ⟨(hb.cell (p := ⟨b, o, none⟩) (show b < w1.heap.size by omega)).trans h0, (hb.cell (p := ⟨b, o + 1, none⟩) (show b < w1.heap.size by omega)).trans h1, (hb.cell (p := ⟨b, o + 2, none⟩) (show b < w1.heap.size by omega)).trans h2, (hb.cell (p := ⟨b, o + 3, none⟩) (show b < w1.heap.size by omega)).trans h3, (hb.cell (p := ⟨B + 1, 0, none⟩) (show B + 1 < w1.heap.size by omega)).trans h4, (hb.cell (p := ⟨B + 1, 1, none⟩) (show B + 1 < w1.heap.size by omega)).trans h5, (hb.cell (p := ⟨B + 1, 2, none⟩) (show B + 1 < w1.heap.size by omega)).trans h6, (hb.cell (p := ⟨B + 1, 3, none⟩) (show B + 1 < w1.heap.size by omega)).trans h7, h8.trans (hb.mono (by omega)), Nat.le_trans h9 hb.size⟩
set_option maxRecDepth 100000 in
set_option maxHeartbeats 6400000 in
theorem min_impl (L : List Mo) (b o cap : Nat) (hpos : 0 < L.length) (hl : L.length ≤ 20) (l wd ht j s : Int) (hf : okB l wd ht j = true) (s0 : 0 ≤ s) (s1 : s ≤ 200) (hok : ∀ k, k < L.length → (atM L k).ok = true) (w : World) (ha : MoAt w b o L) :
    Calls Tryd.prog 39 #[.slice (some ⟨b, o, none⟩) L.length cap, .func (.func 40) #[.agg #[.int .i64 l, .int .i64 wd, .int .i64 ht, .int .i64 j, .int .i64 s]] #[]] w fun e w' => e = .returned (.agg #[.int .i64 (atM L (bestTo s l wd ht L L.length)).le, .int .i64 (atM L (bestTo s l wd ht L L.length)).wi, .int .i64 (atM L (bestTo s l wd ht L L.length)).he, .int .i64 (atM L (bestTo s l wd ht L L.length)).us]) ∧ Below w.heap.size w w' := by
  have CMP : Hid (∀ (c d : Mo) (wx : World), c.ok = true → d.ok = true → Calls Tryd.prog 40 #[.agg #[.int .i64 l, .int .i64 wd, .int .i64 ht, .int .i64 j, .int .i64 s], .agg #[.int .i64 c.le, .int .i64 c.wi, .int .i64 c.he, .int .i64 c.us], .agg #[.int .i64 d.le, .int .i64 d.wi, .int .i64 d.he, .int .i64 d.us]] wx fun e w' => e = .returned (.int .i64 (cmpV s l wd ht c d)) ∧ Below wx.heap.size wx w') := fun c d wx hc hd => compare_impl l wd ht j s hf s0 s1 c d hc hd wx
  have HOK := Lib.hid hok
  have HA : Hid (∀ wx, Below w.heap.size w wx → MoAt wx b o L) := fun wx h => ha.later h
  have hbw : b < w.heap.size := World.block_lt_of_cell? w _ (ha.cells (atM_get hpos)).1
  obtain ⟨c0, c1, c2, c3⟩ := ((ha.later (balloc0 w (.cells #[.int .i64 0, .int .i64 0, .int .i64 0, .int .i64 0] 47))).cells (atM_get hpos))
  simp only [Nat.zero_mul, Nat.add_zero] at c0 c1 c2 c3
  obtain ⟨d, hd⟩ : ∃ d, atM L 0 = d := ⟨_, rfl⟩
  rw [hd] at c0 c1 c2 c3
  have O1 : Hid (MoOwn w.heap.size [d] (w.heap.size + 1) ((w.alloc (.cells #[.int .i64 0, .int .i64 0, .int .i64 0, .int .i64 0] 47)).alloc (.cells #[.int .i64 d.le, .int .i64 d.wi, .int .i64 d.he, .int .i64 d.us] 47))) := ⟨by omega, one_mould (range_new2 w _ #[.int .i64 d.le, .int .i64 d.wi, .int .i64 d.he, .int .i64 d.us] 47), (by have h := there_new (w.alloc (.cells #[.int .i64 0, .int .i64 0, .int .i64 0, .int .i64 0] 47)) #[.int .i64 d.le, .int .i64 d.wi, .int .i64 d.he, .int .i64 d.us] 47 4 rfl; rwa [show (w.alloc (.cells #[.int .i64 0, .int .i64 0, .int .i64 0, .int .i64 0] 47)).heap.size = w.heap.size + 1 by simp] at h), by simp⟩
  have R1 : Hid (((w.alloc (.cells #[.int .i64 0, .int .i64 0, .int .i64 0, .int .i64 0] 47)).alloc (.cells #[.int .i64 d.le, .int .i64 d.wi, .int .i64 d.he, .int .i64 d.us] 47)).there w.heap.size 0 4) := there_below (there_new w #[.int .i64 0, .int .i64 0, .int .i64 0, .int .i64 0] 47 4 rfl) (balloc0 _ _)
  have B1 := Lib.hid (balloc (balloc0 w (.cells #[.int .i64 0, .int .i64 0, .int .i64 0, .int .i64 0] 47)) (.cells #[.int .i64 d.le, .int .i64 d.wi, .int .i64 d.he, .int .i64 d.us] 47))
  have hpos' : (0 : Int) < (L.length : Int) := by omega
  have hpos2 : ¬ (L.length : Int) < 1 := by omega
  obtain ⟨W1, hW⟩ : ∃ W1, (w.alloc (.cells #[.int .i64 0, .int .i64 0, .int .i64 0, .int .i64 0] 47)).alloc (.cells #[.int .i64 d.le, .int .i64 d.wi, .int .i64 d.he, .int .i64 d.us] 47) = W1 := ⟨_, rfl⟩
  rw [hW] at O1 R1 B1
  have HW := Lib.hid hW
  have HD0 := Lib.hid hd
  clear ha hok hf s0 s1 hW hd
  go_enter Tryd.func39, Tryd.ntmps39
  go_wp2
  rw [HW.out]
  clear c0 c1 c2 c3
  go_loopw [6] (fun i wr => ∃ (k : Nat), 1 ≤ k ∧ k ≤ L.length ∧ i = .int .i64 (k : Int) ∧ Hid (MoOwn w.heap.size [atM L (bestTo s l wd ht L k)] (w.heap.size + 1) wr) ∧ Hid (wr.there w.heap.size 0 4) ∧ Hid (Below w.heap.size w wr)) (fun i _ => L.length - (intOf i).toNat)
  case atStart => exact ⟨1, by omega, by omega, rfl, by rw [bestTo_one, HD0.out]; exact O1.out, R1.out, B1.out⟩
  case round =>
    obtain ⟨k, hk1, hk, rfl, hO, hR, hB⟩ := hrel
    by_cases hlt : k < L.length
    · have hlt' : (k : Int) < (L.length : Int) := by omega
      have hk0 : (0 : Int) ≤ (k : Int) := by omega
      have hbl := bestTo_lt s l wd ht L k hk1
      have HS := Lib.hid (bestTo_step (s := s) (l := l) (wd := wd) (ht := ht) (L := L) hk1)
      have kd := HOK.out _ (show bestTo s l wd ht L k < L.length by omega)
      have kc := HOK.out k hlt
      have hc := atM_get hlt
      obtain ⟨n, hn⟩ : ∃ n, bestTo s l wd ht L k = n := ⟨_, rfl⟩
      rw [hn] at hO HS hbl kd
      obtain ⟨d, hd⟩ : ∃ d, atM L n = d := ⟨_, rfl⟩
      obtain ⟨c, hcc⟩ : ∃ c, atM L k = c := ⟨_, rfl⟩
      rw [hd] at hO kd HS
      rw [hcc] at kc hc HS
      obtain ⟨c0, c1, c2, c3⟩ := (HA.out _ hB.out).cells hc
      obtain ⟨d0, d1, d2, d3⟩ := hO.out.2.1.cells (k := 0) rfl
      simp only [Nat.zero_mul, Nat.zero_add] at d0 d1 d2 d3
      have hsz : w.heap.size + 2 ≤ wr.heap.size := by have := hO.out.2.2.2; omega
      have K0 := And.intro c0 (And.intro c1 (And.intro c2 (And.intro c3 (And.intro d0 (And.intro d1 (And.intro d2 (And.intro d3 (And.intro hB.out hsz))))))))
      have CM := Lib.hid (fun wx => CMP.out c d wx kc kd)
      obtain ⟨q, hq⟩ : ∃ q, cmpV s l wd ht c d = q := ⟨_, rfl⟩
      have hqr := cmpV_range s l wd ht c d
      have HQ := Lib.hid (cmpV_lt (s := s) (l := l) (wd := wd) (ht := ht) (a := c) (b := d))
      rw [hq] at CM hqr HQ
      have HN := Lib.hid (And.intro hd (And.intro hcc hn))
      clear c0 c1 c2 c3 d0 d1 d2 d3 hc kc kd hq hd hcc hn
      go_wp2_with fail
      go_region_with (first | (go_at_call 40; refine (CM.out _).mono ?_; rintro e w3 ⟨rfl, hb3⟩; have B3 := Lib.hid (bnext (Below.refl wr.heap.size wr).drew hb3); clear hb3))
      all_goals
        have O3 := Lib.hid (hO.out.later B3.out)
        have R3 := Lib.hid (there_below hR.out B3.out)
        have BW := Lib.hid (bnext hB.out B3.out)
        clear K0
        by_cases hq : q < 0
        · have HR : Hid (bestTo s l wd ht L (k + 1) = k) := by show bestTo s l wd ht L (k + 1) = k; rw [HS.out, if_pos (HQ.out.1 hq)]
          obtain ⟨c0, c1, c2, c3⟩ := (HA.out _ BW.out).cells (by rw [atM_get hlt, HN.out.2.1])
          have TP := Lib.hid (there_part (n := 1) (k := 0) (m := 4) O3.out.2.2.1 (by omega))
          have hone1 : (#[.int .i64 c.le, .int .i64 c.wi, .int .i64 c.he, .int .i64 c.us] : Array Value).all (·.oneCell') = true := by simp [Value.oneCell']
          have O4 := Lib.hid (O3.out.put (k := 0) (by simp) c)
          have R4 := Lib.hid (World.there_setCells R3.out (w.heap.size + 1) (0 * 4) c.vals)
          have B4 : Hid (Below w.heap.size w (w3.setCells (w.heap.size + 1) (0 * 4) c.vals)) := below_setCells (w.heap.size + 1) (by omega) _ _ _ BW.out
          obtain ⟨w4, hw4⟩ : ∃ w4, w3.setCells (w.heap.size + 1) (0 * 4) c.vals = w4 := ⟨_, rfl⟩
          have hws : w3.setCells (w.heap.size + 1) 0 (#[.int .i64 c.le, .int .i64 c.wi, .int .i64 c.he, .int .i64 c.us] : Array Value).toList = w4 := hw4
          rw [hw4] at O4 R4 B4
          have HW4 := Lib.hid hws
          clear hw4 hws
          go_wp2_with (refine wpList_store_mid rfl 47 (.tmp 5) (.tmp 31) rfl (w.heap.size + 1) 0 #[.int .i64 c.le, .int .i64 c.wi, .int .i64 c.he, .int .i64 c.us] rfl rfl TP.out sizeMould hone1 ?_; rw [HW4.out])
          go_roundw
          case rel => exact ⟨k + 1, by omega, by omega, by go_num, by rw [HR.out, HN.out.2.1]; exact O4.out, R4.out, B4.out⟩
          case measure => simp [intOf]; omega
        · have HR : Hid (bestTo s l wd ht L (k + 1) = n) := by show bestTo s l wd ht L (k + 1) = n; rw [HS.out, if_neg (fun h => hq (HQ.out.2 h))]
          go_wp2
          go_roundw
          case rel => exact ⟨k + 1, by omega, by omega, by go_num, by rw [HR.out, HN.out.1]; exact O3.out, R3.out, BW.out⟩
          case measure => simp [intOf]; omega
    · have hge : ¬ (k : Int) < (L.length : Int) := by omega
      have hkn : k = L.length := by omega
      subst hkn
      obtain ⟨d, hd⟩ : ∃ d, atM L (bestTo s l wd ht L L.length) = d := ⟨_, rfl⟩
      rw [hd] at hO
      have HD := Lib.hid hd
      clear hd
      obtain ⟨d0, d1, d2, d3⟩ := hO.out.2.1.cells (k := 0) rfl
      simp only [Nat.zero_mul, Nat.zero_add] at d0 d1 d2 d3
      have TP := Lib.hid hR.out
      have hone1 : (#[.int .i64 d.le, .int .i64 d.wi, .int .i64 d.he, .int .i64 d.us] : Array Value).all (·.oneCell') = true := by simp [Value.oneCell']
      have G4 := boxedMo (World.rangeAt_setCells_same wr w.heap.size 0 d.vals TP.out)
      have B4 : Hid (Below w.heap.size w (wr.setCells w.heap.size 0 d.vals)) := below_setCells w.heap.size (Nat.le_refl _) _ _ _ hB.out
      obtain ⟨w4, hw4⟩ : ∃ w4, wr.setCells w.heap.size 0 d.vals = w4 := ⟨_, rfl⟩
      have hws : wr.setCells w.heap.size 0 (#[.int .i64 d.le, .int .i64 d.wi, .int .i64 d.he, .int .i64 d.us] : Array Value).toList = w4 := hw4
      rw [hw4] at G4 B4
      have HW4 := Lib.hid hws
      obtain ⟨m0, m1, m2, m3⟩ := G4
      simp only [Nat.zero_add] at m0 m1 m2 m3
      clear hw4 hws
      go_wp2_with (refine wpList_store_mid rfl 47 (.tmp 4) (.tmp 32) rfl w.heap.size 0 #[.int .i64 d.le, .int .i64 d.wi, .int .i64 d.he, .int .i64 d.us] rfl rfl TP.out sizeMould hone1 ?_; rw [HW4.out])
      refine bodyPost_ret (v := .agg #[.int .i64 d.le, .int .i64 d.wi, .int .i64 d.he, .int .i64 d.us]) (by simp [results, Tryd.results39, go_sem, m0, m1, m2, m3]) rfl ⟨by rw [HD.out], B4.out⟩
end Go.Proofs.YtdandhmallbemaaDoor
