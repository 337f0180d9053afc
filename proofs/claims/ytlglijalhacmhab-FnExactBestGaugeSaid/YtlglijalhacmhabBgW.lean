/-
  How far levels are off together, by the program; rods are compared by it.
-/
import Derived.Test.YtlglijalhacmhabBgP
import Derived.Test.YtlglijalhacmhabHb
namespace Go.Proofs.Ytlglijalhacmhab
open Go.ChangeShapes Go.WideShapes Go.ChangeAt Go.RowKit Go.Joins

/-- Levels in a box. -/
def LvBox (n : Nat) (L : List Int) (s : Option Addr) (t : Nat) (w : World) : Prop := w.cell? ⟨n, 0, none⟩ = some (.slice s L.length t) ∧ IntArg w s L
theorem LvBox.later {n : Nat} {L : List Int} {s : Option Addr} {t : Nat} {w w' : World} (h : LvBox n L s t w) (hb : Below w.heap.size w w') : LvBox n L s t w' := ⟨(hb.cell (World.block_lt_of_cell? w _ h.1)).trans h.1, h.2.later hb⟩
set_option maxHeartbeats 1600000 in
theorem sumZ_impl (P : List Int) (hP : ∀ z ∈ P, 0 ≤ z ∧ z ≤ 6000) (hl : P.length ≤ 1048576) (a : Option Addr) (cap : Nat) (w : World) (ha : IntArg w a P) :
    Calls Try.prog 68 #[.slice a P.length cap] w fun e w' => e = .returned (.int .i64 (sumZ P)) ∧ w = w' := by
  have HA := Lib.hid ha
  have HP := Lib.hid hP
  clear ha hP
  go_enter Try.func68, Try.ntmps68
  go_wp2
  go_loop [3, 9] (fun s i => ∃ k : Nat, k ≤ P.length ∧ s = .int .i64 (sumZ (P.take k)) ∧ i = .int .i64 (k : Int)) (fun _ i => P.length - (intOf i).toNat)
  case atStart => exact ⟨0, Nat.zero_le _, rfl, rfl⟩
  case round =>
    obtain ⟨k, hk, rfl, rfl⟩ := hrel
    obtain ⟨s0, s1⟩ := sumZ_range (P := P.take k) (m := 6000) (fun z hz => HP.out z (List.mem_of_mem_take hz))
    rw [List.length_take] at s1
    have hkk : min k P.length = k := by omega
    rw [hkk] at s1
    by_cases hlt : k < P.length
    · have hlt' : (k : Int) < (P.length : Int) := by omega
      have hk0 : (0 : Int) ≤ (k : Int) := by omega
      obtain ⟨b, o, z, rfl, hz, hat⟩ := HA.out.at hlt
      have c0 := hat k z hz
      obtain ⟨z0, z1⟩ := HP.out z (List.mem_of_getElem? hz)
      have HS : Hid (sumZ (P.take (k + 1)) = sumZ (P.take k) + z) := by show _ = _; rw [List.take_add_one, hz]; exact sumZ_snoc _ _
      obtain ⟨q, hq⟩ : ∃ q, sumZ (P.take k) = q := ⟨_, rfl⟩
      rw [hq] at s0 s1 HS
      rw [hq]
      clear hz hat hq hkk
      go_wp2
      go_round
      case rel => exact ⟨k + 1, by omega, by rw [HS.out], by go_num⟩
      case measure => simp [intOf]; omega
    · have hge : ¬ (k : Int) < (P.length : Int) := by omega
      have HE : Hid (sumZ (P.take k) = sumZ P) := by show _ = _; rw [List.take_of_length_le (by omega)]
      go_wp2
      go_ret
      exact ⟨ret_int HE.out, rfl⟩
set_option maxRecDepth 100000 in
set_option maxHeartbeats 6400000 in
theorem valueG (H : Int) (n : Nat) (L : List Int) (s : Option Addr) (t : Nat) (h : gB H n = true) (hL : lvB L H = true) (bF : Nat) (w : World) (hF : LvBox bF L s t w) :
    Calls Try.prog 67 #[.agg #[.int .i64 H, .int .i64 (n : Int)], .pointer (some ⟨bF, 0, none⟩)] w fun e w' => e = .returned (.agg #[.int .i64 (sG H L n), .int .i64 1]) ∧ Below w.heap.size w w' := by
  have T0 := (TwBox.new w H n 96).later (balloc0 _ (.cells #[.int .i64 0, .int .i64 0] 26))
  have R0 := heap_alloc_new (w.alloc (.cells #[.int .i64 H, .int .i64 (n : Int)] 96)) (.cells #[.int .i64 0, .int .i64 0] 26)
  have E0 := Lib.hid (balloc (balloc0 w (.cells #[.int .i64 H, .int .i64 (n : Int)] 96)) (.cells #[.int .i64 0, .int .i64 0] 26))
  have z0 : (w.alloc (.cells #[.int .i64 H, .int .i64 (n : Int)] 96)).heap.size = w.heap.size + 1 := by simp
  rw [z0] at R0
  have F0 := Lib.hid (hF.later E0.out)
  obtain ⟨U, hU⟩ : ∃ U, (w.alloc (.cells #[.int .i64 H, .int .i64 (n : Int)] 96)).alloc (.cells #[.int .i64 0, .int .i64 0] 26) = U := ⟨_, rfl⟩
  have zU : U.heap.size = w.heap.size + 2 := by rw [← hU]; simp
  rw [hU] at T0 R0 E0 F0
  have E0 : Hid (Below w.heap.size w U) := E0.out
  have R0 := Lib.hid R0
  have LO := Lib.hid (levelsOff_impl H n L h hL s t U F0.out.2)
  have SM := Lib.hid (fun a cap wx (hx : IntArg wx a (offL H n L)) => sumZ_impl (offL H n L) (offL_mem h hL) (by rw [offL_length]; have := (lvB_all hL).2.1; omega) a cap wx hx)
  rw [show sumZ (offL H n L) = sG H L n from rfl] at SM
  obtain ⟨q, hq⟩ : ∃ q, sG H L n = q := ⟨_, rfl⟩
  rw [hq] at SM ⊢
  have HU := Lib.hid hU
  have x2 := hF.1
  have x3 := World.block_lt_of_cell? _ _ x2
  clear hq hU hF h hL z0
  go_enter Try.func67, Try.ntmps67
  go_wp2_with fail
  rw [HU.out]
  try go_wp2_with fail
  refine LO.out.mono ?_
  rintro e w1 ⟨ao, cp, rfl, o1, hb1⟩
  have O1 := Lib.hid o1.res.arg
  have B1 := Lib.hid (bnext E0.out hb1)
  have RB := (hb1.block _ (by omega)).trans R0.out
  have z1 := hb1.size
  clear hb1 o1 x2 x3
  go_wp2_with fail
  refine (SM.out _ _ _ O1.out).mono ?_
  rintro e w2 ⟨rfl, rfl⟩
  have c0 : w1.cell? ⟨w.heap.size + 1, 0, none⟩ = some (.int .i64 0) := (cell_of_block RB 0).trans rfl
  have c1 : w1.cell? ⟨w.heap.size + 1, 1, none⟩ = some (.int .i64 0) := (cell_of_block RB 1).trans rfl
  have f0 := unfrozen_of_block RB 0
  have f1 := unfrozen_of_block RB 1
  go_wp2
  refine bodyPost_ret (v := .agg #[.int .i64 q, .int .i64 1]) ?_ rfl ⟨rfl, ?_⟩
  · simp [results, Try.results67, go_sem, c0, c1]
  · exact (B1.out.setCell (p := ⟨w.heap.size + 1, 0, none⟩) (Nat.le_add_right _ _) _).setCell (p := ⟨w.heap.size + 1, 1, none⟩) (Nat.le_add_right _ _) _
set_option maxRecDepth 100000 in
set_option maxHeartbeats 6400000 in
theorem cmpG (H : Int) (L : List Int) (s : Option Addr) (t : Nat) (c1 c2 : Int) (hL : lvB L H = true) (g1 : gB H c1 = true) (g2 : gB H c2 = true) (bF bV : Nat) (w : World) (hF : LvBox bF L s t w) (hV : w.cell? ⟨bV, 0, none⟩ = some (.func (.func 67) #[] #[.pointer (some ⟨bF, 0, none⟩)])) :
    Calls Try.prog 117 #[.agg #[.int .i64 H, .int .i64 c1], .agg #[.int .i64 H, .int .i64 c2], .pointer (some ⟨bV, 0, none⟩)] w fun e w' => e = .returned (.int .i64 (cmpI (sG H L c1 * 1) (sG H L c2 * 1))) ∧ Below w.heap.size w w' := by
  have e1 : ((c1.toNat : Nat) : Int) = c1 := by have := (gB_true.1 g1).2.1; omega
  have e2 : ((c2.toNat : Nat) : Int) = c2 := by have := (gB_true.1 g2).2.1; omega
  have C1 := Lib.hid (fun (wx : World) (hx : LvBox bF L s t wx) => valueG H c1.toNat L s t (by rw [e1]; exact g1) hL bF wx hx)
  have C2 := Lib.hid (fun (wx : World) (hx : LvBox bF L s t wx) => valueG H c2.toNat L s t (by rw [e2]; exact g2) hL bF wx hx)
  have n1 := sG_range (n := c1.toNat) (by rw [e1]; exact g1) hL
  have n2 := sG_range (n := c2.toNat) (by rw [e2]; exact g2) hL
  rw [e1] at C1 n1
  rw [e2] at C2 n2
  have CM := Lib.hid (fcmp_impl (sG H L c1) 1 (sG H L c2) 1 (by omega) (by omega) (by omega) (by omega))
  obtain ⟨N1, hN1⟩ : ∃ z, sG H L c1 = z := ⟨_, rfl⟩
  obtain ⟨N2, hN2⟩ : ∃ z, sG H L c2 = z := ⟨_, rfl⟩
  rw [hN1] at C1 CM
  rw [hN2] at C2 CM
  rw [hN1, hN2]
  obtain ⟨q, hq⟩ : ∃ z, cmpI (N1 * 1) (N2 * 1) = z := ⟨_, rfl⟩
  rw [hq] at CM ⊢
  clear hN1 hN2 hq hL g1 g2 n1 n2 e1 e2
  have T1 := Lib.hid ((TwBox.new w H c1 96).later (balloc0 _ (.cells #[.int .i64 H, .int .i64 c2] 96)))
  have T2' := TwBox.new (w.alloc (.cells #[.int .i64 H, .int .i64 c1] 96)) H c2 96
  rw [World.size_alloc] at T2'
  have T2 := Lib.hid T2'
  have B0 := Lib.hid (balloc (balloc0 w (.cells #[.int .i64 H, .int .i64 c1] 96)) (.cells #[.int .i64 H, .int .i64 c2] 96))
  obtain ⟨wr, hwr⟩ : ∃ wr, ((w.alloc (.cells #[.int .i64 H, .int .i64 c1] 96)).alloc (.cells #[.int .i64 H, .int .i64 c2] 96)) = wr := ⟨_, rfl⟩
  rw [hwr] at T1 T2 B0
  have HW := Lib.hid hwr
  have hF' := hF.later B0.out
  have hV' := (B0.out.cell (World.block_lt_of_cell? w _ hV)).trans hV
  have KF : Hid (∀ wx, Below wr.heap.size wr wx → LvBox bF L s t wx) := fun wx hx => hF'.later hx
  have KV : Hid (∀ wx, Below wr.heap.size wr wx → wx.cell? ⟨bV, 0, none⟩ = some (.func (.func 67) #[] #[.pointer (some ⟨bF, 0, none⟩)])) := fun wx hx => (hx.cell (World.block_lt_of_cell? wr _ hV')).trans hV'
  clear hwr T2' hF hV hF' hV'
  go_enter Try.func117, Try.ntmps117
  go_wp2_with fail
  rw [HW.out]
  refine wp_region_held_drew (S := fun W => Below wr.heap.size wr W) (by kernel_rfl) ?_ (fun hHeld => ?_)
  · exact (Below.refl _ _).drew
  refine wpAnyH_take (i := 0) (v := .func (.func 67) #[] #[.pointer (some ⟨bF, 0, none⟩)]) rfl (by kernel_rfl) (by kernel_rfl) (by kernel_rfl) (fun _ _ _ h => h) (Or.inl ⟨by kernel_rfl, ?_⟩) (by assumption) ?_
  · intro w hSw
    try dsimp only at hSw
    obtain ⟨k0, k1⟩ := T1.out.later hSw
    obtain ⟨k2, k3⟩ := T2.out.later hSw
    have k4 := KV.out _ hSw
    go_simp
  try simp only [Act.put, List.setIfInBounds_toArray, List.set_cons_zero, List.set_cons_succ, List.getElem_toArray, List.getElem_cons_zero]
  refine wpAnyH_take (i := 1) (v := .agg #[.int .i64 H, .int .i64 c1]) rfl (by kernel_rfl) (by kernel_rfl) (by kernel_rfl) (fun _ _ _ h => h) (Or.inl ⟨by kernel_rfl, ?_⟩) (by assumption) ?_
  · intro w hSw
    try dsimp only at hSw
    obtain ⟨k0, k1⟩ := T1.out.later hSw
    obtain ⟨k2, k3⟩ := T2.out.later hSw
    have k4 := KV.out _ hSw
    go_simp
  try simp only [Act.put, List.setIfInBounds_toArray, List.set_cons_zero, List.set_cons_succ, List.getElem_toArray, List.getElem_cons_zero, List.getElem_cons_succ]
  refine wpAnyH_take (i := 3) (v := .func (.func 67) #[] #[.pointer (some ⟨bF, 0, none⟩)]) rfl (by kernel_rfl) (by kernel_rfl) (by kernel_rfl) (fun _ _ _ h => h) (Or.inl ⟨by kernel_rfl, ?_⟩) (by assumption) ?_
  · intro w hSw
    try dsimp only at hSw
    obtain ⟨k0, k1⟩ := T1.out.later hSw
    obtain ⟨k2, k3⟩ := T2.out.later hSw
    have k4 := KV.out _ hSw
    go_simp
  try simp only [Act.put, List.setIfInBounds_toArray, List.set_cons_zero, List.set_cons_succ, List.getElem_toArray, List.getElem_cons_zero, List.getElem_cons_succ]
  refine wpAnyH_take (i := 4) (v := .agg #[.int .i64 H, .int .i64 c2]) rfl (by kernel_rfl) (by kernel_rfl) (by kernel_rfl) (fun _ _ _ h => h) (Or.inl ⟨by kernel_rfl, ?_⟩) (by assumption) ?_
  · intro w hSw
    try dsimp only at hSw
    obtain ⟨k0, k1⟩ := T1.out.later hSw
    obtain ⟨k2, k3⟩ := T2.out.later hSw
    have k4 := KV.out _ hSw
    go_simp
  try simp only [Act.put, List.setIfInBounds_toArray, List.set_cons_zero, List.set_cons_succ, List.getElem_toArray, List.getElem_cons_zero, List.getElem_cons_succ]
  refine wpAnyH_ready (rs := [2]) (by kernel_rfl) (by simp) ?_
  refine AllReadyH.cons rfl (fun K hK => ?_) AllReadyH.nil
  go_simp
  skip
  refine (C1.out _ (KF.out _ hHeld)).mono ?_
  rintro e w1 ⟨rfl, hb⟩
  refine hK.out _ _ ?_ (fun hHeld' => ?_)
  · exact bnext hHeld hb
  clear hK K hHeld
  have hHeld := hHeld'
  clear hHeld'
  try simp only [Act.put, List.setIfInBounds_toArray, List.set_cons_zero, List.set_cons_succ, List.getElem_toArray, List.getElem_cons_zero, List.getElem_cons_succ]
  refine wpAnyH_ready (rs := [5]) (by kernel_rfl) (by simp) ?_
  refine AllReadyH.cons rfl (fun K hK => ?_) AllReadyH.nil
  go_simp
  skip
  refine (C2.out _ (KF.out _ hHeld)).mono ?_
  rintro e w2 ⟨rfl, hb⟩
  refine hK.out _ _ ?_ (fun hHeld' => ?_)
  · exact bnext hHeld hb
  clear hK K hHeld
  have hHeld := hHeld'
  clear hHeld'
  try simp only [Act.put, List.setIfInBounds_toArray, List.set_cons_zero, List.set_cons_succ, List.getElem_toArray, List.getElem_cons_zero, List.getElem_cons_succ]
  refine wpAnyH_ready (rs := [6]) (by kernel_rfl) (by simp) ?_
  refine AllReadyH.cons rfl (fun K hK => ?_) AllReadyH.nil
  go_simp
  go_at_call 118
  refine (CM.out _).mono ?_
  rintro e w3 ⟨rfl, hb⟩
  refine hK.out _ _ ?_ (fun hHeld' => ?_)
  · exact bnext hHeld hb
  clear hK K hHeld
  have hHeld := hHeld'
  clear hHeld'
  try simp only [Act.put, List.setIfInBounds_toArray, List.set_cons_zero, List.set_cons_succ, List.getElem_toArray, List.getElem_cons_zero, List.getElem_cons_succ]
  refine wpAnyH_take (i := 7) (v := .int .i64 q) rfl (by kernel_rfl) (by kernel_rfl) (by kernel_rfl) (fun _ _ _ h => h) (Or.inl ⟨by kernel_rfl, ?_⟩) (by assumption) ?_
  · intro w hSw
    try dsimp only at hSw
    skip
    go_simp
  try simp only [Act.put, List.setIfInBounds_toArray, List.set_cons_zero, List.set_cons_succ, List.getElem_toArray, List.getElem_cons_zero, List.getElem_cons_succ]
  refine wpAnyH_done (by kernel_rfl) ?_ _
  go_wp2
  go_ret
  exact ⟨rfl, bnext B0.out hHeld⟩
theorem sg_less (H : Int) (L : List Int) (c b : Int) : cmpI (sG H L c * 1) (sG H L b * 1) < 0 ↔ sG H L c < sG H L b := by
  rw [Int.mul_one, Int.mul_one]
  rcases Int.lt_trichotomy (sG H L c) (sG H L b) with x | x | x
  · rw [cmpI_lt x]; omega
  · rw [cmpI_eq x]; omega
  · rw [cmpI_gt x]; omega
end Go.Proofs.Ytlglijalhacmhab
