/-
  bestCourses with BestGauge's value, and BestGauge: contracts of the program.
-/
import Derived.Test.YtlglijalhacmhabBgZ
namespace Go.Proofs.Ytlglijalhacmhab
open Go.ChangeShapes Go.WideShapes Go.ChangeAt Go.RowKit Go.Joins

theorem bgL_cases (l wd ht j H least most : Int) (L : List Int) : (okB l wd ht j = false ∧ bgL l wd ht j H least most L = 1) ∨ (okB l wd ht j = true ∧ lvB L H = false ∧ bgL l wd ht j H least most L = 2) ∨ (okB l wd ht j = true ∧ lvB L H = true ∧ bdB least most = false ∧ bgL l wd ht j H least most L = 2) ∨ (okB l wd ht j = true ∧ lvB L H = true ∧ bdB least most = true ∧ bgL l wd ht j H least most L = 0) := by
  cases h1 : okB l wd ht j
  · exact .inl ⟨rfl, by simp [bgL, limC, h1]⟩
  · cases h2 : lvB L H
    · refine .inr (.inl ⟨rfl, rfl, ?_⟩)
      cases h3 : inB H 100 6000 <;> cases h4 : bdB least most <;> simp [bgL, limC, h1, h2, h3, h4]
    · have h3 : inB H 100 6000 = true := inB_true.2 (lvB_all h2).1
      cases h4 : bdB least most
      · exact .inr (.inr (.inl ⟨rfl, rfl, rfl, by simp [bgL, limC, h1, h3, h4]⟩))
      · exact .inr (.inr (.inr ⟨rfl, rfl, rfl, by simp [bgL, limC, h1, h2, h3, h4]⟩))
theorem minG_fitTo (ht H least most : Int) (L : List Int) (k : Nat) : minG H L (fitTo ht H least most k) = bestG ht H least most L k := by
  induction k with
  | zero => rfl
  | succ k ih =>
    show _ = stepG ht H least most L (bestG ht H least most L k) ((k : Int) + 1)
    cases hf : fitB ht H least most ((k : Int) + 1)
    · rw [fitTo_no hf, ih]; simp [stepG, hf]
    · rw [fitTo_yes hf, minG_snoc, ih]; simp [stepG, hf]
def GbG (w : World) (l wd ht j H least most : Int) (L : List Int) (sl : Option Addr) (cpl : Nat) (bF : Nat) (W : World) : Prop :=
  FmBox w.heap.size l wd ht j W ∧ W.cell? ⟨w.heap.size + 1, 0, none⟩ = some (.int .i64 H) ∧ W.cell? ⟨w.heap.size + 1 + 1, 0, none⟩ = some (.int .i64 least) ∧ W.cell? ⟨w.heap.size + 1 + 1 + 1, 0, none⟩ = some (.int .i64 most) ∧ W.cell? ⟨w.heap.size + 1 + 1 + 1 + 1, 0, none⟩ = some (.func (.func 67) #[] #[.pointer (some ⟨bF, 0, none⟩)]) ∧ LvBox bF L sl cpl W ∧ Below w.heap.size w W
theorem GbG.later {w : World} {l wd ht j H least most : Int} {L : List Int} {sl : Option Addr} {cpl : Nat} {bF : Nat} {W W' : World} (h : GbG w l wd ht j H least most L sl cpl bF W) (hb : Below W.heap.size W W') : GbG w l wd ht j H least most L sl cpl bF W' :=
  ⟨h.1.later hb, (hb.cell (World.block_lt_of_cell? W _ h.2.1)).trans h.2.1, (hb.cell (World.block_lt_of_cell? W _ h.2.2.1)).trans h.2.2.1, (hb.cell (World.block_lt_of_cell? W _ h.2.2.2.1)).trans h.2.2.2.1, (hb.cell (World.block_lt_of_cell? W _ h.2.2.2.2.1)).trans h.2.2.2.2.1, h.2.2.2.2.2.1.later hb, bnext h.2.2.2.2.2.2 hb⟩
theorem GbG.new (w : World) (l wd ht j H least most : Int) (L : List Int) (sl : Option Addr) (cpl : Nat) (bF : Nat) (hF : LvBox bF L sl cpl w) : GbG w l wd ht j H least most L sl cpl bF (((((w.alloc (.cells #[.int .i64 l, .int .i64 wd, .int .i64 ht, .int .i64 j] 51)).alloc (.cells #[.int .i64 H] 2)).alloc (.cells #[.int .i64 least] 2)).alloc (.cells #[.int .i64 most] 2)).alloc (.cells #[.func (.func 67) #[] #[.pointer (some ⟨bF, 0, none⟩)]] 98)) := by
  have a1 := cellN (w.alloc (.cells #[.int .i64 l, .int .i64 wd, .int .i64 ht, .int .i64 j] 51)) (.int .i64 H) 2
  have a2 := cellN ((w.alloc (.cells #[.int .i64 l, .int .i64 wd, .int .i64 ht, .int .i64 j] 51)).alloc (.cells #[.int .i64 H] 2)) (.int .i64 least) 2
  have a3 := cellN (((w.alloc (.cells #[.int .i64 l, .int .i64 wd, .int .i64 ht, .int .i64 j] 51)).alloc (.cells #[.int .i64 H] 2)).alloc (.cells #[.int .i64 least] 2)) (.int .i64 most) 2
  have a4 := cellN ((((w.alloc (.cells #[.int .i64 l, .int .i64 wd, .int .i64 ht, .int .i64 j] 51)).alloc (.cells #[.int .i64 H] 2)).alloc (.cells #[.int .i64 least] 2)).alloc (.cells #[.int .i64 most] 2)) (.func (.func 67) #[] #[.pointer (some ⟨bF, 0, none⟩)]) 98
  simp only [World.size_alloc] at a1 a2 a3 a4
  exact ⟨((((FmBox.new w l wd ht j 51).later (balloc0 _ _)).later (balloc0 _ _)).later (balloc0 _ _)).later (balloc0 _ _), cellK (cellK (cellK a1 (balloc0 _ _)) (balloc0 _ _)) (balloc0 _ _), cellK (cellK a2 (balloc0 _ _)) (balloc0 _ _), cellK a3 (balloc0 _ _), a4, ((((hF.later (balloc0 _ _)).later (balloc0 _ _)).later (balloc0 _ _)).later (balloc0 _ _)).later (balloc0 _ _), balloc (balloc (balloc (balloc (balloc0 _ _) _) _) _) _⟩
theorem minG_pos {H : Int} {L : List Int} (cs : List Int) (hall : ∀ x ∈ cs, 1 ≤ x) : ∀ b : Int, 1 ≤ b → 1 ≤ cs.foldl (fun b c => if ngB H L b c = true then c else b) b := by
  induction cs with
  | nil => intro b hb; exact hb
  | cons c r ih =>
    intro b hb
    simp only [List.foldl_cons]
    refine ih (fun x hx => hall x (List.mem_cons_of_mem _ hx)) _ ?_
    split
    · exact hall c List.mem_cons_self
    · exact hb
theorem minG_ne {H : Int} {L : List Int} {cs : List Int} (hpos : 0 < cs.length) (hall : ∀ x ∈ cs, 1 ≤ x) (hm : minG H L cs = 0) : False := by
  cases cs with
  | nil => simp at hpos
  | cons c r =>
    have h := minG_pos (H := H) (L := L) r (fun x hx => hall x (List.mem_cons_of_mem _ hx)) c (hall c List.mem_cons_self)
    have e : minG H L (c :: r) = r.foldl (fun b c => if ngB H L b c = true then c else b) c := by
      unfold minG
      rw [List.foldl_cons]
      simp [ngB]
    rw [e] at hm
    omega
set_option maxRecDepth 100000 in
set_option maxHeartbeats 6400000 in
theorem bestGa_impl (l wd ht j H least most : Int) (L : List Int) (sl : Option Addr) (cpl : Nat) (hl : L.length ≤ 1048576) (bF : Nat) (w : World) (hF : LvBox bF L sl cpl w) :
    Calls Try.prog 66 #[.agg #[.int .i64 l, .int .i64 wd, .int .i64 ht, .int .i64 j], .int .i64 H, .int .i64 least, .int .i64 most, .slice sl L.length cpl, .func (.func 67) #[] #[.pointer (some ⟨bF, 0, none⟩)]] w fun e w' => e = .returned (.tuple #[.int .i64 (bgN l wd ht j H least most L), .int .i64 (bgC l wd ht j H least most L)]) ∧ Below w.heap.size w w' := by
  have G0 := Lib.hid (GbG.new w l wd ht j H least most L sl cpl bF hF)
  obtain ⟨W5, hW5⟩ : ∃ W5, (((((w.alloc (.cells #[.int .i64 l, .int .i64 wd, .int .i64 ht, .int .i64 j] 51)).alloc (.cells #[.int .i64 H] 2)).alloc (.cells #[.int .i64 least] 2)).alloc (.cells #[.int .i64 most] 2)).alloc (.cells #[.func (.func 67) #[] #[.pointer (some ⟨bF, 0, none⟩)]] 98)) = W5 := ⟨_, rfl⟩
  rw [hW5] at G0
  have HW := Lib.hid hW5
  have VV := Lib.hid (vf_any l wd ht j)
  have LV := Lib.hid (fun wx (hx : LvBox bF L sl cpl wx) => levels_impl L H sl cpl hl wx hx.2)
  have BE := Lib.hid (beds_impl least most)
  clear hW5 hF
  rcases bgL_cases l wd ht j H least most L with ⟨h1, hc⟩ | ⟨h1, h2, hc⟩ | ⟨h1, h2, h3, hc⟩ | ⟨h1, h2, h3, hc⟩
  · rw [show bgN l wd ht j H least most L = 0 by simp [bgN, hc], show bgC l wd ht j H least most L = 1 by simp [bgC, hc]]
    rw [h1] at VV
    clear h1 hc
    go_enter Try.func66, Try.ntmps66
    go_wp2_with fail
    rw [HW.out]
    refine (VV.out _).mono ?_
    rintro e w1 ⟨rfl, hb1⟩
    have G1 := Lib.hid (G0.out.later hb1)
    clear hb1
    go_wp2
    refine bodyPost_ret (v := .tuple #[.int .i64 0, .int .i64 1]) (by simp [results, Try.results66, go_sem]) rfl ⟨rfl, G1.out.2.2.2.2.2.2⟩
  · rw [show bgN l wd ht j H least most L = 0 by simp [bgN, hc], show bgC l wd ht j H least most L = 2 by simp [bgC, hc]]
    rw [h1] at VV
    rw [h2] at LV
    clear h1 h2 hc
    go_enter Try.func66, Try.ntmps66
    go_wp2_with fail
    rw [HW.out]
    refine (VV.out _).mono ?_
    rintro e w1 ⟨rfl, hb1⟩
    have G1 := Lib.hid (G0.out.later hb1)
    clear hb1
    obtain ⟨⟨k0, k1, k2, k3⟩, k4, k5, k6, k7, -, -⟩ := G1.out
    go_wp2_with fail
    refine (LV.out _ G1.out.2.2.2.2.2.1).mono ?_
    rintro e w2 ⟨rfl, hb2⟩
    have G2 := Lib.hid (G1.out.later hb2)
    clear hb2 k0 k1 k2 k3 k4 k5 k6 k7
    go_wp2
    refine bodyPost_ret (v := .tuple #[.int .i64 0, .int .i64 2]) (by simp [results, Try.results66, go_sem]) rfl ⟨rfl, G2.out.2.2.2.2.2.2⟩
  · rw [show bgN l wd ht j H least most L = 0 by simp [bgN, hc], show bgC l wd ht j H least most L = 2 by simp [bgC, hc]]
    rw [h1] at VV
    rw [h2] at LV
    rw [h3] at BE
    clear h1 h2 h3 hc
    go_enter Try.func66, Try.ntmps66
    go_wp2_with fail
    rw [HW.out]
    refine (VV.out _).mono ?_
    rintro e w1 ⟨rfl, hb1⟩
    have G1 := Lib.hid (G0.out.later hb1)
    clear hb1
    obtain ⟨⟨k0, k1, k2, k3⟩, k4, k5, k6, k7, -, -⟩ := G1.out
    go_wp2_with fail
    refine (LV.out _ G1.out.2.2.2.2.2.1).mono ?_
    rintro e w2 ⟨rfl, hb2⟩
    have G2 := Lib.hid (G1.out.later hb2)
    clear hb2 k0 k1 k2 k3 k4 k5 k6 k7
    obtain ⟨⟨k0, k1, k2, k3⟩, k4, k5, k6, k7, -, -⟩ := G2.out
    go_wp2_with fail
    refine (BE.out _).mono ?_
    rintro e w3 ⟨rfl, rfl⟩
    go_wp2
    refine bodyPost_ret (v := .tuple #[.int .i64 0, .int .i64 2]) (by simp [results, Try.results66, go_sem]) rfl ⟨rfl, G2.out.2.2.2.2.2.2⟩
  · have hN : bgN l wd ht j H least most L = bestG ht H least most L 40 := by simp [bgN, hc]
    have hC : bgC l wd ht j H least most L = if bestG ht H least most L 40 = 0 then 3 else 0 := by simp [bgC, hc]
    rw [hN, hC]
    obtain ⟨bz, hbz⟩ : ∃ z, bestG ht H least most L 40 = z := ⟨_, rfl⟩
    rw [hbz]
    have HBZ := Lib.hid hbz
    clear hbz
    obtain ⟨-, -, ⟨t0, t1⟩, -, -⟩ := okB_true.1 h1
    have hH := (lvB_all h2).1
    have FI : Hid (∀ (k : Nat) (hk : k < 40) (wx : World), GbG w l wd ht j H least most L sl cpl bF wx → Calls Try.prog 115 #[.int .i64 ((k : Int) + 1), .pointer (some ⟨w.heap.size + 1, 0, none⟩), .pointer (some ⟨w.heap.size, 0, none⟩), .pointer (some ⟨w.heap.size + 1 + 1, 0, none⟩), .pointer (some ⟨w.heap.size + 1 + 1 + 1, 0, none⟩)] wx fun e w' => e = .returned (.bool (fitB ht H least most ((k : Int) + 1))) ∧ Below wx.heap.size wx w') := fun k hk wx g =>
      fits_impl l wd ht j H least most ((k : Int) + 1) _ _ _ _ h3 (by omega) (by omega) (by omega) (by omega) wx g.2.1 g.1 g.2.2.1 g.2.2.2.1
    have HALL : Hid (∀ c ∈ fitTo ht H least most 40, rodOk ht H c) := fun c hcm => by
      obtain ⟨x, y, z⟩ := fitTo_mem hcm
      exact fit_rodOk h3 hH ⟨x, by omega, z⟩
    have HL2 := Lib.hid h2
    have HMIN := Lib.hid (minG_fitTo ht H least most L 40)
    obtain ⟨i0, hi, hz0, hz1, hz2⟩ := info_rod
    rw [h1] at VV
    rw [h2] at LV
    rw [h3] at BE
    clear h1 h2 h3 hc hN hC hH t0 t1
    go_enter Try.func66, Try.ntmps66
    go_wp2_with fail
    rw [HW.out]
    refine (VV.out _).mono ?_
    rintro e w1 ⟨rfl, hb1⟩
    have G1 := Lib.hid (G0.out.later hb1)
    clear hb1
    obtain ⟨⟨k0, k1, k2, k3⟩, k4, k5, k6, k7, -, -⟩ := G1.out
    go_wp2_with fail
    refine (LV.out _ G1.out.2.2.2.2.2.1).mono ?_
    rintro e w2 ⟨rfl, hb2⟩
    have G2 := Lib.hid (G1.out.later hb2)
    clear hb2 k0 k1 k2 k3 k4 k5 k6 k7
    obtain ⟨⟨k0, k1, k2, k3⟩, k4, k5, k6, k7, -, -⟩ := G2.out
    go_wp2_with fail
    refine (BE.out _).mono ?_
    rintro e w3 ⟨rfl, rfl⟩
    clear k0 k1 k2 k3 k4 k5 k6 k7
    go_wp2
    go_loopw [15, 16] (fun r i wr => ∃ k : Nat, i = .int .i64 ((k : Int) + 1) ∧ k ≤ 40 ∧ Hid (wr.ownsRow w2.heap.size 96 2 r (fitTo ht H least most k).length (rdVals (rdsL H (fitTo ht H least most k)))) ∧ Hid (Below w2.heap.size w2 wr)) (fun _ i _ => 41 - (intOf i).toNat)
    case atStart => exact ⟨0, rfl, by omega, World.ownsRow_nil _ _ _ _, Below.refl _ _⟩
    case round =>
      obtain ⟨k, rfl, hk, hO, hB⟩ := hrel
      have hfl := fitTo_len ht H least most k
      by_cases hlt : k < 40
      · have hlt' : (k : Int) + 1 ≤ 40 := by omega
        have GR := Lib.hid (G2.out.later hB.out)
        have F := Lib.hid (FI.out k hlt wr GR.out)
        have HYES := Lib.hid (fitTo_yes (ht := ht) (H := H) (least := least) (most := most) (k := k))
        have HNO := Lib.hid (fitTo_no (ht := ht) (H := H) (least := least) (most := most) (k := k))
        have hsz := hB.out.size
        cases hfit : fitB ht H least most ((k : Int) + 1)
        · rw [hfit] at F
          have HN := Lib.hid (HNO.out hfit)
          clear hfit
          go_wp2_with fail
          refine F.out.mono ?_
          rintro e w4 ⟨rfl, hb4⟩
          have O4 := Lib.hid (rd_below hO.out hb4)
          have B4 := Lib.hid (bnext hB.out hb4)
          clear hb4
          go_wp2
          go_roundw
          case rel => exact ⟨k + 1, by go_num, by omega, by rw [HN.out]; exact O4.out, B4.out⟩
          case measure => simp [intOf]; omega
        · rw [hfit] at F
          have HN := Lib.hid (HYES.out hfit)
          clear hfit
          go_wp2_with fail
          refine F.out.mono ?_
          rintro e w4 ⟨rfl, hb4⟩
          have O4 := Lib.hid (rd_below hO.out hb4)
          have B4 := Lib.hid (bnext hB.out hb4)
          have k4 := (GR.out.later hb4).2.1
          have hs4 := hb4.size
          clear hb4
          go_wp2_with (at_builtin; refine wpList_append_own _ rfl _ _ 141 rfl w2.heap.size 96 i0 (.agg #[.int .i64 0, .int .i64 0]) 2 16 Try.underlying141 hi hz0 hz1 hz2 rfl (by decide) _ (fitTo ht H least most k).length (rdVals (rdsL H (fitTo ht H least most k))) rfl (O4.out.alloc _) ⟨w4.heap.size, 0, none⟩ 1 1 [.int .i64 H, .int .i64 ((k : Int) + 1)] rfl rfl (cells_rd _ _ _ _) (by simp [Value.oneCell']) (by unfold maxLen; omega) (by omega) (by simp; omega) ?_; intro v' w5 hown' hgrow _)
          go_roundw
          case rel =>
            have e : rdVals (rdsL H (fitTo ht H least most k)) ++ [.int .i64 H, .int .i64 ((k : Int) + 1)] = rdVals (rdsL H (fitTo ht H least most (k + 1))) := by
              rw [HN.out, rdsL_snoc, ← rdVals_snoc]; rfl
            have e2 : (fitTo ht H least most k).length + 1 = (fitTo ht H least most (k + 1)).length := by rw [HN.out]; simp
            have hown2 := hown'
            rw [e, e2] at hown2
            exact ⟨k + 1, by go_num, by omega, hown2, (balloc B4.out (.cells #[.int .i64 H, .int .i64 ((k : Int) + 1)] 96)).grown hgrow (by simp; omega) (fun r hr => by have := own_rdBlock hO.out r hr; omega)⟩
          case measure => simp [intOf]; omega
      · have hge : ¬ (k : Int) + 1 ≤ 40 := by omega
        obtain rfl : k = 40 := by omega
        have HM1 : Hid (∀ x ∈ fitTo ht H least most 40, 1 ≤ x) := fun x hx => (fitTo_mem hx).1
        obtain ⟨cs, hcs⟩ : ∃ cs, fitTo ht H least most 40 = cs := ⟨_, rfl⟩
        rw [hcs] at hO hfl HALL HMIN HM1
        clear hcs
        obtain ⟨a, cap, hv, hres⟩ := own_rdform (M := rdsL H cs) (by rw [rdsL_len]; exact hO.out)
        rw [rdsL_len] at hv
        subst hv
        have GR := Lib.hid (G2.out.later hB.out)
        have HRES := Lib.hid hres
        clear hres
        by_cases h0 : cs.length = 0
        · have hb0 : bz = 0 := by
            rw [← HBZ.out, ← HMIN.out, List.eq_nil_of_length_eq_zero h0]; rfl
          have HB0 := Lib.hid hb0
          have h0' : ((cs.length : Nat) : Int) = 0 := by omega
          clear hb0
          go_wp2
          refine bodyPost_ret (v := .tuple #[.int .i64 0, .int .i64 3]) (by simp [results, Try.results66, go_sem]) rfl ⟨by first | rfl | simp [HB0.out], GR.out.2.2.2.2.2.2⟩
        · have hpos : 0 < cs.length := by omega
          have hmem : bz ≠ 0 := by
            rw [← HBZ.out, ← HMIN.out]
            rcases minG_mem H L cs with hm | hm
            · exfalso
              exact minG_ne hpos HM1.out hm
            · have := HM1.out _ hm
              omega
          have HME := Lib.hid hmem
          have h0' : ¬ ((cs.length : Nat) : Int) = 0 := by omega
          obtain ⟨g, rfl, hown⟩ : ∃ g, a = some ⟨g, 0, none⟩ ∧ RdOwn w2.heap.size (rdsL H cs) g wr := by
            rcases HRES.out with hx | hx
            · exfalso
              exact h0 (by rw [← rdsL_len H cs, hx]; rfl)
            · exact hx
          have MR := Lib.hid (minrodG_impl ht H L sl cpl cs hpos hfl HALL.out HL2.out g 0 cap bF (w.heap.size + 1 + 1 + 1 + 1) wr hown.2.1 GR.out.2.2.2.2.2.1 GR.out.2.2.2.2.1)
          rw [HMIN.out, HBZ.out] at MR
          clear hmem hown hpos
          go_wp2_with fail
          refine MR.out.mono ?_
          rintro e w4 ⟨rfl, hb4⟩
          have G4 := Lib.hid (GR.out.later hb4)
          clear hb4
          go_wp2
          refine bodyPost_ret (v := .tuple #[.int .i64 bz, .int .i64 0]) (by simp [results, Try.results66, go_sem]) rfl ⟨by first | rfl | simp [HME.out], balloc G4.out.2.2.2.2.2.2 _⟩
set_option maxRecDepth 100000 in
set_option maxHeartbeats 6400000 in
theorem bestGauge_impl (l wd ht j H least most : Int) (L : List Int) (sl : Option Addr) (cpl : Nat) (hl : L.length ≤ 1048576) (w : World) (ha : IntArg w sl L) : Calls Try.prog 33 #[.agg #[.int .i64 l, .int .i64 wd, .int .i64 ht, .int .i64 j], .int .i64 H, .int .i64 least, .int .i64 most, .slice sl L.length cpl] w fun e w' => e = .returned (.tuple #[.int .i64 (bgN l wd ht j H least most L), .int .i64 (bgC l wd ht j H least most L)]) ∧ Below w.heap.size w w' := by
  have b1 := balloc0 w (.cells #[.int .i64 l, .int .i64 wd, .int .i64 ht, .int .i64 j] 51)
  have b2 := balloc0 (w.alloc (.cells #[.int .i64 l, .int .i64 wd, .int .i64 ht, .int .i64 j] 51)) (.cells #[.slice sl L.length cpl] 23)
  have c0 := cellN (w.alloc (.cells #[.int .i64 l, .int .i64 wd, .int .i64 ht, .int .i64 j] 51)) (.slice sl L.length cpl) 23
  have z0 : (w.alloc (.cells #[.int .i64 l, .int .i64 wd, .int .i64 ht, .int .i64 j] 51)).heap.size = w.heap.size + 1 := by simp
  rw [z0] at c0
  have BC := Lib.hid (bestGa_impl l wd ht j H least most L sl cpl hl (w.heap.size + 1) ((w.alloc (.cells #[.int .i64 l, .int .i64 wd, .int .i64 ht, .int .i64 j] 51)).alloc (.cells #[.slice sl L.length cpl] 23)) ⟨c0, (ha.later b1).later b2⟩)
  obtain ⟨u, hu⟩ : ∃ z, bgN l wd ht j H least most L = z := ⟨_, rfl⟩
  obtain ⟨v, hv⟩ : ∃ z, bgC l wd ht j H least most L = z := ⟨_, rfl⟩
  rw [hu, hv] at BC ⊢
  clear hu hv ha
  go_enter Try.func33, Try.ntmps33
  go_wp2_with fail
  refine BC.out.mono ?_
  rintro e w1 ⟨rfl, hb1⟩
  have B1 := Lib.hid (bnext (bnext b1 b2) hb1)
  clear hb1
  go_wp2
  refine bodyPost_ret (v := .tuple #[.int .i64 u, .int .i64 v]) (by simp [results, Try.results33, go_sem]) rfl ⟨rfl, B1.out⟩
end Go.Proofs.Ytlglijalhacmhab
