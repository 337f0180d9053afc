/-
  slices.MinFunc over rods, compared by how far levels are off: contract of the program.
-/
import Derived.Test.YtlglijalhacmhabBgW
namespace Go.Proofs.Ytlglijalhacmhab
open Go.ChangeShapes Go.WideShapes Go.ChangeAt Go.RowKit Go.Joins

def minG (H : Int) (L : List Int) (cs : List Int) : Int := cs.foldl (fun b c => if ngB H L b c = true then c else b) 0
theorem minG_snoc (H : Int) (L : List Int) (cs : List Int) (c : Int) : minG H L (cs ++ [c]) = if ngB H L (minG H L cs) c = true then c else minG H L cs := by
  unfold minG
  rw [List.foldl_append]
  rfl
theorem minG_take {H : Int} {L : List Int} {cs : List Int} {k : Nat} {c : Int} (h : cs[k]? = some c) : minG H L (cs.take (k + 1)) = if ngB H L (minG H L (cs.take k)) c = true then c else minG H L (cs.take k) := by
  obtain ⟨hk, e⟩ := List.getElem?_eq_some_iff.1 h
  rw [List.take_add_one, h]
  exact minG_snoc H L (cs.take k) c
theorem minG_mem (H : Int) (L : List Int) (cs : List Int) : minG H L cs = 0 ∨ minG H L cs ∈ cs := by
  suffices h : ∀ (b : Int), cs.foldl (fun b c => if ngB H L b c = true then c else b) b = b ∨ cs.foldl (fun b c => if ngB H L b c = true then c else b) b ∈ cs from h 0
  induction cs with
  | nil => intro b; exact .inl rfl
  | cons c r ih =>
    intro b
    simp only [List.foldl_cons]
    rcases ih (if ngB H L b c = true then c else b) with h | h
    · by_cases hn : ngB H L b c = true
      · rw [if_pos hn] at h ⊢
        exact .inr (by rw [h]; exact List.mem_cons_self)
      · rw [if_neg hn] at h ⊢
        exact .inl h
    · exact .inr (List.mem_cons_of_mem _ h)
set_option maxRecDepth 100000 in
set_option maxHeartbeats 6400000 in
theorem minrodG_impl (ht H : Int) (L : List Int) (sl : Option Addr) (cpl : Nat) (cs : List Int) (hpos : 0 < cs.length) (hl : cs.length ≤ 40) (hall : ∀ c ∈ cs, rodOk ht H c) (h1 : lvB L H = true) (b o cap bF bV : Nat) (w : World) (ha : RdAt w b o (rdsL H cs)) (hF : LvBox bF L sl cpl w) (hV : w.cell? ⟨bV, 0, none⟩ = some (.func (.func 67) #[] #[.pointer (some ⟨bF, 0, none⟩)])) :
    Calls Try.prog 116 #[.slice (some ⟨b, o, none⟩) cs.length cap, .func (.func 117) #[] #[.pointer (some ⟨bV, 0, none⟩)]] w fun e w' => e = .returned (.agg #[.int .i64 H, .int .i64 (minG H L cs)]) ∧ Below w.heap.size w w' := by
  have HALL := Lib.hid hall
  have HA : Hid (∀ wx, Below w.heap.size w wx → RdAt wx b o (rdsL H cs)) := fun wx h => ha.later h
  have CMP : Hid (∀ (c1 c2 : Int) (wx : World), rodOk ht H c1 → rodOk ht H c2 → Below w.heap.size w wx → Calls Try.prog 117 #[.agg #[.int .i64 H, .int .i64 c1], .agg #[.int .i64 H, .int .i64 c2], .pointer (some ⟨bV, 0, none⟩)] wx fun e w' => e = .returned (.int .i64 (cmpI (sG H L c1 * 1) (sG H L c2 * 1))) ∧ Below wx.heap.size wx w') := fun c1 c2 wx g1 g2 hx => cmpG H L sl cpl c1 c2 h1 g1.1 g2.1 bF bV wx (hF.later hx) ((hx.cell (World.block_lt_of_cell? w _ hV)).trans hV)
  obtain ⟨c0, hc0⟩ : ∃ c, cs[0]? = some c := ⟨_, List.getElem?_eq_getElem hpos⟩
  have m0 : minG H L (cs.take 1) = c0 := by rw [minG_take hc0]; simp [minG, ngB]
  have ok0 := HALL.out c0 (List.mem_of_getElem? hc0)
  have hbw : b < w.heap.size := World.block_lt_of_cell? w _ (ha.cells (rdsL_at hc0)).1
  obtain ⟨x0, x1⟩ := (ha.later (balloc0 w (.cells #[.int .i64 0, .int .i64 0] 96))).cells (rdsL_at hc0)
  simp only [Nat.zero_mul, Nat.add_zero] at x0 x1
  have T1' := TwBox.new (w.alloc (.cells #[.int .i64 0, .int .i64 0] 96)) H c0 96
  have S1' := there_new (w.alloc (.cells #[.int .i64 0, .int .i64 0] 96)) #[.int .i64 H, .int .i64 c0] 96 2 rfl
  rw [World.size_alloc] at T1' S1'
  have T1 := Lib.hid T1'
  have S1 := Lib.hid S1'
  have R1 : Hid (((w.alloc (.cells #[.int .i64 0, .int .i64 0] 96)).alloc (.cells #[.int .i64 H, .int .i64 c0] 96)).there w.heap.size 0 2) := there_below (there_new w #[.int .i64 0, .int .i64 0] 96 2 rfl) (balloc0 _ _)
  have B1 := Lib.hid (balloc (balloc0 w (.cells #[.int .i64 0, .int .i64 0] 96)) (.cells #[.int .i64 H, .int .i64 c0] 96))
  have hpos' : (0 : Int) < (cs.length : Int) := by omega
  have hpos2 : ¬ (cs.length : Int) < 1 := by omega
  obtain ⟨W1, hW⟩ : ∃ W1, (w.alloc (.cells #[.int .i64 0, .int .i64 0] 96)).alloc (.cells #[.int .i64 H, .int .i64 c0] 96) = W1 := ⟨_, rfl⟩
  rw [hW] at T1 S1 R1 B1
  have HW := Lib.hid hW
  have M0 := Lib.hid m0
  have OK0 := Lib.hid ok0
  clear ha hF hV hW hc0 T1' S1' m0 ok0 h1 hall
  go_enter Try.func116, Try.ntmps116
  go_wp2
  rw [HW.out]
  clear x0 x1
  go_loopw [6] (fun i wr => ∃ (k : Nat) (m : Int), 1 ≤ k ∧ k ≤ cs.length ∧ i = .int .i64 (k : Int) ∧ Hid (minG H L (cs.take k) = m) ∧ Hid (rodOk ht H m) ∧ Hid (TwBox (w.heap.size + 1) H m wr) ∧ Hid (wr.there (w.heap.size + 1) 0 2) ∧ Hid (wr.there w.heap.size 0 2) ∧ Hid (Below w.heap.size w wr)) (fun i _ => cs.length - (intOf i).toNat)
  case atStart => exact ⟨1, c0, by omega, by omega, rfl, M0.out, OK0.out, T1.out, S1.out, R1.out, B1.out⟩
  case round =>
    obtain ⟨k, m, hk1, hk, rfl, hM, hOK, hT, hS, hR, hB⟩ := hrel
    by_cases hlt : k < cs.length
    · have hlt' : (k : Int) < (cs.length : Int) := by omega
      have hk0 : (0 : Int) ≤ (k : Int) := by omega
      obtain ⟨c, hc⟩ : ∃ c, cs[k]? = some c := ⟨_, List.getElem?_eq_getElem hlt⟩
      have okc := HALL.out c (List.mem_of_getElem? hc)
      have HS := Lib.hid (minG_take (H := H) (L := L) hc)
      rw [hM.out] at HS
      have OKC := Lib.hid okc
      have KX : Hid (∀ wx, Below wr.heap.size wr wx → wx.cell? ⟨b, o + k * 2, none⟩ = some (.int .i64 H) ∧ wx.cell? ⟨b, o + k * 2 + 1, none⟩ = some (.int .i64 c)) := fun wx hx => (HA.out _ (bnext hB.out hx)).cells (rdsL_at hc)
      have CM := Lib.hid (fun wx (hx : Below wr.heap.size wr wx) => CMP.out c m wx okc hOK.out (bnext hB.out hx))
      have g1 := (gB_true.1 okc.1).2.1
      have g2 := (gB_true.1 hOK.out.1).2.1
      have HL := sg_less H L c m
      obtain ⟨q, hq⟩ : ∃ q, cmpI (sG H L c * 1) (sG H L m * 1) = q := ⟨_, rfl⟩
      rw [hq] at CM HL
      have hm0 : ¬ m = 0 := by omega
      have HN : Hid (ngB H L m c = true ↔ q < 0) := by
        show _ ↔ _
        rw [HL]
        simp [ngB, hm0]
      clear hc okc hq HL g1 g2 hm0
      by_cases hq : q < 0
      · have HR : Hid (minG H L (cs.take (k + 1)) = c) := by show _ = _; rw [HS.out, if_pos (HN.out.2 hq)]
        clear HS HN
        go_wp2_with fail
        refine wp_region_held_drew (S := fun W => Below wr.heap.size wr W) (by kernel_rfl) ?_ (fun hHeld => ?_)
        · exact (Below.refl _ _).drew
        refine wpAnyH_take (i := 0) (v := .func (.func 117) #[] #[.pointer (some ⟨bV, 0, none⟩)]) rfl (by kernel_rfl) (by kernel_rfl) (by kernel_rfl) (fun _ _ _ h => h) (Or.inl ⟨by kernel_rfl, ?_⟩) (by assumption) ?_
        · intro w hSw
          try dsimp only at hSw
          skip
          go_simp
        try simp only [Act.put, List.setIfInBounds_toArray, List.set_cons_zero, List.set_cons_succ, List.getElem_toArray, List.getElem_cons_zero]
        refine wpAnyH_take (i := 1) (v := .slice (some ⟨b, o, none⟩) cs.length cap) rfl (by kernel_rfl) (by kernel_rfl) (by kernel_rfl) (fun _ _ _ h => h) (Or.inl ⟨by kernel_rfl, ?_⟩) (by assumption) ?_
        · intro w hSw
          try dsimp only at hSw
          skip
          go_simp
        try simp only [Act.put, List.setIfInBounds_toArray, List.set_cons_zero, List.set_cons_succ, List.getElem_toArray, List.getElem_cons_zero, List.getElem_cons_succ]
        refine wpAnyH_take (i := 2) (v := .int .i64 (k : Int)) rfl (by kernel_rfl) (by kernel_rfl) (by kernel_rfl) (fun _ _ _ h => h) (Or.inl ⟨by kernel_rfl, ?_⟩) (by assumption) ?_
        · intro w hSw
          try dsimp only at hSw
          skip
          go_simp
        try simp only [Act.put, List.setIfInBounds_toArray, List.set_cons_zero, List.set_cons_succ, List.getElem_toArray, List.getElem_cons_zero, List.getElem_cons_succ]
        refine wpAnyH_take (i := 3) (v := .pointer (some ⟨b, o + k * 2, none⟩)) rfl (by kernel_rfl) (by kernel_rfl) (by kernel_rfl) (fun _ _ _ h => h) (Or.inl ⟨by kernel_rfl, ?_⟩) (by assumption) ?_
        · intro w hSw
          try dsimp only at hSw
          skip
          go_simp
          all_goals first | omega | exact IntWalk.i64_in _ (by omega)
        try simp only [Act.put, List.setIfInBounds_toArray, List.set_cons_zero, List.set_cons_succ, List.getElem_toArray, List.getElem_cons_zero, List.getElem_cons_succ]
        refine wpAnyH_take (i := 4) (v := .agg #[.int .i64 H, .int .i64 c]) rfl (by kernel_rfl) (by kernel_rfl) (by kernel_rfl) (fun _ _ _ h => h) (Or.inl ⟨by kernel_rfl, ?_⟩) (by assumption) ?_
        · intro w hSw
          try dsimp only at hSw
          obtain ⟨c0, c1⟩ := (KX.out _ hSw)
          obtain ⟨d0, d1⟩ := hT.out.later hSw
          go_simp
        try simp only [Act.put, List.setIfInBounds_toArray, List.set_cons_zero, List.set_cons_succ, List.getElem_toArray, List.getElem_cons_zero, List.getElem_cons_succ]
        refine wpAnyH_take (i := 5) (v := .agg #[.int .i64 H, .int .i64 m]) rfl (by kernel_rfl) (by kernel_rfl) (by kernel_rfl) (fun _ _ _ h => h) (Or.inl ⟨by kernel_rfl, ?_⟩) (by assumption) ?_
        · intro w hSw
          try dsimp only at hSw
          obtain ⟨c0, c1⟩ := (KX.out _ hSw)
          obtain ⟨d0, d1⟩ := hT.out.later hSw
          go_simp
        try simp only [Act.put, List.setIfInBounds_toArray, List.set_cons_zero, List.set_cons_succ, List.getElem_toArray, List.getElem_cons_zero, List.getElem_cons_succ]
        refine wpAnyH_ready (rs := [6]) (by kernel_rfl) (by simp) ?_
        refine AllReadyH.cons rfl (fun K hK => ?_) AllReadyH.nil
        go_simp
        skip
        refine (CM.out _ hHeld).mono ?_
        rintro e w3 ⟨rfl, hb⟩
        refine hK.out _ _ ?_ (fun hHeld' => ?_)
        · exact bnext hHeld hb
        clear hK K hHeld
        have hHeld := hHeld'
        clear hHeld'
        try simp only [Act.put, List.setIfInBounds_toArray, List.set_cons_zero, List.set_cons_succ, List.getElem_toArray, List.getElem_cons_zero, List.getElem_cons_succ]
        refine wpAnyH_take (i := 7) (v := .bool true) rfl (by kernel_rfl) (by kernel_rfl) (by kernel_rfl) (fun _ _ _ h => h) (Or.inl ⟨by kernel_rfl, ?_⟩) (by assumption) ?_
        · intro w hSw
          try dsimp only at hSw
          skip
          go_simp
          all_goals first | omega | exact IntWalk.i64_in _ (by omega)
        try simp only [Act.put, List.setIfInBounds_toArray, List.set_cons_zero, List.set_cons_succ, List.getElem_toArray, List.getElem_cons_zero, List.getElem_cons_succ]
        refine wpAnyH_done (by kernel_rfl) ?_ _
        have O3 := Lib.hid (there_below hS.out hHeld)
        have R3 := Lib.hid (there_below hR.out hHeld)
        have B3 := Lib.hid (bnext hB.out hHeld)
        obtain ⟨c0', c1'⟩ := KX.out _ hHeld
        obtain ⟨u0, x0, y0⟩ := there_at O3.out (show 0 < 2 by omega)
        obtain ⟨u1, x1, y1⟩ := there_at O3.out (show 1 < 2 by omega)
        have T4 : Hid (TwBox (w.heap.size + 1) H c ((w3.setCell ⟨w.heap.size + 1, 0, none⟩ (.int .i64 H)).setCell ⟨w.heap.size + 1, 1, none⟩ (.int .i64 c))) := by
          refine ⟨?_, ?_⟩
          · rw [World.cell?_setCell_other _ _ _ _ (fun e => by cases e)]
            exact World.cell?_setCell_same _ _ _ x0
          · exact World.cell?_setCell_same _ _ _ ((World.cell?_setCell_other _ _ _ _ (fun e => by cases e)).trans x1)
        clear hHeld
        go_wp2
        go_roundw
        case rel => exact ⟨k + 1, c, by omega, by omega, by go_num, HR.out, OKC.out, T4.out, there_setM (there_setM O3.out _ _) _ _, there_otherW (there_otherW R3.out (by omega)) (by omega), (B3.out.setCell (by simp) _).setCell (by simp) _⟩
        case measure => simp [intOf]; omega
      · have HR : Hid (minG H L (cs.take (k + 1)) = m) := by show _ = _; rw [HS.out, if_neg (fun h => hq (HN.out.1 h))]
        clear HS HN
        go_wp2_with fail
        refine wp_region_held_drew (S := fun W => Below wr.heap.size wr W) (by kernel_rfl) ?_ (fun hHeld => ?_)
        · exact (Below.refl _ _).drew
        refine wpAnyH_take (i := 0) (v := .func (.func 117) #[] #[.pointer (some ⟨bV, 0, none⟩)]) rfl (by kernel_rfl) (by kernel_rfl) (by kernel_rfl) (fun _ _ _ h => h) (Or.inl ⟨by kernel_rfl, ?_⟩) (by assumption) ?_
        · intro w hSw
          try dsimp only at hSw
          skip
          go_simp
        try simp only [Act.put, List.setIfInBounds_toArray, List.set_cons_zero, List.set_cons_succ, List.getElem_toArray, List.getElem_cons_zero]
        refine wpAnyH_take (i := 1) (v := .slice (some ⟨b, o, none⟩) cs.length cap) rfl (by kernel_rfl) (by kernel_rfl) (by kernel_rfl) (fun _ _ _ h => h) (Or.inl ⟨by kernel_rfl, ?_⟩) (by assumption) ?_
        · intro w hSw
          try dsimp only at hSw
          skip
          go_simp
        try simp only [Act.put, List.setIfInBounds_toArray, List.set_cons_zero, List.set_cons_succ, List.getElem_toArray, List.getElem_cons_zero, List.getElem_cons_succ]
        refine wpAnyH_take (i := 2) (v := .int .i64 (k : Int)) rfl (by kernel_rfl) (by kernel_rfl) (by kernel_rfl) (fun _ _ _ h => h) (Or.inl ⟨by kernel_rfl, ?_⟩) (by assumption) ?_
        · intro w hSw
          try dsimp only at hSw
          skip
          go_simp
        try simp only [Act.put, List.setIfInBounds_toArray, List.set_cons_zero, List.set_cons_succ, List.getElem_toArray, List.getElem_cons_zero, List.getElem_cons_succ]
        refine wpAnyH_take (i := 3) (v := .pointer (some ⟨b, o + k * 2, none⟩)) rfl (by kernel_rfl) (by kernel_rfl) (by kernel_rfl) (fun _ _ _ h => h) (Or.inl ⟨by kernel_rfl, ?_⟩) (by assumption) ?_
        · intro w hSw
          try dsimp only at hSw
          skip
          go_simp
          all_goals first | omega | exact IntWalk.i64_in _ (by omega)
        try simp only [Act.put, List.setIfInBounds_toArray, List.set_cons_zero, List.set_cons_succ, List.getElem_toArray, List.getElem_cons_zero, List.getElem_cons_succ]
        refine wpAnyH_take (i := 4) (v := .agg #[.int .i64 H, .int .i64 c]) rfl (by kernel_rfl) (by kernel_rfl) (by kernel_rfl) (fun _ _ _ h => h) (Or.inl ⟨by kernel_rfl, ?_⟩) (by assumption) ?_
        · intro w hSw
          try dsimp only at hSw
          obtain ⟨c0, c1⟩ := (KX.out _ hSw)
          obtain ⟨d0, d1⟩ := hT.out.later hSw
          go_simp
        try simp only [Act.put, List.setIfInBounds_toArray, List.set_cons_zero, List.set_cons_succ, List.getElem_toArray, List.getElem_cons_zero, List.getElem_cons_succ]
        refine wpAnyH_take (i := 5) (v := .agg #[.int .i64 H, .int .i64 m]) rfl (by kernel_rfl) (by kernel_rfl) (by kernel_rfl) (fun _ _ _ h => h) (Or.inl ⟨by kernel_rfl, ?_⟩) (by assumption) ?_
        · intro w hSw
          try dsimp only at hSw
          obtain ⟨c0, c1⟩ := (KX.out _ hSw)
          obtain ⟨d0, d1⟩ := hT.out.later hSw
          go_simp
        try simp only [Act.put, List.setIfInBounds_toArray, List.set_cons_zero, List.set_cons_succ, List.getElem_toArray, List.getElem_cons_zero, List.getElem_cons_succ]
        refine wpAnyH_ready (rs := [6]) (by kernel_rfl) (by simp) ?_
        refine AllReadyH.cons rfl (fun K hK => ?_) AllReadyH.nil
        go_simp
        skip
        refine (CM.out _ hHeld).mono ?_
        rintro e w3 ⟨rfl, hb⟩
        refine hK.out _ _ ?_ (fun hHeld' => ?_)
        · exact bnext hHeld hb
        clear hK K hHeld
        have hHeld := hHeld'
        clear hHeld'
        try simp only [Act.put, List.setIfInBounds_toArray, List.set_cons_zero, List.set_cons_succ, List.getElem_toArray, List.getElem_cons_zero, List.getElem_cons_succ]
        refine wpAnyH_take (i := 7) (v := .bool false) rfl (by kernel_rfl) (by kernel_rfl) (by kernel_rfl) (fun _ _ _ h => h) (Or.inl ⟨by kernel_rfl, ?_⟩) (by assumption) ?_
        · intro w hSw
          try dsimp only at hSw
          skip
          go_simp
          all_goals first | omega | exact IntWalk.i64_in _ (by omega)
        try simp only [Act.put, List.setIfInBounds_toArray, List.set_cons_zero, List.set_cons_succ, List.getElem_toArray, List.getElem_cons_zero, List.getElem_cons_succ]
        refine wpAnyH_done (by kernel_rfl) ?_ _
        have T3 := Lib.hid (hT.out.later hHeld)
        have O3 := Lib.hid (there_below hS.out hHeld)
        have R3 := Lib.hid (there_below hR.out hHeld)
        have B3 := Lib.hid (bnext hB.out hHeld)
        clear hHeld
        go_wp2
        go_roundw
        case rel => exact ⟨k + 1, m, by omega, by omega, by go_num, HR.out, hOK.out, T3.out, O3.out, R3.out, B3.out⟩
        case measure => simp [intOf]; omega
    · have hge : ¬ (k : Int) < (cs.length : Int) := by omega
      have hkn : k = cs.length := by omega
      subst hkn
      have HR : Hid (minG H L cs = m) := by have := hM.out; rwa [List.take_length] at this
      obtain ⟨d0, d1⟩ := hT.out
      obtain ⟨u0, x0, y0⟩ := there_at hR.out (show 0 < 2 by omega)
      obtain ⟨u1, x1, y1⟩ := there_at hR.out (show 1 < 2 by omega)
      go_wp2
      refine bodyPost_ret (v := .agg #[.int .i64 H, .int .i64 m]) (by simp [results, Try.results116, go_sem, x0, x1]) rfl ⟨by rw [HR.out], ?_⟩
      exact (hB.out.setCell (by simp) _).setCell (by simp) _
end Go.Proofs.Ytlglijalhacmhab
