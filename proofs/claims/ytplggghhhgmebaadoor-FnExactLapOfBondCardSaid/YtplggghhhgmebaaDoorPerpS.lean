/-
  Perpends by the model.
-/
import Derived.Test.YtplggghhhgmebaaDoorPerp
import Derived.Test.YtplggghhhgmebaaDoorInts
namespace Go.Proofs.YtplggghhhgmebaaDoor
open Go.ChangeShapes Go.WideShapes Go.ChangeAt Go.RowKit Go.Joins

theorem box2c (w : World) (x y : ByteArray) (t : TypeId) : (w.alloc (.cells #[.string x, .string y] t)).cell? ⟨w.heap.size, 0, none⟩ = some (.string x) ∧ (w.alloc (.cells #[.string x, .string y] t)).cell? ⟨w.heap.size, 1, none⟩ = some (.string y) := by
  refine ⟨?_, ?_⟩ <;> (rw [cell_of_row _ _ _ _ t (0, 0) (heap_alloc_new w _)]; rfl)

set_option maxRecDepth 100000 in
set_option maxHeartbeats 1600000 in
theorem letter_spec (c : Co) (hok : c.ok = true) (i : Nat) (hi : i ≤ 1000) (w : World) :
    Calls Tryd.prog 37 #[.agg #[.string c.lead, .string c.cyc], .int .i64 (i : Int)] w fun e w' => e = .returned (.int .u8 ((letterAt c i).toNat : Int)) ∧ Below w.heap.size w w' := by
  obtain ⟨l1, _, y1, y2, _⟩ := Co.ok_facts hok
  have hi0 : (0 : Int) ≤ (i : Int) := by omega
  clear hok
  by_cases hlt : i < c.lead.size
  · have hlt' : (i : Int) < (c.lead.size : Int) := by omega
    have HE := Lib.hid (letterAt_lead c i hlt)
    go_enter Tryd.func37, Tryd.ntmps37
    go_wp2
    go_ret
    exact ⟨by rw [HE.out]; rfl, balloc0 _ _⟩
  · have hge : ¬ (i : Int) < (c.lead.size : Int) := by omega
    have hm : (i - c.lead.size) % c.cyc.size < c.cyc.size := Nat.mod_lt _ (by omega)
    have HE := Lib.hid (letterAt_cyc c i hlt hm)
    have hz : ¬ (c.cyc.size : Int) = 0 := by omega
    obtain ⟨j, hj⟩ : ∃ j : Nat, Hid ((i - c.lead.size) % c.cyc.size = j) := ⟨_, rfl⟩
    have hjc : (j : Int) < (c.cyc.size : Int) := by have := hj.out; omega
    have hj0 : (0 : Int) ≤ (j : Int) := by omega
    have e1 : ((i : Int) - (c.lead.size : Int)) % (c.cyc.size : Int) = (j : Int) := by
      have h1 : (i : Int) - (c.lead.size : Int) = ((i - c.lead.size : Nat) : Int) := by omega
      rw [h1, ← hj.out]
      exact (Int.natCast_emod _ _).symm
    have hjn : j < c.cyc.size := by omega
    have HF : Hid (letterAt c i = c.cyc[j]'hjn) := by
      show letterAt c i = _
      rw [HE.out]
      congr 1
    clear hm HE
    obtain ⟨g0, g1⟩ := box2c w c.lead c.cyc 53
    have zz : (0 : Int) ≤ (c.cyc.size : Int) := by omega
    go_enter Tryd.func37, Tryd.ntmps37
    go_wp2
    go_region
    go_wp2
    go_ret
    exact ⟨by rw [HF.out]; rfl, (balloc0 _ _).drew⟩

/-- Perpends are handed back. -/
def PerpOut (w : World) (c : Co) (u : Nat) (e : Ending) (w' : World) : Prop :=
  ∃ m g cap, PerpIs c u m ∧ e = .returned (.slice (some ⟨g, 0, none⟩) m cap) ∧ IntOwn w.heap.size (perpL c m) g w' ∧ Below w.heap.size w w'

theorem own_later {w w' : World} {B e size n : Nat} {v : Value} {xs : List Value} (h : w.ownsRow B e size v n xs) (hb : Below w.heap.size w w') : w'.ownsRow B e size v n xs := by
  refine ⟨h.1, ?_⟩
  rcases h.2 with hn | ⟨g, cap, cur, hv, hB, hgg, rest⟩
  · exact .inl hn
  · exact .inr ⟨g, cap, cur, hv, hB, (hb.block g (Array.getElem?_eq_some_iff.1 hgg).1).trans hgg, rest⟩
theorem nums_later {W0 w w' : World} {ps : List Int} {g cap : Nat} (h : NumsAt W0 ps g cap w) (hb : Below w.heap.size w w') : NumsAt W0 ps g cap w' :=
  ⟨own_later h.1 hb, h.2.1.trans (hb.mono (Nat.le_of_succ_le h.2.2)), Nat.le_trans h.2.2 hb.size⟩
set_option maxRecDepth 100000 in
set_option maxHeartbeats 3200000 in
theorem perps_spec (c : Co) (hok : c.ok = true) (u : Nat) (h1 : 1 ≤ u) (h2 : u ≤ 201) (w : World) :
    Calls Tryd.prog 24 #[.agg #[.string c.lead, .string c.cyc], .int .i64 (u : Int)] w (PerpOut w c u) := by
  have HO := Lib.hid hok
  obtain ⟨d0, d1⟩ := box2c w c.lead c.cyc 53
  obtain ⟨W0, hW⟩ : ∃ W0, w.alloc (.cells #[.string c.lead, .string c.cyc] 53) = W0 := ⟨_, rfl⟩
  have E0 : Hid (Below w.heap.size w W0) := by show Below w.heap.size w W0; rw [← hW]; exact balloc0 _ _
  have Z0 : Hid (W0.heap.size = w.heap.size + 1) := by show W0.heap.size = _; rw [← hW]; simp
  rw [hW] at d0 d1
  have K : Hid (∀ wx, Below W0.heap.size W0 wx → wx.cell? ⟨w.heap.size, 0, none⟩ = some (.string c.lead) ∧ wx.cell? ⟨w.heap.size, 1, none⟩ = some (.string c.cyc)) := fun wx hx =>
    ⟨(hx.cell (p := ⟨w.heap.size, 0, none⟩) (World.block_lt_of_cell? W0 _ d0)).trans d0, (hx.cell (p := ⟨w.heap.size, 1, none⟩) (World.block_lt_of_cell? W0 _ d1)).trans d1⟩
  have HW := Lib.hid hW
  clear hok hW d0 d1
  go_enter Tryd.func24, Tryd.ntmps24
  go_wp2
  rw [HW.out]
  go_loopw [5, 6, 7] (fun v t i wr => ∃ (n g cap : Nat) (ps : List Int), v = .slice (some ⟨g, 0, none⟩) ps.length cap ∧ t = .int .i64 ((ends c n : Nat) : Int) ∧ i = .int .i64 n ∧ Hid (ps.length = n - 1) ∧ n ≤ 201 ∧ Hid (ps = perpL c (n - 1)) ∧ Hid (1 ≤ n → ends c (n - 1) < u) ∧ Hid (NumsAt W0 ps g cap wr)) (fun _ _ i _ => 300 - (intOf i).toNat)
  case atStart => exact ⟨0, W0.heap.size, 0, [], by first | rfl | (rw [Z0.out]; rfl) | (rw [Z0.out]), rfl, rfl, rfl, by omega, rfl, fun h => by omega, nums_start W0⟩
  case round =>
    obtain ⟨n, g, cap, ps, rfl, rfl, rfl, hpsH, hn, hP, hU, hD⟩ := hrel
    have hge := ends_ge HO.out n
    by_cases hlt : ends c n < u
    · have hlt' : ((ends c n : Nat) : Int) < (u : Int) := by omega
      have CL := Lib.hid (letter_spec c HO.out n (by omega))
      have CQ := Lib.hid (quarters_spec ((letterAt c n).toNat : Int))
      rw [← qtr_eq] at CQ
      have HS : Hid (ends c (n + 1) = ends c n + qtr (letterAt c n)) := rfl
      have hq4 := qtr_le (letterAt c n)
      have hst := (ends_step HO.out n).2
      obtain ⟨E, hE⟩ : ∃ E, ends c n = E := ⟨_, rfl⟩
      obtain ⟨q, hq⟩ : ∃ q, qtr (letterAt c n) = q := ⟨_, rfl⟩
      obtain ⟨x, hx⟩ : ∃ x : Int, ((letterAt c n).toNat : Int) = x := ⟨_, rfl⟩
      rw [hE] at hlt hlt' HS hge ⊢
      rw [hq] at CQ HS hq4
      rw [hx] at CL CQ
      have HE := Lib.hid hE
      clear hE hq hx hst
      by_cases h0 : n = 0
      · subst h0
        have hE0 : E = 0 := HE.out.symm
        subst hE0
        obtain ⟨k0, k1⟩ := K.out _ hD.out.2.1
        go_wp2_with (first | (go_at_call 37; refine (CL.out _).mono ?_; rintro e w3 ⟨rfl, hb3⟩; have D3 := Lib.hid (nums_later hD.out hb3); clear hb3) | (go_at_call 36; refine (CQ.out _).mono ?_; rintro e w4 ⟨rfl, rfl⟩))
        go_roundw
        case rel => exact ⟨1, g, cap, ps, rfl, by rw [show ends c 1 = 0 + q from HS.out]; simp, rfl, by have := hpsH.out; exact this, by omega, hP.out, fun _ => by show ends c 0 < u; exact h1, D3.out⟩
        case measure => simp [intOf]
      · have hE1 : 0 < (E : Int) := by omega
        obtain ⟨m, rfl⟩ : ∃ m, n = m + 1 := ⟨n - 1, by omega⟩
        have hP1 : Hid (ps ++ [(E : Int)] = perpL c (m + 1)) := by show ps ++ [(E : Int)] = _; rw [perpL_succ, HE.out, hP.out]; simp
        have hbase : W0.heap.size ≤ wr.heap.size := by have := hD.out.2.2; omega
        have hps := hpsH.out
        have c3 : Hid (ps.length + 1 ≤ maxLen) := by show ps.length + 1 ≤ maxLen; unfold maxLen; omega
        have c4 : ps.length ≤ 201 := by omega
        clear hps
        obtain ⟨i0, hi, hz0, hz1, hz2⟩ := info_parts infoInt
        go_wp2_with (first | (at_builtin; go_must ((refine wpList_append_own _ rfl _ _ 43 rfl W0.heap.size 2 i0 (.int .i64 0) 1 8 Tryd.underlying43 hi hz0 hz1 hz2 rfl (by decide) (.slice (some ⟨g, 0, none⟩) ps.length cap) ps.length (intVals ps) rfl (hD.out.1.alloc _) ⟨wr.heap.size, 0, none⟩ 1 1 [.int .i64 (E : Int)] rfl rfl ((lit8 W0.heap.size wr _ hbase).cells rfl) (by simp [Value.oneCell']) c3.out (by omega) (by simp; omega) ?_; intro v1 w2 hown1 hgrow1 _; obtain ⟨g', cap', hv, hD'⟩ := nums_step hD.out hown1 hgrow1; subst hv; have D2 := Lib.hid hD'; obtain ⟨k0, k1⟩ := K.out _ D2.out.2.1; clear hD' hown1 hgrow1))) | (go_at_call 37; refine (CL.out _).mono ?_; rintro e w3 ⟨rfl, hb3⟩; have D3 := Lib.hid (nums_later D2.out hb3); clear hb3) | (go_at_call 36; refine (CQ.out _).mono ?_; rintro e w4 ⟨rfl, rfl⟩))
        go_roundw
        case rel => exact ⟨m + 2, g', cap', ps ++ [(E : Int)], by simp, by rw [show ends c (m + 2) = E + q from HS.out]; simp, by go_num, by have := hpsH.out; show (ps ++ [(E : Int)]).length = m + 2 - 1; simp; omega, by omega, hP1.out, fun _ => by show ends c (m + 1) < u; rw [HE.out]; exact hlt, D3.out⟩
        case measure => simp [intOf]; omega
    · have hge' : ¬ ((ends c n : Nat) : Int) < (u : Int) := by omega
      have hn1 : 1 ≤ n := by
        apply Decidable.byContradiction
        intro h
        have : n = 0 := by omega
        subst this
        exact hlt h1
      obtain ⟨m, rfl⟩ : ∃ m, n = m + 1 := ⟨n - 1, by omega⟩
      have HM : Hid (PerpIs c u m) := ⟨hU.out (by omega), by omega⟩
      have hpl : ps.length = m := by have := hpsH.out; omega
      have HOw : Hid (IntOwn w.heap.size (perpL c m) g wr) := by
        have h1 := hD.out.own
        have h2 : ps = perpL c m := hP.out
        rw [h2] at h1
        exact ⟨Nat.le_trans E0.out.size h1.1, h1.2⟩
      have HB : Hid (Below w.heap.size w wr) := E0.out.trans (hD.out.2.1.mono E0.out.size)
      rw [hpl]
      clear hpl hge hlt
      go_wp2
      go_ret
      exact ⟨m, g, cap, HM.out, rfl, HOw.out, HB.out⟩
end Go.Proofs.YtplggghhhgmebaaDoor
