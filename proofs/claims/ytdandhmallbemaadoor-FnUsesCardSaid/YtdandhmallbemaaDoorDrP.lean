/-
  The model's drawn moulds: a list that is seldom not valid.
-/
import Derived.Test.YtdandhmallbemaaDoorDrO
namespace Go.Proofs.YtdandhmallbemaaDoor
open Go.ChangeShapes Go.WideShapes Go.ChangeAt Go.RowKit Go.Joins

theorem MoRow.shape {b : Nat} {L : List Mo} {v : Value} {w : World} (h : MoRow b L v w) : (v = .slice none 0 0 ∧ L = []) ∨ ∃ g cap, v = .slice (some ⟨g, 0, none⟩) L.length cap := by
  rcases h.2 with ⟨e, h1⟩ | ⟨g, cap, cur, e, _⟩
  · exact .inl ⟨e, List.length_eq_zero_iff.1 h1⟩
  · exact .inr ⟨g, cap, e⟩

set_option maxRecDepth 100000 in
set_option maxHeartbeats 6400000 in
theorem draw_bent (w0 w : World) (B : Nat) (cv : Value) (k : Nat) (hk : k ≤ 700000) (hB : B < w0.heap.size) (hw : w0.heap.size ≤ w.heap.size) (h : Src w0 w B cv k) :
    Calls Tryd.prog 26 #[.pointer (some ⟨B, 0, none⟩)] w (ListDrawn 21 w0 w B cv (k + 400)) := by
  have HS := Lib.hid h
  clear h
  obtain ⟨i0, hi, hz0, hz1, hz2⟩ := info_parts infoMould
  have hBw : B < w.heap.size := by omega
  go_enter Tryd.func26, Tryd.ntmps26
  go_wp2_with fail
  refine (draw_moulds w0 w B cv k (by omega) hB hw HS.out).mono ?_
  rintro e w1 ⟨L, v, hl, rfl, ho, h1, t1⟩
  have H1 := Lib.hid h1
  have O1 := Lib.hid ho
  have T1 := Lib.hid t1
  have hs1 : w.heap.size ≤ w1.heap.size := t1.size
  clear h1 ho t1
  go_wp2_with fail
  refine (src_one w0 _ B cv (k + 60) 24 (by omega) (by omega) (by omega) H1.out).mono ?_
  rintro e w2 ⟨bo, rfl, h2, t2⟩
  have H2 := Lib.hid h2
  have O2 : Hid (MoRow w.heap.size L v w2) := row_touch O1.out t2 hBw
  have T2 := Lib.hid (T1.out.trans t2)
  have hs2 : w.heap.size ≤ w2.heap.size := by have := t2.size; omega
  clear h2 t2
  cases bo
  · rcases O2.out.shape with ⟨rfl, hL⟩ | ⟨g, cap, rfl⟩
    · have HL := Lib.hid hL
      have hn0 : L.length = 0 := by rw [hL]; rfl
      clear hL
      go_wp2
      go_ret
      exact ⟨L, _, by omega, rfl, O2.out, H2.out.mono (by omega), T2.out⟩
    · by_cases hn : L.length = 0
      · have hL := List.length_eq_zero_iff.1 hn
        subst hL
        clear hn
        go_wp2
        go_ret
        exact ⟨[], _, by simp, rfl, O2.out, H2.out.mono (by simp; try omega), T2.out⟩
      · have hn2 : (0 : Int) < (L.length : Int) := by omega
        have hn3 : 0 < L.length := by omega
        go_wp2_with fail
        refine (src_one w0 _ B cv (k + 60 + 2) 8 (by omega) (by omega) (by omega) H2.out).mono ?_
        rintro e wa ⟨bq, rfl, ha, ta⟩
        have HA := Lib.hid ha
        have OA : Hid (MoRow w.heap.size L (.slice (some ⟨g, 0, none⟩) L.length cap) wa) := row_touch O2.out ta hBw
        have TA := Lib.hid (T2.out.trans ta)
        have hsa : w.heap.size ≤ wa.heap.size := TA.out.size
        clear ha ta
        cases bq
        · go_wp2
          go_ret
          exact ⟨L, _, by omega, rfl, OA.out, HA.out.mono (by omega), TA.out⟩
        · go_wp2_with fail
          refine (src_pick w0 _ B cv ((k + 60 + 2) + 2) L.length (by omega) (by omega) (by omega) HA.out).mono ?_
          rintro e wb ⟨r, ra, rb, rfl, hb, tb⟩
          obtain ⟨i, rfl⟩ := Int.eq_ofNat_of_zero_le ra
          have hil : i < L.length := by omega
          have hil1 : (i : Int) < (L.length : Int) := by omega
          have hil0 : (0 : Int) ≤ (i : Int) := by omega
          have OB : Hid (MoRow w.heap.size L (.slice (some ⟨g, 0, none⟩) L.length cap) wb) := row_touch OA.out tb hBw
          have TB := Lib.hid (TA.out.trans tb)
          have hsb : w.heap.size ≤ wb.heap.size := TB.out.size
          have SP := Lib.hid (spoil w0 wb w B cv ((k + 60 + 2) + 2 + 2) w.heap.size g i cap L hil (by omega) hB hw (Nat.le_refl _) (by omega) OB.out TB.out hb)
          clear hb tb
          go_wp2_with fail
          refine SP.out.mono ?_
          rintro e wc ⟨L', rfl, hl', hr', hc, tc, _⟩
          have HF : Hid (MoRow w.heap.size L' (.slice (some ⟨g, 0, none⟩) L'.length cap) wc) := by show MoRow _ _ _ _; rw [hl']; exact hr'
          have HC := Lib.hid (hc.mono (k' := k + 400) (by omega))
          have TC := Lib.hid tc
          have HL' := Lib.hid hl'
          clear hl' hr' hc tc
          go_wp2
          go_ret
          exact ⟨L', _, by rw [HL'.out]; omega, by rw [HL'.out]; rfl, HF.out, HC.out, TC.out⟩
  · go_wp2_with fail
    refine (src_pick w0 _ B cv (k + 60 + 2) 2 (by omega) (by omega) (by omega) (H2.out.alloc _)).mono ?_
    rintro e w3 ⟨r, ha, hb, rfl, h3, t3⟩
    have H3 := Lib.hid h3
    have O3 : Hid (MoRow w.heap.size [] (.slice (some ⟨w2.heap.size, 0, none⟩) 0 0) w3) := row_touch (own_weak (own_mouldStart w2) hs2) t3 hBw
    have T3 := Lib.hid ((T2.out.trans (touch_alloc B w2 _)).trans t3)
    clear h3 t3
    obtain ⟨j0, hj0⟩ := Int.eq_ofNat_of_zero_le (show 0 ≤ 20 + r by omega)
    go_wp2
    go_loopw [3, 4] (fun v i wr => ∃ (j : Nat) (L : List Mo) (vv : Value), v = vv ∧ i = .int .i64 (j : Int) ∧ j + L.length ≤ 21 ∧ Hid (MoRow w.heap.size L vv wr) ∧ Hid (Src w0 wr B cv (k + 66 + 8 * L.length)) ∧ Hid (Touch B w wr)) (fun _ i _ => (intOf i).toNat)
    case atStart => exact ⟨j0, [], _, rfl, by first | rfl | rw [hj0], by simp; omega, O3.out, H3.out.mono (by simp), T3.out⟩
    case round =>
      obtain ⟨j, L2, vv, hvv, rfl, hj, hO, hS, hT⟩ := hrel
      have hvs := hvv.symm
      clear hvv
      subst hvs
      by_cases hlt : 0 < j
      · have hlt' : (0 : Int) < (j : Int) := by omega
        have hws : w.heap.size ≤ wr.heap.size := hT.out.size
        have DM := Lib.hid (draw_mould w0 wr B cv (k + 66 + 8 * L2.length) (by omega) hB (by omega) hS.out)
        have c3 : Hid (L2.length + 1 ≤ maxLen) := by show L2.length + 1 ≤ maxLen; unfold maxLen; omega
        go_wp2_with fail
        refine DM.out.mono ?_
        rintro e w4 ⟨c, rfl, h4, t4⟩
        have hO4 : Hid (MoRow w.heap.size L2 vv w4) := row_touch hO.out t4 hBw
        have hS4 := Lib.hid (h4.alloc (.cells #[.int .i64 c.le, .int .i64 c.wi, .int .i64 c.he, .int .i64 c.us] 47))
        have hT4 := Lib.hid ((hT.out.trans t4).trans (touch_alloc B w4 (.cells #[.int .i64 c.le, .int .i64 c.wi, .int .i64 c.he, .int .i64 c.us] 47)))
        have hbase : w.heap.size ≤ w4.heap.size := by have := t4.size; omega
        clear h4 t4
        go_wp2_with (at_builtin; go_must ((refine wpList_append_own _ rfl _ _ 24 rfl w.heap.size 47 i0 (.agg #[.int .i64 0, .int .i64 0, .int .i64 0, .int .i64 0]) 4 32 Tryd.underlying24 hi hz0 hz1 hz2 rfl (by decide) vv L2.length (mouldVals L2) rfl (World.ownsRow.alloc hO4.out _) ⟨w4.heap.size, 0, none⟩ 1 1 c.vals rfl rfl ((lit_mould w.heap.size w4 c hbase).cells rfl) (by simp [Mo.vals, Value.oneCell']) c3.out (by omega) (by simp; omega) ?_; intro v1 w5 hown1 hgrow1 _)))
        have HO5 : Hid (MoRow w.heap.size (L2 ++ [c]) v1 w5) := by
          show w5.ownsRow w.heap.size 47 4 v1 (L2 ++ [c]).length (mouldVals (L2 ++ [c]))
          rw [← mouldVals_snoc, List.length_append]
          exact hown1
        have HS5 := Lib.hid (hS4.out.grown hB (own_weak (World.ownsRow.alloc hO4.out (.cells #[.int .i64 c.le, .int .i64 c.wi, .int .i64 c.he, .int .i64 c.us] 47)) hw) hgrow1)
        have HT5 := Lib.hid (touch_grown hT4.out (World.ownsRow.alloc hO4.out (.cells #[.int .i64 c.le, .int .i64 c.wi, .int .i64 c.he, .int .i64 c.us] 47)) (Nat.le_refl _) hgrow1)
        clear hown1 hgrow1
        go_roundw
        case rel => exact ⟨j - 1, L2 ++ [c], v1, rfl, by go_num, by simp; omega, HO5.out, HS5.out.mono (by simp; omega), HT5.out⟩
        case measure => simp [intOf]; omega
      · have hge : ¬ (0 : Int) < (j : Int) := by omega
        have hsr : w.heap.size ≤ wr.heap.size := hT.out.size
        rcases hO.out.shape with ⟨rfl, hL⟩ | ⟨g, cap, rfl⟩
        · have HL := Lib.hid hL
          have hn0 : L2.length = 0 := by rw [hL]; rfl
          clear hL
          go_wp2
          go_ret
          exact ⟨L2, _, by omega, rfl, hO.out, hS.out.mono (by omega), hT.out⟩
        · by_cases hn : L2.length = 0
          · have hL := List.length_eq_zero_iff.1 hn
            subst hL
            clear hn
            go_wp2
            go_ret
            exact ⟨[], _, by simp, rfl, hO.out, hS.out.mono (by simp; try omega), hT.out⟩
          · have hn2 : (0 : Int) < (L2.length : Int) := by omega
            have hn3 : 0 < L2.length := by omega
            go_wp2_with fail
            refine (src_one w0 _ B cv (k + 66 + 8 * L2.length) 8 (by omega) (by omega) (by omega) hS.out).mono ?_
            rintro e wa ⟨bq, rfl, ha, ta⟩
            have HA := Lib.hid ha
            have OA : Hid (MoRow w.heap.size L2 (.slice (some ⟨g, 0, none⟩) L2.length cap) wa) := row_touch hO.out ta hBw
            have TA := Lib.hid (hT.out.trans ta)
            have hsa : w.heap.size ≤ wa.heap.size := TA.out.size
            clear ha ta
            cases bq
            · go_wp2
              go_ret
              exact ⟨L2, _, by omega, rfl, OA.out, HA.out.mono (by omega), TA.out⟩
            · go_wp2_with fail
              refine (src_pick w0 _ B cv ((k + 66 + 8 * L2.length) + 2) L2.length (by omega) (by omega) (by omega) HA.out).mono ?_
              rintro e wb ⟨r, ra, rb, rfl, hb, tb⟩
              obtain ⟨i, rfl⟩ := Int.eq_ofNat_of_zero_le ra
              have hil : i < L2.length := by omega
              have hil1 : (i : Int) < (L2.length : Int) := by omega
              have hil0 : (0 : Int) ≤ (i : Int) := by omega
              have OB : Hid (MoRow w.heap.size L2 (.slice (some ⟨g, 0, none⟩) L2.length cap) wb) := row_touch OA.out tb hBw
              have TB := Lib.hid (TA.out.trans tb)
              have hsb : w.heap.size ≤ wb.heap.size := TB.out.size
              have SP := Lib.hid (spoil w0 wb w B cv ((k + 66 + 8 * L2.length) + 2 + 2) w.heap.size g i cap L2 hil (by omega) hB hw (Nat.le_refl _) (by omega) OB.out TB.out hb)
              clear hb tb
              go_wp2_with fail
              refine SP.out.mono ?_
              rintro e wc ⟨L', rfl, hl', hr', hc, tc, _⟩
              have HF : Hid (MoRow w.heap.size L' (.slice (some ⟨g, 0, none⟩) L'.length cap) wc) := by show MoRow _ _ _ _; rw [hl']; exact hr'
              have HC := Lib.hid (hc.mono (k' := k + 400) (by omega))
              have TC := Lib.hid tc
              have HL' := Lib.hid hl'
              clear hl' hr' hc tc
              go_wp2
              go_ret
              exact ⟨L', _, by rw [HL'.out]; omega, by rw [HL'.out]; rfl, HF.out, HC.out, TC.out⟩
end Go.Proofs.YtdandhmallbemaaDoor
