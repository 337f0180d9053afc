/-
  The model's reading of a text with all its problems: its walk.
-/
import Derived.Test.YtgffgcobgjngnaaDoorChkS
namespace Go.Proofs.YtgffgcobgjngnaaDoor
open Go.ChangeShapes Go.WideShapes Go.ChangeAt Go.RowKit Go.Joins

theorem lck_probs (s : ByteArray) (w w' : World) (pv : Value) (hp : probsTo (wordsB s) (wordsB s).length ≠ []) (ho : w'.ownsRow w.heap.size 73 2 pv (probsTo (wordsB s) (wordsB s).length).length (prVals (probsTo (wordsB s) (wordsB s).length))) (hb : Below w.heap.size w w') :
    LckOut s w (.returned (.tuple #[.agg #[.string ⟨#[]⟩, .slice none 0 0], pv])) w' := by
  have hp' : ¬ chkP s = [] := hp
  exact ⟨_, _, _, rfl, by rw [if_neg hp']; rfl, fun h => absurd h hp', fun _ => rfl, ho, hb⟩
theorem lck_good (s : ByteArray) (w w' : World) (cv pv : Value) (hp : probsTo (wordsB s) (wordsB s).length = []) (hpv : w'.ownsRow w.heap.size 73 2 pv (probsTo (wordsB s) (wordsB s).length).length (prVals (probsTo (wordsB s) (wordsB s).length))) (ho : w'.ownsRow w.heap.size 68 2 cv (cosTo (wordsB s) (wordsB s).length).length (coVals (cosTo (wordsB s) (wordsB s).length))) (hb : Below w.heap.size w w') :
    LckOut s w (.returned (.tuple #[.agg #[.string ((wordsB s).getD 0 .empty), cv], pv])) w' := by
  have hp' : chkP s = [] := hp
  exact ⟨_, _, _, rfl, by rw [if_pos hp'], fun _ => ho, fun h => absurd hp' h, hpv, hb⟩

set_option maxRecDepth 100000 in
set_option maxHeartbeats 12800000 in
theorem lcheck_spec (s : ByteArray) (hs : s.size ≤ 400) (w : World) : Calls Tryd.prog 36 #[.string s] w (LckOut s w) := by
  have HBAD := Lib.hid (fun w' pv h1 h2 h3 => lck_probs s w w' pv h1 h2 h3)
  have HGOOD := Lib.hid (fun w' cv pv h1 h2 h3 h4 => lck_good s w w' cv pv h1 h2 h3 h4)
  have HS : Hid (∀ (i : Nat) (x : ByteArray), (wordsB s)[i]? = some x → x.size ≤ 1048576) := fun i x h => by have := word_size h; omega
  obtain ⟨n1, n2⟩ := words_length s
  have hn : (wordsB s).length ≤ 401 := by omega
  have B0 : Hid (Below w.heap.size w (w.alloc (.cells #[.string ⟨#[]⟩, .slice none 0 0] 24))) := balloc0 _ _
  have R0 : Hid ((w.alloc (.cells #[.string ⟨#[]⟩, .slice none 0 0] 24)).heap[w.heap.size]? = some (.cells #[.string ⟨#[]⟩, .slice none 0 0] 24 (0, 0))) := heap_alloc_new w _
  have C := Lib.hid (split_spec s (by omega) 32 (w.alloc (.cells #[.string ⟨#[]⟩, .slice none 0 0] 24)))
  have hcut : cutParts s (cutsC s 32 s.size 0 0) = wordsB s := rfl
  obtain ⟨W0, hW⟩ : ∃ W0, w.alloc (.cells #[.string ⟨#[]⟩, .slice none 0 0] 24) = W0 := ⟨_, rfl⟩
  obtain ⟨ws, hws⟩ : ∃ ws, wordsB s = ws := ⟨_, rfl⟩
  rw [hW, hcut, hws] at C
  rw [hW] at B0 R0
  rw [hws] at HBAD HGOOD HS n1 hn
  have HW := Lib.hid hW
  have hx0 : ws[0]? = some (ws.getD 0 .empty) := by
    cases hq : ws with
    | nil => rw [hq] at n1; simp at n1
    | cons a b => rfl
  obtain ⟨n, hnn⟩ : ∃ n, ws.length = n := ⟨_, rfl⟩
  obtain ⟨x0, hx00⟩ : ∃ x0, ws.getD 0 .empty = x0 := ⟨_, rfl⟩
  rw [hx00] at hx0
  have HX0 := Lib.hid hx00
  have HX1 := Lib.hid hx0
  have HN := Lib.hid hnn
  rw [hnn] at C n1 hn
  have n1' : (0 : Int) < (n : Int) := by omega
  have HK0 : Hid (kindAt ws 0 = if n = 1 then 1 else if nameB x0 = true then 0 else 2) := by show kindAt ws 0 = _; simp only [kindAt, if_true, hnn, hx00]
  have NS := Lib.hid (name_spec x0)
  obtain ⟨i0, hi0, hz0, hz1, hz2⟩ := info_parts infoPr
  obtain ⟨j0, hj0, hq0, hq1, hq2⟩ := info_parts infoCo
  have c3 : Hid (0 + 1 ≤ maxLen) := by show 0 + 1 ≤ maxLen; unfold maxLen; omega
  clear hs n2 hcut hW hws hnn hx00 hx0
  go_enter Tryd.func36, Tryd.ntmps36
  go_wp2_with fail
  rw [HW.out]
  refine C.out.mono ?_
  rintro e w1 ⟨g, cap, rfl, hA⟩
  have hA1 := hA.1
  have a0 : w1.cell? ⟨g, 0, none⟩ = some (.string x0) := by
    rw [World.ownsRow.cellAt hA1 0 (by rw [HN.out]; omega)]
    simp [partVals, HX1.out]
  have B1 : Hid (Below w.heap.size w w1) := bnext B0.out hA.2.1
  have hbase : w.heap.size ≤ w1.heap.size := B1.out.size
  have hlt0 : w.heap.size < w1.heap.size := Nat.lt_of_lt_of_le (Array.getElem?_eq_some_iff.1 R0.out).1 hA.2.1.size
  have A0 : Hid (∀ wx, wx = (w1.alloc (.cells #[.string x0, .slice none 0 0] 24)).alloc (.cells #[] 73) → CsAt w ws g cap w1.heap.size 0 0 (.slice (some ⟨w1.heap.size + 1, 0, none⟩) 0 0) (.slice none 0 0) wx) := fun wx hwx => by
    subst hwx
    have hbw : Below w1.heap.size w1 ((w1.alloc (.cells #[.string x0, .slice none 0 0] 24)).alloc (.cells #[] 73)) := balloc (balloc0 _ _) _
    refine ⟨⟨rfl, .inr ⟨w1.heap.size + 1, 0, #[], rfl, by omega, ?_, Nat.le_refl _, Nat.zero_le _, rfl, rfl⟩⟩, ⟨rfl, .inl ⟨rfl, rfl⟩⟩, ?_, ?_, ?_, bnext B1.out hbw, hlt0⟩
    · have h := heap_alloc_new (w1.alloc (.cells #[.string x0, .slice none 0 0] 24)) (.cells #[] 73)
      simpa using h
    · rw [Below.heap_alloc _ _ _ (by simp), HX0.out]
      exact heap_alloc_new w1 _
    · rw [Below.heap_alloc _ _ _ (by simp; omega), Below.heap_alloc _ _ _ hlt0]
      exact (hA.2.1.block _ (Array.getElem?_eq_some_iff.1 R0.out).1).trans R0.out
    · have h : w1.ownsRow w.heap.size 9 1 (.slice (some ⟨g, 0, none⟩) ws.length cap) ws.length (partVals ws) := ⟨hA1.1, by
        rcases hA1.2 with h | ⟨g', c', cur, hv, hB, rest⟩
        · exact .inl h
        · exact .inr ⟨g', c', cur, hv, Nat.le_trans B0.out.size hB, rest⟩⟩
      exact own_later2 h hbw
  clear hA hA1 R0
  have LIT : Hid (∀ a b : Value, (((w1.alloc (.cells #[.string x0, .slice none 0 0] 24)).alloc (.cells #[] 73)).alloc (.cells #[a, b] 73)).ownsRow w.heap.size 73 2 (.slice (some ⟨w1.heap.size + 1 + 1, 0, none⟩) 1 1) 1 [a, b]) := fun a b => by
    have h := row2_new 73 w.heap.size ((w1.alloc (.cells #[.string x0, .slice none 0 0] 24)).alloc (.cells #[] 73)) a b (by simp; omega)
    simpa using h
  by_cases hc1 : n = 1
  · have hc1' : ((n : Int) == 1) = true := by rw [hc1]; rfl
    have HK : Hid (kindAt ws 0 = 1) := by show kindAt ws 0 = 1; rw [HK0.out, if_pos hc1]
    clear hc1
    go_wp2_with (at_builtin; go_must ((refine wpList_append_own _ rfl _ _ 30 rfl w.heap.size 73 i0 (.agg #[.int .i64 0, .int .i64 0]) 2 16 Tryd.underlying30 hi0 hz0 hz1 hz2 rfl (by decide) (.slice (some ⟨w1.heap.size + 1, 0, none⟩) 0 0) 0 [] rfl ((A0.out _ rfl).pr.alloc _) ⟨w1.heap.size + 1 + 1, 0, none⟩ 1 1 [.int .i64 0, .int .i64 1] rfl rfl ((LIT.out _ _).cells rfl) (by simp [Value.oneCell']) c3.out (by omega) (by simp; omega) ?_; intro v3 w3 hown3 hgrow3 _; obtain ⟨g3, cp3, hv3⟩ : ∃ g c, v3 = .slice (some ⟨g, 0, none⟩) (0 + 1) c := (by rcases hown3.2 with ⟨_, h0⟩ | ⟨g, c, cur, hv, _⟩; (exfalso; omega); (exact ⟨g, c, hv⟩)); subst hv3; have A3 : Hid (CsAt w ws g cap w1.heap.size 1 1 _ (.slice none 0 0) w3) := (A0.out _ rfl).note (by rw [HK.out]; exact hown3) (by rw [HK.out]; decide) (cos_one ws) rfl hgrow3; clear hown3 hgrow3)))
    go_loopw [6, 7] (fun v t wr => ∃ (k : Nat) (cv : Value), 1 ≤ k ∧ k ≤ n ∧ t = .int .i64 (k : Int) ∧ Hid (CsAt w ws g cap w1.heap.size k k v cv wr)) (fun _ t _ => n - (intOf t).toNat)
    case atStart => exact ⟨1, _, Nat.le_refl _, n1, rfl, A3⟩
    case round =>
      obtain ⟨k, cv, hk1, hk, rfl, hA⟩ := hrel
      by_cases hlt : k < n
      · have hlt' : (k : Int) < (n : Int) := by omega
        have hk0 : (0 : Int) ≤ (k : Int) := by omega
        obtain ⟨x, hx⟩ : ∃ x, ws[k]? = some x := ⟨_, List.getElem?_eq_getElem (by rw [HN.out]; exact hlt)⟩
        have a1 := hA.out.word hx
        have WC := Lib.hid (word_spec x (HS.out k x hx) wr)
        have HXK : Hid (ws.getD k .empty = x) := by show ws.getD k .empty = x; rw [List.getD_eq_getElem?_getD, hx]; rfl
        have hlt2 := Lib.hid hlt
        have c5 : Hid ((probsTo ws k).length + 1 ≤ maxLen) := by show _ ≤ maxLen; have := probsTo_length ws k; unfold maxLen; omega
        have c6 : Hid (((probsTo ws k).length + 1) * 16 ≤ 140737488355328) := by show _ ≤ _; have := probsTo_length ws k; omega
        have d5 : Hid ((cosTo ws k).length + 1 ≤ maxLen) := by show _ ≤ maxLen; have := cosTo_length ws k; unfold maxLen; omega
        have d6 : Hid (((cosTo ws k).length + 1) * 32 ≤ 140737488355328) := by show _ ≤ _; have := cosTo_length ws k; omega
        clear hx hlt
        go_wp2_with fail
        refine WC.out.mono ?_
        rintro e w4 ⟨c, rfl, hc1, hb4⟩
        have A1 := Lib.hid (hA.out.later hb4)
        have HY : Hid (kindAt ws k = if 8 < k then 6 else (wordOf x).2) := by
          show kindAt ws k = _
          rw [kindAt, if_neg (show ¬ k = 0 by omega), HXK.out]
        have HC1 := Lib.hid hc1
        clear hb4 hc1 a1
        obtain ⟨q1, hq1⟩ : ∃ q, c.lead = q := ⟨_, rfl⟩
        obtain ⟨q2, hq2⟩ : ∃ q, c.cyc = q := ⟨_, rfl⟩
        have HQ := Lib.hid (And.intro hq1 hq2)
        obtain ⟨y, hy⟩ : ∃ y, (wordOf x).2 = y := ⟨_, rfl⟩
        rw [hy] at HY HC1
        rw [hq1, hq2, hy]
        have A2 := Lib.hid (A1.out.later (balloc0 w4 (.cells #[.string q1, .string q2] 68)))
        have hbase4 : w.heap.size ≤ w4.heap.size := A1.out.bl.size
        obtain ⟨z0, z1⟩ := box2 w4 q1 (.string q2) 68
        have y1 : (w4.alloc (.cells #[.string q1, .string q2] 68)).cell? ⟨w1.heap.size, 1, none⟩ = some cv := by rw [cell_of_row _ _ _ _ _ (0, 0) A2.out.bx]; rfl
        clear hq1 hq2 hy
        have LITP : Hid (∀ a b : Value, ((w4.alloc (.cells #[.string q1, .string q2] 68)).alloc (.cells #[a, b] 73)).ownsRow w.heap.size 73 2 (.slice (some ⟨w4.heap.size + 1, 0, none⟩) 1 1) 1 [a, b]) := fun a b => by
          have h := row2_new 73 w.heap.size (w4.alloc (.cells #[.string q1, .string q2] 68)) a b (by simp; omega)
          simpa using h
        have LITC : Hid (∀ a b : Value, ((w4.alloc (.cells #[.string q1, .string q2] 68)).alloc (.cells #[a, b] 68)).ownsRow w.heap.size 68 2 (.slice (some ⟨w4.heap.size + 1, 0, none⟩) 1 1) 1 [a, b]) := fun a b => by
          have h := row2_new 68 w.heap.size (w4.alloc (.cells #[.string q1, .string q2] 68)) a b (by simp; omega)
          simpa using h
        by_cases h8 : 8 < k
        · have h8' : (8 : Int) < (k : Int) := by omega
          have HK : Hid (kindAt ws k = 6) := by show kindAt ws k = 6; rw [HY.out, if_pos h8]
          have HJ : Hid (cosTo ws (k + 1) = cosTo ws k) := by show cosTo ws (k + 1) = _; rw [cosTo, if_pos (.inr (by rw [HK.out]; decide))]
          clear h8
          go_wp2_with (at_builtin; go_must ((refine wpList_append_own _ rfl _ _ 30 rfl w.heap.size 73 i0 (.agg #[.int .i64 0, .int .i64 0]) 2 16 Tryd.underlying30 hi0 hz0 hz1 hz2 rfl (by decide) u6 (probsTo ws k).length (prVals (probsTo ws k)) rfl (A2.out.pr.alloc _) ⟨w4.heap.size + 1, 0, none⟩ 1 1 [.int .i64 (k : Int), .int .i64 6] rfl rfl ((LITP.out _ _).cells rfl) (by simp [Value.oneCell']) c5.out c6.out (by simp; omega) ?_; intro v3 w3 hown3 hgrow3 _; obtain ⟨g3, cp3, hv3⟩ : ∃ g c, v3 = .slice (some ⟨g, 0, none⟩) ((probsTo ws k).length + 1) c := (by rcases hown3.2 with ⟨_, h0⟩ | ⟨g, c, cur, hv, _⟩; (exfalso; omega); (exact ⟨g, c, hv⟩)); subst hv3; have A3 := Lib.hid (A2.out.note (by rw [HK.out]; exact hown3) (by rw [HK.out]; exact (by decide)) HJ.out rfl hgrow3); clear hown3 hgrow3)))
          go_roundw
          case rel => exact ⟨k + 1, _, by omega, by have := hlt2.out; omega, by go_num, A3.out⟩
          case measure => simp [intOf]; have := hlt2.out; omega
        have h8' : ¬ (8 : Int) < (k : Int) := by omega
        have HK : Hid (kindAt ws k = y) := by show kindAt ws k = y; rw [HY.out, if_neg h8]
        by_cases hy0 : y = 0
        · have HC : Hid (cosTo ws (k + 1) = cosTo ws k ++ [c]) := by
            show cosTo ws (k + 1) = _
            rw [cosTo, if_neg (by rw [HK.out]; intro h; rcases h with h | h; (exact absurd h (by omega)); (exact h hy0)), HXK.out, HC1.out hy0]
          have HP : Hid (probsTo ws (k + 1) = probsTo ws k) := by show probsTo ws (k + 1) = _; simp only [probsTo]; rw [if_pos (by rw [HK.out]; exact hy0)]
          subst hy0
          clear h8
          go_wp2_with (at_builtin; go_must ((refine wpList_append_own _ rfl _ _ 22 rfl w.heap.size 68 j0 (.agg #[.string ⟨#[]⟩, .string ⟨#[]⟩]) 2 32 Tryd.underlying22 hj0 hq0 hq1 hq2 rfl (by decide) cv (cosTo ws k).length (coVals (cosTo ws k)) rfl (A2.out.co.alloc _) ⟨w4.heap.size + 1, 0, none⟩ 1 1 [.string q1, .string q2] rfl rfl ((LITC.out _ _).cells rfl) (by simp [Value.oneCell']) d5.out d6.out (by simp; omega) ?_; intro v3 w3 hown3 hgrow3 _; obtain ⟨g3, cp3, hv3⟩ : ∃ g c, v3 = .slice (some ⟨g, 0, none⟩) ((cosTo ws k).length + 1) c := (by rcases hown3.2 with ⟨_, h0⟩ | ⟨g, c, cur, hv, _⟩; (exfalso; omega); (exact ⟨g, c, hv⟩)); subst hv3; obtain ⟨s1, s2, A30⟩ := A2.out.grow c HC.out HP.out (by rw [HQ.out.1, HQ.out.2]; exact hown3) (by rw [HQ.out.1, HQ.out.2]; exact hgrow3); have A3 := Lib.hid A30; clear hown3 hgrow3 A30)))
          go_roundw
          case rel => exact ⟨k + 1, _, by omega, by have := hlt2.out; omega, by go_num, A3.out⟩
          case measure => simp [intOf]; have := hlt2.out; omega
        · have HJ : Hid (cosTo ws (k + 1) = cosTo ws k) := by show cosTo ws (k + 1) = _; rw [cosTo, if_pos (.inr (by rw [HK.out]; exact hy0))]
          have HY0 := Lib.hid hy0
          have hy1 : (y != 0) = true := by simp [hy0]
          clear h8
          go_wp2_with (at_builtin; go_must ((refine wpList_append_own _ rfl _ _ 30 rfl w.heap.size 73 i0 (.agg #[.int .i64 0, .int .i64 0]) 2 16 Tryd.underlying30 hi0 hz0 hz1 hz2 rfl (by decide) u6 (probsTo ws k).length (prVals (probsTo ws k)) rfl (A2.out.pr.alloc _) ⟨w4.heap.size + 1, 0, none⟩ 1 1 [.int .i64 (k : Int), .int .i64 y] rfl rfl ((LITP.out _ _).cells rfl) (by simp [Value.oneCell']) c5.out c6.out (by simp; omega) ?_; intro v3 w3 hown3 hgrow3 _; obtain ⟨g3, cp3, hv3⟩ : ∃ g c, v3 = .slice (some ⟨g, 0, none⟩) ((probsTo ws k).length + 1) c := (by rcases hown3.2 with ⟨_, h0⟩ | ⟨g, c, cur, hv, _⟩; (exfalso; omega); (exact ⟨g, c, hv⟩)); subst hv3; have A3 := Lib.hid (A2.out.note (by rw [HK.out]; exact hown3) (by rw [HK.out]; exact HY0.out) HJ.out rfl hgrow3); clear hown3 hgrow3)))
          go_roundw
          case rel => exact ⟨k + 1, _, by omega, by have := hlt2.out; omega, by go_num, A3.out⟩
          case measure => simp [intOf]; have := hlt2.out; omega
      · have hge : ¬ (k : Int) < (n : Int) := by omega
        have hkn : k = n := by omega
        subst hkn
        obtain ⟨ao, cp, hv⟩ : ∃ ao cp, u6 = .slice ao (probsTo ws k).length cp := by
          rcases hA.out.pr.2 with ⟨hv, h0⟩ | ⟨g, c, cur, hv, _⟩
          · exact ⟨_, _, by rw [h0]; exact hv⟩
          · exact ⟨_, _, hv⟩
        subst hv
        obtain ⟨ac, cc, hv⟩ : ∃ ac cc, cv = .slice ac (cosTo ws k).length cc := by
          rcases hA.out.co.2 with ⟨hv, h0⟩ | ⟨g, c, cur, hv, _⟩
          · exact ⟨_, _, by rw [h0]; exact hv⟩
          · exact ⟨_, _, hv⟩
        subst hv
        have hrs := hA.out.rs
        have r0 : wr.cell? ⟨w.heap.size, 0, none⟩ = some (.string ⟨#[]⟩) := by rw [cell_of_row _ _ _ _ _ (0, 0) hrs]; rfl
        have r1 : wr.cell? ⟨w.heap.size, 1, none⟩ = some (.slice none 0 0) := by rw [cell_of_row _ _ _ _ _ (0, 0) hrs]; rfl
        have f0 : wr.frozen? ⟨w.heap.size, 0, none⟩ = false := frozen_of_row _ _ _ _ _ hrs
        have f1 : wr.frozen? ⟨w.heap.size, 1, none⟩ = false := frozen_of_row _ _ _ _ _ hrs
        have HRS := Lib.hid hrs
        rw [HN.out] at HBAD HGOOD
        have OP := Lib.hid hA.out.pr
        by_cases hp : probsTo ws k = []
        · have b0 : wr.cell? ⟨w1.heap.size, 0, none⟩ = some (.string x0) := by rw [cell_of_row _ _ _ _ _ (0, 0) hA.out.bx, ← HX0.out]; rfl
          have b1 : wr.cell? ⟨w1.heap.size, 1, none⟩ = some (.slice ac (cosTo ws k).length cc) := by rw [cell_of_row _ _ _ _ _ (0, 0) hA.out.bx]; rfl
          have hl0 : (probsTo ws k).length = 0 := by rw [hp]; rfl
          rw [hl0] at OP HGOOD ⊢
          have HP := Lib.hid hp
          rw [HX0.out] at HGOOD
          obtain ⟨lc, hlc⟩ : ∃ l, (cosTo ws k).length = l := ⟨_, rfl⟩
          have OC := Lib.hid hA.out.co
          rw [hlc] at OC HGOOD b1
          clear hp hl0 hrs hlc
          go_wp2
          have K1 : KeepT [24] wr (wr.setCell ⟨w.heap.size, 0, none⟩ (.string x0)) := KeepT.set HRS.out (by simp)
          have hs1 := heap_setCell_same wr _ 0 _ _ (.string x0) HRS.out
          have K2 : KeepT [24] (wr.setCell ⟨w.heap.size, 0, none⟩ (.string x0)) ((wr.setCell ⟨w.heap.size, 0, none⟩ (.string x0)).setCell ⟨w.heap.size, 1, none⟩ (.slice ac lc cc)) := KeepT.set hs1 (by simp)
          refine bodyPost_ret (v := .tuple #[.agg #[.string x0, .slice ac lc cc], .slice ao 0 cp]) (by simp [results, Tryd.results36, go_sem, r0, r1]) rfl (HGOOD.out _ _ _ HP.out (own_keep2 (own_keep2 OP.out K1 (by decide)) K2 (by decide)) (own_keep2 (own_keep2 OC.out K1 (by decide)) K2 (by decide)) ((hA.out.bl.setCell (Nat.le_refl _) _).setCell (Nat.le_refl _) _))
        · have hl0 : 0 < (probsTo ws k).length := List.length_pos_iff.2 hp
          obtain ⟨l, hl⟩ : ∃ l, (probsTo ws k).length = l := ⟨_, rfl⟩
          have HP := Lib.hid hp
          rw [hl] at hl0 OP HBAD ⊢
          have hl1 : (0 : Int) < (l : Int) := by omega
          clear hp hl hrs
          go_wp2
          have K1 : KeepT [24] wr (wr.setCell ⟨w.heap.size, 0, none⟩ (.string ⟨#[]⟩)) := KeepT.set HRS.out (by simp)
          have hs1 := heap_setCell_same wr _ 0 _ _ (.string ⟨#[]⟩) HRS.out
          have K2 : KeepT [24] (wr.setCell ⟨w.heap.size, 0, none⟩ (.string ⟨#[]⟩)) ((wr.setCell ⟨w.heap.size, 0, none⟩ (.string ⟨#[]⟩)).setCell ⟨w.heap.size, 1, none⟩ (.slice none 0 0)) := KeepT.set hs1 (by simp)
          refine bodyPost_ret (v := .tuple #[.agg #[.string ⟨#[]⟩, .slice none 0 0], .slice ao l cp]) (by simp [results, Tryd.results36, go_sem, r0, r1]) rfl (HBAD.out _ _ HP.out (own_keep2 (own_keep2 OP.out K1 (by decide)) K2 (by decide)) ((hA.out.bl.setCell (Nat.le_refl _) _).setCell (Nat.le_refl _) _))
  have z0 : ((w1.alloc (.cells #[.string x0, .slice none 0 0] 24)).alloc (.cells #[] 73)).cell? ⟨g, 0, none⟩ = some (.string x0) := (A0.out _ rfl).word HX1.out
  have hc1' : ((n : Int) == 1) = false := by simp; omega
  cases hb : nameB x0
  · have HK : Hid (kindAt ws 0 = 2) := by show kindAt ws 0 = 2; rw [HK0.out, if_neg hc1, hb]; rfl
    rw [hb] at NS
    clear hc1 hb
    go_wp2_with (first | (go_at_call 63; refine (NS.out _).mono ?_; rintro e w2 ⟨rfl, rfl⟩) | (at_builtin; go_must ((refine wpList_append_own _ rfl _ _ 30 rfl w.heap.size 73 i0 (.agg #[.int .i64 0, .int .i64 0]) 2 16 Tryd.underlying30 hi0 hz0 hz1 hz2 rfl (by decide) (.slice (some ⟨w1.heap.size + 1, 0, none⟩) 0 0) 0 [] rfl ((A0.out _ rfl).pr.alloc _) ⟨w1.heap.size + 1 + 1, 0, none⟩ 1 1 [.int .i64 0, .int .i64 2] rfl rfl ((LIT.out _ _).cells rfl) (by simp [Value.oneCell']) c3.out (by omega) (by simp; omega) ?_; intro v3 w3 hown3 hgrow3 _; obtain ⟨g3, cp3, hv3⟩ : ∃ g c, v3 = .slice (some ⟨g, 0, none⟩) (0 + 1) c := (by rcases hown3.2 with ⟨_, h0⟩ | ⟨g, c, cur, hv, _⟩; (exfalso; omega); (exact ⟨g, c, hv⟩)); subst hv3; have A3 : Hid (CsAt w ws g cap w1.heap.size 1 1 _ (.slice none 0 0) w3) := (A0.out _ rfl).note (by rw [HK.out]; exact hown3) (by rw [HK.out]; decide) (cos_one ws) rfl hgrow3; clear hown3 hgrow3))))
    go_loopw [6, 7] (fun v t wr => ∃ (k : Nat) (cv : Value), 1 ≤ k ∧ k ≤ n ∧ t = .int .i64 (k : Int) ∧ Hid (CsAt w ws g cap w1.heap.size k k v cv wr)) (fun _ t _ => n - (intOf t).toNat)
    case atStart => exact ⟨1, _, Nat.le_refl _, n1, rfl, A3⟩
    case round =>
      obtain ⟨k, cv, hk1, hk, rfl, hA⟩ := hrel
      by_cases hlt : k < n
      · have hlt' : (k : Int) < (n : Int) := by omega
        have hk0 : (0 : Int) ≤ (k : Int) := by omega
        obtain ⟨x, hx⟩ : ∃ x, ws[k]? = some x := ⟨_, List.getElem?_eq_getElem (by rw [HN.out]; exact hlt)⟩
        have a1 := hA.out.word hx
        have WC := Lib.hid (word_spec x (HS.out k x hx) wr)
        have HXK : Hid (ws.getD k .empty = x) := by show ws.getD k .empty = x; rw [List.getD_eq_getElem?_getD, hx]; rfl
        have hlt2 := Lib.hid hlt
        have c5 : Hid ((probsTo ws k).length + 1 ≤ maxLen) := by show _ ≤ maxLen; have := probsTo_length ws k; unfold maxLen; omega
        have c6 : Hid (((probsTo ws k).length + 1) * 16 ≤ 140737488355328) := by show _ ≤ _; have := probsTo_length ws k; omega
        have d5 : Hid ((cosTo ws k).length + 1 ≤ maxLen) := by show _ ≤ maxLen; have := cosTo_length ws k; unfold maxLen; omega
        have d6 : Hid (((cosTo ws k).length + 1) * 32 ≤ 140737488355328) := by show _ ≤ _; have := cosTo_length ws k; omega
        clear hx hlt
        go_wp2_with fail
        refine WC.out.mono ?_
        rintro e w4 ⟨c, rfl, hc1, hb4⟩
        have A1 := Lib.hid (hA.out.later hb4)
        have HY : Hid (kindAt ws k = if 8 < k then 6 else (wordOf x).2) := by
          show kindAt ws k = _
          rw [kindAt, if_neg (show ¬ k = 0 by omega), HXK.out]
        have HC1 := Lib.hid hc1
        clear hb4 hc1 a1
        obtain ⟨q1, hq1⟩ : ∃ q, c.lead = q := ⟨_, rfl⟩
        obtain ⟨q2, hq2⟩ : ∃ q, c.cyc = q := ⟨_, rfl⟩
        have HQ := Lib.hid (And.intro hq1 hq2)
        obtain ⟨y, hy⟩ : ∃ y, (wordOf x).2 = y := ⟨_, rfl⟩
        rw [hy] at HY HC1
        rw [hq1, hq2, hy]
        have A2 := Lib.hid (A1.out.later (balloc0 w4 (.cells #[.string q1, .string q2] 68)))
        have hbase4 : w.heap.size ≤ w4.heap.size := A1.out.bl.size
        obtain ⟨z0, z1⟩ := box2 w4 q1 (.string q2) 68
        have y1 : (w4.alloc (.cells #[.string q1, .string q2] 68)).cell? ⟨w1.heap.size, 1, none⟩ = some cv := by rw [cell_of_row _ _ _ _ _ (0, 0) A2.out.bx]; rfl
        clear hq1 hq2 hy
        have LITP : Hid (∀ a b : Value, ((w4.alloc (.cells #[.string q1, .string q2] 68)).alloc (.cells #[a, b] 73)).ownsRow w.heap.size 73 2 (.slice (some ⟨w4.heap.size + 1, 0, none⟩) 1 1) 1 [a, b]) := fun a b => by
          have h := row2_new 73 w.heap.size (w4.alloc (.cells #[.string q1, .string q2] 68)) a b (by simp; omega)
          simpa using h
        have LITC : Hid (∀ a b : Value, ((w4.alloc (.cells #[.string q1, .string q2] 68)).alloc (.cells #[a, b] 68)).ownsRow w.heap.size 68 2 (.slice (some ⟨w4.heap.size + 1, 0, none⟩) 1 1) 1 [a, b]) := fun a b => by
          have h := row2_new 68 w.heap.size (w4.alloc (.cells #[.string q1, .string q2] 68)) a b (by simp; omega)
          simpa using h
        by_cases h8 : 8 < k
        · have h8' : (8 : Int) < (k : Int) := by omega
          have HK : Hid (kindAt ws k = 6) := by show kindAt ws k = 6; rw [HY.out, if_pos h8]
          have HJ : Hid (cosTo ws (k + 1) = cosTo ws k) := by show cosTo ws (k + 1) = _; rw [cosTo, if_pos (.inr (by rw [HK.out]; decide))]
          clear h8
          go_wp2_with (at_builtin; go_must ((refine wpList_append_own _ rfl _ _ 30 rfl w.heap.size 73 i0 (.agg #[.int .i64 0, .int .i64 0]) 2 16 Tryd.underlying30 hi0 hz0 hz1 hz2 rfl (by decide) u6 (probsTo ws k).length (prVals (probsTo ws k)) rfl (A2.out.pr.alloc _) ⟨w4.heap.size + 1, 0, none⟩ 1 1 [.int .i64 (k : Int), .int .i64 6] rfl rfl ((LITP.out _ _).cells rfl) (by simp [Value.oneCell']) c5.out c6.out (by simp; omega) ?_; intro v3 w3 hown3 hgrow3 _; obtain ⟨g3, cp3, hv3⟩ : ∃ g c, v3 = .slice (some ⟨g, 0, none⟩) ((probsTo ws k).length + 1) c := (by rcases hown3.2 with ⟨_, h0⟩ | ⟨g, c, cur, hv, _⟩; (exfalso; omega); (exact ⟨g, c, hv⟩)); subst hv3; have A3 := Lib.hid (A2.out.note (by rw [HK.out]; exact hown3) (by rw [HK.out]; exact (by decide)) HJ.out rfl hgrow3); clear hown3 hgrow3)))
          go_roundw
          case rel => exact ⟨k + 1, _, by omega, by have := hlt2.out; omega, by go_num, A3.out⟩
          case measure => simp [intOf]; have := hlt2.out; omega
        have h8' : ¬ (8 : Int) < (k : Int) := by omega
        have HK : Hid (kindAt ws k = y) := by show kindAt ws k = y; rw [HY.out, if_neg h8]
        by_cases hy0 : y = 0
        · have HC : Hid (cosTo ws (k + 1) = cosTo ws k ++ [c]) := by
            show cosTo ws (k + 1) = _
            rw [cosTo, if_neg (by rw [HK.out]; intro h; rcases h with h | h; (exact absurd h (by omega)); (exact h hy0)), HXK.out, HC1.out hy0]
          have HP : Hid (probsTo ws (k + 1) = probsTo ws k) := by show probsTo ws (k + 1) = _; simp only [probsTo]; rw [if_pos (by rw [HK.out]; exact hy0)]
          subst hy0
          clear h8
          go_wp2_with (at_builtin; go_must ((refine wpList_append_own _ rfl _ _ 22 rfl w.heap.size 68 j0 (.agg #[.string ⟨#[]⟩, .string ⟨#[]⟩]) 2 32 Tryd.underlying22 hj0 hq0 hq1 hq2 rfl (by decide) cv (cosTo ws k).length (coVals (cosTo ws k)) rfl (A2.out.co.alloc _) ⟨w4.heap.size + 1, 0, none⟩ 1 1 [.string q1, .string q2] rfl rfl ((LITC.out _ _).cells rfl) (by simp [Value.oneCell']) d5.out d6.out (by simp; omega) ?_; intro v3 w3 hown3 hgrow3 _; obtain ⟨g3, cp3, hv3⟩ : ∃ g c, v3 = .slice (some ⟨g, 0, none⟩) ((cosTo ws k).length + 1) c := (by rcases hown3.2 with ⟨_, h0⟩ | ⟨g, c, cur, hv, _⟩; (exfalso; omega); (exact ⟨g, c, hv⟩)); subst hv3; obtain ⟨s1, s2, A30⟩ := A2.out.grow c HC.out HP.out (by rw [HQ.out.1, HQ.out.2]; exact hown3) (by rw [HQ.out.1, HQ.out.2]; exact hgrow3); have A3 := Lib.hid A30; clear hown3 hgrow3 A30)))
          go_roundw
          case rel => exact ⟨k + 1, _, by omega, by have := hlt2.out; omega, by go_num, A3.out⟩
          case measure => simp [intOf]; have := hlt2.out; omega
        · have HJ : Hid (cosTo ws (k + 1) = cosTo ws k) := by show cosTo ws (k + 1) = _; rw [cosTo, if_pos (.inr (by rw [HK.out]; exact hy0))]
          have HY0 := Lib.hid hy0
          have hy1 : (y != 0) = true := by simp [hy0]
          clear h8
          go_wp2_with (at_builtin; go_must ((refine wpList_append_own _ rfl _ _ 30 rfl w.heap.size 73 i0 (.agg #[.int .i64 0, .int .i64 0]) 2 16 Tryd.underlying30 hi0 hz0 hz1 hz2 rfl (by decide) u6 (probsTo ws k).length (prVals (probsTo ws k)) rfl (A2.out.pr.alloc _) ⟨w4.heap.size + 1, 0, none⟩ 1 1 [.int .i64 (k : Int), .int .i64 y] rfl rfl ((LITP.out _ _).cells rfl) (by simp [Value.oneCell']) c5.out c6.out (by simp; omega) ?_; intro v3 w3 hown3 hgrow3 _; obtain ⟨g3, cp3, hv3⟩ : ∃ g c, v3 = .slice (some ⟨g, 0, none⟩) ((probsTo ws k).length + 1) c := (by rcases hown3.2 with ⟨_, h0⟩ | ⟨g, c, cur, hv, _⟩; (exfalso; omega); (exact ⟨g, c, hv⟩)); subst hv3; have A3 := Lib.hid (A2.out.note (by rw [HK.out]; exact hown3) (by rw [HK.out]; exact HY0.out) HJ.out rfl hgrow3); clear hown3 hgrow3)))
          go_roundw
          case rel => exact ⟨k + 1, _, by omega, by have := hlt2.out; omega, by go_num, A3.out⟩
          case measure => simp [intOf]; have := hlt2.out; omega
      · have hge : ¬ (k : Int) < (n : Int) := by omega
        have hkn : k = n := by omega
        subst hkn
        obtain ⟨ao, cp, hv⟩ : ∃ ao cp, u6 = .slice ao (probsTo ws k).length cp := by
          rcases hA.out.pr.2 with ⟨hv, h0⟩ | ⟨g, c, cur, hv, _⟩
          · exact ⟨_, _, by rw [h0]; exact hv⟩
          · exact ⟨_, _, hv⟩
        subst hv
        obtain ⟨ac, cc, hv⟩ : ∃ ac cc, cv = .slice ac (cosTo ws k).length cc := by
          rcases hA.out.co.2 with ⟨hv, h0⟩ | ⟨g, c, cur, hv, _⟩
          · exact ⟨_, _, by rw [h0]; exact hv⟩
          · exact ⟨_, _, hv⟩
        subst hv
        have hrs := hA.out.rs
        have r0 : wr.cell? ⟨w.heap.size, 0, none⟩ = some (.string ⟨#[]⟩) := by rw [cell_of_row _ _ _ _ _ (0, 0) hrs]; rfl
        have r1 : wr.cell? ⟨w.heap.size, 1, none⟩ = some (.slice none 0 0) := by rw [cell_of_row _ _ _ _ _ (0, 0) hrs]; rfl
        have f0 : wr.frozen? ⟨w.heap.size, 0, none⟩ = false := frozen_of_row _ _ _ _ _ hrs
        have f1 : wr.frozen? ⟨w.heap.size, 1, none⟩ = false := frozen_of_row _ _ _ _ _ hrs
        have HRS := Lib.hid hrs
        rw [HN.out] at HBAD HGOOD
        have OP := Lib.hid hA.out.pr
        by_cases hp : probsTo ws k = []
        · have b0 : wr.cell? ⟨w1.heap.size, 0, none⟩ = some (.string x0) := by rw [cell_of_row _ _ _ _ _ (0, 0) hA.out.bx, ← HX0.out]; rfl
          have b1 : wr.cell? ⟨w1.heap.size, 1, none⟩ = some (.slice ac (cosTo ws k).length cc) := by rw [cell_of_row _ _ _ _ _ (0, 0) hA.out.bx]; rfl
          have hl0 : (probsTo ws k).length = 0 := by rw [hp]; rfl
          rw [hl0] at OP HGOOD ⊢
          have HP := Lib.hid hp
          rw [HX0.out] at HGOOD
          obtain ⟨lc, hlc⟩ : ∃ l, (cosTo ws k).length = l := ⟨_, rfl⟩
          have OC := Lib.hid hA.out.co
          rw [hlc] at OC HGOOD b1
          clear hp hl0 hrs hlc
          go_wp2
          have K1 : KeepT [24] wr (wr.setCell ⟨w.heap.size, 0, none⟩ (.string x0)) := KeepT.set HRS.out (by simp)
          have hs1 := heap_setCell_same wr _ 0 _ _ (.string x0) HRS.out
          have K2 : KeepT [24] (wr.setCell ⟨w.heap.size, 0, none⟩ (.string x0)) ((wr.setCell ⟨w.heap.size, 0, none⟩ (.string x0)).setCell ⟨w.heap.size, 1, none⟩ (.slice ac lc cc)) := KeepT.set hs1 (by simp)
          refine bodyPost_ret (v := .tuple #[.agg #[.string x0, .slice ac lc cc], .slice ao 0 cp]) (by simp [results, Tryd.results36, go_sem, r0, r1]) rfl (HGOOD.out _ _ _ HP.out (own_keep2 (own_keep2 OP.out K1 (by decide)) K2 (by decide)) (own_keep2 (own_keep2 OC.out K1 (by decide)) K2 (by decide)) ((hA.out.bl.setCell (Nat.le_refl _) _).setCell (Nat.le_refl _) _))
        · have hl0 : 0 < (probsTo ws k).length := List.length_pos_iff.2 hp
          obtain ⟨l, hl⟩ : ∃ l, (probsTo ws k).length = l := ⟨_, rfl⟩
          have HP := Lib.hid hp
          rw [hl] at hl0 OP HBAD ⊢
          have hl1 : (0 : Int) < (l : Int) := by omega
          clear hp hl hrs
          go_wp2
          have K1 : KeepT [24] wr (wr.setCell ⟨w.heap.size, 0, none⟩ (.string ⟨#[]⟩)) := KeepT.set HRS.out (by simp)
          have hs1 := heap_setCell_same wr _ 0 _ _ (.string ⟨#[]⟩) HRS.out
          have K2 : KeepT [24] (wr.setCell ⟨w.heap.size, 0, none⟩ (.string ⟨#[]⟩)) ((wr.setCell ⟨w.heap.size, 0, none⟩ (.string ⟨#[]⟩)).setCell ⟨w.heap.size, 1, none⟩ (.slice none 0 0)) := KeepT.set hs1 (by simp)
          refine bodyPost_ret (v := .tuple #[.agg #[.string ⟨#[]⟩, .slice none 0 0], .slice ao l cp]) (by simp [results, Tryd.results36, go_sem, r0, r1]) rfl (HBAD.out _ _ HP.out (own_keep2 (own_keep2 OP.out K1 (by decide)) K2 (by decide)) ((hA.out.bl.setCell (Nat.le_refl _) _).setCell (Nat.le_refl _) _))
  have HK : Hid (kindAt ws 0 = 0) := by show kindAt ws 0 = 0; rw [HK0.out, if_neg hc1, hb]; rfl
  rw [hb] at NS
  have A3 : Hid (CsAt w ws g cap w1.heap.size 1 1 (.slice (some ⟨w1.heap.size + 1, 0, none⟩) 0 0) (.slice none 0 0) ((w1.alloc (.cells #[.string x0, .slice none 0 0] 24)).alloc (.cells #[] 73))) := by
    have h := A0.out _ rfl
    have e : probsTo ws 1 = probsTo ws 0 := by simp only [probsTo]; rw [if_pos HK.out]
    exact ⟨by rw [e]; exact h.pr, by rw [cos_one]; exact h.co, h.bx, h.rs, h.wd, h.bl, h.hb⟩
  clear hc1 hb
  go_wp2_with (go_at_call 63; refine (NS.out _).mono ?_; rintro e w2 ⟨rfl, rfl⟩)
  go_loopw [6, 7] (fun v t wr => ∃ (k : Nat) (cv : Value), 1 ≤ k ∧ k ≤ n ∧ t = .int .i64 (k : Int) ∧ Hid (CsAt w ws g cap w1.heap.size k k v cv wr)) (fun _ t _ => n - (intOf t).toNat)
  case atStart => exact ⟨1, _, Nat.le_refl _, n1, rfl, A3⟩
  case round =>
    obtain ⟨k, cv, hk1, hk, rfl, hA⟩ := hrel
    by_cases hlt : k < n
    · have hlt' : (k : Int) < (n : Int) := by omega
      have hk0 : (0 : Int) ≤ (k : Int) := by omega
      obtain ⟨x, hx⟩ : ∃ x, ws[k]? = some x := ⟨_, List.getElem?_eq_getElem (by rw [HN.out]; exact hlt)⟩
      have a1 := hA.out.word hx
      have WC := Lib.hid (word_spec x (HS.out k x hx) wr)
      have HXK : Hid (ws.getD k .empty = x) := by show ws.getD k .empty = x; rw [List.getD_eq_getElem?_getD, hx]; rfl
      have hlt2 := Lib.hid hlt
      have c5 : Hid ((probsTo ws k).length + 1 ≤ maxLen) := by show _ ≤ maxLen; have := probsTo_length ws k; unfold maxLen; omega
      have c6 : Hid (((probsTo ws k).length + 1) * 16 ≤ 140737488355328) := by show _ ≤ _; have := probsTo_length ws k; omega
      have d5 : Hid ((cosTo ws k).length + 1 ≤ maxLen) := by show _ ≤ maxLen; have := cosTo_length ws k; unfold maxLen; omega
      have d6 : Hid (((cosTo ws k).length + 1) * 32 ≤ 140737488355328) := by show _ ≤ _; have := cosTo_length ws k; omega
      clear hx hlt
      go_wp2_with fail
      refine WC.out.mono ?_
      rintro e w4 ⟨c, rfl, hc1, hb4⟩
      have A1 := Lib.hid (hA.out.later hb4)
      have HY : Hid (kindAt ws k = if 8 < k then 6 else (wordOf x).2) := by
        show kindAt ws k = _
        rw [kindAt, if_neg (show ¬ k = 0 by omega), HXK.out]
      have HC1 := Lib.hid hc1
      clear hb4 hc1 a1
      obtain ⟨q1, hq1⟩ : ∃ q, c.lead = q := ⟨_, rfl⟩
      obtain ⟨q2, hq2⟩ : ∃ q, c.cyc = q := ⟨_, rfl⟩
      have HQ := Lib.hid (And.intro hq1 hq2)
      obtain ⟨y, hy⟩ : ∃ y, (wordOf x).2 = y := ⟨_, rfl⟩
      rw [hy] at HY HC1
      rw [hq1, hq2, hy]
      have A2 := Lib.hid (A1.out.later (balloc0 w4 (.cells #[.string q1, .string q2] 68)))
      have hbase4 : w.heap.size ≤ w4.heap.size := A1.out.bl.size
      obtain ⟨z0, z1⟩ := box2 w4 q1 (.string q2) 68
      have y1 : (w4.alloc (.cells #[.string q1, .string q2] 68)).cell? ⟨w1.heap.size, 1, none⟩ = some cv := by rw [cell_of_row _ _ _ _ _ (0, 0) A2.out.bx]; rfl
      clear hq1 hq2 hy
      have LITP : Hid (∀ a b : Value, ((w4.alloc (.cells #[.string q1, .string q2] 68)).alloc (.cells #[a, b] 73)).ownsRow w.heap.size 73 2 (.slice (some ⟨w4.heap.size + 1, 0, none⟩) 1 1) 1 [a, b]) := fun a b => by
        have h := row2_new 73 w.heap.size (w4.alloc (.cells #[.string q1, .string q2] 68)) a b (by simp; omega)
        simpa using h
      have LITC : Hid (∀ a b : Value, ((w4.alloc (.cells #[.string q1, .string q2] 68)).alloc (.cells #[a, b] 68)).ownsRow w.heap.size 68 2 (.slice (some ⟨w4.heap.size + 1, 0, none⟩) 1 1) 1 [a, b]) := fun a b => by
        have h := row2_new 68 w.heap.size (w4.alloc (.cells #[.string q1, .string q2] 68)) a b (by simp; omega)
        simpa using h
      by_cases h8 : 8 < k
      · have h8' : (8 : Int) < (k : Int) := by omega
        have HK : Hid (kindAt ws k = 6) := by show kindAt ws k = 6; rw [HY.out, if_pos h8]
        have HJ : Hid (cosTo ws (k + 1) = cosTo ws k) := by show cosTo ws (k + 1) = _; rw [cosTo, if_pos (.inr (by rw [HK.out]; decide))]
        clear h8
        go_wp2_with (at_builtin; go_must ((refine wpList_append_own _ rfl _ _ 30 rfl w.heap.size 73 i0 (.agg #[.int .i64 0, .int .i64 0]) 2 16 Tryd.underlying30 hi0 hz0 hz1 hz2 rfl (by decide) u6 (probsTo ws k).length (prVals (probsTo ws k)) rfl (A2.out.pr.alloc _) ⟨w4.heap.size + 1, 0, none⟩ 1 1 [.int .i64 (k : Int), .int .i64 6] rfl rfl ((LITP.out _ _).cells rfl) (by simp [Value.oneCell']) c5.out c6.out (by simp; omega) ?_; intro v3 w3 hown3 hgrow3 _; obtain ⟨g3, cp3, hv3⟩ : ∃ g c, v3 = .slice (some ⟨g, 0, none⟩) ((probsTo ws k).length + 1) c := (by rcases hown3.2 with ⟨_, h0⟩ | ⟨g, c, cur, hv, _⟩; (exfalso; omega); (exact ⟨g, c, hv⟩)); subst hv3; have A3 := Lib.hid (A2.out.note (by rw [HK.out]; exact hown3) (by rw [HK.out]; exact (by decide)) HJ.out rfl hgrow3); clear hown3 hgrow3)))
        go_roundw
        case rel => exact ⟨k + 1, _, by omega, by have := hlt2.out; omega, by go_num, A3.out⟩
        case measure => simp [intOf]; have := hlt2.out; omega
      have h8' : ¬ (8 : Int) < (k : Int) := by omega
      have HK : Hid (kindAt ws k = y) := by show kindAt ws k = y; rw [HY.out, if_neg h8]
      by_cases hy0 : y = 0
      · have HC : Hid (cosTo ws (k + 1) = cosTo ws k ++ [c]) := by
          show cosTo ws (k + 1) = _
          rw [cosTo, if_neg (by rw [HK.out]; intro h; rcases h with h | h; (exact absurd h (by omega)); (exact h hy0)), HXK.out, HC1.out hy0]
        have HP : Hid (probsTo ws (k + 1) = probsTo ws k) := by show probsTo ws (k + 1) = _; simp only [probsTo]; rw [if_pos (by rw [HK.out]; exact hy0)]
        subst hy0
        clear h8
        go_wp2_with (at_builtin; go_must ((refine wpList_append_own _ rfl _ _ 22 rfl w.heap.size 68 j0 (.agg #[.string ⟨#[]⟩, .string ⟨#[]⟩]) 2 32 Tryd.underlying22 hj0 hq0 hq1 hq2 rfl (by decide) cv (cosTo ws k).length (coVals (cosTo ws k)) rfl (A2.out.co.alloc _) ⟨w4.heap.size + 1, 0, none⟩ 1 1 [.string q1, .string q2] rfl rfl ((LITC.out _ _).cells rfl) (by simp [Value.oneCell']) d5.out d6.out (by simp; omega) ?_; intro v3 w3 hown3 hgrow3 _; obtain ⟨g3, cp3, hv3⟩ : ∃ g c, v3 = .slice (some ⟨g, 0, none⟩) ((cosTo ws k).length + 1) c := (by rcases hown3.2 with ⟨_, h0⟩ | ⟨g, c, cur, hv, _⟩; (exfalso; omega); (exact ⟨g, c, hv⟩)); subst hv3; obtain ⟨s1, s2, A30⟩ := A2.out.grow c HC.out HP.out (by rw [HQ.out.1, HQ.out.2]; exact hown3) (by rw [HQ.out.1, HQ.out.2]; exact hgrow3); have A3 := Lib.hid A30; clear hown3 hgrow3 A30)))
        go_roundw
        case rel => exact ⟨k + 1, _, by omega, by have := hlt2.out; omega, by go_num, A3.out⟩
        case measure => simp [intOf]; have := hlt2.out; omega
      · have HJ : Hid (cosTo ws (k + 1) = cosTo ws k) := by show cosTo ws (k + 1) = _; rw [cosTo, if_pos (.inr (by rw [HK.out]; exact hy0))]
        have HY0 := Lib.hid hy0
        have hy1 : (y != 0) = true := by simp [hy0]
        clear h8
        go_wp2_with (at_builtin; go_must ((refine wpList_append_own _ rfl _ _ 30 rfl w.heap.size 73 i0 (.agg #[.int .i64 0, .int .i64 0]) 2 16 Tryd.underlying30 hi0 hz0 hz1 hz2 rfl (by decide) u6 (probsTo ws k).length (prVals (probsTo ws k)) rfl (A2.out.pr.alloc _) ⟨w4.heap.size + 1, 0, none⟩ 1 1 [.int .i64 (k : Int), .int .i64 y] rfl rfl ((LITP.out _ _).cells rfl) (by simp [Value.oneCell']) c5.out c6.out (by simp; omega) ?_; intro v3 w3 hown3 hgrow3 _; obtain ⟨g3, cp3, hv3⟩ : ∃ g c, v3 = .slice (some ⟨g, 0, none⟩) ((probsTo ws k).length + 1) c := (by rcases hown3.2 with ⟨_, h0⟩ | ⟨g, c, cur, hv, _⟩; (exfalso; omega); (exact ⟨g, c, hv⟩)); subst hv3; have A3 := Lib.hid (A2.out.note (by rw [HK.out]; exact hown3) (by rw [HK.out]; exact HY0.out) HJ.out rfl hgrow3); clear hown3 hgrow3)))
        go_roundw
        case rel => exact ⟨k + 1, _, by omega, by have := hlt2.out; omega, by go_num, A3.out⟩
        case measure => simp [intOf]; have := hlt2.out; omega
    · have hge : ¬ (k : Int) < (n : Int) := by omega
      have hkn : k = n := by omega
      subst hkn
      obtain ⟨ao, cp, hv⟩ : ∃ ao cp, u6 = .slice ao (probsTo ws k).length cp := by
        rcases hA.out.pr.2 with ⟨hv, h0⟩ | ⟨g, c, cur, hv, _⟩
        · exact ⟨_, _, by rw [h0]; exact hv⟩
        · exact ⟨_, _, hv⟩
      subst hv
      obtain ⟨ac, cc, hv⟩ : ∃ ac cc, cv = .slice ac (cosTo ws k).length cc := by
        rcases hA.out.co.2 with ⟨hv, h0⟩ | ⟨g, c, cur, hv, _⟩
        · exact ⟨_, _, by rw [h0]; exact hv⟩
        · exact ⟨_, _, hv⟩
      subst hv
      have hrs := hA.out.rs
      have r0 : wr.cell? ⟨w.heap.size, 0, none⟩ = some (.string ⟨#[]⟩) := by rw [cell_of_row _ _ _ _ _ (0, 0) hrs]; rfl
      have r1 : wr.cell? ⟨w.heap.size, 1, none⟩ = some (.slice none 0 0) := by rw [cell_of_row _ _ _ _ _ (0, 0) hrs]; rfl
      have f0 : wr.frozen? ⟨w.heap.size, 0, none⟩ = false := frozen_of_row _ _ _ _ _ hrs
      have f1 : wr.frozen? ⟨w.heap.size, 1, none⟩ = false := frozen_of_row _ _ _ _ _ hrs
      have HRS := Lib.hid hrs
      rw [HN.out] at HBAD HGOOD
      have OP := Lib.hid hA.out.pr
      by_cases hp : probsTo ws k = []
      · have b0 : wr.cell? ⟨w1.heap.size, 0, none⟩ = some (.string x0) := by rw [cell_of_row _ _ _ _ _ (0, 0) hA.out.bx, ← HX0.out]; rfl
        have b1 : wr.cell? ⟨w1.heap.size, 1, none⟩ = some (.slice ac (cosTo ws k).length cc) := by rw [cell_of_row _ _ _ _ _ (0, 0) hA.out.bx]; rfl
        have hl0 : (probsTo ws k).length = 0 := by rw [hp]; rfl
        rw [hl0] at OP HGOOD ⊢
        have HP := Lib.hid hp
        rw [HX0.out] at HGOOD
        obtain ⟨lc, hlc⟩ : ∃ l, (cosTo ws k).length = l := ⟨_, rfl⟩
        have OC := Lib.hid hA.out.co
        rw [hlc] at OC HGOOD b1
        clear hp hl0 hrs hlc
        go_wp2
        have K1 : KeepT [24] wr (wr.setCell ⟨w.heap.size, 0, none⟩ (.string x0)) := KeepT.set HRS.out (by simp)
        have hs1 := heap_setCell_same wr _ 0 _ _ (.string x0) HRS.out
        have K2 : KeepT [24] (wr.setCell ⟨w.heap.size, 0, none⟩ (.string x0)) ((wr.setCell ⟨w.heap.size, 0, none⟩ (.string x0)).setCell ⟨w.heap.size, 1, none⟩ (.slice ac lc cc)) := KeepT.set hs1 (by simp)
        refine bodyPost_ret (v := .tuple #[.agg #[.string x0, .slice ac lc cc], .slice ao 0 cp]) (by simp [results, Tryd.results36, go_sem, r0, r1]) rfl (HGOOD.out _ _ _ HP.out (own_keep2 (own_keep2 OP.out K1 (by decide)) K2 (by decide)) (own_keep2 (own_keep2 OC.out K1 (by decide)) K2 (by decide)) ((hA.out.bl.setCell (Nat.le_refl _) _).setCell (Nat.le_refl _) _))
      · have hl0 : 0 < (probsTo ws k).length := List.length_pos_iff.2 hp
        obtain ⟨l, hl⟩ : ∃ l, (probsTo ws k).length = l := ⟨_, rfl⟩
        have HP := Lib.hid hp
        rw [hl] at hl0 OP HBAD ⊢
        have hl1 : (0 : Int) < (l : Int) := by omega
        clear hp hl hrs
        go_wp2
        have K1 : KeepT [24] wr (wr.setCell ⟨w.heap.size, 0, none⟩ (.string ⟨#[]⟩)) := KeepT.set HRS.out (by simp)
        have hs1 := heap_setCell_same wr _ 0 _ _ (.string ⟨#[]⟩) HRS.out
        have K2 : KeepT [24] (wr.setCell ⟨w.heap.size, 0, none⟩ (.string ⟨#[]⟩)) ((wr.setCell ⟨w.heap.size, 0, none⟩ (.string ⟨#[]⟩)).setCell ⟨w.heap.size, 1, none⟩ (.slice none 0 0)) := KeepT.set hs1 (by simp)
        refine bodyPost_ret (v := .tuple #[.agg #[.string ⟨#[]⟩, .slice none 0 0], .slice ao l cp]) (by simp [results, Tryd.results36, go_sem, r0, r1]) rfl (HBAD.out _ _ HP.out (own_keep2 (own_keep2 OP.out K1 (by decide)) K2 (by decide)) ((hA.out.bl.setCell (Nat.le_refl _) _).setCell (Nat.le_refl _) _))
end Go.Proofs.YtgffgcobgjngnaaDoor
