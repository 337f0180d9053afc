/-
  The program's CheckBond: its walk.
-/
import Derived.Test.YtgffgcobgjngnaaDoorChkC
namespace Go.Proofs.YtgffgcobgjngnaaDoor
open Go.ChangeShapes Go.WideShapes Go.ChangeAt Go.RowKit Go.Joins

set_option maxRecDepth 100000 in
set_option maxHeartbeats 6400000 in
theorem checkText_impl (s : ByteArray) (hs : s.size ≤ 1048576) (m : Int) (w : World) (hm : w.cell? ⟨2, 0, none⟩ = some (.int .i64 m)) :
    Calls Tryd.prog 15 #[.string s] w (ChkOut s w) := by
  by_cases hbig : 400 < s.size
  · have HO := Lib.hid (fun w' hb => chk_bad s w w' hbig hb)
    have hb' : (400 : Int) < (s.size : Int) := by omega
    clear hm hbig
    go_enter Tryd.func15, Tryd.ntmps15
    go_wp2
    refine bodyPost_ret (v := .tuple #[.agg #[.string ⟨#[]⟩, .slice none 0 0], .slice none 0 0, .int .i64 5]) (by simp [results, Tryd.results15, go_sem]) rfl (HO.out _ (balloc0 w _))
  have hb' : ¬ (400 : Int) < (s.size : Int) := by omega
  have HBAD := Lib.hid (fun w' pv h1 h2 h3 => chk_probs s w w' hbig pv h1 h2 h3)
  have HGOOD := Lib.hid (fun w' cv pv h1 h2 h3 h4 => chk_good s w w' hbig cv pv h1 h2 h3 h4)
  have HM : Hid (∀ wx, Below w.heap.size w wx → wx.cell? ⟨2, 0, none⟩ = some (.int .i64 m)) := fun wx h => (h.cell (p := ⟨2, 0, none⟩) (World.block_lt_of_cell? w _ hm)).trans hm
  have HS : Hid (∀ (i : Nat) (x : ByteArray), (wordsB s)[i]? = some x → x.size ≤ 1048576) := fun i x h => by have := word_size h; omega
  obtain ⟨n1, n2⟩ := words_length s
  have hn : (wordsB s).length ≤ 401 := by omega
  have C0 := Tryd.strings_Split s ⟨#[32]⟩ m (w.alloc (.cells #[.string ⟨#[]⟩, .slice none 0 0] 24)) (by omega) (HM.out _ (balloc0 _ _)) (by rw [one_size]; omega)
  rw [splitB_count, splitB_parts] at C0
  obtain ⟨ws, hws⟩ : ∃ ws, wordsB s = ws := ⟨_, rfl⟩
  have hws' : partsOf s 32 = ws := hws
  rw [hws'] at C0
  rw [hws] at HBAD HGOOD HS n1 hn
  have CK0 : Hid (∀ wx, wx = ((w.alloc (.cells #[.string ⟨#[]⟩, .slice none 0 0] 24)).alloc (.cells (ws.map Value.string).toArray 9)).alloc (.cells #[.string (ws.getD 0 .empty), .slice none 0 0] 24) → CkAt w ws 0 0 (.slice none 0 0) (.slice none 0 0) wx) := fun wx hw => by
    subst hw
    refine ⟨⟨rfl, .inl ⟨rfl, rfl⟩⟩, ⟨rfl, .inl ⟨rfl, rfl⟩⟩, ?_, ?_, ?_, balloc (balloc (balloc0 _ _) _) _⟩
    · have h := heap_alloc_new ((w.alloc (.cells #[.string ⟨#[]⟩, .slice none 0 0] 24)).alloc (.cells (ws.map Value.string).toArray 9)) (.cells #[.string (ws.getD 0 .empty), .slice none 0 0] 24)
      simpa using h
    · rw [Below.heap_alloc _ _ _ (by simp; omega), Below.heap_alloc _ _ _ (by simp)]
      exact heap_alloc_new w _
    · rw [Below.heap_alloc _ _ _ (by simp)]
      have h := heap_alloc_new (w.alloc (.cells #[.string ⟨#[]⟩, .slice none 0 0] 24)) (.cells (ws.map Value.string).toArray 9)
      simpa using h
  have hx0 : ws[0]? = some (ws.getD 0 .empty) := by
    cases hq : ws with
    | nil => rw [hq] at n1; simp at n1
    | cons a b => rfl
  obtain ⟨n, hnn⟩ : ∃ n, ws.length = n := ⟨_, rfl⟩
  obtain ⟨x0, hx00⟩ : ∃ x0, ws.getD 0 .empty = x0 := ⟨_, rfl⟩
  have FI : Hid (∀ wx, CkAt w ws 0 0 (.slice none 0 0) (.slice none 0 0) wx → Calls Tryd.prog 39 #[.slice (some ⟨w.heap.size + 1, 0, none⟩) ws.length ws.length] wx fun e w' => e = .returned (faultVal (kindAt ws 0)) ∧ Below wx.heap.size wx w') := fun wx h => first_impl ws n1 (by unfold maxLen; omega) (w.heap.size + 1) ws.length wx (h.word hx0)
  have N0 : Hid (∀ wx, CkAt w ws 0 0 (.slice none 0 0) (.slice none 0 0) wx → Calls Tryd.prog 38 #[.slice none 0 0, .int .i64 0, faultVal (kindAt ws 0)] wx (NoteOut w.heap.size [] 0 (kindAt ws 0) wx)) := fun wx h => note_impl w.heap.size [] (by simp) (.slice none 0 0) 0 (kindAt ws 0) (kind_range ws 0) wx h.bl.size h.pr
  rw [hx00] at hx0 CK0
  have Z0 : ((w.alloc (.cells #[.string ⟨#[]⟩, .slice none 0 0] 24)).alloc (.cells (ws.map Value.string).toArray 9)).cell? ⟨w.heap.size + 1, 0, none⟩ = some (.string x0) := by
    rw [cell_of_row _ _ _ _ _ (0, 0) (by have h := heap_alloc_new (w.alloc (.cells #[.string ⟨#[]⟩, .slice none 0 0] 24)) (.cells (ws.map Value.string).toArray 9); simpa using h)]
    simp [hx0]
  have HX0 := Lib.hid hx00
  have HN := Lib.hid hnn
  rw [hnn] at C0 n1 hn FI
  have C := Lib.hid C0
  have n1' : (0 : Int) < (n : Int) := by omega
  clear hm hs hbig n2 C0 hws hws' hx0 hnn hx00
  go_enter Tryd.func15, Tryd.ntmps15
  go_wp2_with fail
  refine C.out.mono ?_
  rintro e w1 ⟨rfl, hw1⟩
  rw [hw1]
  clear hw1
  go_wp2_with fail
  refine (FI.out _ (CK0.out _ rfl)).mono ?_
  rintro e w2 ⟨rfl, hb2⟩
  have A2 := Lib.hid ((CK0.out _ rfl).later hb2)
  clear hb2 Z0
  go_wp2_with fail
  refine (N0.out _ A2.out).mono ?_
  rintro e w3 ⟨pv, rfl, o3, b3, k3⟩
  have A3 : Hid (CkAt w ws 1 1 pv (.slice none 0 0) w3) := by
    have h := A2.out.note o3 b3 k3
    have e : cosI ws 1 = cosI ws 0 := by simp [cosI]
    exact ⟨h.pr, by rw [e]; exact h.co, h.bx, h.rs, h.wd, h.bl⟩
  clear o3 b3 k3
  go_wp2
  go_loopw [7, 8] (fun v t wr => ∃ (k : Nat) (cv : Value), 1 ≤ k ∧ k ≤ n ∧ t = .int .i64 (k : Int) ∧ Hid (CkAt w ws k k v cv wr)) (fun _ t _ => n - (intOf t).toNat)
  case atStart => exact ⟨1, _, Nat.le_refl _, n1, rfl, A3⟩
  case round =>
    obtain ⟨k, cv, hk1, hk, rfl, hA⟩ := hrel
    by_cases hlt : k < n
    · have hlt' : (k : Int) < (n : Int) := by omega
      have hk0 : (0 : Int) ≤ (k : Int) := by omega
      obtain ⟨x, hx⟩ : ∃ x, ws[k]? = some x := ⟨_, List.getElem?_eq_getElem (by rw [HN.out]; exact hlt)⟩
      have a0 := hA.out.word hx
      have RC := Lib.hid (readCourse_impl x (HS.out k x hx) k m wr (HM.out _ hA.out.bl))
      have HXK : Hid (ws.getD k .empty = x) := by show ws.getD k .empty = x; rw [List.getD_eq_getElem?_getD, hx]; rfl
      have hlt2 := Lib.hid hlt
      clear hx hlt
      go_wp2_with fail
      refine RC.out.mono ?_
      rintro e w1 ⟨c, y, rfl, hy, hc1, hc2, hb1⟩
      have A1 := Lib.hid (hA.out.later hb1)
      have HY : Hid (y = kindAt ws k) := by
        show y = kindAt ws k
        rw [hy, kindAt, if_neg (show ¬ k = 0 by omega), HXK.out]
      have HC : Hid (cosI ws (k + 1) = cosI ws k ++ [c]) := by
        show cosI ws (k + 1) = cosI ws k ++ [c]
        rw [cosI, if_neg (show ¬ k = 0 by omega), ← HY.out]
        by_cases h0 : y = 0
        · rw [if_pos h0, HXK.out, hc1 h0]
        · rw [if_neg h0, hc2 h0]
      clear hb1 hy hc1 hc2 a0
      obtain ⟨q1, hq1⟩ : ∃ q, c.lead = q := ⟨_, rfl⟩
      obtain ⟨q2, hq2⟩ : ∃ q, c.cyc = q := ⟨_, rfl⟩
      have HQ := Lib.hid (And.intro hq1 hq2)
      rw [hq1, hq2]
      clear hq1 hq2
      have NI : Hid (∀ wx, CkAt w ws k k u7 cv wx → Calls Tryd.prog 38 #[u7, .int .i64 (k : Int), faultVal y] wx (NoteOut w.heap.size (probsTo ws k) k y wx)) := fun wx h => note_impl w.heap.size (probsTo ws k) (by have := probsTo_length ws k; omega) u7 k y (by rw [HY.out]; exact kind_range ws k) wx h.bl.size h.pr
      go_wp2_with fail
      refine (NI.out _ (A1.out.later (balloc0 _ _))).mono ?_
      rintro e w2 ⟨v2, rfl, o2, b2, k2⟩
      rw [HY.out] at o2
      have A2 := Lib.hid ((A1.out.later (balloc0 _ _)).note o2 b2 k2)
      have hcell := k2 _ _ _ _ (heap_alloc_new w1 (.cells #[.string q1, .string q2] 68)) (by decide)
      have z0 : w2.cell? ⟨w1.heap.size, 0, none⟩ = some (.string q1) := by rw [cell_of_row _ _ _ _ _ (0, 0) hcell]; rfl
      have z1 : w2.cell? ⟨w1.heap.size, 1, none⟩ = some (.string q2) := by rw [cell_of_row _ _ _ _ _ (0, 0) hcell]; rfl
      have y1 : w2.cell? ⟨w.heap.size + 1 + 1, 1, none⟩ = some cv := by rw [cell_of_row _ _ _ _ _ (0, 0) A2.out.bx]; rfl
      have hbase : w.heap.size ≤ w2.heap.size := A2.out.bl.size
      clear o2 b2 k2 hcell NI
      obtain ⟨i0, hi0, hz0, hz1, hz2⟩ := info_parts infoCo
      obtain ⟨len, hlen⟩ : ∃ l, (cosI ws k).length = l := ⟨_, rfl⟩
      have OC : Hid (w2.ownsRow w.heap.size 68 2 cv len (coVals (cosI ws k))) := by
        have h := A2.out.co
        rw [hlen] at h
        exact h
      have c3 : Hid (len + 1 ≤ maxLen) := by show len + 1 ≤ maxLen; have := cosI_length ws k; unfold maxLen; omega
      have c4 : Hid ((len + 1) * 32 ≤ 140737488355328) := by show _ ≤ _; have := cosI_length ws k; omega
      have HL := Lib.hid hlen
      clear hlen
      go_wp2_with (at_builtin; go_must ((refine wpList_append_own _ rfl _ _ 22 rfl w.heap.size 68 i0 (.agg #[.string ⟨#[]⟩, .string ⟨#[]⟩]) 2 32 Tryd.underlying22 hi0 hz0 hz1 hz2 rfl (by decide) cv len (coVals (cosI ws k)) rfl (OC.out.alloc _) ⟨w2.heap.size, 0, none⟩ 1 1 [.string q1, .string q2] rfl rfl ((row2_new 68 w.heap.size w2 _ _ hbase).cells rfl) (by simp [Value.oneCell']) c3.out c4.out (by simp; omega) ?_; intro v3 w3 hown3 hgrow3 _; obtain ⟨g3, cp3, hv3⟩ : ∃ g c, v3 = .slice (some ⟨g, 0, none⟩) (len + 1) c := (by rcases hown3.2 with ⟨_, h0⟩ | ⟨g, c, cur, hv, _⟩; (exfalso; omega); (exact ⟨g, c, hv⟩)); subst hv3; obtain ⟨s1, s2, A30⟩ := A2.out.grow c HC.out (by rw [HL.out, HQ.out.1, HQ.out.2]; exact hown3) (by rw [HQ.out.1, HQ.out.2]; exact hgrow3); have A3 := Lib.hid A30; clear hown3 hgrow3 A30)))
      go_roundw
      case rel => exact ⟨k + 1, _, by omega, by have := hlt2.out; omega, by go_num, A3.out⟩
      case measure => simp [intOf]; have := hlt2.out; omega
    · have hge : ¬ (k : Int) < (n : Int) := by omega
      have hkn : k = n := by omega
      subst hkn
      obtain ⟨ao, cp, hv⟩ : ∃ ao cp, u7 = .slice ao (probsTo ws k).length cp := by
        rcases hA.out.pr.2 with ⟨hv, h0⟩ | ⟨g, c, cur, hv, _⟩
        · exact ⟨_, _, by rw [h0]; exact hv⟩
        · exact ⟨_, _, hv⟩
      subst hv
      obtain ⟨ac, cc, hv⟩ : ∃ ac cc, cv = .slice ac (cosI ws k).length cc := by
        rcases hA.out.co.2 with ⟨hv, h0⟩ | ⟨g, c, cur, hv, _⟩
        · exact ⟨_, _, by rw [h0]; exact hv⟩
        · exact ⟨_, _, hv⟩
      subst hv
      have hrs := hA.out.rs
      have r0 : wr.cell? ⟨w.heap.size, 0, none⟩ = some (.string ⟨#[]⟩) := by rw [cell_of_row _ _ _ _ _ (0, 0) hrs]; rfl
      have r1 : wr.cell? ⟨w.heap.size, 1, none⟩ = some (.slice none 0 0) := by rw [cell_of_row _ _ _ _ _ (0, 0) hrs]; rfl
      have f0 : wr.frozen? ⟨w.heap.size, 0, none⟩ = false := frozen_of_row _ _ _ _ _ hrs
      have f1 : wr.frozen? ⟨w.heap.size, 1, none⟩ = false := frozen_of_row _ _ _ _ _ hrs
      have HRS := Lib.hid hrs
      rw [HN.out] at HBAD HGOOD
      by_cases hp : probsTo ws k = []
      · have b0 : wr.cell? ⟨w.heap.size + 1 + 1, 0, none⟩ = some (.string x0) := by rw [cell_of_row _ _ _ _ _ (0, 0) hA.out.bx, ← HX0.out]; rfl
        have b1 : wr.cell? ⟨w.heap.size + 1 + 1, 1, none⟩ = some (.slice ac (cosI ws k).length cc) := by rw [cell_of_row _ _ _ _ _ (0, 0) hA.out.bx]; rfl
        have hl0 : (probsTo ws k).length = 0 := by rw [hp]; rfl
        rw [hl0]
        have HP := Lib.hid hp
        rw [HX0.out] at HGOOD
        obtain ⟨lc, hlc⟩ : ∃ l, (cosI ws k).length = l := ⟨_, rfl⟩
        have OC := Lib.hid hA.out.co
        rw [hlc] at OC HGOOD b1
        clear hp hl0 hrs hlc
        go_wp2
        have K1 : KeepT [24] wr (wr.setCell ⟨w.heap.size, 0, none⟩ (.string x0)) := KeepT.set HRS.out (by simp)
        have hs1 := heap_setCell_same wr _ 0 _ _ (.string x0) HRS.out
        have K2 : KeepT [24] (wr.setCell ⟨w.heap.size, 0, none⟩ (.string x0)) ((wr.setCell ⟨w.heap.size, 0, none⟩ (.string x0)).setCell ⟨w.heap.size, 1, none⟩ (.slice ac lc cc)) := KeepT.set hs1 (by simp)
        refine bodyPost_ret (v := .tuple #[.agg #[.string x0, .slice ac lc cc], .slice none 0 0, .int .i64 0]) (by simp [results, Tryd.results15, go_sem, r0, r1]) rfl (HGOOD.out _ _ _ HP.out ⟨rfl, .inl ⟨rfl, rfl⟩⟩ (own_keep2 (own_keep2 OC.out K1 (by decide)) K2 (by decide)) ((hA.out.bl.setCell (Nat.le_refl _) _).setCell (Nat.le_refl _) _))
      · have hl0 : 0 < (probsTo ws k).length := List.length_pos_iff.2 hp
        obtain ⟨l, hl⟩ : ∃ l, (probsTo ws k).length = l := ⟨_, rfl⟩
        have HP := Lib.hid hp
        have OP := Lib.hid hA.out.pr
        rw [hl] at hl0 OP HBAD ⊢
        have hl1 : (0 : Int) < (l : Int) := by omega
        clear hp hl hrs
        go_wp2
        have K1 : KeepT [24] wr (wr.setCell ⟨w.heap.size, 0, none⟩ (.string ⟨#[]⟩)) := KeepT.set HRS.out (by simp)
        have hs1 := heap_setCell_same wr _ 0 _ _ (.string ⟨#[]⟩) HRS.out
        have K2 : KeepT [24] (wr.setCell ⟨w.heap.size, 0, none⟩ (.string ⟨#[]⟩)) ((wr.setCell ⟨w.heap.size, 0, none⟩ (.string ⟨#[]⟩)).setCell ⟨w.heap.size, 1, none⟩ (.slice none 0 0)) := KeepT.set hs1 (by simp)
        refine bodyPost_ret (v := .tuple #[.agg #[.string ⟨#[]⟩, .slice none 0 0], .slice ao l cp, .int .i64 0]) (by simp [results, Tryd.results15, go_sem, r0, r1]) rfl (HBAD.out _ _ HP.out (own_keep2 (own_keep2 OP.out K1 (by decide)) K2 (by decide)) ((hA.out.bl.setCell (Nat.le_refl _) _).setCell (Nat.le_refl _) _))
end Go.Proofs.YtgffgcobgjngnaaDoor
