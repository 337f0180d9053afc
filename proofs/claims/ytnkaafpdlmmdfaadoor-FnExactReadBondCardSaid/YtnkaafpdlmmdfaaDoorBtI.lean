/-
  Texts of bonds: the program's.
-/
import Derived.Test.YtnkaafpdlmmdfaaDoorBtS
import Derived.Test.YtnkaafpdlmmdfaaDoorCoI
import Derived.Test.YtnkaafpdlmmdfaaDoorPerpS
import Derived.Test.YtnkaafpdlmmdfaaDoorShelfB
import Derived.OwnWalk
namespace Go.Proofs.YtnkaafpdlmmdfaaDoor
open Go.ChangeShapes Go.WideShapes Go.ChangeAt Go.RowKit Go.Joins

set_option maxHeartbeats 800000 in
theorem courseText_impl (c : Co) (hs : c.lead.size ≤ 1000 ∧ c.cyc.size ≤ 1000) (w : World) :
    Calls Tryd.prog 76 #[.agg #[.string c.lead, .string c.cyc]] w fun e w' => e = .returned (.string (coTxt c)) ∧ Below w.heap.size w w' := by
  obtain ⟨hs1, hs2⟩ := hs
  have HT : Hid (coTxt c = if c.lead.size = 0 then c.cyc else c.lead ++ ⟨#[43]⟩ ++ c.cyc) := rfl
  by_cases hz : 1 ≤ c.lead.size
  · have hle := toList_ne c.lead hz
    have z1 : ¬ (9223372036854775807 < c.lead.size + 1) := by omega
    have z2 : ¬ (9223372036854775807 < c.lead.size + 1 + c.cyc.size) := by omega
    go_enter Tryd.func76, Tryd.ntmps76
    go_wp2
    go_ret
    exact ⟨by rw [HT.out, if_neg (by omega)]; rfl, balloc0 _ _⟩
  · have hle : c.lead.toList.isEmpty = true := List.isEmpty_iff.2 ((toList_nil_iff_emptyBytes _).2 (empty_of _ hz))
    go_enter Tryd.func76, Tryd.ntmps76
    go_wp2
    go_ret
    exact ⟨by rw [HT.out, if_pos (by omega)]; rfl, balloc0 _ _⟩

theorem infoStrB : (Tryd.prog.info? 9).map (fun i => (i.zero, i.size, i.bytes)) = some (some (.string ⟨#[]⟩), 1, 16) := by kernel_rfl
def strVals (W : List ByteArray) : List Value := W.map Value.string
theorem strVals_one (W : List ByteArray) : ∀ u ∈ strVals W, u.oneCell' = true := by
  intro u hu
  obtain ⟨c, _, rfl⟩ := List.mem_map.1 hu
  rfl
theorem litS (base : Nat) (wr : World) (x : ByteArray) (hb : base ≤ wr.heap.size) : (wr.alloc (.cells #[.string x] 9)).ownsRow base 9 1 (.slice (some ⟨wr.heap.size, 0, none⟩) 1 1) 1 (strVals [x]) :=
  ⟨rfl, .inr ⟨wr.heap.size, 1, #[.string x], rfl, hb, heap_alloc_new wr _, Nat.le_refl _, by decide, rfl, rfl⟩⟩
theorem own_form8S {w : World} {B : Nat} {e : TypeId} {n : Nat} {v : Value} {xs : List Value} (h : w.ownsRow B e 1 v n xs) (hn : n ≠ 0) : ∃ g cap, v = .slice (some ⟨g, 0, none⟩) n cap := by
  rcases h.2 with ⟨_, h0⟩ | ⟨g, cap, cur, hv, _⟩
  · exact absurd h0 hn
  · exact ⟨g, cap, hv⟩

set_option maxRecDepth 100000 in
set_option maxHeartbeats 3200000 in
theorem bondText_impl (nm : ByteArray) (L : List Co) (a : Option Addr) (cap : Nat) (hl : L.length ≤ 1048576) (hs : CosLe 1048576 L) (w : World) (ha : CoArg w a L) :
    Calls Tryd.prog 40 #[.agg #[.string nm, .slice a L.length cap]] w fun e w' => e = .returned (.string (bdS nm L)) ∧ Below w.heap.size w w' := by
  obtain ⟨d0, d1⟩ := box2 w nm (.slice a L.length cap) 29
  obtain ⟨W0, hW⟩ : ∃ W0, w.alloc (.cells #[.string nm, .slice a L.length cap] 29) = W0 := ⟨_, rfl⟩
  have E0 : Hid (Below w.heap.size w W0) := by show Below w.heap.size w W0; rw [← hW]; exact balloc0 _ _
  rw [hW] at d0 d1
  have K : Hid (∀ wx, Below W0.heap.size W0 wx → wx.cell? ⟨w.heap.size, 0, none⟩ = some (.string nm) ∧ wx.cell? ⟨w.heap.size, 1, none⟩ = some (.slice a L.length cap)) := fun wx hx =>
    ⟨(hx.cell (p := ⟨w.heap.size, 0, none⟩) (World.block_lt_of_cell? W0 _ d0)).trans d0, (hx.cell (p := ⟨w.heap.size, 1, none⟩) (World.block_lt_of_cell? W0 _ d1)).trans d1⟩
  have HW := Lib.hid hW
  have HA := Lib.hid (ha.later E0.out)
  have V := Lib.hid (validBond_impl nm L a cap hl hs W0 HA.out)
  cases h : okBond nm L
  · rw [h] at V
    have HS : Hid (bdS nm L = ⟨#[]⟩) := by show bdS nm L = _; simp [bdS, h]
    clear ha h hW d0 d1
    go_enter Tryd.func40, Tryd.ntmps40
    go_wp2_with fail
    rw [HW.out]
    refine V.out.mono ?_
    rintro e w1 ⟨rfl, hb1⟩
    have B1 := Lib.hid (bnext E0.out hb1)
    clear hb1
    go_wp2_with fail
    go_ret
    exact ⟨ret_strB HS.out.symm, B1.out⟩
  rw [h] at V
  obtain ⟨f1, f2, f3, f4⟩ := okBond_facts h
  have HS : Hid (bdS nm L = bdT nm L) := by show bdS nm L = _; simp [bdS, h]
  have HJ := Lib.hid (bdW_join nm L)
  have HZ := Lib.hid (bdW_size h).2
  have H4 := Lib.hid f4
  clear ha h hW d0 d1 f1 f4
  go_enter Tryd.func40, Tryd.ntmps40
  go_wp2_with fail
  rw [HW.out]
  refine V.out.mono ?_
  rintro e w1 ⟨rfl, hb1⟩
  have B1 := Lib.hid hb1
  clear hb1
  obtain ⟨c0, c1⟩ := K.out _ B1.out
  have A0 : ∀ p v, w1.cell? p = some v → (w1.alloc (.cells #[.string nm] 9)).cell? p = some v := fun p v h => (World.cell?_alloc_lt _ _ _ (World.block_lt_of_cell? w1 _ h)).trans h
  have c0' := A0 _ _ c0
  have c1' := A0 _ _ c1
  clear A0
  go_wp2
  clear c0 c1 c0' c1'
  go_loopw [3, 15] (fun v i wr => ∃ (k g cp : Nat) (W : List ByteArray), k ≤ L.length ∧ v = .slice (some ⟨g, 0, none⟩) W.length cp ∧ i = .int .i64 (k : Int) ∧ Hid (W = nm :: (L.take k).map coTxt) ∧ Hid (wr.ownsRow w1.heap.size 9 1 (.slice (some ⟨g, 0, none⟩) W.length cp) W.length (strVals W)) ∧ Hid (Below w1.heap.size w1 wr)) (fun _ i _ => L.length - (intOf i).toNat)
  case atStart => exact ⟨0, w1.heap.size, 1, [nm], Nat.zero_le _, rfl, rfl, rfl, litS w1.heap.size w1 nm (Nat.le_refl _), balloc0 _ _⟩
  case round =>
    obtain ⟨k, g, cp, W, hk, rfl, rfl, hW, hO, hB⟩ := hrel
    by_cases hlt : k < L.length
    · have hlt' : (k : Int) < (L.length : Int) := by omega
      have hk0 : (0 : Int) ≤ (k : Int) := by omega
      obtain ⟨b', o', c, rfl, hc, hat⟩ := (HA.out.later (bnext B1.out hB.out)).at hlt
      obtain ⟨e0, e1⟩ := hat.cells hc
      have hok := H4.out k c hc
      obtain ⟨q1, _, q2, q3, _⟩ := Co.ok_facts hok
      have C := Lib.hid (courseText_impl c ⟨by omega, by omega⟩)
      have HE : Hid (W ++ [coTxt c] = nm :: (L.take (k + 1)).map coTxt) := by
        show W ++ [coTxt c] = _
        rw [List.take_add_one, hc, hW.out]; simp
      have hWl : W.length ≤ 9 := by rw [hW.out]; simp; omega
      obtain ⟨t, ht⟩ : ∃ t, coTxt c = t := ⟨_, rfl⟩
      rw [ht] at C HE
      obtain ⟨i0, hi0, hz0, hz1, hz2⟩ := info_parts infoStrB
      have c3 : Hid (W.length + 1 ≤ maxLen) := by show W.length + 1 ≤ maxLen; unfold maxLen; omega
      clear hc hat hok ht q1 q2 q3
      go_wp2_with fail
      refine (C.out _).mono ?_
      rintro e w2 ⟨rfl, hb2⟩
      have B2 : Hid (Below w1.heap.size w1 w2) := (hB.out.alloc hB.out.size _).trans (hb2.mono (by have := hB.out.size; simp; omega))
      have R2 := Lib.hid (own_later (hO.out.alloc (.cells #[.string c.lead, .string c.cyc] 69)) hb2)
      have hbase : w1.heap.size ≤ w2.heap.size := B2.out.size
      clear hb2 e0 e1
      go_wp2_with (at_builtin; go_must ((refine wpList_append_own _ rfl _ _ 49 rfl w1.heap.size 9 i0 (.string ⟨#[]⟩) 1 16 Tryd.underlying49 hi0 hz0 hz1 hz2 rfl (by decide) (.slice (some ⟨g, 0, none⟩) W.length cp) W.length (strVals W) rfl (R2.out.alloc _) ⟨w2.heap.size, 0, none⟩ 1 1 [.string t] rfl rfl ((litS w1.heap.size w2 _ hbase).cells rfl) (by simp [Value.oneCell']) c3.out (by omega) (by simp; omega) ?_; intro v4 w4 hown4 hgrow4 _; obtain ⟨g4, cp4, hv4⟩ := own_form8S hown4 (Nat.succ_ne_zero _); subst hv4; have O4 := Lib.hid hown4; have B4 : Hid (Below w1.heap.size w1 w4) := (B2.out.alloc hbase _).grown hgrow4 (by simp; omega) (fun q hq => (R2.out.lt q hq).1); clear hown4 hgrow4)))
      go_roundw
      case rel =>
        refine ⟨k + 1, g4, cp4, W ++ [t], by omega, by simp, by go_num, HE.out, ?_, B4.out⟩
        have h := O4.out
        show World.ownsRow _ _ _ _ _ _ _
        have e : strVals (W ++ [t]) = strVals W ++ [.string t] := by simp [strVals]
        rw [e, List.length_append]
        exact h
      case measure => simp [intOf]; omega
    · have hge : ¬ (k : Int) < (L.length : Int) := by omega
      have hkn : k = L.length := by omega
      subst hkn
      have HWl : Hid (W = bdW nm L) := by show W = _; rw [hW.out, List.take_length]; rfl
      have hcells : ∀ (j : Nat) x, (bdW nm L)[j]? = some x → wr.cell? ⟨g, 0 + j, none⟩ = some (.string x) := fun j x hx => by
        rw [← HWl.out] at hx
        have hl := (List.getElem?_eq_some_iff.1 hx).1
        rw [Nat.zero_add, World.ownsRow.cellAt hO.out j (by omega)]
        simp [strVals, hx]
      obtain ⟨hbk, hcap⟩ : g < wr.heap.size ∧ W.length ≤ cp := by
        rcases hO.out.2 with ⟨hv, _⟩ | ⟨g', c', cur, hv, _, hg, hc', _⟩
        · cases hv
        · cases hv
          exact ⟨(Array.getElem?_eq_some_iff.1 hg).1, hc'⟩
      have hlen : (bdW nm L).length ≤ 9 := by simp [bdW]; omega
      have J := Tryd.strings_Join g 0 cp (bdW nm L) ⟨#[32]⟩ wr hcells hbk (by omega) (by rw [← HWl.out]; exact hcap) (by have := HZ.out; show (Lib.join _ [32]).length ≤ _; omega)
      rw [show (⟨(Lib.join ((bdW nm L).map (·.data.toList)) (⟨#[32]⟩ : ByteArray).data.toList).toArray⟩ : ByteArray) = bdT nm L from HJ.out, ← HWl.out] at J
      have JJ := Lib.hid J
      obtain ⟨T, hT⟩ : ∃ T, bdT nm L = T := ⟨_, rfl⟩
      rw [hT] at JJ HS
      clear J hcells hT hbk hcap hlen
      go_wp2_with fail
      refine JJ.out.mono ?_
      rintro e w3 ⟨rfl, hb3⟩
      have B3 := Lib.hid (bnext (bnext E0.out (bnext B1.out hB.out)) hb3)
      clear hb3
      go_wp2_with fail
      go_ret
      exact ⟨ret_strB HS.out.symm, B3.out⟩
end Go.Proofs.YtnkaafpdlmmdfaaDoor
