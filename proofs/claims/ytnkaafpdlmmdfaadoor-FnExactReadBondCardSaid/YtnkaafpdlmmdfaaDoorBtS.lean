/-
  Texts of bonds: the model's.
-/
import Derived.Test.YtnkaafpdlmmdfaaDoorBtP
import Derived.Test.YtnkaafpdlmmdfaaDoorCoS
namespace Go.Proofs.YtnkaafpdlmmdfaaDoor
open Go.ChangeShapes Go.WideShapes Go.ChangeAt Go.RowKit Go.Joins

set_option maxRecDepth 100000 in
set_option maxHeartbeats 3200000 in
theorem bdtext_spec (nm : ByteArray) (L : List Co) (a : Option Addr) (cap : Nat) (hn : nm.size ≤ 12) (hl : L.length ≤ 8) (hs : ∀ (k : Nat) (c : Co), L[k]? = some c → c.ok = true) (b : Nat) (w : World) (c0 : w.cell? ⟨b, 0, none⟩ = some (.string nm)) (c1 : w.cell? ⟨b, 1, none⟩ = some (.slice a L.length cap)) (ha : CoArg w a L) :
    Calls Tryd.prog 75 #[.pointer (some ⟨b, 0, none⟩)] w fun e w' => e = .returned (.string (bdT nm L)) ∧ Below w.heap.size w w' := by
  have HA := Lib.hid ha
  have HS := Lib.hid hs
  have HZ := Lib.hid (bdTo_size (nm := nm) hs)
  have K : Hid (∀ wx, Below w.heap.size w wx → wx.cell? ⟨b, 0, none⟩ = some (.string nm) ∧ wx.cell? ⟨b, 1, none⟩ = some (.slice a L.length cap)) := fun wx hx => ⟨(hx.cell (p := ⟨b, 0, none⟩) (World.block_lt_of_cell? w _ c0)).trans c0, (hx.cell (p := ⟨b, 1, none⟩) (World.block_lt_of_cell? w _ c1)).trans c1⟩
  clear ha hs
  go_enter Tryd.func75, Tryd.ntmps75
  go_wp2
  clear c0 c1
  go_loopw [3, 4] (fun o i wr => ∃ (k : Nat) (t : ByteArray), k ≤ L.length ∧ o = .string t ∧ i = .int .i64 k ∧ Hid (t = bdTo nm L k) ∧ Hid (Below w.heap.size w wr)) (fun _ i _ => L.length - (intOf i).toNat)
  case atStart => exact ⟨0, nm, Nat.zero_le _, rfl, rfl, rfl, Below.refl _ _⟩
  case round =>
    obtain ⟨k, t, hk, rfl, rfl, hT, hB⟩ := hrel
    obtain ⟨c0, c1⟩ := K.out _ hB.out
    have ht : t.size ≤ 12 + 16 * k := by have := HZ.out k; rw [← hT.out] at this; omega
    by_cases hlt : k < L.length
    · have hlt' : (k : Int) < (L.length : Int) := by omega
      have hk0 : (0 : Int) ≤ (k : Int) := by omega
      obtain ⟨b', o', c, rfl, hc, hat⟩ := (HA.out.later hB.out).at hlt
      obtain ⟨e0, e1⟩ := hat.cells hc
      have hok := HS.out k c hc
      have HT : Hid (bdTo nm L (k + 1) = t ++ ⟨#[32]⟩ ++ coTxt c) := by show bdTo nm L (k + 1) = _; rw [hT.out]; exact bdTo_step hc
      obtain ⟨q1, _, q2, q3, _⟩ := Co.ok_facts hok
      obtain ⟨ld, cy⟩ := c
      dsimp only at e0 e1 q1 q2 q3
      clear hc hat hok
      by_cases hz : 1 ≤ ld.size
      · have hne := toList_ne ld hz
        have HT2 : Hid (bdTo nm L (k + 1) = t ++ ⟨#[32]⟩ ++ (ld ++ ⟨#[43]⟩ ++ cy)) := by have := HT.out; rwa [coTxt, if_neg (by show ¬ ld.size = 0; omega)] at this
        have z1 : ¬ (9223372036854775807 < t.size + 1) := by omega
        have z2 : ¬ (9223372036854775807 < ld.size + 1) := by omega
        have z3 : ¬ (9223372036854775807 < t.size + 1 + (ld.size + 1)) := by omega
        have z4 : ¬ (9223372036854775807 < t.size + 1 + (ld.size + 1) + cy.size) := by omega
        go_wp2
        go_roundw
        case rel => exact ⟨k + 1, _, by omega, rfl, by go_num, by show _ = bdTo nm L (k + 1); rw [HT2.out]; simp only [ByteArray.append_assoc], hB.out⟩
        case measure => simp [intOf]; omega
      · obtain rfl := empty_of ld hz
        have HT2 : Hid (bdTo nm L (k + 1) = t ++ ⟨#[32]⟩ ++ cy) := by have := HT.out; rwa [coTxt, if_pos (by rfl)] at this
        have z1 : ¬ (9223372036854775807 < t.size + 1) := by omega
        have z4 : ¬ (9223372036854775807 < t.size + 1 + cy.size) := by omega
        go_wp2
        go_roundw
        case rel => exact ⟨k + 1, _, by omega, rfl, by go_num, by show _ = bdTo nm L (k + 1); rw [HT2.out], hB.out⟩
        case measure => simp [intOf]; omega
    · have hge : ¬ (k : Int) < (L.length : Int) := by omega
      have hkn : k = L.length := by omega
      subst hkn
      go_wp2
      go_ret
      exact ⟨ret_strB hT.out, hB.out⟩
theorem bondText_spec (nm : ByteArray) (L : List Co) (a : Option Addr) (cap : Nat) (hl : L.length ≤ 1048576) (hs : CosLe 1048576 L) (w : World) (ha : CoArg w a L) :
    Calls Tryd.prog 39 #[.agg #[.string nm, .slice a L.length cap]] w fun e w' => e = .returned (.string (bdS nm L)) ∧ Below w.heap.size w w' := by
  have C := Lib.hid (fun t => bondOk_spec nm L a cap hl hs w.heap.size 0 (w.alloc (.cells #[.string nm, .slice a L.length cap] t)) (box2 w nm _ t).1 (box2 w nm _ t).2 (ha.later (balloc0 _ _)))
  cases h : okBond nm L
  · rw [h] at C
    have HS : Hid (bdS nm L = ⟨#[]⟩) := by show bdS nm L = _; simp [bdS, h]
    clear ha h
    go_enter Tryd.func39, Tryd.ntmps39
    go_wp2_with fail
    refine (C.out _).mono ?_
    rintro e w1 ⟨rfl, hb1⟩
    have B1 := Lib.hid (bnext (balloc0 _ _) hb1)
    clear hb1
    go_wp2_with fail
    go_ret
    exact ⟨ret_strB HS.out.symm, B1.out⟩
  · rw [h] at C
    obtain ⟨f1, f2, f3, f4⟩ := okBond_facts h
    have h6 : nm.size ≤ 12 := by simp only [nameB, Bool.and_eq_true, decide_eq_true_eq] at f1; exact f1.2.1
    have HS : Hid (bdS nm L = bdT nm L) := by show bdS nm L = _; simp [bdS, h]
    have D := Lib.hid (fun t wx (hx : Below (w.alloc (.cells #[.string nm, .slice a L.length cap] t)).heap.size (w.alloc (.cells #[.string nm, .slice a L.length cap] t)) wx) => bdtext_spec nm L a cap h6 f3 f4 w.heap.size wx
      ((hx.cell (p := ⟨w.heap.size, 0, none⟩) (by simp)).trans (box2 w nm _ t).1) ((hx.cell (p := ⟨w.heap.size, 0 + 1, none⟩) (by simp)).trans (box2 w nm _ t).2) ((ha.later (balloc0 _ _)).later hx))
    clear ha h f1 f2 f3 f4 h6
    go_enter Tryd.func39, Tryd.ntmps39
    go_wp2_with fail
    refine (C.out _).mono ?_
    rintro e w1 ⟨rfl, hb1⟩
    have B1 := Lib.hid (bnext (balloc0 _ _) hb1)
    have HB := Lib.hid hb1
    clear hb1
    go_wp2_with fail
    refine (D.out _ _ HB.out).mono ?_
    rintro e w2 ⟨rfl, hb2⟩
    have B2 := Lib.hid (bnext B1.out hb2)
    clear hb2
    go_wp2_with fail
    go_ret
    exact ⟨ret_strB HS.out.symm, B2.out⟩
end Go.Proofs.YtnkaafpdlmmdfaaDoor
