/-
  Marks in rows of clays: what they hold behind, and that they are found again.
-/
import Derived.Test.YtpmklnldgafkjaaMarkC
import Derived.Deep.RegionWith
namespace Go.Proofs.Ytpmklnldgafkjaa
open Go.ChangeShapes Go.WideShapes Go.ChangeAt Go.RowKit Go.Joins

/-- The clay of marks from K on. -/
def mcl (K k : Nat) : Cl := ⟨markB (K + 5 * k), (K : Int) + 5 * (k : Int) + 1, (K : Int) + 5 * (k : Int) + 1 + 1, (K : Int) + 5 * (k : Int) + 1 + 1 + 1, (K : Int) + 5 * (k : Int) + 1 + 1 + 1 + 1⟩
def mclL (K n : Nat) : List Cl := (List.range n).map (mcl K)
theorem mclL_length (K n : Nat) : (mclL K n).length = n := by simp [mclL]
theorem mclL_at {K n k : Nat} (h : k < n) : (mclL K n)[k]? = some (mcl K k) := by simp [mclL, h]
theorem five_cells (w : World) (g o : Nat) (a b c d e : Value) : ((((w.setCell ⟨g, o, none⟩ a).setCell ⟨g, o + 1, none⟩ b).setCell ⟨g, o + 2, none⟩ c).setCell ⟨g, o + 3, none⟩ d).setCell ⟨g, o + 4, none⟩ e = w.setCells g o [a, b, c, d, e] := by
  simp only [World.setCells]

set_option maxRecDepth 100000 in
set_option maxHeartbeats 3200000 in
theorem mark_clays2 (n : Nat) (hn : n ≤ 1048577) (K : Nat) (h1 : 1 ≤ K) (hK2 : K ≤ 100000000) (g cap : Nat) (w : World) (h : w.there g 0 (n * 5)) :
    Calls Try.prog 26 #[.slice (some ⟨g, 0, none⟩) n cap, .int .i64 K] w fun e w' => e = .returned (.int .i64 ((K + 5 * n : Nat) : Int)) ∧ Only g w w' ∧ ClAt w' g 0 (mclL K n) ∧ w'.there g 0 (n * 5) := by
  have HT := Lib.hid h
  clear h
  go_enter Try.func26, Try.ntmps26
  go_wp2
  go_loopw [1, 5] (fun u i wr => ∃ (k : Nat), k ≤ n ∧ u = .int .i64 ((K + 5 * k : Nat) : Int) ∧ i = .int .i64 k ∧ Hid (∀ j, j < k → wr.rangeAt g (j * 5) (mcl K j).vals) ∧ Hid (wr.there g 0 (n * 5)) ∧ Hid (Only g w wr)) (fun _ i _ => n - (intOf i).toNat)
  case atStart => exact ⟨0, Nat.zero_le _, rfl, rfl, fun j hj => by omega, HT.out, Only.refl _ _⟩
  case round =>
    obtain ⟨k, hk, rfl, rfl, hR, hT, hb⟩ := hrel
    by_cases hlt : k < n
    · have hlt' : (k : Int) < (n : Int) := by omega
      have hk0 : (0 : Int) ≤ (k : Int) := by omega
      have C := Lib.hid (mark_text (K + 5 * k) (by omega) (by omega))
      obtain ⟨mk, hmk⟩ : ∃ mk, markB (K + 5 * k) = mk := ⟨_, rfl⟩
      rw [hmk] at C
      have HM := Lib.hid hmk
      clear hmk
      go_wp2_with fail
      refine (C.out _).mono ?_
      rintro e w1 ⟨rfl, hb1⟩
      have T1 := Lib.hid (there_below hT.out hb1)
      have R1 : Hid (∀ j, j < k → w1.rangeAt g (j * 5) (mcl K j).vals) := fun j hj => range_below (hR.out j hj) hb1
      have B1 := Lib.hid (hb.out.below hb1)
      obtain ⟨u0, a0, f0⟩ := there_at T1.out (k := k * 5) (by omega)
      obtain ⟨u1, a1, f1⟩ := there_at T1.out (k := k * 5 + 1) (by omega)
      obtain ⟨u2, a2, f2⟩ := there_at T1.out (k := k * 5 + 2) (by omega)
      obtain ⟨u3, a3, f3⟩ := there_at T1.out (k := k * 5 + 3) (by omega)
      obtain ⟨u4, a4, f4⟩ := there_at T1.out (k := k * 5 + 4) (by omega)
      clear hb1
      go_wp2
      go_roundw
      case rel =>
        have hv : (mcl K k).vals = [.string mk, .int .i64 ((K : Int) + 5 * (k : Int) + 1), .int .i64 ((K : Int) + 5 * (k : Int) + 1 + 1), .int .i64 ((K : Int) + 5 * (k : Int) + 1 + 1 + 1), .int .i64 ((K : Int) + 5 * (k : Int) + 1 + 1 + 1 + 1)] := by rw [← HM.out]; rfl
        refine ⟨k + 1, by omega, rfl, by go_num, fun j hj => ?_, ?_, ?_⟩
        · rw [five_cells]
          by_cases e : j = k
          · subst e
            rw [hv]
            exact World.rangeAt_setCells_same w1 g (j * 5) _ (there_part T1.out hlt)
          · refine World.rangeAt_setCells_apart (R1.out j (by omega)) _ _ _ (.inr ?_)
            have h5 : (mcl K j).vals.length = 5 := rfl
            rw [h5]
            left
            omega
        · exact there_set1 (there_set1 (there_set1 (there_set1 (there_set1 T1.out _ _) _ _) _ _) _ _) _ _
        · exact ((((B1.out.set _ _).set _ _).set _ _).set _ _).set _ _
      case measure => simp [intOf]; omega
    · have hge : ¬ (k : Int) < (n : Int) := by omega
      have hkn : k = n := by omega
      subst hkn
      go_wp2
      go_ret
      refine ⟨rfl, hb.out, fun j c hj => ?_, hT.out⟩
      have hl := (List.getElem?_eq_some_iff.1 hj).1
      rw [mclL_length] at hl
      rw [mclL_at hl] at hj
      cases hj
      rw [Nat.zero_add]
      exact hR.out j hl

set_option maxRecDepth 100000 in
set_option maxHeartbeats 3200000 in
theorem held_clays (n : Nat) (hn : n ≤ 1048577) (K : Nat) (h1 : 1 ≤ K) (hK2 : K ≤ 100000000) (g cap : Nat) (w : World) (h : ClAt w g 0 (mclL K n)) :
    Calls Try.prog 27 #[.slice (some ⟨g, 0, none⟩) n cap, .int .i64 K] w fun e w' => e = .returned (.int .i64 ((K + 5 * n : Nat) : Int)) ∧ Below w.heap.size w w' := by
  have H := Lib.hid h
  clear h
  go_enter Try.func27, Try.ntmps27
  go_wp2
  go_loopw [1, 5] (fun u i wr => ∃ (k : Nat), k ≤ n ∧ u = .int .i64 ((K + 5 * k : Nat) : Int) ∧ i = .int .i64 k ∧ Hid (Below w.heap.size w wr)) (fun _ i _ => n - (intOf i).toNat)
  case atStart => exact ⟨0, Nat.zero_le _, rfl, rfl, Below.refl _ _⟩
  case round =>
    obtain ⟨k, hk, rfl, rfl, hb⟩ := hrel
    by_cases hlt : k < n
    · have hlt' : (k : Int) < (n : Int) := by omega
      have hk0 : (0 : Int) ≤ (k : Int) := by omega
      have HC : Hid (∀ wx, Below w.heap.size w wx → wx.cell? ⟨g, k * 5, none⟩ = some (.string (markB (K + 5 * k))) ∧ wx.cell? ⟨g, k * 5 + 1, none⟩ = some (.int .i64 ((K : Int) + 5 * (k : Int) + 1)) ∧ wx.cell? ⟨g, k * 5 + 2, none⟩ = some (.int .i64 ((K : Int) + 5 * (k : Int) + 1 + 1)) ∧ wx.cell? ⟨g, k * 5 + 3, none⟩ = some (.int .i64 ((K : Int) + 5 * (k : Int) + 1 + 1 + 1)) ∧ wx.cell? ⟨g, k * 5 + 4, none⟩ = some (.int .i64 ((K : Int) + 5 * (k : Int) + 1 + 1 + 1 + 1))) := by
        intro wx hx
        have := (H.out.later hx).cells (mclL_at hlt)
        simpa [mcl] using this
      have C := Lib.hid (mark_text (K + 5 * k) (by omega) (by omega))
      obtain ⟨mk, hmk⟩ : ∃ mk, markB (K + 5 * k) = mk := ⟨_, rfl⟩
      rw [hmk] at C HC
      clear hmk
      obtain ⟨c0, c1, c2, c3, c4⟩ := HC.out _ hb.out
      go_wp2_with fail
      go_region_with (go_at_call 64; refine (C.out _).mono ?_; rintro e w1 ⟨rfl, hb1⟩; have B1 := Lib.hid (bnext hb.out.drew hb1); clear hb1; obtain ⟨d0, d1, d2, d3, d4⟩ := HC.out _ B1.out)
      all_goals
        go_wp2
        go_roundw
        case rel => exact ⟨k + 1, by omega, rfl, by go_num, B1.out⟩
        case measure => simp [intOf]; omega
    · have hge : ¬ (k : Int) < (n : Int) := by omega
      have hkn : k = n := by omega
      subst hkn
      go_wp2
      go_ret
      exact ⟨rfl, hb.out⟩
end Go.Proofs.Ytpmklnldgafkjaa
