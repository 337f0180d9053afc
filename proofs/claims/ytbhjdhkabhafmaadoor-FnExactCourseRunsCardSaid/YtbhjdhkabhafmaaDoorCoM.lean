/-
  Marks that the laws write into rows of courses, and look for again.
-/
import Derived.Test.YtbhjdhkabhafmaaDoorCoL
import Derived.Test.YtbhjdhkabhafmaaDoorMark
namespace Go.Proofs.YtbhjdhkabhafmaaDoor
open Go.ChangeShapes Go.WideShapes Go.ChangeAt Go.RowKit Go.Joins


theorem there_set1c {w : World} {g o n : Nat} (T : w.there g o n) (k : Nat) (v : Value) : (w.setCell ⟨g, k, none⟩ v).there g o n := by
  have e : w.setCell ⟨g, k, none⟩ v = w.setCells g k [v] := by rw [World.setCells, World.setCells]
  rw [e]
  exact World.there_setCells T g k [v]
/-- The course of marks from K on. -/
def mco (K k : Nat) : Co := ⟨markB (K + 2 * k), markB (K + 2 * k + 1)⟩
def mcoL (K n : Nat) : List Co := (List.range n).map (mco K)
theorem mcoL_length (K n : Nat) : (mcoL K n).length = n := by simp [mcoL]
theorem mcoL_at {K n k : Nat} (h : k < n) : (mcoL K n)[k]? = some (mco K k) := by simp [mcoL, h]

set_option maxRecDepth 100000 in
set_option maxHeartbeats 3200000 in
theorem mark_courses (n : Nat) (hn : n ≤ 1048577) (K : Nat) (h1 : 1 ≤ K) (hK2 : K ≤ 100000000) (g cap : Nat) (w : World) (h : w.there g 0 (n * 2)) :
    Calls Tryd.prog 71 #[.slice (some ⟨g, 0, none⟩) n cap, .int .i64 K] w fun e w' => e = .returned (.int .i64 ((K + 2 * n : Nat) : Int)) ∧ Only g w w' ∧ CoAt w' g 0 (mcoL K n) ∧ w'.there g 0 (n * 2) := by
  have HT := Lib.hid h
  clear h
  go_enter Tryd.func71, Tryd.ntmps71
  go_wp2
  go_loopw [1, 5] (fun u i wr => ∃ (k : Nat), k ≤ n ∧ u = .int .i64 ((K + 2 * k : Nat) : Int) ∧ i = .int .i64 k ∧ Hid (∀ j, j < k → wr.rangeAt g (j * 2) (mco K j).vals) ∧ Hid (wr.there g 0 (n * 2)) ∧ Hid (Only g w wr)) (fun _ i _ => n - (intOf i).toNat)
  case atStart => exact ⟨0, Nat.zero_le _, rfl, rfl, fun j hj => by omega, HT.out, Only.refl _ _⟩
  case round =>
    obtain ⟨k, hk, rfl, rfl, hR, hT, hb⟩ := hrel
    by_cases hlt : k < n
    · have hlt' : (k : Int) < (n : Int) := by omega
      have hk0 : (0 : Int) ≤ (k : Int) := by omega
      have C := Lib.hid (mark_text (K + 2 * k) (by omega) (by omega))
      have D := Lib.hid (mark_text (K + 2 * k + 1) (by omega) (by omega))
      obtain ⟨mk, hmk⟩ : ∃ mk, markB (K + 2 * k) = mk := ⟨_, rfl⟩
      obtain ⟨nk, hnk⟩ : ∃ nk, markB (K + 2 * k + 1) = nk := ⟨_, rfl⟩
      rw [hmk] at C
      rw [hnk] at D
      have HM := Lib.hid hmk
      have HN := Lib.hid hnk
      clear hmk hnk
      go_wp2_with fail
      refine (C.out _).mono ?_
      rintro e w1 ⟨rfl, hb1⟩
      have T1 := Lib.hid (there_below hT.out hb1)
      have R1 : Hid (∀ j, j < k → w1.rangeAt g (j * 2) (mco K j).vals) := fun j hj => range_below (hR.out j hj) hb1
      have B1 := Lib.hid (hb.out.below hb1)
      obtain ⟨u0, a0, f0⟩ := there_at T1.out (k := k * 2) (by omega)
      clear hb1
      go_wp2_with fail
      refine (D.out _).mono ?_
      rintro e w2 ⟨rfl, hb2⟩
      have T1' := there_set1c T1.out (k * 2) (.string mk)
      have T2 := Lib.hid (there_below T1' hb2)
      have hlt2 : g < (w1.setCell ⟨g, k * 2, none⟩ (.string mk)).heap.size := by have := World.block_lt_of_cell? w1 _ a0; simpa [World.setCell] using this
      have R2 : Hid (∀ j, j < k → w2.rangeAt g (j * 2) (mco K j).vals) := fun j hj => range_below (by
        have e : w1.setCell ⟨g, k * 2, none⟩ (.string mk) = w1.setCells g (k * 2) [.string mk] := by rw [World.setCells, World.setCells]
        rw [e]
        refine World.rangeAt_setCells_apart (R1.out j hj) _ _ _ (.inr ?_)
        have h5 : (mco K j).vals.length = 2 := rfl
        rw [h5]
        left
        omega) hb2
      have c0 : Hid (w2.cell? ⟨g, k * 2, none⟩ = some (.string mk)) := by
        show w2.cell? ⟨g, k * 2, none⟩ = some (.string mk)
        rw [hb2.cell (p := ⟨g, k * 2, none⟩) hlt2]
        exact World.cell?_setCell_same _ _ _ a0
      have B2 := Lib.hid ((B1.out.set (k * 2) (.string mk)).below hb2)
      obtain ⟨u1, a1, f1⟩ := there_at T2.out (k := k * 2 + 1) (by omega)
      clear hb2 T1' a0 f0
      go_wp2
      go_roundw
      case rel =>
        refine ⟨k + 1, by omega, by go_num, by go_num, fun j hj => ?_, ?_, ?_⟩
        · have e : w2.setCell ⟨g, k * 2 + 1, none⟩ (.string nk) = w2.setCells g (k * 2 + 1) [.string nk] := by rw [World.setCells, World.setCells]
          by_cases ej : j = k
          · subst ej
            have hv : (mco K j).vals = [.string mk, .string nk] := by rw [← HM.out, ← HN.out]; rfl
            rw [hv]
            intro i v hi
            match i, hi with
            | 0, hi =>
              cases hi
              rw [World.cell?_setCell_other _ _ _ _ (by simp)]
              simpa using c0.out
            | 1, hi =>
              cases hi
              exact World.cell?_setCell_same _ _ _ a1
          · rw [e]
            refine World.rangeAt_setCells_apart (R2.out j (by omega)) _ _ _ (.inr ?_)
            have h5 : (mco K j).vals.length = 2 := rfl
            rw [h5]
            left
            omega
        · exact there_set1c T2.out _ _
        · exact B2.out.set _ _
      case measure => simp [intOf]; omega
    · have hge : ¬ (k : Int) < (n : Int) := by omega
      have hkn : k = n := by omega
      subst hkn
      go_wp2
      go_ret
      refine ⟨rfl, hb.out, fun j c hj => ?_, hT.out⟩
      have hl := (List.getElem?_eq_some_iff.1 hj).1
      rw [mcoL_length] at hl
      rw [mcoL_at hl] at hj
      cases hj
      rw [Nat.zero_add]
      exact hR.out j hl
end Go.Proofs.YtbhjdhkabhafmaaDoor
