/-
  The marks that the laws write into rows of moulds.
-/
import Derived.Test.YtcjmdmkcipiabaaMo
import Derived.Deep.RegionWith
namespace Go.Proofs.Ytcjmdmkcipiabaa
open Go.ChangeShapes Go.WideShapes Go.ChangeAt Go.RowKit Go.Joins


theorem there_setM {w : World} {g o n : Nat} (T : w.there g o n) (k : Nat) (v : Value) : (w.setCell ⟨g, k, none⟩ v).there g o n := by
  have e : w.setCell ⟨g, k, none⟩ v = w.setCells g k [v] := by rw [World.setCells, World.setCells]
  rw [e]
  exact World.there_setCells T g k [v]
/-- The mould of marks from K on. -/
def mmould (K k : Nat) : Mo := ⟨(K : Int) + 4 * (k : Int), (K : Int) + 4 * (k : Int) + 1, (K : Int) + 4 * (k : Int) + 1 + 1, (K : Int) + 4 * (k : Int) + 1 + 1 + 1⟩
def mmouldL (K n : Nat) : List Mo := (List.range n).map (mmould K)
theorem mmouldL_length (K n : Nat) : (mmouldL K n).length = n := by simp [mmouldL]
theorem mmouldL_at {K n k : Nat} (h : k < n) : (mmouldL K n)[k]? = some (mmould K k) := by simp [mmouldL, h]
theorem cells_mould (w : World) (g o : Nat) (v0 v1 v2 v3 : Value) : (((w.setCell ⟨g, o, none⟩ v0).setCell ⟨g, o + 1, none⟩ v1).setCell ⟨g, o + 2, none⟩ v2).setCell ⟨g, o + 3, none⟩ v3 = w.setCells g o [v0, v1, v2, v3] := by
  simp only [World.setCells]

set_option maxRecDepth 100000 in
set_option maxHeartbeats 3200000 in
theorem mark_moulds (n : Nat) (hn : n ≤ 1048577) (K : Nat) (hK2 : K ≤ 100000000) (g cap : Nat) (w : World) (h : w.there g 0 (n * 4)) :
    Calls Try.prog 14 #[.slice (some ⟨g, 0, none⟩) n cap, .int .i64 K] w fun e w' => e = .returned (.int .i64 ((K + 4 * n : Nat) : Int)) ∧ Only g w w' ∧ MoAt w' g 0 (mmouldL K n) ∧ w'.there g 0 (n * 4) := by
  have HT := Lib.hid h
  clear h
  go_enter Try.func14, Try.ntmps14
  go_wp2
  go_loopw [1, 5] (fun u i wr => ∃ (k : Nat), k ≤ n ∧ u = .int .i64 ((K : Int) + 4 * (k : Int)) ∧ i = .int .i64 k ∧ Hid (∀ j, j < k → wr.rangeAt g (j * 4) (mmould K j).vals) ∧ Hid (wr.there g 0 (n * 4)) ∧ Hid (Only g w wr)) (fun _ i _ => n - (intOf i).toNat)
  case atStart => exact ⟨0, Nat.zero_le _, by simp, rfl, fun j hj => by omega, HT.out, Only.refl _ _⟩
  case round =>
    obtain ⟨k, hk, rfl, rfl, hR, hT, hb⟩ := hrel
    by_cases hlt : k < n
    · have hlt' : (k : Int) < (n : Int) := by omega
      have hk0 : (0 : Int) ≤ (k : Int) := by omega
      obtain ⟨u0, a0, f0⟩ := there_at hT.out (k := k * 4) (by omega)
      obtain ⟨u1, a1, f1⟩ := there_at hT.out (k := k * 4 + 1) (by omega)
      obtain ⟨u2, a2, f2⟩ := there_at hT.out (k := k * 4 + 2) (by omega)
      obtain ⟨u3, a3, f3⟩ := there_at hT.out (k := k * 4 + 3) (by omega)
      go_wp2
      go_roundw
      case rel =>
        have hv : (mmould K k).vals = [.int .i64 ((K : Int) + 4 * (k : Int)), .int .i64 ((K : Int) + 4 * (k : Int) + 1), .int .i64 ((K : Int) + 4 * (k : Int) + 1 + 1), .int .i64 ((K : Int) + 4 * (k : Int) + 1 + 1 + 1)] := rfl
        refine ⟨k + 1, by omega, by go_num, by go_num, fun j hj => ?_, ?_, ?_⟩
        · rw [cells_mould]
          by_cases e : j = k
          · subst e
            rw [hv]
            exact World.rangeAt_setCells_same wr g (j * 4) _ (there_part hT.out hlt)
          · refine World.rangeAt_setCells_apart (hR.out j (by omega)) _ _ _ (.inr ?_)
            have h5 : (mmould K j).vals.length = 4 := rfl
            rw [h5]
            left
            omega
        · exact there_setM (there_setM (there_setM (there_setM hT.out _ _) _ _) _ _) _ _
        · exact (((hb.out.set _ _).set _ _).set _ _).set _ _
      case measure => simp [intOf]; omega
    · have hge : ¬ (k : Int) < (n : Int) := by omega
      have hkn : k = n := by omega
      subst hkn
      go_wp2
      go_ret
      refine ⟨by simp, hb.out, fun j c hj => ?_, hT.out⟩
      have hl := (List.getElem?_eq_some_iff.1 hj).1
      rw [mmouldL_length] at hl
      rw [mmouldL_at hl] at hj
      cases hj
      rw [Nat.zero_add]
      exact hR.out j hl

set_option maxRecDepth 100000 in
theorem markMo_nil (a : Option Addr) (cap K : Nat) (w : World) :
    Calls Try.prog 14 #[.slice a 0 cap, .int .i64 K] w fun e w' => e = .returned (.int .i64 (K : Int)) ∧ w = w' := by
  go_enter Try.func14, Try.ntmps14
  go_wp2
  go_loopw [1, 5] (fun u i wr => u = .int .i64 (K : Int) ∧ i = .int .i64 0 ∧ w = wr) (fun _ _ _ => 0)
  case atStart => exact ⟨rfl, rfl, rfl⟩
  case round =>
    obtain ⟨rfl, rfl, rfl⟩ := hrel
    go_wp2
    go_ret
    exact ⟨rfl, rfl⟩
theorem markMo_res (M : List Mo) (hn : M.length ≤ 1048577) (K : Nat) (hK2 : K ≤ 100000000) (B cap : Nat) (a : Option Addr) (w : World) (hB : B ≤ w.heap.size) (h : MoRes B M a w) :
    Calls Try.prog 14 #[.slice a M.length cap, .int .i64 K] w fun e w' => e = .returned (.int .i64 ((K + 4 * M.length : Nat) : Int)) ∧ Below B w w' ∧ MoRes B (mmouldL K M.length) a w' := by
  rcases h with h | ⟨g, h2, h3⟩
  · subst h
    refine (markMo_nil a cap K w).mono ?_
    rintro e w' ⟨h1, h2⟩
    subst h2
    exact ⟨h1, Below.refl _ _, .inl rfl⟩
  · subst h2
    refine (mark_moulds M.length hn K hK2 g cap w h3.2.2.1).mono ?_
    rintro e w' ⟨h4, h5, h6, h7⟩
    exact ⟨h4, h5.base h3.1 hB, .inr ⟨g, rfl, h3.1, h6, by rw [mmouldL_length]; exact h7, Nat.lt_of_lt_of_le h3.2.2.2 h5.size⟩⟩
end Go.Proofs.Ytcjmdmkcipiabaa
