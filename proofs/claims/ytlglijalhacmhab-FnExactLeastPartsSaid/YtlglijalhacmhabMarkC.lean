/-
  Marks that the laws write into rows of clays.
-/
import Derived.Test.YtlglijalhacmhabClayC
import Derived.Test.YtlglijalhacmhabMark
namespace Go.Proofs.Ytlglijalhacmhab
open Go.ChangeShapes Go.WideShapes Go.ChangeAt Go.RowKit Go.Joins

theorem there_set1 {w : World} {g o n : Nat} (T : w.there g o n) (k : Nat) (v : Value) : (w.setCell ⟨g, k, none⟩ v).there g o n := by
  have e : w.setCell ⟨g, k, none⟩ v = w.setCells g k [v] := by rw [World.setCells, World.setCells]
  rw [e]
  exact World.there_setCells T g k [v]
set_option maxRecDepth 100000 in
set_option maxHeartbeats 3200000 in
theorem mark_clays (n : Nat) (hn : n ≤ 1048577) (K : Nat) (h1 : 1 ≤ K) (hK2 : K ≤ 100000000) (g cap : Nat) (w : World) (h : w.there g 0 (n * 5)) :
    Calls Try.prog 28 #[.slice (some ⟨g, 0, none⟩) n cap, .int .i64 K] w fun e w' => e = .returned (.int .i64 ((K + 5 * n : Nat) : Int)) ∧ Only g w w' := by
  have HT := Lib.hid h
  clear h
  go_enter Try.func28, Try.ntmps28
  go_wp2
  go_loopw [1, 5] (fun u i wr => ∃ (k : Nat), k ≤ n ∧ u = .int .i64 ((K + 5 * k : Nat) : Int) ∧ i = .int .i64 k ∧ Hid (wr.there g 0 (n * 5)) ∧ Hid (Only g w wr)) (fun _ i _ => n - (intOf i).toNat)
  case atStart => exact ⟨0, Nat.zero_le _, rfl, rfl, HT.out, Only.refl _ _⟩
  case round =>
    obtain ⟨k, hk, rfl, rfl, hT, hb⟩ := hrel
    by_cases hlt : k < n
    · have hlt' : (k : Int) < (n : Int) := by omega
      have hk0 : (0 : Int) ≤ (k : Int) := by omega
      have C := Lib.hid (mark_text (K + 5 * k) (by omega) (by omega))
      obtain ⟨mk, hmk⟩ : ∃ mk, markB (K + 5 * k) = mk := ⟨_, rfl⟩
      rw [hmk] at C
      clear hmk
      go_wp2_with fail
      refine (C.out _).mono ?_
      rintro e w1 ⟨rfl, hb1⟩
      have T1 := Lib.hid (there_below hT.out hb1)
      have B1 := Lib.hid (hb.out.below hb1)
      obtain ⟨u0, a0, f0⟩ := there_at T1.out (k := k * 5) (by omega)
      obtain ⟨u1, a1, f1⟩ := there_at T1.out (k := k * 5 + 1) (by omega)
      obtain ⟨u2, a2, f2⟩ := there_at T1.out (k := k * 5 + 2) (by omega)
      obtain ⟨u3, a3, f3⟩ := there_at T1.out (k := k * 5 + 3) (by omega)
      obtain ⟨u4, a4, f4⟩ := there_at T1.out (k := k * 5 + 4) (by omega)
      clear hb1
      go_wp2
      go_roundw
      case rel =>
        refine ⟨k + 1, by omega, rfl, by go_num, ?_, ?_⟩
        · exact there_set1 (there_set1 (there_set1 (there_set1 (there_set1 T1.out _ _) _ _) _ _) _ _) _ _
        · exact ((((B1.out.set _ _).set _ _).set _ _).set _ _).set _ _
      case measure => simp [intOf]; omega
    · have hge : ¬ (k : Int) < (n : Int) := by omega
      have hkn : k = n := by omega
      subst hkn
      go_wp2
      go_ret
      exact ⟨rfl, hb.out⟩
end Go.Proofs.Ytlglijalhacmhab
