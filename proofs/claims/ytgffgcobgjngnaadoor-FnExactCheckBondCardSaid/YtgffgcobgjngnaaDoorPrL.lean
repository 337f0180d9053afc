/-
  Rows of problems: compared, marked, held.
-/
import Derived.Test.YtgffgcobgjngnaaDoorCkS
namespace Go.Proofs.YtgffgcobgjngnaaDoor
open Go.ChangeShapes Go.WideShapes Go.ChangeAt Go.RowKit Go.Joins

/-- The problems lie there. -/
def PrArg (w : World) (a : Option Addr) (ps : List (Int × Int)) : Prop := ps = [] ∨ ∃ g, a = some ⟨g, 0, none⟩ ∧ ∀ k p, ps[k]? = some p → w.cell? ⟨g, k * 2, none⟩ = some (.int .i64 p.1) ∧ w.cell? ⟨g, k * 2 + 1, none⟩ = some (.int .i64 p.2)
theorem PrArg.later {w w' : World} {a : Option Addr} {ps : List (Int × Int)} (h : PrArg w a ps) (hb : Below w.heap.size w w') : PrArg w' a ps := by
  rcases h with h | ⟨g, h1, h2⟩
  · exact .inl h
  · exact .inr ⟨g, h1, fun k p hk => ⟨(hb.cell (World.block_lt_of_cell? w _ (h2 k p hk).1)).trans (h2 k p hk).1, (hb.cell (World.block_lt_of_cell? w _ (h2 k p hk).2)).trans (h2 k p hk).2⟩⟩
theorem eq_problem (a b : Int) (w : World) : Calls Tryd.prog 41 #[.agg #[.int .i64 a, .int .i64 b], .agg #[.int .i64 a, .int .i64 b]] w fun e w' => e = .returned (.bool true) ∧ Below w.heap.size w w' := by
  go_enter Tryd.func41, Tryd.ntmps41
  go_wp2
  go_ret
  exact ⟨rfl, balloc (balloc0 _ _) _⟩
set_option maxRecDepth 100000 in
set_option maxHeartbeats 1600000 in
theorem eq_problems (ps : List (Int × Int)) (a a' : Option Addr) (cap cap' : Nat) (hl : ps.length ≤ 1048577) (w : World) (ha : PrArg w a ps) (ha' : PrArg w a' ps) :
    Calls Tryd.prog 16 #[.slice a ps.length cap, .slice a' ps.length cap'] w fun e w' => e = .returned (.bool true) ∧ Below w.heap.size w w' := by
  have HA := Lib.hid ha
  have HA' := Lib.hid ha'
  clear ha ha'
  go_enter Tryd.func16, Tryd.ntmps16
  go_wp2
  go_loopw [5] (fun i wr => ∃ k : Nat, k ≤ ps.length ∧ i = .int .i64 k ∧ Hid (Below w.heap.size w wr)) (fun i _ => ps.length - (intOf i).toNat)
  case atStart => exact ⟨0, Nat.zero_le _, rfl, Below.refl _ _⟩
  case round =>
    obtain ⟨k, hk, rfl, hB⟩ := hrel
    by_cases hlt : k < ps.length
    · have hlt' : (k : Int) < (ps.length : Int) := by omega
      have hk0 : (0 : Int) ≤ (k : Int) := by omega
      obtain ⟨⟨x, y⟩, hp⟩ : ∃ p, ps[k]? = some p := ⟨_, List.getElem?_eq_getElem hlt⟩
      obtain ⟨g, rfl, hg⟩ : ∃ g, a = some ⟨g, 0, none⟩ ∧ ∀ k p, ps[k]? = some p → wr.cell? ⟨g, k * 2, none⟩ = some (.int .i64 p.1) ∧ wr.cell? ⟨g, k * 2 + 1, none⟩ = some (.int .i64 p.2) := by
        rcases HA.out.later hB.out with h | h
        · subst h; simp at hlt
        · exact h
      obtain ⟨g', rfl, hg'⟩ : ∃ g, a' = some ⟨g, 0, none⟩ ∧ ∀ k p, ps[k]? = some p → wr.cell? ⟨g, k * 2, none⟩ = some (.int .i64 p.1) ∧ wr.cell? ⟨g, k * 2 + 1, none⟩ = some (.int .i64 p.2) := by
        rcases HA'.out.later hB.out with h | h
        · subst h; simp at hlt
        · exact h
      obtain ⟨c0, c1⟩ := hg k _ hp
      obtain ⟨d0, d1⟩ := hg' k _ hp
      clear hp hg hg'
      go_wp2_with fail
      go_region_with (go_at_call 41; refine (eq_problem x y _).mono ?_; rintro e w1 ⟨rfl, hb1⟩; have B1 := Lib.hid hb1; clear hb1)
      all_goals
        go_wp2
        go_roundw
        case rel => exact ⟨k + 1, by omega, by go_num, bnext hB.out.drew B1.out⟩
        case measure => simp [intOf]; omega
    · have hge : ¬ (k : Int) < (ps.length : Int) := by omega
      go_wp2
      go_ret
      exact ⟨rfl, hB.out⟩
set_option maxRecDepth 100000 in
set_option maxHeartbeats 1600000 in
theorem held_problems (n : Nat) (hn : n ≤ 1048577) (K : Nat) (hK2 : K ≤ 100000000) (a : Option Addr) (cap : Nat) (w : World) (h : n = 0 ∨ ∃ g, a = some ⟨g, 0, none⟩ ∧ ∀ j, j < n → w.cell? ⟨g, j * 2, none⟩ = some (.int .i64 ((K + 2 * j : Nat) : Int)) ∧ w.cell? ⟨g, j * 2 + 1, none⟩ = some (.int .i64 ((K + 2 * j + 1 : Nat) : Int))) :
    Calls Tryd.prog 18 #[.slice a n cap, .int .i64 K] w fun e w' => e = .returned (.int .i64 ((K + 2 * n : Nat) : Int)) ∧ Below w.heap.size w w' := by
  have H := Lib.hid h
  clear h
  go_enter Tryd.func18, Tryd.ntmps18
  go_wp2
  go_loopw [1, 5] (fun u i wr => ∃ (k : Nat), k ≤ n ∧ u = .int .i64 ((K + 2 * k : Nat) : Int) ∧ i = .int .i64 k ∧ Hid (Below w.heap.size w wr)) (fun _ i _ => n - (intOf i).toNat)
  case atStart => exact ⟨0, Nat.zero_le _, rfl, rfl, Below.refl _ _⟩
  case round =>
    obtain ⟨k, hk, rfl, rfl, hb⟩ := hrel
    by_cases hlt : k < n
    · have hlt' : (k : Int) < (n : Int) := by omega
      have hk0 : (0 : Int) ≤ (k : Int) := by omega
      obtain ⟨g, rfl, hg⟩ : ∃ g, a = some ⟨g, 0, none⟩ ∧ ∀ j, j < n → w.cell? ⟨g, j * 2, none⟩ = some (.int .i64 ((K + 2 * j : Nat) : Int)) ∧ w.cell? ⟨g, j * 2 + 1, none⟩ = some (.int .i64 ((K + 2 * j + 1 : Nat) : Int)) := by
        rcases H.out with h | h
        · omega
        · exact h
      have c0 := (hb.out.cell (p := ⟨g, k * 2, none⟩) (World.block_lt_of_cell? w _ (hg k hlt).1)).trans (hg k hlt).1
      have c1 := (hb.out.cell (p := ⟨g, k * 2 + 1, none⟩) (World.block_lt_of_cell? w _ (hg k hlt).2)).trans (hg k hlt).2
      clear hg
      go_wp2
      go_roundw
      case rel => exact ⟨k + 1, by omega, by go_num, by go_num, hb.out⟩
      case measure => simp [intOf]; omega
    · have hge : ¬ (k : Int) < (n : Int) := by omega
      have hkn : k = n := by omega
      subst hkn
      go_wp2
      go_ret
      exact ⟨rfl, hb.out⟩
set_option maxRecDepth 100000 in
set_option maxHeartbeats 3200000 in
theorem mark_problems (n : Nat) (hn : n ≤ 1048577) (K : Nat) (hK2 : K ≤ 100000000) (g cap : Nat) (w : World) (h : w.there g 0 (n * 2)) :
    Calls Tryd.prog 17 #[.slice (some ⟨g, 0, none⟩) n cap, .int .i64 K] w fun e w' => e = .returned (.int .i64 ((K + 2 * n : Nat) : Int)) ∧ Only g w w' ∧ (∀ j, j < n → w'.cell? ⟨g, j * 2, none⟩ = some (.int .i64 ((K + 2 * j : Nat) : Int)) ∧ w'.cell? ⟨g, j * 2 + 1, none⟩ = some (.int .i64 ((K + 2 * j + 1 : Nat) : Int))) := by
  have HT := Lib.hid h
  clear h
  go_enter Tryd.func17, Tryd.ntmps17
  go_wp2
  go_loopw [1, 5] (fun u i wr => ∃ (k : Nat), k ≤ n ∧ u = .int .i64 ((K + 2 * k : Nat) : Int) ∧ i = .int .i64 k ∧ Hid (∀ j, j < k → wr.cell? ⟨g, j * 2, none⟩ = some (.int .i64 ((K + 2 * j : Nat) : Int)) ∧ wr.cell? ⟨g, j * 2 + 1, none⟩ = some (.int .i64 ((K + 2 * j + 1 : Nat) : Int))) ∧ Hid (wr.there g 0 (n * 2)) ∧ Hid (Only g w wr)) (fun _ i _ => n - (intOf i).toNat)
  case atStart => exact ⟨0, Nat.zero_le _, rfl, rfl, fun j hj => by omega, HT.out, Only.refl _ _⟩
  case round =>
    obtain ⟨k, hk, rfl, rfl, hR, hT, hb⟩ := hrel
    by_cases hlt : k < n
    · have hlt' : (k : Int) < (n : Int) := by omega
      have hk0 : (0 : Int) ≤ (k : Int) := by omega
      obtain ⟨u0, a0, f0⟩ := there_at hT.out (k := k * 2) (by omega)
      obtain ⟨u1, a1, f1⟩ := there_at hT.out (k := k * 2 + 1) (by omega)
      go_wp2
      go_roundw
      case rel =>
        refine ⟨k + 1, by omega, by go_num, by go_num, fun j hj => ?_, there_set1c (there_set1c hT.out _ _) _ _, (hb.out.set _ _).set _ _⟩
        by_cases ej : j = k
        · subst ej
          refine ⟨?_, ?_⟩
          · rw [World.cell?_setCell_other _ _ _ _ (by simp)]
            exact World.cell?_setCell_same _ _ _ a0
          · refine World.cell?_setCell_same _ _ _ (u := u1) ?_
            rw [World.cell?_setCell_other _ _ _ _ (by simp)]
            exact a1
        · obtain ⟨h1, h2⟩ := hR.out j (by omega)
          refine ⟨?_, ?_⟩
          · rw [World.cell?_setCell_other _ _ _ _ (by simp), World.cell?_setCell_other _ _ _ _ (by simp)]
            exact h1
          · rw [World.cell?_setCell_other _ _ _ _ (by simp), World.cell?_setCell_other _ _ _ _ (by simp)]
            exact h2
      case measure => simp [intOf]; omega
    · have hge : ¬ (k : Int) < (n : Int) := by omega
      have hkn : k = n := by omega
      subst hkn
      go_wp2
      go_ret
      exact ⟨rfl, hb.out, hR.out⟩
theorem mark_prob_none (K : Int) (a : Option Addr) (cap : Nat) (w : World) : Calls Tryd.prog 17 #[.slice a 0 cap, .int .i64 K] w fun e w' => e = .returned (.int .i64 K) ∧ Below w.heap.size w w' := by
  go_enter Tryd.func17, Tryd.ntmps17
  go_wp2
  refine wp_loop_rounds 1 ?_
  rw [rounds_succ]
  go_wp2
  go_ret
  exact ⟨rfl, Below.refl _ _⟩
theorem prVals_length : ∀ P : List (Int × Int), (prVals P).length = P.length * 2
  | [] => rfl
  | a :: P => by
    have e : prVals (a :: P) = .int .i64 a.1 :: .int .i64 a.2 :: prVals P := by simp [prVals]
    rw [e, List.length_cons, List.length_cons, prVals_length P, List.length_cons]
    omega
theorem prVals_at : ∀ (P : List (Int × Int)) (k : Nat) (p : Int × Int), P[k]? = some p → (prVals P)[k * 2]? = some (.int .i64 p.1) ∧ (prVals P)[k * 2 + 1]? = some (.int .i64 p.2)
  | [], k, p, h => by simp at h
  | a :: P, 0, p, h => by
    have e : prVals (a :: P) = .int .i64 a.1 :: .int .i64 a.2 :: prVals P := by simp [prVals]
    simp only [List.getElem?_cons_zero, Option.some.injEq] at h
    subst h
    rw [e]
    exact ⟨rfl, rfl⟩
  | a :: P, k + 1, p, h => by
    have e : prVals (a :: P) = .int .i64 a.1 :: .int .i64 a.2 :: prVals P := by simp [prVals]
    rw [List.getElem?_cons_succ] at h
    obtain ⟨h1, h2⟩ := prVals_at P k p h
    rw [e]
    have e1 : (k + 1) * 2 = k * 2 + 1 + 1 := by omega
    rw [e1]
    exact ⟨h1, h2⟩
/-- An own row of problems is nothing or lies in a block of its own, which may be written. -/
theorem own_pr {w : World} {B : Nat} {P : List (Int × Int)} {ao : Option Addr} {cp : Nat} (h : w.ownsRow B 73 2 (.slice ao P.length cp) P.length (prVals P)) : P = [] ∨ ∃ g, ao = some ⟨g, 0, none⟩ ∧ B ≤ g ∧ g < w.heap.size ∧ w.there g 0 (P.length * 2) ∧ ∀ k p, P[k]? = some p → w.cell? ⟨g, k * 2, none⟩ = some (.int .i64 p.1) ∧ w.cell? ⟨g, k * 2 + 1, none⟩ = some (.int .i64 p.2) := by
  rcases h.2 with ⟨_, h0⟩ | ⟨g, c, cur, hv, hB, hg, _⟩
  · exact .inl (List.eq_nil_of_length_eq_zero h0)
  · cases hv
    refine .inr ⟨g, rfl, hB, (Array.getElem?_eq_some_iff.1 hg).1, fun j hj => ?_, fun k p hk => ?_⟩
    · rw [Nat.zero_add]
      refine ⟨?_, World.ownsRow.frozenAt h j⟩
      rw [World.ownsRow.cellAt h j (by omega), List.getElem?_eq_getElem (by rw [prVals_length]; exact hj)]
      rfl
    · have hl := (List.getElem?_eq_some_iff.1 hk).1
      obtain ⟨h1, h2⟩ := prVals_at P k p hk
      exact ⟨(World.ownsRow.cellAt h (k * 2) (by omega)).trans h1, (World.ownsRow.cellAt h (k * 2 + 1) (by omega)).trans h2⟩
/-- A text has no courses or no problems. -/
theorem ck_one (s : ByteArray) : ckL s = [] ∨ ckP s = [] := by
  by_cases h : chkBad s = true
  · exact .inl (by rw [ckL, if_pos h])
  · refine .inr ?_
    by_cases h4 : 400 < s.size
    · rw [ckP, if_pos h4]
    · rw [ckP, if_neg h4]
      cases hq : chkP s with
      | nil => rfl
      | cons a b => exact absurd (by simp [chkBad, hq]) h
end Go.Proofs.YtgffgcobgjngnaaDoor
