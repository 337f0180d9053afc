/-
  MouldFor: the least sizes, by the model and by the program.
-/
import Derived.Test.YtgffgcobgjngnaaMoI
import Derived.Test.YtgffgcobgjngnaaCodeF
namespace Go.Proofs.Ytgffgcobgjngnaa
open Go.ChangeShapes Go.WideShapes Go.ChangeAt Go.RowKit Go.Joins

noncomputable def leastF (n s : Int) : Int := open Classical in if h : ∃ r, IsLeast r n s then Classical.choose h else 0
theorem IsLeast.is {r n s : Int} (h : IsLeast r n s) : r = leastF n s := by
  have hx : ∃ r, IsLeast r n s := ⟨r, h⟩
  have e : leastF n s = Classical.choose hx := by unfold leastF; rw [dif_pos hx]
  rw [e]
  exact h.one (Classical.choose_spec hx)
theorem mx_spec (a b : Int) (w : World) : Calls Try.prog 61 #[.int .i64 a, .int .i64 b] w fun e w' => e = .returned (.int .i64 (max a b)) ∧ w = w' := by
  by_cases h : b < a
  all_goals
    go_enter Try.func61, Try.ntmps61
    go_wp2
    go_ret
    exact ⟨ret_int (by omega), rfl⟩
set_option maxRecDepth 100000 in
set_option maxHeartbeats 1600000 in
theorem least_spec (n s : Int) (h0 : 30 ≤ n) (h1 : n ≤ 500) (s0 : 0 ≤ s) (s1 : s ≤ 200) (w : World) : Calls Try.prog 46 #[.int .i64 n, .int .i64 s] w fun e w' => e = .returned (.int .i64 (leastF n s)) ∧ w = w' := by
  go_enter Try.func46, Try.ntmps46
  go_wp2
  go_loop [5] (fun i => ∃ x : Int, n ≤ x ∧ x ≤ 700 ∧ i = .int .i64 x ∧ Hid (∀ y : Int, n ≤ y → y < x → firedF y s < n)) (fun i => (700 - intOf i).toNat)
  case atStart => exact ⟨n, Int.le_refl _, by omega, rfl, fun y h1 h2 => by omega⟩
  case round =>
    obtain ⟨x, hx, hx2, rfl, hF⟩ := hrel
    have F := Lib.hid (fired_spec x s (by omega) (by omega) s0 s1)
    by_cases hlt : firedF x s < n
    · have hbig : x < 700 := by
        rcases Int.lt_or_le x 700 with h | h
        · exact h
        · have := fired_big h s1
          omega
      have HL := Lib.hid hlt
      obtain ⟨q, hq⟩ : ∃ q, firedF x s = q := ⟨_, rfl⟩
      rw [hq] at F hlt
      clear hq
      go_wp2_with fail
      refine (F.out _).mono ?_
      rintro e w' ⟨rfl, rfl⟩
      go_wp2
      go_round
      case rel =>
        refine ⟨x + 1, by omega, by omega, by go_num, fun y h1 h2 => ?_⟩
        by_cases e : y = x
        · subst e; exact HL.out
        · exact hF.out y h1 (by omega)
      case measure => simp [intOf]; omega
    · have HR : Hid (max 30 x = leastF n s) := (IsLeast.from (by omega) (by omega) hx s0 s1 (by omega) hF.out).is
      obtain ⟨q, hq⟩ : ∃ q, firedF x s = q := ⟨_, rfl⟩
      rw [hq] at F hlt
      clear hq
      go_wp2_with fail
      refine (F.out _).mono ?_
      rintro e w' ⟨rfl, rfl⟩
      go_wp2_with fail
      refine (mx_spec 30 x _).mono ?_
      rintro e w' ⟨rfl, rfl⟩
      go_wp2
      go_ret
      exact ⟨ret_int HR.out, rfl⟩
set_option maxRecDepth 100000 in
set_option maxHeartbeats 1600000 in
theorem least_impl (n s : Int) (h0 : 30 ≤ n) (h1 : n ≤ 500) (s0 : 0 ≤ s) (s1 : s ≤ 200) (w : World) : Calls Try.prog 48 #[.int .i64 n, .int .i64 s] w fun e w' => e = .returned (.int .i64 (leastF n s)) ∧ w = w' := by
  go_enter Try.func48, Try.ntmps48
  go_wp2
  go_loop [5] (fun i => ∃ x : Int, 30 ≤ x ∧ x ≤ 700 ∧ i = .int .i64 x ∧ Hid (∀ y : Int, 30 ≤ y → y < x → firedF y s < n)) (fun i => (700 - intOf i).toNat)
  case atStart => exact ⟨30, Int.le_refl _, by omega, rfl, fun y h1 h2 => by omega⟩
  case round =>
    obtain ⟨x, hx, hx2, rfl, hF⟩ := hrel
    have F := Lib.hid (fired_impl x s (by omega) (by omega) s0 s1)
    by_cases hlt : firedF x s < n
    · have hbig : x < 700 := by
        rcases Int.lt_or_le x 700 with h | h
        · exact h
        · have := fired_big h s1
          omega
      have HL := Lib.hid hlt
      obtain ⟨q, hq⟩ : ∃ q, firedF x s = q := ⟨_, rfl⟩
      rw [hq] at F hlt
      clear hq
      go_wp2_with fail
      refine (F.out _).mono ?_
      rintro e w' ⟨rfl, rfl⟩
      go_wp2
      go_round
      case rel =>
        refine ⟨x + 1, by omega, by omega, by go_num, fun y h1 h2 => ?_⟩
        by_cases e : y = x
        · subst e; exact HL.out
        · exact hF.out y h1 (by omega)
      case measure => simp [intOf]; omega
    · have HR : Hid (x = leastF n s) := IsLeast.is ⟨hx, by omega, hF.out⟩
      obtain ⟨q, hq⟩ : ∃ q, firedF x s = q := ⟨_, rfl⟩
      rw [hq] at F hlt
      clear hq
      go_wp2_with fail
      refine (F.out _).mono ?_
      rintro e w' ⟨rfl, rfl⟩
      go_wp2
      go_ret
      exact ⟨ret_int HR.out, rfl⟩
end Go.Proofs.Ytgffgcobgjngnaa
