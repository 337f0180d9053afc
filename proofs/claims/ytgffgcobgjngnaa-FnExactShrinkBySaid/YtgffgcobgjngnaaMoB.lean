/-
  ShrinkBy: the model's and the program's answers.
-/
import Derived.Test.YtgffgcobgjngnaaMoI
namespace Go.Proofs.Ytgffgcobgjngnaa
open Go.ChangeShapes Go.WideShapes Go.ChangeAt Go.RowKit Go.Joins

noncomputable def sbR (m b : Int) : Int × Int := open Classical in if h : ∃ p : Int × Int, SbIs m b p.1 p.2 then Classical.choose h else (0, 0)
theorem SbIs.is {m b n c : Int} (h : SbIs m b n c) : n = (sbR m b).1 ∧ c = (sbR m b).2 := by
  have hx : ∃ p : Int × Int, SbIs m b p.1 p.2 := ⟨(n, c), h⟩
  have e : sbR m b = Classical.choose hx := by unfold sbR; rw [dif_pos hx]
  rw [e]
  exact h.one (Classical.choose_spec hx)
theorem sb_tup {m b n c : Int} (h : SbIs m b n c) : Ending.returned (.tuple #[.int .i64 n, .int .i64 c]) = .returned (.tuple #[.int .i64 (sbR m b).1, .int .i64 (sbR m b).2]) := by rw [← h.is.1, ← h.is.2]

set_option maxRecDepth 100000 in
set_option maxHeartbeats 1600000 in
theorem sb_spec (x b : Int) (w : World) : Calls Try.prog 32 #[.int .i64 x, .int .i64 b] w fun e w' => e = .returned (.tuple #[.int .i64 (sbR x b).1, .int .i64 (sbR x b).2]) ∧ Below w.heap.size w w' := by
  by_cases h : inB x 30 800 = true ∧ inB b 30 800 = true
  case neg =>
    have HS := Lib.hid (sb_tup (m := x) (b := b) (n := 0) (c := 2) (.inl ⟨h, rfl, rfl⟩))
    have I1 := Lib.hid (in_any x 30 800)
    have I2 := Lib.hid (in_any b 30 800)
    cases h1 : inB x 30 800 <;> cases h2 : inB b 30 800
    case true.true => exact absurd ⟨h1, h2⟩ h
    case false.false =>
      rw [h1] at I1
      clear h h1 h2 I2
      go_enter Try.func32, Try.ntmps32
      go_wp2_with fail
      refine (I1.out _).mono ?_
      rintro e w' ⟨rfl, rfl⟩
      go_wp2
      go_ret2
      exact ⟨HS.out, Below.refl _ _⟩
    case false.true =>
      rw [h1] at I1
      clear h h1 h2 I2
      go_enter Try.func32, Try.ntmps32
      go_wp2_with fail
      refine (I1.out _).mono ?_
      rintro e w' ⟨rfl, rfl⟩
      go_wp2
      go_ret2
      exact ⟨HS.out, Below.refl _ _⟩
    case true.false =>
      rw [h1] at I1
      rw [h2] at I2
      clear h h1 h2
      go_enter Try.func32, Try.ntmps32
      go_wp2_with fail
      refine (I1.out _).mono ?_
      rintro e w' ⟨rfl, rfl⟩
      go_wp2_with fail
      refine (I2.out _).mono ?_
      rintro e w' ⟨rfl, rfl⟩
      go_wp2
      go_ret2
      exact ⟨HS.out, Below.refl _ _⟩
  have HI := Lib.hid h
  have I1 := Lib.hid (in_any x 30 800)
  have I2 := Lib.hid (in_any b 30 800)
  rw [h.1] at I1
  rw [h.2] at I2
  obtain ⟨x0, x1⟩ := inB_true.1 h.1
  clear h
  go_enter Try.func32, Try.ntmps32
  go_wp2_with fail
  refine (I1.out _).mono ?_
  rintro e w' ⟨rfl, rfl⟩
  go_wp2_with fail
  refine (I2.out _).mono ?_
  rintro e w' ⟨rfl, rfl⟩
  go_wp2
  go_loop [6] (fun i => ∃ k : Nat, k ≤ 201 ∧ i = .int .i64 k ∧ Hid (∀ j : Int, 0 ≤ j → j < k → firedF x j ≠ b)) (fun i => 201 - (intOf i).toNat)
  case atStart => exact ⟨0, by omega, rfl, fun j h1 h2 => by omega⟩
  case round =>
    obtain ⟨k, hk, rfl, hF⟩ := hrel
    by_cases hlt : k ≤ 200
    · have hlt' : (k : Int) ≤ 200 := by omega
      have F := Lib.hid (fired_spec x k (by omega) (by omega) (by omega) hlt')
      by_cases he : firedF x k = b
      · have HS := Lib.hid (sb_tup (m := x) (b := b) (n := k) (c := 0) (.inr ⟨HI.out, .inl ⟨rfl, by omega, hlt', he, hF.out⟩⟩))
        rw [he] at F
        clear he
        go_wp2_with fail
        refine (F.out _).mono ?_
        rintro e w' ⟨rfl, rfl⟩
        go_wp2
        go_ret2
        exact ⟨HS.out, Below.refl _ _⟩
      · have HE := Lib.hid he
        obtain ⟨q, hq⟩ : ∃ q, firedF x k = q := ⟨_, rfl⟩
        rw [hq] at F he
        clear hq
        go_wp2_with fail
        refine (F.out _).mono ?_
        rintro e w' ⟨rfl, rfl⟩
        go_wp2
        go_round
        case rel =>
          refine ⟨k + 1, by omega, by go_num, fun j h1 h2 => ?_⟩
          by_cases e : j = k
          · subst e; exact HE.out
          · exact hF.out j h1 (by omega)
        case measure => simp [intOf]; omega
    · have hge : ¬ (k : Int) ≤ 200 := by omega
      have HS := Lib.hid (sb_tup (m := x) (b := b) (n := 0) (c := 3) (.inr ⟨HI.out, .inr ⟨rfl, rfl, fun j h1 h2 => hF.out j h1 (by omega)⟩⟩))
      go_wp2
      go_ret2
      exact ⟨HS.out, Below.refl _ _⟩

set_option maxRecDepth 100000 in
set_option maxHeartbeats 1600000 in
theorem sb_impl (x b : Int) (w : World) : Calls Try.prog 33 #[.int .i64 x, .int .i64 b] w fun e w' => e = .returned (.tuple #[.int .i64 (sbR x b).1, .int .i64 (sbR x b).2]) ∧ Below w.heap.size w w' := by
  by_cases h : inB x 30 800 = true ∧ inB b 30 800 = true
  case neg =>
    have HS := Lib.hid (sb_tup (m := x) (b := b) (n := 0) (c := 2) (.inl ⟨h, rfl, rfl⟩))
    have I1 := Lib.hid (within_impl x 30 800)
    have I2 := Lib.hid (within_impl b 30 800)
    cases h1 : inB x 30 800 <;> cases h2 : inB b 30 800
    case true.true => exact absurd ⟨h1, h2⟩ h
    case false.false =>
      rw [h1] at I1
      clear h h1 h2 I2
      go_enter Try.func33, Try.ntmps33
      go_wp2_with fail
      refine (I1.out _).mono ?_
      rintro e w' ⟨rfl, rfl⟩
      go_wp2
      go_ret2
      exact ⟨HS.out, Below.refl _ _⟩
    case false.true =>
      rw [h1] at I1
      clear h h1 h2 I2
      go_enter Try.func33, Try.ntmps33
      go_wp2_with fail
      refine (I1.out _).mono ?_
      rintro e w' ⟨rfl, rfl⟩
      go_wp2
      go_ret2
      exact ⟨HS.out, Below.refl _ _⟩
    case true.false =>
      rw [h1] at I1
      rw [h2] at I2
      clear h h1 h2
      go_enter Try.func33, Try.ntmps33
      go_wp2_with fail
      refine (I1.out _).mono ?_
      rintro e w' ⟨rfl, rfl⟩
      go_wp2_with fail
      refine (I2.out _).mono ?_
      rintro e w' ⟨rfl, rfl⟩
      go_wp2
      go_ret2
      exact ⟨HS.out, Below.refl _ _⟩
  have HI := Lib.hid h
  have I1 := Lib.hid (within_impl x 30 800)
  have I2 := Lib.hid (within_impl b 30 800)
  rw [h.1] at I1
  rw [h.2] at I2
  obtain ⟨x0, x1⟩ := inB_true.1 h.1
  clear h
  go_enter Try.func33, Try.ntmps33
  go_wp2_with fail
  refine (I1.out _).mono ?_
  rintro e w' ⟨rfl, rfl⟩
  go_wp2_with fail
  refine (I2.out _).mono ?_
  rintro e w' ⟨rfl, rfl⟩
  go_wp2
  go_loop [6] (fun i => ∃ k : Nat, k ≤ 201 ∧ i = .int .i64 k ∧ Hid (∀ j : Int, 0 ≤ j → j < k → firedF x j ≠ b)) (fun i => 201 - (intOf i).toNat)
  case atStart => exact ⟨0, by omega, rfl, fun j h1 h2 => by omega⟩
  case round =>
    obtain ⟨k, hk, rfl, hF⟩ := hrel
    by_cases hlt : k ≤ 200
    · have hlt' : (k : Int) ≤ 200 := by omega
      have F := Lib.hid (fired_impl x k (by omega) (by omega) (by omega) hlt')
      by_cases he : firedF x k = b
      · have HS := Lib.hid (sb_tup (m := x) (b := b) (n := k) (c := 0) (.inr ⟨HI.out, .inl ⟨rfl, by omega, hlt', he, hF.out⟩⟩))
        rw [he] at F
        clear he
        go_wp2_with fail
        refine (F.out _).mono ?_
        rintro e w' ⟨rfl, rfl⟩
        go_wp2
        go_ret2
        exact ⟨HS.out, Below.refl _ _⟩
      · have HE := Lib.hid he
        obtain ⟨q, hq⟩ : ∃ q, firedF x k = q := ⟨_, rfl⟩
        rw [hq] at F he
        clear hq
        go_wp2_with fail
        refine (F.out _).mono ?_
        rintro e w' ⟨rfl, rfl⟩
        go_wp2
        go_round
        case rel =>
          refine ⟨k + 1, by omega, by go_num, fun j h1 h2 => ?_⟩
          by_cases e : j = k
          · subst e; exact HE.out
          · exact hF.out j h1 (by omega)
        case measure => simp [intOf]; omega
    · have hge : ¬ (k : Int) ≤ 200 := by omega
      have HS := Lib.hid (sb_tup (m := x) (b := b) (n := 0) (c := 3) (.inr ⟨HI.out, .inr ⟨rfl, rfl, fun j h1 h2 => hF.out j h1 (by omega)⟩⟩))
      go_wp2
      go_ret2
      exact ⟨HS.out, Below.refl _ _⟩
end Go.Proofs.Ytgffgcobgjngnaa
