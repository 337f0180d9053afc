/-
  cmp.Compare of numbers and cmp.Or of two.
-/
import Derived.Test.YtlglijalhacmhabBase
import Derived.Deep.DeepMust
namespace Go.Proofs.Ytlglijalhacmhab
open Go.ChangeShapes Go.WideShapes Go.ChangeAt Go.RowKit Go.Joins

def cmpI (a b : Int) : Int := if a < b then -1 else if b < a then 1 else 0
theorem cmpI_lt {a b : Int} (h : a < b) : cmpI a b = -1 := by simp [cmpI, h]
theorem cmpI_gt {a b : Int} (h : b < a) : cmpI a b = 1 := by have : ¬ a < b := by omega
                                                             simp [cmpI, h, this]
theorem cmpI_eq {a b : Int} (h : a = b) : cmpI a b = 0 := by simp [cmpI, h]
set_option maxHeartbeats 800000 in
theorem cmp_impl (a b : Int) (w : World) : Calls Try.prog 144 #[.int .i64 a, .int .i64 b] w fun e w' => e = .returned (.int .i64 (cmpI a b)) ∧ w = w' := by
  by_cases h1 : a < b
  · go_enter Try.func144, Try.ntmps144
    go_wp2
    go_ret
    exact ⟨ret_int (cmpI_lt h1).symm, rfl⟩
  by_cases h2 : b < a
  · go_enter Try.func144, Try.ntmps144
    go_wp2
    go_ret
    exact ⟨ret_int (cmpI_gt h2).symm, rfl⟩
  · go_enter Try.func144, Try.ntmps144
    go_wp2
    go_ret
    exact ⟨ret_int (cmpI_eq (by omega)).symm, rfl⟩
set_option maxHeartbeats 800000 in
theorem or_impl (u v r : Int) (hr : (if u = 0 then v else u) = r) (g : Nat) (w : World) (c0 : w.cell? ⟨g, 0, none⟩ = some (.int .i64 u)) (c1 : w.cell? ⟨g, 1, none⟩ = some (.int .i64 v)) :
    Calls Try.prog 156 #[.slice (some ⟨g, 0, none⟩) 2 2] w fun e w' => e = .returned (.int .i64 r) ∧ w = w' := by
  have HC := Lib.hid (And.intro c0 c1)
  have HR := Lib.hid hr
  clear c0 c1 hr
  go_enter Try.func156, Try.ntmps156
  go_wp2
  go_loop [8] (fun i => ∃ k : Nat, i = .int .i64 k ∧ k ≤ 2 ∧ Hid (1 ≤ k → u = 0) ∧ Hid (2 ≤ k → v = 0)) (fun i => 2 - (intOf i).toNat)
  case atStart => exact ⟨0, rfl, by omega, (by intro h; omega), (by intro h; omega)⟩
  case round =>
    obtain ⟨k, rfl, hk, hE, hE2⟩ := hrel
    obtain ⟨c0, c1⟩ := HC.out
    have hk3 : k = 0 ∨ k = 1 ∨ k = 2 := by omega
    rcases hk3 with rfl | rfl | rfl
    · by_cases h0 : u = 0
      · have H0 := Lib.hid h0
        rw [h0] at c0
        clear h0
        go_wp2
        go_round
        case rel => exact ⟨1, rfl, by omega, fun _ => H0.out, (by intro h; omega)⟩
        case measure => simp [intOf]
      · have HU : Hid (u = r) := by show u = r; rw [← HR.out, if_neg h0]
        go_wp2
        go_ret
        exact ⟨ret_int HU.out, rfl⟩
    · have H0 := Lib.hid (hE.out (by omega))
      by_cases h1 : v = 0
      · have H1 := Lib.hid h1
        rw [h1] at c1
        clear h1
        go_wp2
        go_round
        case rel => exact ⟨2, rfl, by omega, fun _ => H0.out, fun _ => H1.out⟩
        case measure => simp [intOf]
      · have HV : Hid (v = r) := by show v = r; rw [← HR.out, if_pos H0.out]
        go_wp2
        go_ret
        exact ⟨ret_int HV.out, rfl⟩
    · have HV : Hid ((0 : Int) = r) := by show (0 : Int) = r; rw [← HR.out, if_pos (hE.out (by omega)), hE2.out (by omega)]
      go_wp2
      go_ret
      exact ⟨ret_int HV.out, rfl⟩
end Go.Proofs.Ytlglijalhacmhab
