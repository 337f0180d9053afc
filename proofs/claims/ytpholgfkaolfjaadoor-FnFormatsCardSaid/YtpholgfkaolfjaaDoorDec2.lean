/-
  The walk of the model's decimal form.
-/
import Derived.Test.YtpholgfkaolfjaaDoorDec
import Derived.OwnWalk
import Derived.Deep.DeepMust
namespace Go.Proofs.YtpholgfkaolfjaaDoor
open Go.ChangeShapes Go.WideShapes Go.ChangeAt Go.RowKit Go.Joins


theorem infoU8 : (Tryd.prog.info? 5).map (fun i => (i.zero, i.size, i.bytes)) = some (some (.int .u8 0), 1, 1) := by kernel_rfl
theorem dec_zero : Lib.decDigits 0 = [48] := by rw [Lib.decDigits]; rfl
theorem dec_start (w : World) (M : Nat) : DecAt w M M [] w.heap.size 0 (w.alloc (.cells #[] 5)) := by
  refine ⟨⟨rfl, .inr ⟨w.heap.size, 0, #[], rfl, Nat.le_refl _, heap_alloc_new w _, Nat.le_refl _, Nat.zero_le _, rfl, rfl⟩⟩, by simp, by simp, balloc0 _ _, by simp⟩
theorem decNZ_pow : ∀ (n M : Nat), M < 10 ^ n → (decNZ M).length ≤ n
  | 0, M, h => by simp at h; subst h; simp [decNZ]
  | n + 1, M, h => by
    by_cases h0 : M = 0
    · subst h0; simp [decNZ]
    · rw [decNZ_step M h0]
      have := decNZ_pow n (M / 10) (by rw [Nat.pow_succ] at h; omega)
      simp; omega
theorem decNZ_len (M : Nat) (h : M ≤ 9223372036854775808) : (decNZ M).length ≤ 20 := by
  have h20 : (10 : Nat) ^ 20 = 100000000000000000000 := by decide
  exact decNZ_pow 20 M (by omega)
theorem lit_row (base : Nat) (wr : World) (c : Value) (hb : base ≤ wr.heap.size) : (wr.alloc (.cells #[c] 5)).ownsRow base 5 1 (.slice (some ⟨wr.heap.size, 0, none⟩) 1 1) 1 [c] :=
  ⟨rfl, .inr ⟨wr.heap.size, 1, #[c], rfl, hb, heap_alloc_new wr _, Nat.le_refl _, by decide, rfl, rfl⟩⟩

theorem neg_tmod (m : Nat) : (-(m : Int)).tmod 10 = -((m : Int) % 10) := by rw [Int.neg_tmod, Int.tmod_eq_emod_of_nonneg (by omega)]
theorem neg_tdiv (m : Nat) : (-(m : Int)).tdiv 10 = -((m : Int) / 10) := by rw [Int.neg_tdiv, Int.tdiv_eq_ediv_of_nonneg (by omega)]
end Go.Proofs.YtpholgfkaolfjaaDoor
