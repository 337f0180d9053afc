/-
  The mark nearest to a level, as plain numbers.
-/
import Derived.Test.YtlglijalhacmhabGq
namespace Go.Proofs.Ytlglijalhacmhab
open Go.ChangeShapes Go.WideShapes Go.ChangeAt Go.RowKit Go.Joins

/-- An absolute value. -/
def siz (n : Int) : Int := if n < 0 then -n else n
theorem siz_neg {n : Int} (h : n < 0) : siz n = -n := if_pos h
theorem siz_pos {n : Int} (h : ¬ n < 0) : siz n = n := if_neg h
theorem mk_end {H c : Int} (h : gB H c = true) : mkQ H c c = H := by
  obtain ⟨⟨H0, H1⟩, c0, c1⟩ := gB_true.1 h
  unfold mkQ
  have e : 2 * (c * H) + c = c + 2 * c * H := by rw [Int.mul_assoc]; omega
  rw [e, Int.add_mul_ediv_left _ _ (by omega), Int.ediv_eq_zero_of_lt (by omega) (by omega)]
  omega
theorem mk_succ {H c k : Int} (h : gB H c = true) : mkQ H c k + 1 ≤ mkQ H c (k + 1) := by
  obtain ⟨⟨H0, H1⟩, c0, c1⟩ := gB_true.1 h
  unfold mkQ
  have e : (2 * (k * H) + c + 2 * c * 1) / (2 * c) = (2 * (k * H) + c) / (2 * c) + 1 := Int.add_mul_ediv_left _ _ (by omega)
  have e2 : (k + 1) * H = k * H + H := by rw [Int.add_mul, Int.one_mul]
  rw [← e, e2]
  exact Int.ediv_le_ediv (by omega) (by omega)
theorem mk_mono {H c : Int} (h : gB H c = true) (i d : Nat) : mkQ H c (i : Int) + (d : Int) ≤ mkQ H c ((i + d : Nat) : Int) := by
  induction d with
  | zero => simp
  | succ d ih =>
    have := mk_succ (k := ((i + d : Nat) : Int)) h
    have e : ((i + (d + 1) : Nat) : Int) = ((i + d : Nat) : Int) + 1 := by omega
    rw [e]
    omega
theorem mk_lt {H c : Int} (h : gB H c = true) {i j : Nat} (hij : i ≤ j) : mkQ H c (i : Int) + ((j : Int) - (i : Int)) ≤ mkQ H c (j : Int) := by
  have := mk_mono h i (j - i)
  rw [show i + (j - i) = j by omega] at this
  omega
/-- The least one of those nearest up to n. -/
def IsNear (H c lv : Int) (n k : Nat) : Prop := k ≤ n ∧ ∀ i : Nat, i ≤ n → siz (mkQ H c k - lv) ≤ siz (mkQ H c i - lv) ∧ (i < k → siz (mkQ H c k - lv) < siz (mkQ H c i - lv))
theorem IsNear.one {H c lv : Int} {n k k' : Nat} (h : IsNear H c lv n k) (h' : IsNear H c lv n k') : k = k' := by
  rcases Nat.lt_trichotomy k k' with g | g | g
  · have a := (h'.2 k h.1).2 g
    have b := (h.2 k' h'.1).1
    omega
  · exact g
  · have a := (h.2 k' h'.1).2 g
    have b := (h'.2 k h.1).1
    omega
def nearN (H c lv : Int) : Nat → Nat
  | 0 => 0
  | n + 1 => if siz (mkQ H c ((n + 1 : Nat) : Int) - lv) < siz (mkQ H c (nearN H c lv n : Nat) - lv) then n + 1 else nearN H c lv n
theorem nearN_is (H c lv : Int) (n : Nat) : IsNear H c lv n (nearN H c lv n) := by
  induction n with
  | zero => exact ⟨Nat.le_refl _, fun i hi => by have : i = 0 := by omega
                                                 subst this; exact ⟨Int.le_refl _, fun h => absurd h (by simp [nearN])⟩⟩
  | succ n ih =>
    unfold nearN
    split
    · rename_i h
      refine ⟨Nat.le_refl _, fun i hi => ?_⟩
      by_cases e : i = n + 1
      · subst e; exact ⟨Int.le_refl _, fun h => by omega⟩
      · have := (ih.2 i (by omega)).1
        exact ⟨by omega, fun _ => by omega⟩
    · rename_i h
      refine ⟨by have := ih.1; omega, fun i hi => ?_⟩
      by_cases e : i = n + 1
      · subst e; exact ⟨by omega, fun g => by have := ih.1; omega⟩
      · exact ih.2 i (by omega)
theorem nearN_le (H c lv : Int) (n : Nat) : nearN H c lv n ≤ n := (nearN_is H c lv n).1
/-- What the search tells: the first mark that is not below the level. -/
theorem near_of {H : Int} {n s : Nat} {lv : Int} (h : gB H n = true) (hl : lv ≤ H) (hs : s ≤ n) (h1 : ∀ t : Nat, t < s → mkQ H n t < lv) (h2 : s < n → lv ≤ mkQ H n s) :
    ((0 < s ∧ lv - mkQ H n ((s : Int) - 1) ≤ mkQ H n s - lv) → nearN H n lv n = s - 1) ∧ (¬ (0 < s ∧ lv - mkQ H n ((s : Int) - 1) ≤ mkQ H n s - lv) → nearN H n lv n = s) := by
  have h3 : lv ≤ mkQ H n s := by
    by_cases e : s = n
    · subst e; rw [mk_end h]; exact hl
    · exact h2 (by omega)
  constructor
  · rintro ⟨hs0, hd⟩
    rw [show (s : Int) - 1 = ((s - 1 : Nat) : Int) by omega] at hd
    have hp := h1 (s - 1) (by omega)
    refine (nearN_is H n lv n).one ⟨by omega, fun i hi => ?_⟩
    rw [siz_neg (show mkQ H n ((s - 1 : Nat) : Int) - lv < 0 by omega)]
    by_cases hi' : s ≤ i
    · have m := mk_lt h hi'
      rw [siz_pos (show ¬ mkQ H n (i : Int) - lv < 0 by omega)]
      exact ⟨by omega, fun g => by omega⟩
    · have m := mk_lt h (show i ≤ s - 1 by omega)
      rw [siz_neg (show mkQ H n (i : Int) - lv < 0 by omega)]
      exact ⟨by omega, fun g => by omega⟩
  · intro hn
    refine (nearN_is H n lv n).one ⟨hs, fun i hi => ?_⟩
    rw [siz_pos (show ¬ mkQ H n (s : Int) - lv < 0 by omega)]
    by_cases hi' : s ≤ i
    · have m := mk_lt h hi'
      rw [siz_pos (show ¬ mkQ H n (i : Int) - lv < 0 by omega)]
      exact ⟨by omega, fun g => by omega⟩
    · have hd : mkQ H n s - lv < lv - mkQ H n ((s - 1 : Nat) : Int) := by
        have e : (s : Int) - 1 = ((s - 1 : Nat) : Int) := by omega
        rw [e] at hn
        by_cases g : lv - mkQ H n ((s - 1 : Nat) : Int) ≤ mkQ H n s - lv
        · exact absurd ⟨by omega, g⟩ hn
        · omega
      have m := mk_lt h (show i ≤ s - 1 by omega)
      have hp := h1 i (by omega)
      rw [siz_neg (show mkQ H n (i : Int) - lv < 0 by omega)]
      exact ⟨by omega, fun g => by omega⟩
def offQ (H c lv : Int) : Int := siz (mkQ H c (nearN H c lv c.toNat : Nat) - lv)
end Go.Proofs.Ytlglijalhacmhab
