/-
  Reading decimal forms, plainly: what the library's parse of at most 18 digits gives; what the program and the model answer.
-/
import Derived.Test.YtikjielgnlgnjaaDoorDecI
import Derived.Lib.ItoaNum
import Derived.Lib.ItoaMem
import Derived.Lib.ParseIntBCases
import Derived.Lib.Strings
namespace Go.Proofs.YtikjielgnlgnjaaDoor
open Go.ChangeShapes Go.WideShapes Go.ChangeAt Go.RowKit Go.Joins

/-- The value of digits behind others; none where one is no digit. -/
def valF (acc : Nat) : List UInt8 → Option Nat
  | [] => some acc
  | c :: r => if 48 ≤ c.toNat ∧ c.toNat ≤ 57 then valF (acc * 10 + (c.toNat - 48)) r else none
theorem valF_bound : ∀ (l : List UInt8) (acc u : Nat), valF acc l = some u → u + 1 ≤ (acc + 1) * 10 ^ l.length
  | [], acc, u, h => by simp [valF] at h; subst h; simp
  | c :: r, acc, u, h => by
    simp only [valF] at h
    split at h
    · rename_i hd
      have h1 := valF_bound r _ u h
      have h2 : (acc * 10 + (c.toNat - 48) + 1) * 10 ^ r.length ≤ (acc + 1) * 10 * 10 ^ r.length := Nat.mul_le_mul_right _ (by omega)
      have h3 : (acc + 1) * 10 * 10 ^ r.length = (acc + 1) * 10 ^ (c :: r).length := by rw [List.length_cons, Nat.pow_succ, Nat.mul_assoc, Nat.mul_comm 10]
      omega
    · cases h
theorem parseM (M : Nat) (hM : 1000000000000000000 ≤ M) : ∀ (l : List UInt8) (acc : Nat), (acc + 1) * 10 ^ l.length ≤ 1000000000000000000 → Lib.parseUintM M acc l = match valF acc l with | some u => .ok u | none => Lib.NumEnd.syntax
  | [], acc, _ => by simp [Lib.parseUintM, valF]
  | c :: r, acc, h => by
    have h3 : (acc + 1) * 10 * 10 ^ r.length = (acc + 1) * 10 ^ (c :: r).length := by rw [List.length_cons, Nat.pow_succ, Nat.mul_assoc, Nat.mul_comm 10]
    have hp : 1 ≤ 10 ^ r.length := Nat.pow_pos (by omega)
    have h4 : (acc + 1) * 10 * 1 ≤ (acc + 1) * 10 * 10 ^ r.length := Nat.mul_le_mul_left _ hp
    simp only [Lib.parseUintM, valF]
    by_cases hd : 48 ≤ c.toNat ∧ c.toNat ≤ 57
    · rw [if_pos hd, if_pos hd, if_neg (by omega), if_neg (by omega)]
      have h2 : (acc * 10 + (c.toNat - 48) + 1) * 10 ^ r.length ≤ (acc + 1) * 10 * 10 ^ r.length := Nat.mul_le_mul_right _ (by omega)
      exact parseM M hM r _ (by omega)
    · rw [if_neg hd, if_neg hd]
theorem pow18 (l : List UInt8) (h : l.length ≤ 18) : (0 + 1) * 10 ^ l.length ≤ 1000000000000000000 := by
  have h1 : 10 ^ l.length ≤ 10 ^ 18 := Nat.pow_le_pow_right (by omega) h
  have h2 : (10 : Nat) ^ 18 = 1000000000000000000 := by decide
  omega
theorem parseB (l : List UInt8) (h1 : l ≠ []) (h : l.length ≤ 18) : Lib.parseUintB 64 l = match valF 0 l with | some u => .ok u | none => Lib.NumEnd.syntax := by
  rw [Lib.parseUintB, if_neg h1]
  exact parseM _ (by decide) l 0 (pow18 l h)

/-- The digits behind a minus sign. -/
def tr : List UInt8 → List UInt8
  | [] => []
  | c :: r => if c = 45 then r else c :: r
/-- With the sign. -/
def sg (l : List UInt8) (u : Nat) : Int := if l.head? = some 45 then -(u : Int) else u
/-- The number whose decimal form of at most 18 digits is l. -/
def numR (l : List UInt8) : Option Int :=
  if 1 ≤ (tr l).length ∧ (tr l).length ≤ 18 then (match valF 0 (tr l) with | some u => if Lib.itoa (sg l u) = l then some (sg l u) else none | none => none) else none

theorem tr_trim (l : List UInt8) : Lib.trimPrefix l [45] = tr l := by
  cases l with
  | nil => rfl
  | cons c r =>
    by_cases h : c = 45
    · subst h; simp [Lib.trimPrefix, Lib.hasPrefix, tr]
    · have h' : ¬ (45 : UInt8) = c := fun e => h e.symm
      simp [Lib.trimPrefix, Lib.hasPrefix, tr, h, h']

theorem decDigits_digit : ∀ (n u : Nat), u < 10 ^ n → ∀ c ∈ Lib.decDigits u, 48 ≤ c.toNat ∧ c.toNat ≤ 57
  | 0, u, h, c, hc => by
    have hu : u = 0 := by simpa using h
    subst hu
    rw [Lib.decDigits] at hc
    simp at hc
    subst hc
    decide
  | n + 1, u, h, c, hc => by
    rw [Lib.decDigits] at hc
    have e : ∀ m, m < 10 → (UInt8.ofNat (48 + m)).toNat = 48 + m := fun m hm => by rw [UInt8.toNat_ofNat']; omega
    by_cases h10 : u < 10
    · rw [dif_pos h10] at hc
      simp only [List.mem_singleton] at hc
      subst hc
      rw [e u h10]; omega
    · rw [dif_neg h10] at hc
      rcases List.mem_append.1 hc with h1 | h1
      · exact decDigits_digit n (u / 10) (by rw [Nat.pow_succ] at h; omega) c h1
      · simp only [List.mem_singleton] at h1
        subst h1
        rw [e _ (Nat.mod_lt _ (by omega))]; omega
theorem decDigits_noplus (u : Nat) (hu : u < 10 ^ 18) (r : List UInt8) : Lib.decDigits u ≠ 43 :: r := by
  intro h
  have := decDigits_digit 18 u hu 43 (by rw [h]; exact List.mem_cons_self ..)
  have e : (43 : UInt8).toNat = 43 := rfl
  omega

/-- What the program does behind its look at the length. -/
def implR (l : List UInt8) : Option Int := match Lib.parseIntB 64 l with | .ok v => if Lib.itoa v = l then some v else none | _ => none
theorem val_small (l : List UInt8) (u : Nat) (h : l.length ≤ 18) (hv : valF 0 l = some u) : u < 10 ^ 18 := by
  have h1 := valF_bound l 0 u hv
  have h2 := pow18 l h
  have h3 : (10 : Nat) ^ 18 = 1000000000000000000 := by decide
  omega
theorem implR_eq (l : List UInt8) (h : (tr l).length ≤ 18) : implR l = numR l ∧ Lib.parseIntB 64 l ≠ .range := by
  have p63 : (2 : Nat) ^ (64 - 1) = 9223372036854775808 := by decide
  have p18 : (10 : Nat) ^ 18 = 1000000000000000000 := by decide
  cases l with
  | nil => exact ⟨rfl, by simp [Lib.parseIntB]⟩
  | cons c r =>
    by_cases h45 : c = 45
    · subst h45
      have ht : tr (45 :: r) = r := by simp [tr]
      rw [ht] at h
      have hs : ∀ u, sg (45 :: r) u = -(u : Int) := fun u => by simp [sg]
      by_cases hr : r = []
      · subst hr
        exact ⟨by decide, by decide⟩
      · have hl : 1 ≤ r.length := by cases r with | nil => exact absurd rfl hr | cons _ _ => simp
        rw [implR, numR, ht, if_pos ⟨hl, h⟩, Lib.parseIntB_minus, parseB r hr h]
        cases hv : valF 0 r with
        | none => exact ⟨rfl, by simp [Lib.signedC]⟩
        | some u =>
          have hu := val_small r u h hv
          have hc : ¬ 2 ^ (64 - 1) < u := by omega
          simp only [Lib.signedC, if_neg hc, hs]
          exact ⟨trivial, by simp⟩
    · have ht : tr (c :: r) = c :: r := by simp [tr, h45]
      rw [ht] at h
      have hs : ∀ u, sg (c :: r) u = (u : Int) := fun u => by simp [sg, h45]
      have hn45 : c.toNat ≠ 45 := fun e => h45 (UInt8.toNat_inj.1 (by rw [e]; rfl))
      by_cases h43 : c = 43
      · subst h43
        have hnum : numR (43 :: r) = none := by
          rw [numR, ht, if_pos ⟨by simp, h⟩]
          simp [valF]
        rw [hnum, implR, Lib.parseIntB_plus]
        by_cases hr : r = []
        · subst hr
          exact ⟨rfl, by simp [Lib.signlessC, Lib.parseUintB]⟩
        · have hl : r.length ≤ 18 := by simp at h; omega
          rw [parseB r hr hl]
          cases hv : valF 0 r with
          | none => exact ⟨rfl, by simp [Lib.signlessC]⟩
          | some u =>
            have hu := val_small r u hl hv
            have hc : ¬ 2 ^ (64 - 1) ≤ u := by omega
            simp only [Lib.signlessC, if_neg hc]
            refine ⟨?_, by simp⟩
            rw [if_neg]
            rw [Lib.itoa_nonneg]
            exact decDigits_noplus u hu r
      · have hn43 : c.toNat ≠ 43 := fun e => h43 (UInt8.toNat_inj.1 (by rw [e]; rfl))
        rw [implR, numR, ht, if_pos ⟨by simp, h⟩, Lib.parseIntB_plain 64 c r hn43 hn45, parseB (c :: r) (by simp) h]
        cases hv : valF 0 (c :: r) with
        | none => exact ⟨rfl, by simp [Lib.signlessC]⟩
        | some u =>
          have hu := val_small (c :: r) u h hv
          have hc : ¬ 2 ^ (64 - 1) ≤ u := by omega
          simp only [Lib.signlessC, if_neg hc, hs]
          exact ⟨trivial, by simp⟩
end Go.Proofs.YtikjielgnlgnjaaDoor
