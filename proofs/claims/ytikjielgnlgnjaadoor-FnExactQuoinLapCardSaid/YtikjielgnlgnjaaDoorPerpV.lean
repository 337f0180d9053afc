/-
  What perpends, laps and headers are, as plain values. Nothing of the dump.
-/
import Derived.Test.YtikjielgnlgnjaaDoorPerp
namespace Go.Proofs.YtikjielgnlgnjaaDoor
open Go.ChangeShapes Go.WideShapes Go.ChangeAt Go.RowKit Go.Joins

instance (c : Co) (u m : Nat) : Decidable (PerpIs c u m) := inferInstanceAs (Decidable (_ ∧ _))
def perpM (c : Co) (u : Nat) : Nat := ((List.range u).filter fun m => decide (PerpIs c u m)).headD 0
theorem perpM_eq {c : Co} (h : c.ok = true) {u m : Nat} (hm : PerpIs c u m) : perpM c u = m := by
  unfold perpM
  cases hl : ((List.range u).filter fun m => decide (PerpIs c u m)) with
  | nil =>
    have : m ∈ (List.range u).filter fun m => decide (PerpIs c u m) := List.mem_filter.2 ⟨List.mem_range.2 (perp_le h hm), by simpa using hm⟩
    rw [hl] at this
    cases this
  | cons x r =>
    have : x ∈ (List.range u).filter fun m => decide (PerpIs c u m) := by rw [hl]; simp
    have hx := (List.mem_filter.1 this).2
    exact perp_one h (by simpa using hx) hm
theorem perp_some {c : Co} (h : c.ok = true) {u : Nat} (hu : 1 ≤ u) : PerpIs c u (perpM c u) := by
  have key : ∀ n, (∃ m, PerpIs c u m) ∨ ends c n < u := by
    intro n
    induction n with
    | zero => exact .inr hu
    | succ n ih =>
      rcases ih with ih | ih
      · exact .inl ih
      · by_cases h2 : ends c (n + 1) < u
        · exact .inr h2
        · exact .inl ⟨n, ih, by omega⟩
  obtain ⟨m, hm⟩ : ∃ m, PerpIs c u m := by
    rcases key u with h1 | h1
    · exact h1
    · have := ends_ge h u; omega
  rw [perpM_eq h hm]
  exact hm
/-- The course of a wall with a number. -/
def crs (L : List Co) (k : Nat) : Co := L.getD (k % L.length) default
theorem crs_at {L : List Co} (h : 1 ≤ L.length) (k : Nat) : L[k % L.length]? = some (crs L k) := by
  have hm : k % L.length < L.length := Nat.mod_lt _ h
  rw [crs, List.getD_eq_getElem?_getD, List.getElem?_eq_getElem hm]
  rfl
def perpsV (L : List Co) (k u : Nat) : List Int := perpL (crs L k) (perpM (crs L k) u)
theorem perpsV_le {L : List Co} {k u : Nat} (h : (crs L k).ok = true) (hu : 1 ≤ u) : (perpsV L k u).length < u := by
  rw [perpsV, perpL_length]
  exact perp_le h (perp_some h hu)
theorem perpsV_range {L : List Co} {k u : Nat} (h : (crs L k).ok = true) (hu : 1 ≤ u) {i : Nat} {z : Int} (hz : (perpsV L k u)[i]? = some z) : 1 ≤ z ∧ z < u :=
  perpL_range h (perp_some h hu) hz
/-- The code of a bond, a course and a length. -/
def bCode (nm : ByteArray) (L : List Co) (course til : Int) : Int := if okBond nm L = true then (if (inB course 0 1000 && inB til 1 200) = true then 0 else 2) else 1
theorem bCode_facts {nm : ByteArray} {L : List Co} {course til : Int} (h : bCode nm L course til = 0) : okBond nm L = true ∧ (0 ≤ course ∧ course ≤ 1000) ∧ (1 ≤ til ∧ til ≤ 200) := by
  unfold bCode at h
  split at h
  · rename_i h1
    split at h
    · rename_i h2
      simp only [Bool.and_eq_true, inB_true] at h2
      exact ⟨h1, h2.1, h2.2⟩
    · omega
  · omega
theorem crs_ok {nm : ByteArray} {L : List Co} (h : okBond nm L = true) (k : Nat) : (crs L k).ok = true := by
  obtain ⟨_, h1, _, h2⟩ := okBond_facts h
  exact h2 _ _ (crs_at h1 k)
def perpV (nm : ByteArray) (L : List Co) (course til : Int) : List Int := if bCode nm L course til = 0 then perpsV L course.toNat til.toNat else []
def headV (nm : ByteArray) (L : List Co) (course til : Int) : Int := if bCode nm L course til = 0 then (headsN (crs L course.toNat) (perpM (crs L course.toNat) (til.toNat + 1)) : Nat) else 0
def bCode2 (nm : ByteArray) (L : List Co) (low high til : Int) : Int := if bCode nm L low til = 0 then bCode nm L high til else bCode nm L low til
/-- All distances of two courses; of all courses above one another. -/
def pairD (L : List Co) (low high u : Nat) : List Int := distL (perpsV L low u) (perpsV L high u)
def allD (L : List Co) (u : Nat) : Nat → List Int
  | 0 => []
  | n + 1 => allD L u n ++ pairD L n (n + 1) u
theorem pairD_pos (L : List Co) (low high u : Nat) : ∀ d ∈ pairD L low high u, 0 ≤ d := distL_pos _ _
theorem allD_pos (L : List Co) (u : Nat) : ∀ n, ∀ d ∈ allD L u n, 0 ≤ d
  | 0, d, h => by simp [allD] at h
  | n + 1, d, h => by
    rcases List.mem_append.1 h with h | h
    · exact allD_pos L u n d h
    · exact pairD_pos _ _ _ _ d h
def lapN (D : List Int) : Int := if lapOf D < 0 then 0 else lapOf D
def lapE (D : List Int) : Int := if lapOf D < 0 then 3 else 0
def lapV (nm : ByteArray) (L : List Co) (low high til : Int) : Int := if bCode2 nm L low high til = 0 then lapN (pairD L low.toNat high.toNat til.toNat) else 0
def lapC (nm : ByteArray) (L : List Co) (low high til : Int) : Int := if bCode2 nm L low high til = 0 then lapE (pairD L low.toNat high.toNat til.toNat) else bCode2 nm L low high til
def lapAV (nm : ByteArray) (L : List Co) (til : Int) : Int := if bCode nm L 0 til = 0 then lapN (allD L til.toNat L.length) else 0
def lapAC (nm : ByteArray) (L : List Co) (til : Int) : Int := if bCode nm L 0 til = 0 then lapE (allD L til.toNat L.length) else bCode nm L 0 til
end Go.Proofs.YtikjielgnlgnjaaDoor
