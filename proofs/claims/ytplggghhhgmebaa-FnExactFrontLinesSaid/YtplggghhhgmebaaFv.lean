/-
  Which fronts are valid, plainly. Nothing of the dump.
-/
import Derived.Test.YtplggghhhgmebaaOg
namespace Go.Proofs.Ytplggghhhgmebaa
open Go.ChangeShapes Go.WideShapes Go.ChangeAt Go.RowKit Go.Joins

/-- An opening has its numbers within the front. -/
def Og.fit (F C : Int) (c : Og) : Bool := decide (0 ≤ c.fr) && (decide (c.fr < c.tt) && (decide (c.tt ≤ F) && (decide (0 ≤ c.lo) && (decide (c.lo < c.hi) && decide (c.hi ≤ C)))))
def Og.ovl (c d : Og) : Bool := decide (c.fr < d.tt) && (decide (d.fr < c.tt) && (decide (c.lo < d.hi) && decide (d.lo < c.hi)))
def Og.bef (c d : Og) : Bool := if c.fr = d.fr then decide (c.lo < d.lo) else decide (c.fr < d.fr)
theorem Og.fit_true {F C : Int} {c : Og} : c.fit F C = true ↔ 0 ≤ c.fr ∧ c.fr < c.tt ∧ c.tt ≤ F ∧ 0 ≤ c.lo ∧ c.lo < c.hi ∧ c.hi ≤ C := by simp [Og.fit]
theorem Og.ovl_true {c d : Og} : c.ovl d = true ↔ c.fr < d.tt ∧ d.fr < c.tt ∧ c.lo < d.hi ∧ d.lo < c.hi := by simp [Og.ovl]
theorem Og.bef_true {c d : Og} : c.bef d = true ↔ c.fr < d.fr ∨ (c.fr = d.fr ∧ c.lo < d.lo) := by
  unfold Og.bef
  split
  · rename_i h; simp; omega
  · rename_i h; simp; omega
theorem Og.ovl_comm (c d : Og) : c.ovl d = d.ovl c := by
  unfold Og.ovl
  by_cases h1 : c.fr < d.tt <;> by_cases h2 : d.fr < c.tt <;> by_cases h3 : c.lo < d.hi <;> by_cases h4 : d.lo < c.hi <;> simp [h1, h2, h3, h4]
structure FrOk (F C : Int) (L : List Og) : Prop where
  fl : 1 ≤ F ∧ F ≤ 200
  fc : 1 ≤ C ∧ C ≤ 40
  len : L.length ≤ 8
  fit : ∀ (k : Nat) (c : Og), L[k]? = some c → c.fit F C = true
  apart : ∀ (j k : Nat) (c d : Og), j < k → L[j]? = some c → L[k]? = some d → c.ovl d = false
  inc : ∀ (k : Nat) (c d : Og), L[k]? = some c → L[k + 1]? = some d → c.bef d = true
/-- A front as told. -/
noncomputable def okFr (F C : Int) (L : List Og) : Bool := @decide (FrOk F C L) (Classical.propDecidable _)
theorem okFr_true {F C : Int} {L : List Og} : okFr F C L = true ↔ FrOk F C L := by unfold okFr; exact @decide_eq_true_iff _ (Classical.propDecidable _)
theorem okFr_false {F C : Int} {L : List Og} (h : ¬ FrOk F C L) : okFr F C L = false := by
  cases e : okFr F C L
  · rfl
  · exact absurd (okFr_true.1 e) h
theorem okFr_flen {F C : Int} {L : List Og} (h : ¬ (1 ≤ F ∧ F ≤ 200)) : okFr F C L = false := okFr_false fun k => h k.fl
theorem okFr_cour {F C : Int} {L : List Og} (h : ¬ (1 ≤ C ∧ C ≤ 40)) : okFr F C L = false := okFr_false fun k => h k.fc
theorem okFr_long {F C : Int} {L : List Og} (h : ¬ L.length ≤ 8) : okFr F C L = false := okFr_false fun k => h k.len
theorem okFr_fit {F C : Int} {L : List Og} {k : Nat} {c : Og} (hk : L[k]? = some c) (h : c.fit F C = false) : okFr F C L = false := okFr_false fun q => by
  have := q.fit k c hk
  rw [h] at this
  cases this
theorem okFr_ovl {F C : Int} {L : List Og} {j k : Nat} {c d : Og} (hjk : j < k) (hj : L[j]? = some c) (hk : L[k]? = some d) (h : c.ovl d = true) : okFr F C L = false := okFr_false fun q => by
  have := q.apart j k c d hjk hj hk
  rw [h] at this
  cases this
theorem okFr_bef {F C : Int} {L : List Og} {k : Nat} {c d : Og} (hj : L[k]? = some c) (hk : L[k + 1]? = some d) (h : c.bef d = false) : okFr F C L = false := okFr_false fun q => by
  have := q.inc k c d hj hk
  rw [h] at this
  cases this
/-- The first k of them are as told. -/
structure FrTo (F C : Int) (L : List Og) (k : Nat) : Prop where
  fit : ∀ (j : Nat) (c : Og), j < k → L[j]? = some c → c.fit F C = true
  apart : ∀ (i j : Nat) (c d : Og), i < j → j < k → L[i]? = some c → L[j]? = some d → c.ovl d = false
  inc : ∀ (j : Nat) (c d : Og), j + 1 < k → L[j]? = some c → L[j + 1]? = some d → c.bef d = true
theorem FrTo.zero (F C : Int) (L : List Og) : FrTo F C L 0 := ⟨fun j c h => by omega, fun i j c d h1 h2 => by omega, fun j c d h => by omega⟩
theorem FrTo.succ {F C : Int} {L : List Og} {k : Nat} {c : Og} (h : FrTo F C L k) (hk : L[k]? = some c) (hf : c.fit F C = true) (ho : ∀ (j : Nat) (d : Og), j < k → L[j]? = some d → d.ovl c = false) (hb : ∀ (m : Nat) (d : Og), k = m + 1 → L[m]? = some d → d.bef c = true) : FrTo F C L (k + 1) where
  fit j d hj hd := by
    by_cases e : j = k
    · subst e; rw [hk] at hd; cases hd; exact hf
    · exact h.fit j d (by omega) hd
  apart i j d e hij hj hd he := by
    by_cases e1 : j = k
    · subst e1; rw [hk] at he; cases he; exact ho i d hij hd
    · exact h.apart i j d e hij (by omega) hd he
  inc j d e hj hd he := by
    by_cases e1 : j + 1 = k
    · rw [e1, hk] at he; cases he; exact hb j d e1.symm hd
    · exact h.inc j d e (by omega) hd he
theorem FrTo.all {F C : Int} {L : List Og} (h : FrTo F C L L.length) (hF : 1 ≤ F ∧ F ≤ 200) (hC : 1 ≤ C ∧ C ≤ 40) (hl : L.length ≤ 8) : okFr F C L = true := okFr_true.2
  ⟨hF, hC, hl, fun k c hk => h.fit k c (List.getElem?_eq_some_iff.1 hk).1 hk, fun j k c d hjk hj hk => h.apart j k c d hjk (List.getElem?_eq_some_iff.1 hk).1 hj hk, fun k c d hc hd => h.inc k c d (List.getElem?_eq_some_iff.1 hd).1 hc hd⟩
/-- Of two openings of which none overlaps the other one and the second does not stand before the first, the first stands before. -/
theorem Og.bef_of {F C : Int} {c d : Og} (hc : c.fit F C = true) (hd : d.fit F C = true) (ho : c.ovl d = false) (h : d.bef c = false) : c.bef d = true := by
  rw [Og.fit_true] at hc hd
  have h1 : ¬ (c.fr < d.tt ∧ d.fr < c.tt ∧ c.lo < d.hi ∧ d.lo < c.hi) := fun k => by rw [Og.ovl_true.2 k] at ho; cases ho
  have h2 : ¬ (d.fr < c.fr ∨ (d.fr = c.fr ∧ d.lo < c.lo)) := fun k => by rw [Og.bef_true.2 k] at h; cases h
  rw [Og.bef_true]
  omega
theorem Og.bef_asymm {c d : Og} (h : c.bef d = true) : d.bef c = false := by
  cases e : d.bef c
  · rfl
  · rw [Og.bef_true] at h e; omega
theorem Og.bef_trans {c d e : Og} (h : c.bef d = true) (k : d.bef e = true) : c.bef e = true := by
  rw [Og.bef_true] at h k ⊢; omega
theorem Og.bef_irr (c : Og) : c.bef c = false := by
  cases e : c.bef c
  · rfl
  · rw [Og.bef_true] at e; omega
/-- How a program compares two of them. -/
def Og.cmp (c d : Og) : Int := if c.fr < d.fr then -1 else if d.fr < c.fr then 1 else if c.lo < d.lo then -1 else if d.lo < c.lo then 1 else 0
theorem Og.cmp_neg {c d : Og} : c.cmp d < 0 ↔ c.bef d = true := by
  rw [Og.bef_true]
  unfold Og.cmp
  repeat' split
  all_goals omega
theorem Og.cmp_range (c d : Og) : -1 ≤ c.cmp d ∧ c.cmp d ≤ 1 := by
  unfold Og.cmp
  repeat' split
  all_goals omega
/-- The code of a front and of a number with bounds. -/
noncomputable def frK (F C : Int) (L : List Og) (n low high : Int) : Int := if okFr F C L = true then (if inB n low high = true then 0 else 2) else 1
end Go.Proofs.Ytplggghhhgmebaa
