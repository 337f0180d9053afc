/-
  Parts of clays as plain data: sums, values of a blend, the code of clays and parts. Nothing of the dump.
-/
import Derived.Test.YtlglijalhacmhabClay
import Derived.Test.YtlglijalhacmhabRow
namespace Go.Proofs.Ytlglijalhacmhab
open Go.ChangeShapes Go.WideShapes Go.ChangeAt Go.RowKit Go.Joins

/-- The sum of the first k numbers. -/
def sumTo (P : List Int) : Nat → Int
  | 0 => 0
  | k + 1 => sumTo P k + (P[k]?).getD 0
/-- The first k numbers are numbers of parts. -/
def partsTo (P : List Int) : Nat → Bool
  | 0 => true
  | k + 1 => partsTo P k && inB ((P[k]?).getD 0) 0 1000
def okParts (P : List Int) : Bool := partsTo P P.length
def sumP (P : List Int) : Int := sumTo P P.length
theorem sumTo_step {P : List Int} {k : Nat} {z : Int} (h : P[k]? = some z) : sumTo P (k + 1) = sumTo P k + z := by simp [sumTo, h]
theorem partsTo_step {P : List Int} {k : Nat} {z : Int} (h : P[k]? = some z) : partsTo P (k + 1) = (partsTo P k && inB z 0 1000) := by simp [partsTo, h]
theorem partsTo_mono {P : List Int} {j k : Nat} (hjk : j ≤ k) (h : partsTo P k = true) : partsTo P j = true := by
  induction k with
  | zero => have : j = 0 := by omega
            subst this; exact h
  | succ k ih =>
    by_cases e : j = k + 1
    · subst e; exact h
    · simp only [partsTo, Bool.and_eq_true] at h
      exact ih (by omega) h.1
theorem partsTo_false {P : List Int} {j k : Nat} (hjk : j ≤ k) (h : partsTo P j = false) : partsTo P k = false := by
  cases hk : partsTo P k with
  | false => rfl
  | true => rw [partsTo_mono hjk hk] at h; cases h
theorem sumTo_range {P : List Int} {k : Nat} (h : partsTo P k = true) : 0 ≤ sumTo P k ∧ sumTo P k ≤ k * 1000 := by
  induction k with
  | zero => simp [sumTo]
  | succ k ih =>
    simp only [partsTo, Bool.and_eq_true, inB_true] at h
    have := ih h.1
    simp only [sumTo]
    omega
theorem okParts_at {P : List Int} (h : okParts P = true) {k : Nat} {z : Int} (hk : P[k]? = some z) : 0 ≤ z ∧ z ≤ 1000 := by
  have hl := (List.getElem?_eq_some_iff.1 hk).1
  have h1 := partsTo_mono (j := k + 1) (by omega) h
  rw [partsTo_step hk, Bool.and_eq_true, inB_true] at h1
  exact h1.2

/-- The sum of the values of the first k clays, times their parts. -/
def wsum (f : Cl → Int) (L : List Cl) (P : List Int) : Nat → Int
  | 0 => 0
  | k + 1 => wsum f L P k + (match L[k]?, P[k]? with | some c, some p => f c * p | _, _ => 0)
def total (f : Cl → Int) (L : List Cl) (P : List Int) : Int := wsum f L P L.length
theorem wsum_step {f : Cl → Int} {L : List Cl} {P : List Int} {k : Nat} {c : Cl} {p : Int} (hc : L[k]? = some c) (hp : P[k]? = some p) : wsum f L P (k + 1) = wsum f L P k + f c * p := by simp [wsum, hc, hp]
/-- A value that all right clays have between 0 and 10000. -/
def Small (f : Cl → Int) : Prop := ∀ c : Cl, c.ok = true → 0 ≤ f c ∧ f c ≤ 10000
theorem small_sh : Small Cl.sh := fun c h => by have := Cl.ok_facts h; omega
theorem small_li : Small Cl.li := fun c h => by have := Cl.ok_facts h; omega
theorem small_sa : Small Cl.sa := fun c h => by have := Cl.ok_facts h; omega
theorem small_pr : Small Cl.pr := fun c h => by have := Cl.ok_facts h; omega
theorem mul_range {a b A B : Int} (ha : 0 ≤ a ∧ a ≤ A) (hb : 0 ≤ b ∧ b ≤ B) : 0 ≤ a * b ∧ a * b ≤ A * B :=
  ⟨Int.mul_nonneg ha.1 hb.1, Int.mul_le_mul ha.2 hb.2 hb.1 (Int.le_trans ha.1 ha.2)⟩
theorem wsum_range {f : Cl → Int} (hf : Small f) {L : List Cl} {P : List Int} (hL : okCls L = true) (hP : okParts P = true) (k : Nat) : 0 ≤ wsum f L P k ∧ wsum f L P k ≤ k * 10000000 := by
  induction k with
  | zero => simp [wsum]
  | succ k ih =>
    simp only [wsum]
    split
    · rename_i c p hc hp
      have h1 := hf c ((okCls_all hL).2 k c hc).1
      have h2 := okParts_at hP hp
      have h3 := mul_range (A := 10000) (B := 1000) ⟨h1.1, h1.2⟩ ⟨h2.1, h2.2⟩
      omega
    · omega

/-- Limits as told. -/
structure Li where
  lo : Int
  hi : Int
  ml : Int
  ms : Int
def Li.ok (x : Li) : Bool := inB x.lo 0 1000 && (inB x.hi x.lo 1000 && (inB x.ml 0 1000 && inB x.ms 0 1000))
theorem Li.ok_facts {x : Li} (h : x.ok = true) : (0 ≤ x.lo ∧ x.lo ≤ 1000) ∧ (x.lo ≤ x.hi ∧ x.hi ≤ 1000) ∧ (0 ≤ x.ml ∧ x.ml ≤ 1000) ∧ (0 ≤ x.ms ∧ x.ms ≤ 1000) := by
  simpa [Li.ok, inB_true] using h

/-- The code of clays, parts and whether limits are some. -/
def codeP (L : List Cl) (P : List Int) (lim : Bool) : Int :=
  if okCls L = true then (if decide (P.length = L.length) && (okParts P && lim) then (if sumP P = 0 then 6 else 0) else 2) else 1
theorem codeP_facts {L : List Cl} {P : List Int} {lim : Bool} (h : codeP L P lim = 0) : okCls L = true ∧ P.length = L.length ∧ okParts P = true ∧ lim = true ∧ sumP P ≠ 0 := by
  unfold codeP at h
  split at h
  · rename_i h1
    split at h
    · rename_i h2
      simp only [Bool.and_eq_true, decide_eq_true_eq] at h2
      split at h
      · cases h
      · rename_i h3
        exact ⟨h1, h2.1, h2.2.1, h2.2.2, h3⟩
    · cases h
  · cases h
theorem codeP_sum {L : List Cl} {P : List Int} {lim : Bool} (h : codeP L P lim = 0) : 1 ≤ sumP P ∧ sumP P ≤ 6000 ∧ L.length ≤ 6 := by
  obtain ⟨h1, h2, h3, _, h5⟩ := codeP_facts h
  have h6 := (okCls_all h1).1
  have h7 := sumTo_range h3
  unfold sumP at h5 ⊢
  omega

/-- What a blend's limits say, the first that it does not keep. -/
def faultOf (L : List Cl) (P : List Int) (x : Li) : String :=
  if total Cl.sh L P < x.lo * sumP P then "little" else if x.hi * sumP P < total Cl.sh L P then "much" else if x.ml * sumP P < total Cl.li L P then "lime" else if x.ms * sumP P < total Cl.sa L P then "sand" else "none"
end Go.Proofs.Ytlglijalhacmhab
