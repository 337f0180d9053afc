/-
  Blocks of arches as plain data: which are right, their moments, lines. Nothing of the dump.
-/
import Derived.Test.YtlglijalhacmhaaAll
namespace Go.Proofs.Ytlglijalhacmhaa
open Go.ChangeShapes Go.WideShapes Go.ChangeAt Go.RowKit Go.Joins

/-- Blocks: loads, least and greatest heights. -/
structure Bk where
  A : List Int
  L : List Int
  H : List Int
/-- Where their three rows lie. -/
structure Bs where
  a : Option Addr
  b : Option Addr
  c : Option Addr
  i : Nat
  j : Nat
  k : Nat
/-- The heights at one joint. -/
def hgtB (X : Bk) (k : Nat) : Bool := inB (X.L.getD k 0) (-1000) 1000 && inB (X.H.getD k 0) (X.L.getD k 0) 1000
def okBk (X : Bk) : Bool := inB (X.A.length : Int) 2 10 && (decide (X.L.length = X.A.length + 1) && (decide (X.H.length = X.A.length + 1) && (allB X.A 1 1000 && (List.range (X.A.length + 1)).all (hgtB X))))
theorem okBk_true {X : Bk} : okBk X = true ↔ (2 ≤ X.A.length ∧ X.A.length ≤ 10) ∧ X.L.length = X.A.length + 1 ∧ X.H.length = X.A.length + 1 ∧ allB X.A 1 1000 = true ∧ ∀ k, k < X.A.length + 1 → hgtB X k = true := by
  simp only [okBk, Bool.and_eq_true, inB_true, decide_eq_true_eq, List.all_eq_true, List.mem_range]
  constructor
  · rintro ⟨⟨h1, h2⟩, h⟩; exact ⟨⟨by omega, by omega⟩, h⟩
  · rintro ⟨⟨h1, h2⟩, h⟩; exact ⟨⟨by omega, by omega⟩, h⟩
/-- What is known of right blocks, at one joint. -/
theorem okBk_at {X : Bk} (h : okBk X = true) {k : Nat} (hk : k < X.A.length + 1) : -1000 ≤ X.L.getD k 0 ∧ X.L.getD k 0 ≤ X.H.getD k 0 ∧ X.H.getD k 0 ≤ 1000 := by
  have := (okBk_true.1 h).2.2.2.2 k hk
  simp only [hgtB, Bool.and_eq_true, inB_true] at this
  omega
theorem okBk_load {X : Bk} (h : okBk X = true) (k : Nat) : 0 ≤ X.A.getD k 0 ∧ X.A.getD k 0 ≤ 1000 := by
  by_cases hk : k < X.A.length
  · have := allB_getD (okBk_true.1 h).2.2.2.1 hk; omega
  · rw [List.getD_eq_getElem?_getD, List.getElem?_eq_none (by omega)]; simp
theorem okBk_load1 {X : Bk} (h : okBk X = true) {k : Nat} (hk : k < X.A.length) : 1 ≤ X.A.getD k 0 ∧ X.A.getD k 0 ≤ 1000 := allB_getD (okBk_true.1 h).2.2.2.1 hk
/-- Loads before a joint; twice the moment there. -/
def bef (A : List Int) : Nat → Int
  | 0 => 0
  | k + 1 => bef A k + A.getD k 0
def mom (A : List Int) : Nat → Int
  | 0 => 0
  | k + 1 => mom A k + (2 * bef A k + A.getD k 0)
def momsL (A : List Int) (m : Nat) : List Int := (List.range m).map (mom A)
theorem momsL_length (A : List Int) (m : Nat) : (momsL A m).length = m := by simp [momsL]
theorem momsL_succ (A : List Int) (m : Nat) : momsL A (m + 1) = momsL A m ++ [mom A m] := by simp [momsL, List.range_succ]
theorem momsL_at {A : List Int} {m k : Nat} (h : k < m) : (momsL A m)[k]? = some (mom A k) := by simp [momsL, h]
def momV (X : Bk) : List Int := if okBk X = true then momsL X.A (X.A.length + 1) else []
def bkC (X : Bk) : Int := if okBk X = true then 0 else 1
/-- The model's sum of the first moments. -/
def psm (A : List Int) (k : Nat) : Nat → Int
  | 0 => 0
  | i + 1 => psm A k i + A.getD i 0 * (2 * (k : Int) - 2 * (i : Int) - 1)
theorem psm_step (A : List Int) (k : Nat) : ∀ i : Nat, psm A (k + 1) i = psm A k i + 2 * bef A i
  | 0 => by simp [psm, bef]
  | i + 1 => by
    show psm A (k + 1) i + A.getD i 0 * (2 * ((k + 1 : Nat) : Int) - 2 * (i : Int) - 1) = psm A k i + A.getD i 0 * (2 * (k : Int) - 2 * (i : Int) - 1) + 2 * (bef A i + A.getD i 0)
    rw [psm_step A k i]
    have : ((k + 1 : Nat) : Int) = (k : Int) + 1 := by omega
    rw [this]
    grind
theorem psm_mom (A : List Int) : ∀ k : Nat, psm A k k = mom A k
  | 0 => rfl
  | k + 1 => by
    show psm A (k + 1) k + A.getD k 0 * (2 * ((k + 1 : Nat) : Int) - 2 * (k : Int) - 1) = mom A k + (2 * bef A k + A.getD k 0)
    rw [psm_step A k k, psm_mom A k]
    have : 2 * ((k + 1 : Nat) : Int) - 2 * (k : Int) - 1 = 1 := by omega
    rw [this]
    omega
theorem bef_range {X : Bk} (h : okBk X = true) : ∀ k : Nat, 0 ≤ bef X.A k ∧ bef X.A k ≤ 1000 * (k : Int)
  | 0 => by simp [bef]
  | k + 1 => by
    have h1 := bef_range h k
    have h2 := okBk_load h k
    show 0 ≤ bef X.A k + X.A.getD k 0 ∧ bef X.A k + X.A.getD k 0 ≤ 1000 * ((k + 1 : Nat) : Int)
    omega
theorem mom_range {X : Bk} (h : okBk X = true) : ∀ k : Nat, k ≤ 10 → 0 ≤ mom X.A k ∧ mom X.A k ≤ 21000 * (k : Int)
  | 0, _ => by simp [mom]
  | k + 1, hk => by
    have h1 := mom_range h k (by omega)
    have h2 := okBk_load h k
    have h3 := bef_range h k
    show 0 ≤ mom X.A k + (2 * bef X.A k + X.A.getD k 0) ∧ mom X.A k + (2 * bef X.A k + X.A.getD k 0) ≤ 21000 * ((k + 1 : Nat) : Int)
    omega
theorem psm_range {X : Bk} (h : okBk X = true) (k : Nat) (hk : k ≤ 10) : ∀ i : Nat, i ≤ k → 0 ≤ psm X.A k i ∧ psm X.A k i ≤ 20000 * (i : Int)
  | 0, _ => by simp [psm]
  | i + 1, hi => by
    have h1 := psm_range h k hk i (by omega)
    have h2 := okBk_load h i
    show 0 ≤ psm X.A k i + X.A.getD i 0 * (2 * (k : Int) - 2 * (i : Int) - 1) ∧ psm X.A k i + X.A.getD i 0 * (2 * (k : Int) - 2 * (i : Int) - 1) ≤ 20000 * ((i + 1 : Nat) : Int)
    have h3 : 0 ≤ X.A.getD i 0 * (2 * (k : Int) - 2 * (i : Int) - 1) := Int.mul_nonneg h2.1 (by omega)
    have h4 : X.A.getD i 0 * (2 * (k : Int) - 2 * (i : Int) - 1) ≤ 1000 * 20 := Int.mul_le_mul h2.2 (by omega) (by omega) (by omega)
    omega
/-- By how much more numbers grow behind the place k + 1 than before it. -/
def bnd (P : List Int) (k : Nat) : Int := P.getD k 0 - 2 * P.getD (k + 1) 0 + P.getD (k + 2) 0
theorem bnd_mom (A : List Int) (m k : Nat) (h : k + 2 < m) : bnd (momsL A m) k = A.getD k 0 + A.getD (k + 1) 0 := by
  unfold bnd
  rw [getD_of (momsL_at (A := A) (m := m) (show k < m by omega)), getD_of (momsL_at (A := A) (m := m) (show k + 1 < m by omega)), getD_of (momsL_at (A := A) (m := m) h)]
  show mom A k - 2 * (mom A k + (2 * bef A k + A.getD k 0)) + (mom A k + (2 * bef A k + A.getD k 0) + (2 * (bef A k + A.getD k 0) + A.getD (k + 1) 0)) = _
  omega
/-- Heights within those of the blocks; bent as the moments are. -/
def witB (X : Bk) (P : List Int) (d : Int) (k : Nat) : Bool := inB (P.getD k 0) (X.L.getD k 0 * d) (X.H.getD k 0 * d)
def curB (X : Bk) (P : List Int) (k : Nat) : Bool := decide (bnd P k * (X.A.getD 0 0 + X.A.getD 1 0) = bnd P 0 * (X.A.getD k 0 + X.A.getD (k + 1) 0))
def isLn (X : Bk) (P : List Int) (d : Int) : Bool := (List.range P.length).all (witB X P d) && (decide (bnd P 0 < 0) && (List.range (X.A.length - 1)).all (curB X P))
def lnC (X : Bk) (P : List Int) (d : Int) : Int := if okBk X = true then (if P.length = X.L.length ∧ allB P (-100000000000) 100000000000 = true ∧ inB d 1 100000000 = true then 0 else 2) else 1
def lnV (X : Bk) (P : List Int) (d : Int) : Bool := decide (lnC X P d = 0) && isLn X P d
/-- The same blocks from the other side. -/
def mirX (X : Bk) : Bk := if okBk X = true then ⟨X.A.reverse, X.L.reverse, X.H.reverse⟩ else ⟨[], [], []⟩
/-- What joints demand of the curvature. -/
def cnA (X : Bk) (j k p q : Nat) : Int := (X.L.getD j 0 - X.H.getD k 0) * ((q : Int) - (p : Int)) - (X.H.getD q 0 - X.L.getD p 0) * ((j : Int) - (k : Int))
def cnB (X : Bk) (j k p q : Nat) : Int := (mom X.A q - mom X.A p) * ((j : Int) - (k : Int)) - (mom X.A j - mom X.A k) * ((q : Int) - (p : Int))
end Go.Proofs.Ytlglijalhacmhaa
