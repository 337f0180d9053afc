/-
  The best number of courses: the model's word.
-/
import Derived.Test.YtlglijalhacmhabGb
namespace Go.Proofs.Ytlglijalhacmhab
open Go.ChangeShapes Go.WideShapes Go.ChangeAt Go.RowKit Go.Joins


def nrB (ht j H b n : Int) : Bool := decide (b = 0) || decide (gszQ (H - n * (ht + j)) * b < gszQ (H - b * (ht + j)) * n)
def stepB (ht j H least most b n : Int) : Int := if fitB ht H least most n = true then (if nrB ht j H b n = true then n else b) else b
def bestF (ht j H least most : Int) : Nat → Int
  | 0 => 0
  | k + 1 => stepB ht j H least most (bestF ht j H least most k) ((k : Int) + 1)
theorem bestF_range (ht j H least most : Int) (k : Nat) : 0 ≤ bestF ht j H least most k ∧ bestF ht j H least most k ≤ k := by
  induction k with
  | zero => simp [bestF]
  | succ k ih =>
    show 0 ≤ stepB _ _ _ _ _ _ _ ∧ stepB _ _ _ _ _ _ _ ≤ _
    unfold stepB
    split
    · split <;> omega
    · omega
def cfC (l wd ht j H least most : Int) : Int := if limC l wd ht j H least most = 0 then (if bestF ht j H least most 40 = 0 then 3 else 0) else limC l wd ht j H least most
def cfN (l wd ht j H least most : Int) : Int := if limC l wd ht j H least most = 0 then bestF ht j H least most 40 else 0
theorem limC_ok {l wd ht j H least most : Int} (h : limC l wd ht j H least most = 0) : okB l wd ht j = true ∧ (100 ≤ H ∧ H ≤ 6000) ∧ bdB least most = true := by
  unfold limC at h
  split at h
  · rename_i h1
    split at h
    · rename_i h2
      split at h
      · rename_i h3
        exact ⟨h1, inB_true.1 h2, h3⟩
      · cases h
    · cases h
  · cases h
theorem gsz_range {x m : Int} (h0 : -m ≤ x) (h1 : x ≤ m) : 0 ≤ gszQ x ∧ gszQ x ≤ m := by
  unfold gszQ
  split <;> omega
end Go.Proofs.Ytlglijalhacmhab
