/-
  The lines of a front, plainly. Nothing of the dump.
-/
import Derived.Test.YtplggghhhgmebaaPqP
namespace Go.Proofs.Ytplggghhhgmebaa
open Go.ChangeShapes Go.WideShapes Go.ChangeAt Go.RowKit Go.Joins

/-- What stands for a quarter of a course; the first n quarters of a course; a whole course as a text; the first n courses from above. -/
def chB (L : List Og) (x c : Int) : UInt8 := if openB L x c = true then 46 else 35
def lnL (L : List Og) (c : Int) (n : Nat) : List UInt8 := (List.range n).map fun (x : Nat) => chB L (x : Int) c
theorem lnL_succ (L : List Og) (c : Int) (n : Nat) : lnL L c (n + 1) = lnL L c n ++ [chB L (n : Int) c] := by simp [lnL, List.range_succ]
theorem lnL_length (L : List Og) (c : Int) (n : Nat) : (lnL L c n).length = n := by simp [lnL]
def lnB (F : Int) (L : List Og) (c : Int) : ByteArray := ⟨(lnL L c F.toNat).toArray⟩
def flU (F C : Int) (L : List Og) (n : Nat) : List ByteArray := (List.range n).map fun (k : Nat) => lnB F L (C - 1 - (k : Int))
theorem flU_succ (F C : Int) (L : List Og) (n : Nat) : flU F C L (n + 1) = flU F C L n ++ [lnB F L (C - 1 - (n : Int))] := by simp [flU, List.range_succ]
theorem flU_length (F C : Int) (L : List Og) (n : Nat) : (flU F C L n).length = n := by simp [flU]
noncomputable def flK (F C : Int) (L : List Og) : Int := if okFr F C L = true then 0 else 1
noncomputable def flL (F C : Int) (L : List Og) : List ByteArray := if okFr F C L = true then flU F C L C.toNat else []
theorem flL_length (F C : Int) (L : List Og) : (flL F C L).length ≤ 40 := by
  unfold flL
  split
  · rename_i h
    rw [flU_length]
    have := (okFr_true.1 h).fc
    omega
  · simp
end Go.Proofs.Ytplggghhhgmebaa
