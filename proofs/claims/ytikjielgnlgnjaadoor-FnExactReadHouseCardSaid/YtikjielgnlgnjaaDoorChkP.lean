/-
  The problems of a text of a bond, and the bond, as plain data. Nothing of the dump.
-/
import Derived.Test.YtikjielgnlgnjaaDoorEis
import Derived.Test.YtikjielgnlgnjaaDoorSpl
namespace Go.Proofs.YtikjielgnlgnjaaDoor
open Go.ChangeShapes Go.WideShapes Go.ChangeAt Go.RowKit Go.Joins

/-- The course of a word, and its first problem; 0 if there is none. -/
def wordOf (s : ByteArray) : Co × Int :=
  match partsOf s 43 with
  | [c] => (⟨.empty, c⟩, Co.fault ⟨.empty, c⟩ false)
  | [l, c] => (⟨l, c⟩, Co.fault ⟨l, c⟩ true)
  | _ => (⟨.empty, .empty⟩, 3)
/-- The first problem of the word with an index. -/
def kindAt (ws : List ByteArray) (i : Nat) : Int :=
  if i = 0 then (if ws.length = 1 then 1 else if nameB (ws.getD 0 .empty) = true then 0 else 2) else if 8 < i then 6 else (wordOf (ws.getD i .empty)).2
/-- The problems of the first k words; the courses of those of them that are right. -/
def probsTo (ws : List ByteArray) : Nat → List (Int × Int)
  | 0 => []
  | k + 1 => if kindAt ws k = 0 then probsTo ws k else probsTo ws k ++ [((k : Int), kindAt ws k)]
def cosTo (ws : List ByteArray) : Nat → List Co
  | 0 => []
  | k + 1 => if k = 0 ∨ ¬ kindAt ws k = 0 then cosTo ws k else cosTo ws k ++ [(wordOf (ws.getD k .empty)).1]
/-- The courses of the first k words, where a wrong one stands as an empty course. -/
def cosI (ws : List ByteArray) : Nat → List Co
  | 0 => []
  | k + 1 => if k = 0 then cosI ws k else cosI ws k ++ [if kindAt ws k = 0 then (wordOf (ws.getD k .empty)).1 else ⟨.empty, .empty⟩]
theorem probsTo_length (ws : List ByteArray) : ∀ k, (probsTo ws k).length ≤ k
  | 0 => Nat.le_refl _
  | k + 1 => by
    have := probsTo_length ws k
    simp only [probsTo]
    split
    · omega
    · simp; omega
theorem cosTo_length (ws : List ByteArray) : ∀ k, (cosTo ws k).length ≤ k
  | 0 => Nat.le_refl _
  | k + 1 => by
    have := cosTo_length ws k
    simp only [cosTo]
    split
    · omega
    · simp; omega
theorem cosI_length (ws : List ByteArray) : ∀ k, (cosI ws k).length ≤ k
  | 0 => Nat.le_refl _
  | k + 1 => by
    have := cosI_length ws k
    simp only [cosI]
    split
    · omega
    · simp; omega
theorem probsTo_nil {ws : List ByteArray} : ∀ {k : Nat}, probsTo ws k = [] ↔ ∀ i, i < k → kindAt ws i = 0
  | 0 => by simp [probsTo]
  | k + 1 => by
    simp only [probsTo]
    split
    · rename_i h
      rw [probsTo_nil (k := k)]
      constructor
      · intro h2 i hi
        by_cases e : i = k
        · subst e; exact h
        · exact h2 i (by omega)
      · intro h2 i hi; exact h2 i (by omega)
    · rename_i h
      constructor
      · intro h2; simp at h2
      · intro h2; exact absurd (h2 k (by omega)) h
theorem cosI_eq {ws : List ByteArray} {k : Nat} (h : probsTo ws k = []) : cosI ws k = cosTo ws k := by
  rw [probsTo_nil] at h
  induction k with
  | zero => rfl
  | succ k ih =>
    have h1 := ih (fun i hi => h i (by omega))
    have h2 := h k (by omega)
    simp only [cosI, cosTo, h1, h2]
    by_cases e : k = 0 <;> simp [e]
/-- The words, the problems, and what CheckBond answers. -/
def wordsB (s : ByteArray) : List ByteArray := partsOf s 32
def chkP (s : ByteArray) : List (Int × Int) := probsTo (wordsB s) (wordsB s).length
def chkBad (s : ByteArray) : Bool := decide (400 < s.size) || !(chkP s).isEmpty
def ckN (s : ByteArray) : ByteArray := if chkBad s = true then .empty else (wordsB s).getD 0 .empty
def ckL (s : ByteArray) : List Co := if chkBad s = true then [] else cosTo (wordsB s) (wordsB s).length
def ckP (s : ByteArray) : List (Int × Int) := if 400 < s.size then [] else chkP s
def ckC (s : ByteArray) : Int := if 400 < s.size then 5 else 0
end Go.Proofs.YtikjielgnlgnjaaDoor
