/-
  impl.IsName, by runes.
-/
import Derived.Test.YtikjielgnlgnjaaDoorIsName
namespace Go.Proofs.YtikjielgnlgnjaaDoor
open Go.ChangeShapes Go.WideShapes Go.ChangeAt Go.RowKit Go.Joins


/-- What is left to show at position k: behind the first letter all letters decide, at the first one the name itself. -/
def leftB (s : ByteArray) (k : Nat) : Bool := if k = 0 then nameB s else restB s k
theorem leftB_pos (s : ByteArray) (k : Nat) (h : 0 < k) : leftB s k = restB s k := by simp [leftB]; omega
theorem leftB_first (s : ByteArray) (h : 0 < s.size) (h2 : s.size ≤ 12) : leftB s 0 = (smallC (s[0]'h).toNat && restB s 1) := by
  have e : leftB s 0 = nameB s := rfl
  rw [e]
  cases hc : smallC (s[0]'h).toNat
  · rw [nameB_first s h hc]; rfl
  · rw [nameB_rest s h h2 hc, restB_step s 0 h, okC_eq, hc]; rfl
end Go.Proofs.YtikjielgnlgnjaaDoor
