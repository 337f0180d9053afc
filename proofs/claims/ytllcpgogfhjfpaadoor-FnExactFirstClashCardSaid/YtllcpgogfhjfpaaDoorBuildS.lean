/-
  strings.Builder: String at this program, and what it leaves as it was: blocks of other types than bytes.
-/
import Derived.Test.YtllcpgogfhjfpaaDoorBuildW
import Derived.Lib.UnsafeStr
import Derived.Deep.RegionWith
import Derived.Deep.QuietTactic
import Derived.BigQuiet
namespace Go.Proofs.YtllcpgogfhjfpaaDoor
open Go.ChangeShapes Go.WideShapes Go.ChangeAt Go.RowKit Go.Joins


theorem cellsByteB : Tryd.prog.cellsOf 5 = 1 := by kernel_rfl
theorem heap_freeze (w : World) (p : Addr) (n k : Nat) (h : k ≠ p.block) : (w.freeze p n).heap[k]? = w.heap[k]? := by
  simp only [World.freeze]
  split <;> simp [Array.getElem?_modify, Ne.symm h]
theorem KeepT.freeze {ts : List TypeId} {w : World} {g n : Nat} {c0 : Array Value} {T0 : TypeId} {f0 : Nat × Nat} (hg : w.heap[g]? = some (.cells c0 T0 f0)) (ht : T0 ∈ ts) : KeepT ts w (w.freeze ⟨g, 0, none⟩ n) := fun i T cs fr h1 h2 => by
  have hne : i ≠ g := fun e => by subst e; rw [hg] at h1; cases h1; exact h2 ht
  exact (heap_freeze w ⟨g, 0, none⟩ n i hne).trans h1
end Go.Proofs.YtllcpgogfhjfpaaDoor
