/-
  Texts of bonds: the program's.
-/
import Derived.Test.YtplggghhhgmebaaBtS
import Derived.Test.YtplggghhhgmebaaCoI
import Derived.Test.YtplggghhhgmebaaPerpS
import Derived.Test.YtplggghhhgmebaaShelfB
import Derived.OwnWalk
namespace Go.Proofs.Ytplggghhhgmebaa
open Go.ChangeShapes Go.WideShapes Go.ChangeAt Go.RowKit Go.Joins
theorem infoStrB : (Try.prog.info? 9).map (fun i => (i.zero, i.size, i.bytes)) = some (some (.string ⟨#[]⟩), 1, 16) := by kernel_rfl
def strVals (W : List ByteArray) : List Value := W.map Value.string
theorem strVals_one (W : List ByteArray) : ∀ u ∈ strVals W, u.oneCell' = true := by
  intro u hu
  obtain ⟨c, _, rfl⟩ := List.mem_map.1 hu
  rfl
theorem litS (base : Nat) (wr : World) (x : ByteArray) (hb : base ≤ wr.heap.size) : (wr.alloc (.cells #[.string x] 9)).ownsRow base 9 1 (.slice (some ⟨wr.heap.size, 0, none⟩) 1 1) 1 (strVals [x]) :=
  ⟨rfl, .inr ⟨wr.heap.size, 1, #[.string x], rfl, hb, heap_alloc_new wr _, Nat.le_refl _, by decide, rfl, rfl⟩⟩
theorem own_form8S {w : World} {B : Nat} {e : TypeId} {n : Nat} {v : Value} {xs : List Value} (h : w.ownsRow B e 1 v n xs) (hn : n ≠ 0) : ∃ g cap, v = .slice (some ⟨g, 0, none⟩) n cap := by
  rcases h.2 with ⟨_, h0⟩ | ⟨g, cap, cur, hv, _⟩
  · exact absurd h0 hn
  · exact ⟨g, cap, hv⟩
end Go.Proofs.Ytplggghhhgmebaa
