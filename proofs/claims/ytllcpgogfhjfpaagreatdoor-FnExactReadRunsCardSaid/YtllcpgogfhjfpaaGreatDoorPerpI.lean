/-
  Perpends by the model.
-/
import Derived.Test.YtllcpgogfhjfpaaGreatDoorPerp
import Derived.Test.YtllcpgogfhjfpaaGreatDoorInts
import Derived.Test.YtllcpgogfhjfpaaGreatDoorBtP
import Derived.Test.YtllcpgogfhjfpaaGreatDoorCoS
import Derived.Test.YtllcpgogfhjfpaaGreatDoorCoI
import Derived.Test.YtllcpgogfhjfpaaGreatDoorShelfB
import Derived.OwnWalk
import Derived.Test.YtllcpgogfhjfpaaGreatDoorPerpV
import Derived.Test.YtllcpgogfhjfpaaGreatDoorBy
import Derived.Deep.DeepMust
namespace Go.Proofs.YtllcpgogfhjfpaaGreatDoor
open Go.ChangeShapes Go.WideShapes Go.ChangeAt Go.RowKit Go.Joins


theorem box2c (w : World) (x y : ByteArray) (t : TypeId) : (w.alloc (.cells #[.string x, .string y] t)).cell? ⟨w.heap.size, 0, none⟩ = some (.string x) ∧ (w.alloc (.cells #[.string x, .string y] t)).cell? ⟨w.heap.size, 1, none⟩ = some (.string y) := by
  refine ⟨?_, ?_⟩ <;> (rw [cell_of_row _ _ _ _ t (0, 0) (heap_alloc_new w _)]; rfl)

/-- Perpends are handed back. -/
def PerpOut (w : World) (c : Co) (u : Nat) (e : Ending) (w' : World) : Prop :=
  ∃ m g cap, PerpIs c u m ∧ e = .returned (.slice (some ⟨g, 0, none⟩) m cap) ∧ IntOwn w.heap.size (perpL c m) g w' ∧ Below w.heap.size w w'

theorem own_later {w w' : World} {B e size n : Nat} {v : Value} {xs : List Value} (h : w.ownsRow B e size v n xs) (hb : Below w.heap.size w w') : w'.ownsRow B e size v n xs := by
  refine ⟨h.1, ?_⟩
  rcases h.2 with hn | ⟨g, cap, cur, hv, hB, hgg, rest⟩
  · exact .inl hn
  · exact .inr ⟨g, cap, cur, hv, hB, (hb.block g (Array.getElem?_eq_some_iff.1 hgg).1).trans hgg, rest⟩
theorem nums_later {W0 w w' : World} {ps : List Int} {g cap : Nat} (h : NumsAt W0 ps g cap w) (hb : Below w.heap.size w w') : NumsAt W0 ps g cap w' :=
  ⟨own_later h.1 hb, h.2.1.trans (hb.mono (Nat.le_of_succ_le h.2.2)), Nat.le_trans h.2.2 hb.size⟩
end Go.Proofs.YtllcpgogfhjfpaaGreatDoor
/-
  Texts of bonds: the model's.
-/
namespace Go.Proofs.YtllcpgogfhjfpaaGreatDoor
open Go.ChangeShapes Go.WideShapes Go.ChangeAt Go.RowKit Go.Joins

end Go.Proofs.YtllcpgogfhjfpaaGreatDoor
/-
  Texts of bonds: the program's.
-/
namespace Go.Proofs.YtllcpgogfhjfpaaGreatDoor
open Go.ChangeShapes Go.WideShapes Go.ChangeAt Go.RowKit Go.Joins
theorem infoStrB : (Tryz.prog.info? 9).map (fun i => (i.zero, i.size, i.bytes)) = some (some (.string ⟨#[]⟩), 1, 16) := by kernel_rfl
def strVals (W : List ByteArray) : List Value := W.map Value.string
theorem strVals_one (W : List ByteArray) : ∀ u ∈ strVals W, u.oneCell' = true := by
  intro u hu
  obtain ⟨c, _, rfl⟩ := List.mem_map.1 hu
  rfl
theorem litS (base : Nat) (wr : World) (x : ByteArray) (hb : base ≤ wr.heap.size) : (wr.alloc (.cells #[.string x] 9)).ownsRow base 9 1 (.slice (some ⟨wr.heap.size, 0, none⟩) 1 1) 1 (strVals [x]) :=
  ⟨rfl, .inr ⟨wr.heap.size, 1, #[.string x], rfl, hb, heap_alloc_new wr _, Nat.le_refl _, by decide, rfl, rfl⟩⟩
theorem own_form8S {w : World} {B : Nat} {e : TypeId} {n : Nat} {v : Value} {xs : List Value} (h : w.ownsRow B e 1 v n xs) (hn : n ≠ 0) : ∃ g cap, v = .slice (some ⟨g, 0, none⟩) n cap := by
  rcases h.2 with ⟨_, h0⟩ | ⟨g, cap, cur, hv, _⟩
  · exact absurd h0 hn
  · exact ⟨g, cap, hv⟩
end Go.Proofs.YtllcpgogfhjfpaaGreatDoor
/-
  The pieces of a course by the program: its reader, and where pieces end.
-/
namespace Go.Proofs.YtllcpgogfhjfpaaGreatDoor
open Go.ChangeShapes Go.WideShapes Go.ChangeAt Go.RowKit Go.Joins
theorem quartersI (k : Int) (w : World) : Calls Tryz.prog 76 #[.int .u8 k] w fun e w' => ∃ z : Int, e = .returned (.tuple #[.int .i64 (qtrI k), .int .i64 z]) ∧ w = w' := by
  by_cases h1 : k = 83
  · subst h1
    go_enter Tryz.func76, Tryz.ntmps76
    go_wp2
    go_ret2
    exact ⟨0, rfl, rfl⟩
  by_cases h2 : k = 84
  · subst h2
    go_enter Tryz.func76, Tryz.ntmps76
    go_wp2
    go_ret2
    exact ⟨0, rfl, rfl⟩
  by_cases h3 : k = 72
  · subst h3
    go_enter Tryz.func76, Tryz.ntmps76
    go_wp2
    go_ret2
    exact ⟨0, rfl, rfl⟩
  by_cases h4 : k = 66
  · subst h4
    go_enter Tryz.func76, Tryz.ntmps76
    go_wp2
    go_ret2
    exact ⟨0, rfl, rfl⟩
  by_cases h5 : k = 67
  · subst h5
    go_enter Tryz.func76, Tryz.ntmps76
    go_wp2
    go_ret2
    exact ⟨0, rfl, rfl⟩
  go_enter Tryz.func76, Tryz.ntmps76
  go_wp2
  go_ret2
  exact ⟨2, by simp [qtrI, h1, h2, h3, h4, h5], rfl⟩
end Go.Proofs.YtllcpgogfhjfpaaGreatDoor
