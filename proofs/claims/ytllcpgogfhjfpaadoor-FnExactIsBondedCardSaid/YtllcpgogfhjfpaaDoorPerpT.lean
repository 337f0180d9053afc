/-
  Perpends, laps and headers: the model's answers.
-/
import Derived.Test.YtllcpgogfhjfpaaDoorPerpS
import Derived.Test.YtllcpgogfhjfpaaDoorPerpV
namespace Go.Proofs.YtllcpgogfhjfpaaDoor
open Go.ChangeShapes Go.WideShapes Go.ChangeAt Go.RowKit Go.Joins


/-- A bond lies at b. -/
def BdAt (w : World) (b : Nat) (nm : ByteArray) (L : List Co) (a : Option Addr) (cap : Nat) : Prop := w.cell? ⟨b, 0, none⟩ = some (.string nm) ∧ w.cell? ⟨b, 1, none⟩ = some (.slice a L.length cap) ∧ CoArg w a L
theorem BdAt.later {w w' : World} {b : Nat} {nm : ByteArray} {L : List Co} {a : Option Addr} {cap : Nat} (h : BdAt w b nm L a cap) (hb : Below w.heap.size w w') : BdAt w' b nm L a cap :=
  ⟨(hb.cell (p := ⟨b, 0, none⟩) (World.block_lt_of_cell? w _ h.1)).trans h.1, (hb.cell (p := ⟨b, 1, none⟩) (World.block_lt_of_cell? w _ h.2.1)).trans h.2.1, h.2.2.later hb⟩
theorem bd_new (w : World) (nm : ByteArray) (L : List Co) (a : Option Addr) (cap : Nat) (t : TypeId) (ha : CoArg w a L) : BdAt (w.alloc (.cells #[.string nm, .slice a L.length cap] t)) w.heap.size nm L a cap :=
  ⟨(box2 w nm _ t).1, (box2 w nm _ t).2, ha.later (balloc0 _ _)⟩

theorem crs_in {w : World} {a : Option Addr} {L : List Co} (ha : CoArg w a L) (h : 1 ≤ L.length) (k : Nat) : ∃ b o, a = some ⟨b, o, none⟩ ∧ w.cell? ⟨b, o + (k % L.length) * 2, none⟩ = some (.string (crs L k).lead) ∧ w.cell? ⟨b, o + (k % L.length) * 2 + 1, none⟩ = some (.string (crs L k).cyc) := by
  obtain ⟨b, o, c, h1, h2, h3⟩ := ha.at (Nat.mod_lt k h)
  have := crs_at h k
  rw [h2] at this
  cases this
  exact ⟨b, o, h1, (h3.cells h2).1, (h3.cells h2).2⟩

theorem size_spec (n : Int) (h0 : -100000 ≤ n) (h1 : n ≤ 100000) (w : World) : Calls Tryd.prog 71 #[.int .i64 n] w fun e w' => e = .returned (.int .i64 (n.natAbs : Int)) ∧ w = w' := by
  by_cases h : n < 0
  · go_enter Tryd.func71, Tryd.ntmps71
    go_wp2
    go_ret
    exact ⟨ret_int (by omega), rfl⟩
  · go_enter Tryd.func71, Tryd.ntmps71
    go_wp2
    go_ret
    exact ⟨ret_int (by omega), rfl⟩

/-- Places within bounds. -/
def Near (A : List Int) : Prop := ∀ (k : Nat) (z : Int), A[k]? = some z → 0 ≤ z ∧ z ≤ 1000
theorem map_take_succ {B : List Int} {k : Nat} {y : Int} (h : B[k]? = some y) (f : Int → Int) : (B.take (k + 1)).map f = (B.take k).map f ++ [f y] := by
  rw [List.take_add_one, h]
  simp
end Go.Proofs.YtllcpgogfhjfpaaDoor
