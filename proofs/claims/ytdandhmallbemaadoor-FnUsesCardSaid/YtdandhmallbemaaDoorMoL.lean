/-
  What the laws ask of moulds: their size, copies, equality, and the marks that they write.
-/
import Derived.Test.YtdandhmallbemaaDoorMo
import Derived.Deep.RegionWith
namespace Go.Proofs.YtdandhmallbemaaDoor
open Go.ChangeShapes Go.WideShapes Go.ChangeAt Go.RowKit Go.Joins
theorem make_moulds (n : Nat) (hn : n ≤ 1048576) (w : World) : ∃ C : Array Value, C.size = n * 4 ∧ (Instr.makeSlice 24 (.int .i64 (n : Int)) (.int .i64 (n : Int))).run Tryd.prog w = .ok (.slice (some ⟨w.heap.size, 0, none⟩) n n) (w.alloc (.cells C 47)) := by
  obtain ⟨i, hi, hzz⟩ := Option.map_eq_some_iff.1 infoMould
  simp only [Prod.mk.injEq] at hzz
  obtain ⟨hz, hs, hb⟩ := hzz
  have hr := run_make (P := Tryd.prog) w 24 47 i _ Tryd.underlying24 hi hz .i64 .i64 n n (by omega) (Int.le_refl _) (by rw [hb]; omega) (by omega)
  refine ⟨_, ?_, hr⟩
  rw [size_madeCells, hs, Int.toNat_natCast]
end Go.Proofs.YtdandhmallbemaaDoor
