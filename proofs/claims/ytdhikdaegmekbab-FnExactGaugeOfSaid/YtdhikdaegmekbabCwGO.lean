/-
  The walk of the law on GaugeOf.
-/
import Derived.Test.YtdhikdaegmekbabGm
import Derived.Test.YtdhikdaegmekbabIntX
import Derived.Deep.RegionWith
namespace Go.Proofs.Ytdhikdaegmekbab
open Go.ChangeShapes Go.WideShapes Go.ChangeAt Go.RowKit Go.Joins

set_option maxRecDepth 100000 in
set_option maxHeartbeats 12800000 in
theorem walk_FnExactGaugeOf (x0 : Int) (_wx0 : (Lit.int .i64 x0).wf = true) (x1 : Int) (_wx1 : (Lit.int .i64 x1).wf = true) (w : World)  :
    Calls Try.prog 6 #[.int .i64 x0, .int .i64 x1] w fun e w' => e = .returned (.bool true) ∧ Below w.heap.size w w' := by
  skip
  go_enter Try.func6, Try.ntmps6
  have S := Lib.hid (fun (wx : World) => gauge_spec x0 x1  wx )
  have I := Lib.hid (fun (wx : World) => gauge_impl x0 x1  wx )
  obtain ⟨v0n, hv⟩ : ∃ v : Int, gaN x0 x1 = v := ⟨_, rfl⟩
  rw [hv] at S I
  clear hv
  obtain ⟨v0d, hv⟩ : ∃ v : Int, gaD x0 x1 = v := ⟨_, rfl⟩
  rw [hv] at S I
  clear hv
  obtain ⟨v1, hv⟩ : ∃ v : Int, gC x0 x1 = v := ⟨_, rfl⟩
  rw [hv] at S I
  clear hv
  go_wp2_with fail
  refine (S.out _).mono ?_
  rintro e w1 ⟨rfl, hb1⟩
  have B1 := Lib.hid hb1
  have z1 : w.heap.size ≤ w1.heap.size := hb1.size
  clear hb1
  have F := Lib.hid (range_new w1 #[.int .i64 v0n, .int .i64 v0d] 26)
  have BP1 := B1
  have bx1 := balloc0 w1 (.cells #[.int .i64 v0n, .int .i64 v0d] 26)
  have B1 := Lib.hid (bnext B1.out bx1)
  obtain ⟨V1, hV1⟩ : ∃ V1, w1.alloc (.cells #[.int .i64 v0n, .int .i64 v0d] 26) = V1 := ⟨_, rfl⟩
  have vz1 : w1.heap.size < V1.heap.size := by rw [← hV1]; simp
  rw [hV1] at B1 F 
  have HV1 := Lib.hid hV1
  clear hV1 bx1
  go_wp2_with fail
  rw [HV1.out]
  refine (I.out _).mono ?_
  rintro e w2 ⟨rfl, hb2⟩
  have B2 := Lib.hid (bnext B1.out hb2)
  have z2 : V1.heap.size ≤ w2.heap.size := hb2.size
  have F := Lib.hid (range_below F.out hb2)
  clear hb2
  have f0 : w2.cell? ⟨w1.heap.size, 0, none⟩ = some (.int .i64 v0n) := F.out 0 _ rfl
  have f1 : w2.cell? ⟨w1.heap.size, 1, none⟩ = some (.int .i64 v0d) := F.out 1 _ rfl
  have hlt : w1.heap.size < w2.heap.size := World.block_lt_of_cell? w2 _ f0
  go_wp2_with fail
  refine (eq_fraction v0n v0d v0n v0d _).mono ?_
  rintro e w3 ⟨rfl, hb3⟩
  rw [show decide (v0n = v0n ∧ v0d = v0d) = true by simp]
  have B3 := Lib.hid (bnext (balloc B2.out _) hb3)
  clear hb3 f0 f1 hlt
  go_wp2
  go_ret
  exact ⟨rfl, B3.out⟩
end Go.Proofs.Ytdhikdaegmekbab
