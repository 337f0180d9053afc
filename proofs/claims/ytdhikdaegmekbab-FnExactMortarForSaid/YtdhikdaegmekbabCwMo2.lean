/-
  The walk of the law on MortarFor.
-/
import Derived.Test.YtdhikdaegmekbabQf
import Derived.Test.YtdhikdaegmekbabIntX
import Derived.Deep.RegionWith
namespace Go.Proofs.Ytdhikdaegmekbab
open Go.ChangeShapes Go.WideShapes Go.ChangeAt Go.RowKit Go.Joins

set_option maxRecDepth 100000 in
set_option maxHeartbeats 12800000 in
theorem walk_FnExactMortarFor (a0 b0 c0 d0 : Int) (x1 : Int) (_wx1 : (Lit.int .i64 x1).wf = true) (w : World)  :
    Calls Try.prog 9 #[.agg #[.int .i64 a0, .int .i64 b0, .int .i64 c0, .int .i64 d0], .int .i64 x1] w fun e w' => e = .returned (.bool true) ∧ Below w.heap.size w w' := by
  have kx0 := range_new w #[.int .i64 a0, .int .i64 b0, .int .i64 c0, .int .i64 d0] 39
  have E0 := Lib.hid (balloc (Below.refl w.heap.size w) (.cells #[.int .i64 a0, .int .i64 b0, .int .i64 c0, .int .i64 d0] 39))
  obtain ⟨U0, hU0⟩ : ∃ U0, World.alloc w (.cells #[.int .i64 a0, .int .i64 b0, .int .i64 c0, .int .i64 d0] 39) = U0 := ⟨_, rfl⟩
  rw [hU0] at kx0 E0
  have E0 : Hid (Below w.heap.size w U0) := E0.out
  have HU0 := Lib.hid hU0
  clear hU0
  have kb0 : w.heap.size < U0.heap.size := by have := World.block_lt_of_cell? U0 _ (kx0 0 _ rfl); exact this
  have K0 : Hid (∀ wx, Below U0.heap.size U0 wx → wx.cell? ⟨w.heap.size, 0, none⟩ = some (.int .i64 a0) ∧ wx.cell? ⟨w.heap.size, 1, none⟩ = some (.int .i64 b0) ∧ wx.cell? ⟨w.heap.size, 2, none⟩ = some (.int .i64 c0) ∧ wx.cell? ⟨w.heap.size, 3, none⟩ = some (.int .i64 d0)) := fun wx hx => by
    have h := range_below kx0 hx
    exact ⟨h 0 _ rfl, h 1 _ rfl, h 2 _ rfl, h 3 _ rfl⟩
  clear kx0 kb0
  skip
  go_enter Try.func9, Try.ntmps9
  have S := Lib.hid (fun (wx : World) => mortar_spec a0 b0 c0 d0 x1  wx )
  have I := Lib.hid (fun (wx : World) => mortar_impl a0 b0 c0 d0 x1  wx )
  obtain ⟨v0n, hv⟩ : ∃ v : Int, morN a0 b0 c0 d0 x1 = v := ⟨_, rfl⟩
  rw [hv] at S I
  clear hv
  obtain ⟨v0d, hv⟩ : ∃ v : Int, morD a0 b0 c0 d0 x1 = v := ⟨_, rfl⟩
  rw [hv] at S I
  clear hv
  obtain ⟨v1, hv⟩ : ∃ v : Int, codeOf a0 b0 c0 d0 x1 0 1000000 = v := ⟨_, rfl⟩
  rw [hv] at S I
  clear hv
  obtain ⟨k00, k01, k02, k03⟩ := K0.out _ (Below.refl _ _)
  go_wp2_with fail
  try rw [HU0.out]
  try go_wp2_with fail
  refine (to_format a0 b0 c0 d0 _).mono ?_
  rintro e w1 ⟨rfl, hb1⟩
  have B1 := Lib.hid hb1
  have z1 : U0.heap.size ≤ w1.heap.size := hb1.size
  clear hb1 k00 k01 k02 k03
  go_wp2_with fail
  refine (S.out _).mono ?_
  rintro e w2 ⟨rfl, hb2⟩
  have B2 := Lib.hid (bnext B1.out hb2)
  have z2 : w1.heap.size ≤ w2.heap.size := hb2.size
  clear hb2
  have F := Lib.hid (range_new w2 #[.int .i64 v0n, .int .i64 v0d] 26)
  have BP2 := B2
  have bx2 := balloc0 w2 (.cells #[.int .i64 v0n, .int .i64 v0d] 26)
  have B2 := Lib.hid (bnext B2.out bx2)
  obtain ⟨V2, hV2⟩ : ∃ V2, w2.alloc (.cells #[.int .i64 v0n, .int .i64 v0d] 26) = V2 := ⟨_, rfl⟩
  have vz2 : w2.heap.size < V2.heap.size := by rw [← hV2]; simp
  rw [hV2] at B2 F 
  have HV2 := Lib.hid hV2
  clear hV2 bx2
  obtain ⟨k00, k01, k02, k03⟩ := K0.out _ BP2.out
  have kz0 := World.block_lt_of_cell? w2 _ k00
  go_wp2_with fail
  rw [HV2.out]
  refine (to_format a0 b0 c0 d0 _).mono ?_
  rintro e w3 ⟨rfl, hb3⟩
  have B3 := Lib.hid (bnext B2.out hb3)
  have z3 : V2.heap.size ≤ w3.heap.size := hb3.size
  have F := Lib.hid (range_below F.out hb3)
  clear hb3 k00 k01 k02 k03 kz0
  go_wp2_with fail
  refine (I.out _).mono ?_
  rintro e w4 ⟨rfl, hb4⟩
  have B4 := Lib.hid (bnext B3.out hb4)
  have z4 : w3.heap.size ≤ w4.heap.size := hb4.size
  have F := Lib.hid (range_below F.out hb4)
  clear hb4
  have f0 : w4.cell? ⟨w2.heap.size, 0, none⟩ = some (.int .i64 v0n) := F.out 0 _ rfl
  have f1 : w4.cell? ⟨w2.heap.size, 1, none⟩ = some (.int .i64 v0d) := F.out 1 _ rfl
  have hlt : w2.heap.size < w4.heap.size := World.block_lt_of_cell? w4 _ f0
  go_wp2_with fail
  refine (eq_fraction v0n v0d v0n v0d _).mono ?_
  rintro e w5 ⟨rfl, hb5⟩
  rw [show decide (v0n = v0n ∧ v0d = v0d) = true by simp]
  have B5 := Lib.hid (bnext (balloc B4.out _) hb5)
  clear hb5 f0 f1 hlt
  go_wp2
  go_ret
  exact ⟨rfl, bnext E0.out B5.out⟩
end Go.Proofs.Ytdhikdaegmekbab
