/-
  The walk of the law on BlendPrice.
-/
import Derived.Test.YtlglijalhacmhabMeanI
import Derived.Test.YtlglijalhacmhabPartsA
import Derived.Test.YtlglijalhacmhabCwV
namespace Go.Proofs.Ytlglijalhacmhab
open Go.ChangeShapes Go.WideShapes Go.ChangeAt Go.RowKit Go.Joins

set_option maxRecDepth 100000 in
set_option maxHeartbeats 3200000 in
theorem walk_FnExactBlendPrice (L : List Cl) (a : Option Addr) (cap : Nat) (hl : L.length ≤ maxLen) (hs : NamesLe maxLen L) (P : List Int) (a' : Option Addr) (cap' : Nat) (_hl' : P.length ≤ maxLen) (w : World) (ha : ClArg w a L) (ha' : IntArg w a' P) :
    Calls Try.prog 5 #[.slice a L.length cap, .slice a' P.length cap'] w fun e w' => e = .returned (.bool true) ∧ Below w.heap.size w w' := by
  by_cases hp : (1048576 : Int) < (P.length : Int)
  · clear ha ha' hl hs
    go_enter Try.func5, Try.ntmps5
    go_wp2
    go_ret
    exact ⟨rfl, Below.refl _ _⟩
  have hP : P.length ≤ 1048576 := by omega
  have Z := Lib.hid (sz_clays L a cap 1048576 (by omega) (by omega) hl hs w ha)
  have HA := Lib.hid ha
  have HA' := Lib.hid ha'
  clear hs ha ha' hl
  go_enter Try.func5, Try.ntmps5
  go_wp2_with fail
  refine Z.out.mono ?_
  rintro e w1 ⟨r, rfl, r0, r1, r2, hb1⟩
  have B1 := Lib.hid hb1
  have R2 := Lib.hid r2
  clear hb1 r2
  by_cases hr : r < 0
  · go_wp2
    go_ret
    exact ⟨rfl, B1.out⟩
  have hL := (R2.out (by omega)).1
  obtain ⟨n, d, c, hE⟩ := meanE_frac_price L P
  have S := Lib.hid (fun g cp g' cp' wx (h : ClArg wx g L) (h' : IntArg wx g' P) => top_spec_price L g cp hL P g' cp' hP wx h h')
  have I := Lib.hid (fun g cp g' cp' wx (h : ClArg wx g L) (h' : IntArg wx g' P) => top_impl_price L g cp hL P g' cp' hP wx h h')
  rw [hE] at S I
  clear hE
  go_wp2_with fail
  refine (to_clays L a cap hL _ (HA.out.later B1.out)).mono ?_
  rintro e w2 ⟨g2, rfl, o2, hb2⟩
  have B2 := Lib.hid (bnext B1.out hb2)
  have O2 := Lib.hid o2.arg
  clear hb2 o2
  go_wp2_with fail
  refine (to_ints P a' cap' hP _ (HA'.out.later B2.out)).mono ?_
  rintro e w3 ⟨g3, rfl, o3, hb3⟩
  have B3 := Lib.hid (bnext B2.out hb3)
  have O2 := Lib.hid (O2.out.later hb3)
  have O3 := Lib.hid o3.arg
  clear hb3 o3
  go_wp2_with fail
  refine (S.out _ _ _ _ _ O2.out O3.out).mono ?_
  rintro e w4 ⟨rfl, hb4⟩
  have B4 := Lib.hid (balloc (bnext B3.out hb4) (.cells #[.int .i64 n, .int .i64 d] 26))
  have F4 := Lib.hid (range_new w4 #[.int .i64 n, .int .i64 d] 26)
  clear hb4
  obtain ⟨W4, hW4⟩ : ∃ W4, w4.alloc (.cells #[.int .i64 n, .int .i64 d] 26) = W4 := ⟨_, rfl⟩
  rw [hW4] at B4 F4
  have HW4 := Lib.hid hW4
  clear hW4
  go_wp2_with fail
  rw [HW4.out]
  refine (to_clays L a cap hL _ (HA.out.later B4.out)).mono ?_
  rintro e w5 ⟨g5, rfl, o5, hb5⟩
  have B5 := Lib.hid (bnext B4.out hb5)
  have F5 := Lib.hid (range_below F4.out hb5)
  have O5 := Lib.hid o5.arg
  clear hb5 o5
  go_wp2_with fail
  refine (to_ints P a' cap' hP _ (HA'.out.later B5.out)).mono ?_
  rintro e w6 ⟨g6, rfl, o6, hb6⟩
  have B6 := Lib.hid (bnext B5.out hb6)
  have F6 := Lib.hid (range_below F5.out hb6)
  have O5 := Lib.hid (O5.out.later hb6)
  have O6 := Lib.hid o6.arg
  clear hb6 o6
  go_wp2_with fail
  refine (I.out _ _ _ _ _ O5.out O6.out).mono ?_
  rintro e w7 ⟨rfl, hb7⟩
  have B7 := Lib.hid (bnext B6.out hb7)
  have f7 := range_below F6.out hb7
  have f70 : w7.cell? ⟨w4.heap.size, 0, none⟩ = some (.int .i64 n) := f7 0 _ rfl
  have f71 : w7.cell? ⟨w4.heap.size, 1, none⟩ = some (.int .i64 d) := f7 1 _ rfl
  have hlt : w4.heap.size < w7.heap.size := World.block_lt_of_cell? w7 _ f70
  have O5 := Lib.hid (O5.out.later hb7)
  have O6 := Lib.hid (O6.out.later hb7)
  clear hb7 f7
  go_wp2_with fail
  refine (eq_fraction n d n d _).mono ?_
  rintro e w8 ⟨rfl, hb8⟩
  have ht : decide (n = n ∧ d = d) = true := by simp
  rw [ht]
  have B8 := Lib.hid (bnext (balloc B7.out _) hb8)
  have O5 := Lib.hid ((O5.out.later (balloc0 _ _)).later hb8)
  have O6 := Lib.hid ((O6.out.later (balloc0 _ _)).later hb8)
  clear hb8 ht f70 f71
  go_wp2_with fail
  refine (to_clays L a cap hL _ (HA.out.later B8.out)).mono ?_
  rintro e w9 ⟨g9, rfl, o9, hb9⟩
  have B9 := Lib.hid (bnext B8.out hb9)
  have O5 := Lib.hid (O5.out.later hb9)
  have O6 := Lib.hid (O6.out.later hb9)
  have O9 := Lib.hid o9.arg
  clear hb9 o9
  go_wp2_with fail
  refine (eq_clays L _ _ _ _ (by omega) _ O5.out O9.out).mono ?_
  rintro e w10 ⟨rfl, hb10⟩
  have B10 := Lib.hid (bnext B9.out hb10)
  have O6 := Lib.hid (O6.out.later hb10)
  clear hb10
  go_wp2_with fail
  refine (to_ints P a' cap' hP _ (HA'.out.later B10.out)).mono ?_
  rintro e w11 ⟨g11, rfl, o11, hb11⟩
  have B11 := Lib.hid (bnext B10.out hb11)
  have O6 := Lib.hid (O6.out.later hb11)
  have O11 := Lib.hid o11.arg
  clear hb11 o11
  go_wp2_with fail
  refine (eq_ints P _ _ _ _ (by omega) _ O6.out O11.out).mono ?_
  rintro e w12 ⟨rfl, hb12⟩
  have B12 := Lib.hid (bnext B11.out hb12)
  clear hb12
  go_wp2
  go_ret
  exact ⟨rfl, B12.out⟩
end Go.Proofs.Ytlglijalhacmhab
