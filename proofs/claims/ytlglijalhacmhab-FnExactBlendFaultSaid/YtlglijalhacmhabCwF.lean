/-
  The walk of the law on BlendFault.
-/
import Derived.Test.YtlglijalhacmhabFaultW
import Derived.Test.YtlglijalhacmhabPartsA
import Derived.Test.YtlglijalhacmhabCwV
namespace Go.Proofs.Ytlglijalhacmhab
open Go.ChangeShapes Go.WideShapes Go.ChangeAt Go.RowKit Go.Joins

theorem to_limits (x : Li) (w : World) : Calls Try.prog 24 #[.agg #[.int .i64 x.lo, .int .i64 x.hi, .int .i64 x.ml, .int .i64 x.ms]] w fun e w' => e = .returned (.agg #[.int .i64 x.lo, .int .i64 x.hi, .int .i64 x.ml, .int .i64 x.ms]) ∧ Below w.heap.size w w' := by
  go_enter Try.func24, Try.ntmps24
  go_wp2
  refine bodyPost_ret (v := .agg #[.int .i64 x.lo, .int .i64 x.hi, .int .i64 x.ml, .int .i64 x.ms]) (by simp [results, Try.results24, go_sem]) rfl ⟨rfl, ?_⟩
  exact (((Below.refl _ _).alloc (Nat.le_refl _) _).alloc (by simp) _).alloc (by simp; omega) _
theorem cells4 {w : World} {b : Nat} {x : Li} (h : w.rangeAt b 0 x.vals) : w.cell? ⟨b, 0, none⟩ = some (.int .i64 x.lo) ∧ w.cell? ⟨b, 1, none⟩ = some (.int .i64 x.hi) ∧ w.cell? ⟨b, 2, none⟩ = some (.int .i64 x.ml) ∧ w.cell? ⟨b, 3, none⟩ = some (.int .i64 x.ms) :=
  ⟨h 0 _ rfl, h 1 _ rfl, h 2 _ rfl, h 3 _ rfl⟩
theorem faultE_pair (L : List Cl) (P : List Int) (x : Li) : ∃ s c, faultE L P x = .returned (.tuple #[.string s, .int .i64 c]) := by
  unfold faultE
  split
  · exact ⟨_, _, rfl⟩
  · exact ⟨_, _, rfl⟩

set_option maxRecDepth 100000 in
set_option maxHeartbeats 6400000 in
theorem walk_FnExactBlendFault (L : List Cl) (a : Option Addr) (cap : Nat) (hl : L.length ≤ maxLen) (hs : NamesLe maxLen L) (P : List Int) (a' : Option Addr) (cap' : Nat) (_hl' : P.length ≤ maxLen) (x0 x1 x2 x3 : Int) (w : World) (ha : ClArg w a L) (ha' : IntArg w a' P) :
    Calls Try.prog 6 #[.slice a L.length cap, .slice a' P.length cap', .agg #[.int .i64 x0, .int .i64 x1, .int .i64 x2, .int .i64 x3]] w fun e w' => e = .returned (.bool true) ∧ Below w.heap.size w w' := by
  obtain ⟨x, hx0, hx1, hx2, hx3⟩ : ∃ x : Li, x0 = x.lo ∧ x1 = x.hi ∧ x2 = x.ml ∧ x3 = x.ms := ⟨⟨x0, x1, x2, x3⟩, rfl, rfl, rfl, rfl⟩
  rw [hx0, hx1, hx2, hx3]
  clear hx0 hx1 hx2 hx3
  have RX0 := range_new w #[.int .i64 x.lo, .int .i64 x.hi, .int .i64 x.ml, .int .i64 x.ms] 37
  have B0 : Hid (Below w.heap.size w (w.alloc (.cells #[.int .i64 x.lo, .int .i64 x.hi, .int .i64 x.ml, .int .i64 x.ms] 37))) := balloc0 _ _
  have HA := Lib.hid (ha.later B0.out)
  have HA' := Lib.hid (ha'.later B0.out)
  obtain ⟨W0, hW0⟩ : ∃ W0, w.alloc (.cells #[.int .i64 x.lo, .int .i64 x.hi, .int .i64 x.ml, .int .i64 x.ms] 37) = W0 := ⟨_, rfl⟩
  rw [hW0] at RX0 B0 HA HA'
  have RX : Hid (∀ wx, Below W0.heap.size W0 wx → wx.rangeAt w.heap.size 0 x.vals) := fun wx h => range_below RX0 h
  have HW := Lib.hid hW0
  have Z := Lib.hid (sz_clays L a cap 1048576 (by omega) (by omega) hl hs W0 HA.out)
  clear hW0 RX0 hs ha ha' hl
  by_cases hp : (1048576 : Int) < (P.length : Int)
  · go_enter Try.func6, Try.ntmps6
    go_wp2
    go_ret
    exact ⟨rfl, balloc0 _ _⟩
  have hP : P.length ≤ 1048576 := by omega
  go_enter Try.func6, Try.ntmps6
  go_wp2_with fail
  rw [HW.out]
  refine Z.out.mono ?_
  rintro e w1 ⟨r, rfl, r0, r1, r2, hb1⟩
  have H1 := Lib.hid hb1
  have R2 := Lib.hid r2
  clear hb1 r2
  by_cases hr : r < 0
  · go_wp2
    go_ret
    exact ⟨rfl, B0.out.trans (H1.out.mono B0.out.size)⟩
  have hL := (R2.out (by omega)).1
  obtain ⟨s, c, hE⟩ := faultE_pair L P x
  have S := Lib.hid (fun g cp g' cp' wx (h : ClArg wx g L) (h' : IntArg wx g' P) => top_spec_fault L g cp hL P g' cp' hP x wx h h')
  have I := Lib.hid (fun g cp g' cp' wx (h : ClArg wx g L) (h' : IntArg wx g' P) => top_impl_fault L g cp hL P g' cp' hP x wx h h')
  rw [hE] at S I
  clear hE
  obtain ⟨d0, d1, d2, d3⟩ := cells4 (RX.out _ H1.out)
  go_wp2_with fail
  go_region_with (first | (go_at_call 13; refine (to_clays L a cap hL _ (HA.out.later H1.out.drew)).mono ?_; rintro e w2 ⟨g2, rfl, o2, hb2⟩; have H2 := Lib.hid (bnext H1.out.drew hb2); have O2 := Lib.hid o2.arg; clear hb2 o2; obtain ⟨d0, d1, d2, d3⟩ := cells4 (RX.out _ H2.out)) | (go_at_call 14; refine (to_ints P a' cap' hP _ (HA'.out.later H2.out)).mono ?_; rintro e w3 ⟨g3, rfl, o3, hb3⟩; have H3 := Lib.hid (bnext H2.out hb3); have O2 := Lib.hid (O2.out.later hb3); have O3 := Lib.hid o3.arg; clear hb3 o3; obtain ⟨d0, d1, d2, d3⟩ := cells4 (RX.out _ H3.out)) | (go_at_call 24; refine (to_limits x _).mono ?_; rintro e w4 ⟨rfl, hb4⟩; have H4 := Lib.hid (bnext H3.out hb4); have O2 := Lib.hid (O2.out.later hb4); have O3 := Lib.hid (O3.out.later hb4); clear hb4) | (go_at_call 23; refine (S.out _ _ _ _ _ O2.out O3.out).mono ?_; rintro e w5 ⟨rfl, hb5⟩; have H5 := Lib.hid (bnext H4.out hb5); clear hb5))
  all_goals
    clear d0 d1 d2 d3
    go_wp2_with fail
    refine (to_clays L a cap hL _ (HA.out.later H5.out)).mono ?_
    rintro e w6 ⟨g6, rfl, o6, hb6⟩
    have H6 := Lib.hid (bnext H5.out hb6)
    have O6 := Lib.hid o6.arg
    clear hb6 o6
    go_wp2_with fail
    refine (to_ints P a' cap' hP _ (HA'.out.later H6.out)).mono ?_
    rintro e w7 ⟨g7, rfl, o7, hb7⟩
    have H7 := Lib.hid (bnext H6.out hb7)
    have O6 := Lib.hid (O6.out.later hb7)
    have O7 := Lib.hid o7.arg
    clear hb7 o7
    obtain ⟨d0, d1, d2, d3⟩ := cells4 (RX.out _ H7.out)
    go_wp2_with fail
    refine (to_limits x _).mono ?_
    rintro e w8 ⟨rfl, hb8⟩
    have H8 := Lib.hid (bnext H7.out hb8)
    have O6 := Lib.hid (O6.out.later hb8)
    have O7 := Lib.hid (O7.out.later hb8)
    clear hb8 d0 d1 d2 d3
    go_wp2_with fail
    refine (I.out _ _ _ _ _ O6.out O7.out).mono ?_
    rintro e w9 ⟨rfl, hb9⟩
    have H9 := Lib.hid (bnext H8.out hb9)
    have O6 := Lib.hid (O6.out.later hb9)
    have O7 := Lib.hid (O7.out.later hb9)
    clear hb9
    go_wp2_with fail
    refine (to_clays L a cap hL _ (HA.out.later H9.out)).mono ?_
    rintro e w10 ⟨g10, rfl, o10, hb10⟩
    have H10 := Lib.hid (bnext H9.out hb10)
    have O6 := Lib.hid (O6.out.later hb10)
    have O7 := Lib.hid (O7.out.later hb10)
    have O10 := Lib.hid o10.arg
    clear hb10 o10
    go_wp2_with fail
    refine (eq_clays L _ _ _ _ (by omega) _ O6.out O10.out).mono ?_
    rintro e w11 ⟨rfl, hb11⟩
    have H11 := Lib.hid (bnext H10.out hb11)
    have O7 := Lib.hid (O7.out.later hb11)
    clear hb11
    go_wp2_with fail
    refine (to_ints P a' cap' hP _ (HA'.out.later H11.out)).mono ?_
    rintro e w12 ⟨g12, rfl, o12, hb12⟩
    have H12 := Lib.hid (bnext H11.out hb12)
    have O7 := Lib.hid (O7.out.later hb12)
    have O12 := Lib.hid o12.arg
    clear hb12 o12
    go_wp2_with fail
    refine (eq_ints P _ _ _ _ (by omega) _ O7.out O12.out).mono ?_
    rintro e w13 ⟨rfl, hb13⟩
    have H13 := Lib.hid (bnext H12.out hb13)
    clear hb13
    go_wp2
    go_ret
    exact ⟨rfl, B0.out.trans (H13.out.mono B0.out.size)⟩
end Go.Proofs.Ytlglijalhacmhab
