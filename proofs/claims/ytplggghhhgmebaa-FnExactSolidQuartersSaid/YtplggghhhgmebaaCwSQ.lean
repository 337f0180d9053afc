/-
  The walk of the law on SolidQuarters.
-/
import Derived.Test.YtplggghhhgmebaaPlI
import Derived.Test.YtplggghhhgmebaaPlS
import Derived.Test.YtplggghhhgmebaaFrO
import Derived.Deep.RegionWith
namespace Go.Proofs.Ytplggghhhgmebaa
open Go.ChangeShapes Go.WideShapes Go.ChangeAt Go.RowKit Go.Joins

set_option maxRecDepth 100000 in
set_option maxHeartbeats 6400000 in
theorem walk_FnExactSolidQuarters (F C : Int) (L : List Og) (a : Option Addr) (cap : Nat) (hl : L.length ≤ maxLen) (w : World) (ha : OgArg w a L) :
    Calls Try.prog 8 #[.agg #[.int .i64 F, .int .i64 C, .slice a L.length cap]] w fun e w' => e = .returned (.bool true) ∧ Below w.heap.size w w' := by
  have d := FrBox.new w F C a cap L 24
  have E0 := Lib.hid (balloc0 w (.cells #[.int .i64 F, .int .i64 C, .slice a L.length cap] 24))
  obtain ⟨W0, hW⟩ : ∃ W0, w.alloc (.cells #[.int .i64 F, .int .i64 C, .slice a L.length cap] 24) = W0 := ⟨_, rfl⟩
  rw [hW] at d E0
  have K : Hid (∀ wx, Below W0.heap.size W0 wx → FrBox w.heap.size F C a cap L wx) := fun wx hx => d.later hx
  have E0 : Hid (Below w.heap.size w W0) := E0.out
  have HW := Lib.hid hW
  have Z := Lib.hid (sz_front F C L a cap 1048576 (by omega) (by omega) hl W0)
  have HA := Lib.hid (ha.later E0.out)
  clear ha hl hW d
  go_enter Try.func8, Try.ntmps8
  go_wp2_with fail
  rw [HW.out]
  obtain ⟨k0, k1, k2⟩ := K.out _ (Below.refl _ _)
  go_wp2_with fail
  refine Z.out.mono ?_
  rintro e w1 ⟨r, rfl, r0, r1, r2, hb1⟩
  have B1 := Lib.hid hb1
  have R2 := Lib.hid r2
  clear hb1 r2 k0 k1 k2
  by_cases hr : r < 0
  · go_wp2
    go_ret
    exact ⟨rfl, bnext E0.out B1.out⟩
  have hL := R2.out (by omega)
  have S := Lib.hid (fun g wx (h : OgArg wx g L) => solid_spec F C L g L.length hL  wx h)
  have I := Lib.hid (fun g wx (h : OgArg wx g L) => solid_impl F C L g L.length hL (Nat.le_refl _)  wx h)
  obtain ⟨b, hb⟩ : ∃ b : Int, soN F C L = b := ⟨_, rfl⟩
  rw [hb] at S I
  clear hb
  obtain ⟨c, hc⟩ : ∃ c : Int, soE F C L = c := ⟨_, rfl⟩
  rw [hc] at S I
  clear hc
  obtain ⟨k0, k1, k2⟩ := K.out _ B1.out
  go_wp2_with fail
  refine (to_front F C L a cap hL _ (HA.out.later B1.out)).mono ?_
  rintro e w2 ⟨g2, rfl, o2, hb2⟩
  have B2 := Lib.hid (bnext B1.out hb2)
  have O2 := Lib.hid o2.arg
  clear hb2 o2 k0 k1 k2
  go_wp2_with fail
  refine (S.out _ _ O2.out).mono ?_
  rintro e w3 ⟨rfl, hb3⟩
  have B3 := Lib.hid (bnext B2.out hb3)
  clear hb3
  obtain ⟨k0, k1, k2⟩ := K.out _ B3.out
  go_wp2_with fail
  refine (to_front F C L a cap hL _ (HA.out.later B3.out)).mono ?_
  rintro e w4 ⟨g4, rfl, o4, hb4⟩
  have B4 := Lib.hid (bnext B3.out hb4)
  have O4 := Lib.hid o4.arg
  have z4 := hb4
  clear hb4 o4 k0 k1 k2
  go_wp2_with fail
  refine (I.out _ _ (O4.out.later (balloc0 _ _))).mono ?_
  rintro e w5 ⟨rfl, hb5⟩
  have B5 := Lib.hid (bnext (balloc B4.out _) hb5)
  have A5 := Lib.hid ((O4.out.later (balloc0 _ _)).later hb5)
  have X5 := Lib.hid ((FrBox.new w4 F C (some ⟨g4, 0, none⟩) L.length L 29).later hb5)
  clear hb5
  have z5 : w4.heap.size < w5.heap.size := X5.out.lt
  obtain ⟨k0, k1, k2⟩ := K.out _ B5.out.drew
  obtain ⟨y0, y1, y2⟩ := X5.out.drew
  go_wp2_with fail
  go_region_with (first | (go_at_call 15; refine (to_front F C L a cap hL _ (HA.out.later B5.out.drew)).mono ?_; rintro e w6 ⟨g6, rfl, o6, hb6⟩; have B6 := Lib.hid (bnext B5.out.drew hb6); have A6 := Lib.hid (OgArg.later (w := w5.drew) A5.out hb6); have O6 := Lib.hid o6.arg; obtain ⟨v0, v1, v2⟩ := FrBox.later (w := w5.drew) X5.out hb6; clear hb6 o6) | (go_at_call 17; refine (eq_front F C L _ _ _ _ (by omega) _ A6.out O6.out).mono ?_; rintro e w7 ⟨rfl, hb7⟩; have B7 := Lib.hid (bnext B6.out hb7); clear hb7))
  all_goals
    go_wp2
    go_ret
    exact ⟨rfl, bnext E0.out B7.out⟩
end Go.Proofs.Ytplggghhhgmebaa
