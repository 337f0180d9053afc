/-
  The walk of the law on WallOf.
-/
import Derived.Test.YtllcpgogfhjfpaaDoorWoI
import Derived.Test.YtllcpgogfhjfpaaDoorCwPO
namespace Go.Proofs.YtllcpgogfhjfpaaDoor
open Go.ChangeShapes Go.WideShapes Go.ChangeAt Go.RowKit Go.Joins

set_option maxRecDepth 100000 in
set_option maxHeartbeats 12800000 in
theorem walk_FnExactWallOf (l : ByteArray) (_wl : l.size ≤ maxLen) (h : ByteArray) (_wh : h.size ≤ maxLen) (x1 : Int) (_wf1 : (Lit.int .i64 x1).wf = true) (w : World) :
    Calls Tryd.prog 8 #[.string l, .string h, .int .i64 x1] w fun e w' => e = .returned (.bool true) ∧ Below w.heap.size w w' := by
  by_cases hl : (1048576 : Int) < (l.size : Int)
  · go_enter Tryd.func8, Tryd.ntmps8
    go_wp2_with fail
    go_ret
    exact ⟨rfl, Below.refl _ _⟩
  by_cases hh : (1048576 : Int) < (h.size : Int)
  · go_enter Tryd.func8, Tryd.ntmps8
    go_wp2_with fail
    go_ret
    exact ⟨rfl, Below.refl _ _⟩
  have S := Lib.hid (fun wx => wallOf_spec l h (by omega) (by omega) x1 wx)
  have I := Lib.hid (fun wx => wallOf_impl l h (by omega) (by omega) x1 wx)
  unfold WoAns at S I
  have hQ := woV_length l h x1
  obtain ⟨Q, hQe⟩ : ∃ Q, woV l h x1 = Q := ⟨_, rfl⟩
  obtain ⟨c, hce⟩ : ∃ c, woC l h x1 = c := ⟨_, rfl⟩
  rw [hQe, hce] at S I
  rw [hQe] at hQ
  clear hQe hce
  go_enter Tryd.func8, Tryd.ntmps8
  go_wp2_with fail
  refine (S.out _).mono ?_
  rintro e w3 ⟨a3, c3, rfl, o3, hb3⟩
  have B3 := Lib.hid hb3
  have M := Lib.hid (LowStr.of o3)
  clear hb3 o3
  go_wp2_with fail
  refine (I.out _).mono ?_
  rintro e w5 ⟨a5, c5, rfl, o5, hb5⟩
  have z5 : w3.heap.size ≤ w5.heap.size := hb5.size
  have B5 := Lib.hid (bnext B3.out hb5)
  have M5 := Lib.hid (M.out.later hb5)
  have G5 := Lib.hid o5
  clear hb5 o5
  go_wp2_with fail
  refine (eq_strs Q a5 a3 c5 c3 (by omega) _ G5.out.arg M5.out.arg).mono ?_
  rintro e w6 ⟨rfl, hb6⟩
  have z6 : w5.heap.size ≤ w6.heap.size := hb6.size
  have B6 := Lib.hid (bnext B5.out hb6)
  have M6 := Lib.hid (M5.out.later hb6)
  have G6 := Lib.hid (G5.out.later hb6)
  clear hb6
  go_wp2_with fail
  refine (mark_sres Q (by omega) 1 (by omega) (by omega) w3.heap.size c5 a5 _ (by omega) G6.out).mono ?_
  rintro e w11 ⟨rfl, hb11, m11⟩
  have z11 : w6.heap.size ≤ w11.heap.size := hb11.size
  have z3 : w.heap.size ≤ w3.heap.size := B3.out.size
  have B11 := Lib.hid (B6.out.trans (hb11.mono (by omega)))
  have M11 := Lib.hid (M6.out.below hb11 (by omega))
  have G11 := Lib.hid m11
  clear hb11 m11
  obtain ⟨q, hq⟩ : ∃ q : Int, ((1 + Q.length : Nat) : Int) = q := ⟨_, rfl⟩
  have hq0 : ¬ q < 0 := by omega
  have HQ := Lib.hid hq
  rw [hq]
  clear hq
  go_wp2_with fail
  refine (held_sres Q.length (by omega) 1 (by omega) (by omega) c5 a5 _ _ G11.out).mono ?_
  rintro e w12 ⟨rfl, hb12⟩
  rw [HQ.out]
  have B12 := Lib.hid (bnext B11.out hb12)
  have M12 := Lib.hid (M11.out.later hb12)
  have G12 := Lib.hid (G11.out.later hb12)
  clear hb12
  go_wp2_with fail
  refine (I.out _).mono ?_
  rintro e w14 ⟨a14, c14, rfl, o14, hb14⟩
  have B14 := Lib.hid (bnext B12.out hb14)
  have M14 := Lib.hid (M12.out.later hb14)
  have G14 := Lib.hid (G12.out.later hb14)
  have R14 := Lib.hid o14.arg
  clear hb14 o14
  go_wp2_with fail
  refine (eq_strs Q a14 a3 c14 c3 (by omega) _ R14.out M14.out.arg).mono ?_
  rintro e w15 ⟨rfl, hb15⟩
  have B15 := Lib.hid (bnext B14.out hb15)
  have G15 := Lib.hid (G14.out.later hb15)
  clear hb15
  go_wp2_with fail
  refine (held_sres Q.length (by omega) 1 (by omega) (by omega) c5 a5 _ _ G15.out).mono ?_
  rintro e w16 ⟨rfl, hb16⟩
  rw [HQ.out]
  have B16 := Lib.hid (bnext B15.out hb16)
  clear hb16
  go_wp2
  go_ret
  exact ⟨rfl, B16.out⟩
end Go.Proofs.YtllcpgogfhjfpaaDoor
