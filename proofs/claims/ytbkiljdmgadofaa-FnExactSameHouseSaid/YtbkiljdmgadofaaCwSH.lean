/-
  The walk of the law on SameHouse.
-/
import Derived.Test.YtbkiljdmgadofaaHoLP
import Derived.Test.YtbkiljdmgadofaaHoE
namespace Go.Proofs.Ytbkiljdmgadofaa
open Go.ChangeShapes Go.WideShapes Go.ChangeAt Go.RowKit Go.Joins

set_option maxRecDepth 100000 in
set_option maxHeartbeats 400000000 in
theorem walk_FnExactSameHouse (L : List Int) (n : ByteArray) (a : Option Addr) (cap : Nat) (hn : n.size ≤ maxLen) (hl : L.length ≤ maxLen) (M : List Int) (m : ByteArray) (a' : Option Addr) (cap' : Nat) (hn' : m.size ≤ maxLen) (hl' : M.length ≤ maxLen) (w : World) (ha : IntArg w a L) (ha' : IntArg w a' M) :
    Calls Try.prog 3 #[.agg #[.slice a L.length cap, .string n], .agg #[.slice a' M.length cap', .string m]] w fun e w' => e = .returned (.bool true) ∧ Below w.heap.size w w' := by
  obtain ⟨q0, q1⟩ := boxH w (.slice a L.length cap) n 24
  obtain ⟨p0, p1⟩ := boxH (w.alloc (.cells #[.slice a L.length cap, .string n] 24)) (.slice a' M.length cap') m 24
  have q0' := (World.cell?_alloc_lt (w.alloc (.cells #[.slice a L.length cap, .string n] 24)) (.cells #[.slice a' M.length cap', .string m] 24) ⟨w.heap.size, 0, none⟩ (by simp)).trans q0
  have q1' := (World.cell?_alloc_lt (w.alloc (.cells #[.slice a L.length cap, .string n] 24)) (.cells #[.slice a' M.length cap', .string m] 24) ⟨w.heap.size, 1, none⟩ (by simp)).trans q1
  obtain ⟨W0, hW⟩ : ∃ W0, (w.alloc (.cells #[.slice a L.length cap, .string n] 24)).alloc (.cells #[.slice a' M.length cap', .string m] 24) = W0 := ⟨_, rfl⟩
  have hsz : (w.alloc (.cells #[.slice a L.length cap, .string n] 24)).heap.size = w.heap.size + 1 := by simp
  rw [hsz] at p0 p1
  rw [hW] at p0 p1 q0' q1'
  have E0 : Hid (Below w.heap.size w W0) := by show Below w.heap.size w W0; rw [← hW]; exact balloc (balloc0 _ _) _
  have K : Hid (∀ wx, Below W0.heap.size W0 wx → (wx.cell? ⟨w.heap.size, 0, none⟩ = some (.slice a L.length cap) ∧ wx.cell? ⟨w.heap.size, 1, none⟩ = some (.string n)) ∧ wx.cell? ⟨w.heap.size + 1, 0, none⟩ = some (.slice a' M.length cap') ∧ wx.cell? ⟨w.heap.size + 1, 1, none⟩ = some (.string m)) := fun wx hx =>
    ⟨⟨(hx.cell (World.block_lt_of_cell? W0 _ q0')).trans q0', (hx.cell (World.block_lt_of_cell? W0 _ q1')).trans q1'⟩, (hx.cell (World.block_lt_of_cell? W0 _ p0)).trans p0, (hx.cell (World.block_lt_of_cell? W0 _ p1)).trans p1⟩
  have HW := Lib.hid hW
  have ha := ha.later E0.out
  have ha' := ha'.later E0.out
  have Z := Lib.hid (sz_house L n a cap 1048576 (by omega) (by omega) hn hl W0)
  have Z' := Lib.hid (fun left h0 h1 wx (_ : Below W0.heap.size W0 wx) => sz_house M m a' cap' left h0 h1 hn' hl' wx)
  have HA := Lib.hid ha
  have HB := Lib.hid ha'
  clear ha ha' hl hl' hn hn' hW hsz q0 q1 q0' q1' p0 p1
  go_enter Try.func3, Try.ntmps3
  go_wp2_with fail
  rw [HW.out]
  refine Z.out.mono ?_
  rintro e w1 ⟨r, rfl, r0, r1, r2, hb1⟩
  have B1 := Lib.hid hb1
  have R2 := Lib.hid r2
  clear hb1 r2
  by_cases hr : r < 0
  · go_wp2
    go_ret
    exact ⟨rfl, bnext E0.out B1.out⟩
  obtain ⟨_, hL⟩ := R2.out (by omega)
  obtain ⟨⟨j0, j1⟩, k0, k1⟩ := K.out _ B1.out
  go_wp2_with fail
  refine (Z'.out r (by omega) (by omega) _ B1.out).mono ?_
  rintro e w2 ⟨q, rfl, q0, q1, q2, hb2⟩
  have B2 := Lib.hid (bnext B1.out hb2)
  have Q2 := Lib.hid q2
  clear hb2 q2 j0 j1 k0 k1
  by_cases hq : q < 0
  · go_wp2
    go_ret
    exact ⟨rfl, bnext E0.out B2.out⟩
  obtain ⟨_, hM⟩ := Q2.out (by omega)
  have S := Lib.hid (fun g cp g' cp' wx (h : IntArg wx g L) (h' : IntArg wx g' M) => sameHouse_spec L M n m g g' cp cp' hL hM wx h h')
  have I := Lib.hid (fun g cp g' cp' wx (h : IntArg wx g L) (h' : IntArg wx g' M) => sameHouse_impl L M n m g g' cp cp' hL hM wx h h')
  obtain ⟨b, hb⟩ : ∃ b, sameHB L n M m = b := ⟨_, rfl⟩
  rw [hb] at S I
  clear hb
  obtain ⟨⟨j0, j1⟩, k0, k1⟩ := K.out _ B2.out.drew
  go_wp2_with fail
  go_region_with (first | (go_at_call_of 6 (Value.agg #[.slice a L.length cap, .string n]); refine (to_house L n a cap hL _ (HA.out.later B2.out.drew)).mono ?_; rintro e w3 ⟨g3, rfl, o3, hb3⟩; have B3 := Lib.hid (bnext B2.out.drew hb3); have O3 := Lib.hid o3.arg; clear hb3 o3 j0 j1 k0 k1; obtain ⟨⟨j0, j1⟩, k0, k1⟩ := K.out _ B3.out) | (go_at_call_of 6 (Value.agg #[.slice a' M.length cap', .string m]); refine (to_house M m a' cap' hM _ (HB.out.later B3.out)).mono ?_; rintro e w4 ⟨g4, rfl, o4, hb4⟩; have B4 := Lib.hid (bnext B3.out hb4); have O3 := Lib.hid (O3.out.later hb4); have O4 := Lib.hid o4.arg; clear hb4 o4) | (go_at_call 5; refine (S.out _ _ _ _ _ O3.out O4.out).mono ?_; rintro e w5 ⟨rfl, hb5⟩; have B5 := Lib.hid (bnext B4.out hb5); clear hb5))
  all_goals
    clear j0 j1 k0 k1
    obtain ⟨⟨j0, j1⟩, k0, k1⟩ := K.out _ B5.out
    go_wp2_with fail
    refine (to_house L n a cap hL _ (HA.out.later B5.out)).mono ?_
    rintro e w6 ⟨g6, rfl, o6, hb6⟩
    have B6 := Lib.hid (balloc (bnext B5.out hb6) (.cells #[.slice (some ⟨g6, 0, none⟩) L.length L.length, .string n] 27))
    have O6 := Lib.hid (o6.arg.later (balloc0 w6 (.cells #[.slice (some ⟨g6, 0, none⟩) L.length L.length, .string n] 27)))
    obtain ⟨x0, x1⟩ := boxH w6 (.slice (some ⟨g6, 0, none⟩) L.length L.length) n 27
    have z6 : w6.heap.size < (w6.alloc (.cells #[.slice (some ⟨g6, 0, none⟩) L.length L.length, .string n] 27)).heap.size := by simp
    clear hb6 o6 j0 j1 k0 k1
    obtain ⟨⟨j0, j1⟩, k0, k1⟩ := K.out _ B6.out
    go_wp2_with fail
    refine (to_house M m a' cap' hM _ (HB.out.later B6.out)).mono ?_
    rintro e w7 ⟨g7, rfl, o7, hb7⟩
    have x0' := (hb7.cell (p := ⟨w6.heap.size, 0, none⟩) z6).trans x0
    have x1' := (hb7.cell (p := ⟨w6.heap.size, 1, none⟩) z6).trans x1
    have s7 := hb7.size
    have z67 : w6.heap.size < w7.heap.size := by omega
    have B7 := Lib.hid (balloc (bnext B6.out hb7) (.cells #[.slice (some ⟨g7, 0, none⟩) M.length M.length, .string m] 27))
    have O6 := Lib.hid ((O6.out.later hb7).later (balloc0 w7 (.cells #[.slice (some ⟨g7, 0, none⟩) M.length M.length, .string m] 27)))
    have O7 := Lib.hid (o7.arg.later (balloc0 w7 (.cells #[.slice (some ⟨g7, 0, none⟩) M.length M.length, .string m] 27)))
    obtain ⟨y0, y1⟩ := boxH w7 (.slice (some ⟨g7, 0, none⟩) M.length M.length) m 27
    have X0 := (World.cell?_alloc_lt w7 (.cells #[.slice (some ⟨g7, 0, none⟩) M.length M.length, .string m] 27) ⟨w6.heap.size, 0, none⟩ z67).trans x0'
    have X1 := (World.cell?_alloc_lt w7 (.cells #[.slice (some ⟨g7, 0, none⟩) M.length M.length, .string m] 27) ⟨w6.heap.size, 1, none⟩ z67).trans x1'
    have z7 : w7.heap.size < (w7.alloc (.cells #[.slice (some ⟨g7, 0, none⟩) M.length M.length, .string m] 27)).heap.size := by simp
    have z7' : w6.heap.size < (w7.alloc (.cells #[.slice (some ⟨g7, 0, none⟩) M.length M.length, .string m] 27)).heap.size := by omega
    clear hb7 o7 j0 j1 k0 k1 x0 x1 x0' x1' s7 z6
    go_wp2_with fail
    refine (I.out _ _ _ _ _ O6.out O7.out).mono ?_
    rintro e w8 ⟨rfl, hb8⟩
    have B8 := Lib.hid (bnext B7.out hb8)
    have A6 := Lib.hid (O6.out.later hb8)
    have A7 := Lib.hid (O7.out.later hb8)
    have X : Hid (∀ wx, Below w8.heap.size w8 wx → (wx.cell? ⟨w6.heap.size, 0, none⟩ = some (.slice (some ⟨g6, 0, none⟩) L.length L.length) ∧ wx.cell? ⟨w6.heap.size, 1, none⟩ = some (.string n)) ∧ wx.cell? ⟨w7.heap.size, 0, none⟩ = some (.slice (some ⟨g7, 0, none⟩) M.length M.length) ∧ wx.cell? ⟨w7.heap.size, 1, none⟩ = some (.string m)) := by
      have e0 := (hb8.cell (p := ⟨w6.heap.size, 0, none⟩) z7').trans X0
      have e1 := (hb8.cell (p := ⟨w6.heap.size, 1, none⟩) z7').trans X1
      have f0 := (hb8.cell (p := ⟨w7.heap.size, 0, none⟩) z7).trans y0
      have f1 := (hb8.cell (p := ⟨w7.heap.size, 1, none⟩) z7).trans y1
      exact fun wx hx => ⟨⟨(hx.cell (World.block_lt_of_cell? w8 _ e0)).trans e0, (hx.cell (World.block_lt_of_cell? w8 _ e1)).trans e1⟩, (hx.cell (World.block_lt_of_cell? w8 _ f0)).trans f0, (hx.cell (World.block_lt_of_cell? w8 _ f1)).trans f1⟩
    clear hb8 X0 X1 y0 y1 z7 z7' z67
    obtain ⟨⟨j0, j1⟩, k0, k1⟩ := K.out _ B8.out.drew
    obtain ⟨⟨x0, x1⟩, y0, y1⟩ := X.out _ (Below.refl _ w8).drew
    go_wp2_with fail
    go_region_with (first | (go_at_call_of 6 (Value.agg #[.slice a L.length cap, .string n]); refine (to_house L n a cap hL _ (HA.out.later B8.out.drew)).mono ?_; rintro e w9 ⟨g9, rfl, o9, hb9⟩; have B9 := Lib.hid (bnext B8.out.drew hb9); have C9 : Hid (Below w8.heap.size w8 w9) := bnext (Below.refl _ w8).drew hb9; have O9 := Lib.hid o9.arg; clear hb9 o9 j0 j1 k0 k1 x0 x1 y0 y1; obtain ⟨⟨x0, x1⟩, y0, y1⟩ := X.out _ C9.out) | (go_at_call 8; refine (eq_house L n _ _ _ _ (by omega) _ (A6.out.later C9.out) O9.out).mono ?_; rintro e w10 ⟨rfl, hb10⟩; have B10 := Lib.hid (bnext B9.out hb10); have C10 := Lib.hid (bnext C9.out hb10); clear hb10))
    all_goals
      clear x0 x1 y0 y1
      obtain ⟨⟨j0, j1⟩, k0, k1⟩ := K.out _ B10.out.drew
      obtain ⟨⟨x0, x1⟩, y0, y1⟩ := X.out _ C10.out.drew
      go_wp2_with fail
      go_region_with (first | (go_at_call_of 6 (Value.agg #[.slice a' M.length cap', .string m]); refine (to_house M m a' cap' hM _ (HB.out.later B10.out.drew)).mono ?_; rintro e w11 ⟨g11, rfl, o11, hb11⟩; have B11 := Lib.hid (bnext B10.out.drew hb11); have C11 : Hid (Below w8.heap.size w8 w11) := bnext C10.out.drew hb11; have O11 := Lib.hid o11.arg; clear hb11 o11 j0 j1 k0 k1 x0 x1 y0 y1; obtain ⟨⟨x0, x1⟩, y0, y1⟩ := X.out _ C11.out) | (go_at_call 8; refine (eq_house M m _ _ _ _ (by omega) _ (A7.out.later C11.out) O11.out).mono ?_; rintro e w12 ⟨rfl, hb12⟩; have B12 := Lib.hid (bnext B11.out hb12); clear hb12))
      all_goals
        go_wp2
        go_ret
        exact ⟨rfl, bnext E0.out B12.out⟩
end Go.Proofs.Ytbkiljdmgadofaa
