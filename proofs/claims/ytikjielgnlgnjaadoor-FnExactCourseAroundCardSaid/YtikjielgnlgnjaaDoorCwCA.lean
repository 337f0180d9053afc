/-
  The walk of the law on CourseAround.
-/
import Derived.Test.YtikjielgnlgnjaaDoorHoK
import Derived.Test.YtikjielgnlgnjaaDoorHoD
import Derived.Test.YtikjielgnlgnjaaDoorCwPOh
namespace Go.Proofs.YtikjielgnlgnjaaDoor
open Go.ChangeShapes Go.WideShapes Go.ChangeAt Go.RowKit Go.Joins

set_option maxRecDepth 100000 in
set_option maxHeartbeats 12800000 in
theorem walk_FnExactCourseAround (P : List Int) (T : ByteArray) (a : Option Addr) (cap : Nat) (hn : T.size ≤ maxLen) (hl : P.length ≤ maxLen) (x0 : Int) (_wf0 : (Lit.int .i64 x0).wf = true) (w : World) (ha : IntArg w a P) (hf0 : DirAt w) :
    Calls Tryd.prog 7 #[.agg #[.slice a P.length cap, .string T], .int .i64 x0] w fun e w' => e = .returned (.bool true) ∧ Below w.heap.size w w' := by
  obtain ⟨d0, d1⟩ := boxH w (.slice a P.length cap) T 24
  obtain ⟨W0, hW⟩ : ∃ W0, w.alloc (.cells #[.slice a P.length cap, .string T] 24) = W0 := ⟨_, rfl⟩
  have E0 : Hid (Below w.heap.size w W0) := by show Below w.heap.size w W0; rw [← hW]; exact balloc0 _ _
  rw [hW] at d0 d1
  have K : Hid (∀ wx, Below W0.heap.size W0 wx → wx.cell? ⟨w.heap.size, 0, none⟩ = some (.slice a P.length cap) ∧ wx.cell? ⟨w.heap.size, 1, none⟩ = some (.string T)) := fun wx hx =>
    ⟨(hx.cell (p := ⟨w.heap.size, 0, none⟩) (World.block_lt_of_cell? W0 _ d0)).trans d0, (hx.cell (p := ⟨w.heap.size, 1, none⟩) (World.block_lt_of_cell? W0 _ d1)).trans d1⟩
  have HW := Lib.hid hW
  have ha := ha.later E0.out
  have HF0 := Lib.hid (hf0.later E0.out)
  have Z := Lib.hid (sz_house P T a cap 1048576 (by omega) (by omega) hn hl W0)
  have HA := Lib.hid ha
  clear ha hl hn hW d0 d1 hf0
  go_enter Tryd.func7, Tryd.ntmps7
  go_wp2_with fail
  rw [HW.out]
  refine Z.out.mono ?_
  rintro e w1 ⟨r, rfl, r0, r1, r2, hb1⟩
  have B1 := Lib.hid hb1
  have R2 := Lib.hid r2
  clear hb1 r2
  by_cases hr : r < 0
  · go_wp2
    go_ret
    exact ⟨rfl, bnext E0.out B1.out⟩
  obtain ⟨hT, hL⟩ := R2.out (by omega)
  have S := Lib.hid (fun g cp wx (h : IntArg wx g P) => courseAround_spec P T g cp hL hT x0 wx h)
  have I := Lib.hid (fun g cp wx (h : IntArg wx g P) (hf0 : DirAt wx) => courseAround_impl P T g cp hL hT x0 wx h hf0)
  unfold CaAns at S I
  have hQ := caV_length P T x0
  obtain ⟨Q, hQe⟩ : ∃ Q, caV P T x0 = Q := ⟨_, rfl⟩
  obtain ⟨c, hce⟩ : ∃ c : Int, hoK P T 0 x0 = c := ⟨_, rfl⟩
  rw [hQe, hce] at S I
  rw [hQe] at hQ
  clear hQe hce
  obtain ⟨k0, k1⟩ := K.out _ B1.out
  go_wp2_with fail
  refine (to_house P T a cap hL _ (HA.out.later B1.out)).mono ?_
  rintro e w2 ⟨g2, rfl, o2, hb2⟩
  have B2 := Lib.hid (bnext B1.out hb2)
  have O2 := Lib.hid o2.arg
  clear hb2 o2 k0 k1
  go_wp2_with fail
  refine (S.out _ _ _ O2.out).mono ?_
  rintro e w3 ⟨a3, c3, rfl, o3, hb3⟩
  have B3 := Lib.hid (bnext B2.out hb3)
  have M := Lib.hid (LowInt.of o3)
  clear hb3 o3
  obtain ⟨k0, k1⟩ := K.out _ B3.out
  go_wp2_with fail
  refine (to_house P T a cap hL _ (HA.out.later B3.out)).mono ?_
  rintro e w4 ⟨g4, rfl, o4, hb4⟩
  have z4 : w3.heap.size ≤ w4.heap.size := hb4.size
  have B4 := Lib.hid (bnext B3.out hb4)
  have M4 := Lib.hid (M.out.later hb4)
  have g4ge : w3.heap.size ≤ g4 := o4.1
  have g4lt : g4 < w4.heap.size := o4.2.2.2
  have O4 := Lib.hid o4
  clear hb4 o4 k0 k1
  go_wp2_with fail
  refine (I.out _ _ _ (O4.out.arg.later (balloc0 _ _)) (HF0.out.later (balloc B4.out _))).mono ?_
  rintro e w5 ⟨a5, c5, rfl, o5, hb5⟩
  have z5 : w4.heap.size + 1 ≤ w5.heap.size := by have := hb5.size; simp at this; omega
  have B5 := Lib.hid (bnext (balloc B4.out _) hb5)
  have A5 := Lib.hid ((O4.out.later (balloc0 _ _)).later hb5)
  have M5 := Lib.hid ((M4.out.later (balloc0 _ _)).later hb5)
  have G5 : Hid (IntRes (w4.heap.size + 1) Q a5 w5) := by
    rcases o5 with h | ⟨g, h1, h2⟩
    · exact .inl h
    · exact .inr ⟨g, h1, by have := h2.1; simp at this; omega, h2.2⟩
  have y0 : w5.cell? ⟨w4.heap.size, 0, none⟩ = some (.slice (some ⟨g4, 0, none⟩) P.length P.length) := (hb5.cell (p := ⟨w4.heap.size, 0, none⟩) (by simp)).trans (boxH w4 _ T _).1
  have y1 : w5.cell? ⟨w4.heap.size, 1, none⟩ = some (.string T) := (hb5.cell (p := ⟨w4.heap.size, 1, none⟩) (by simp)).trans (boxH w4 _ T _).2
  clear hb5 o5
  go_wp2_with fail
  refine (eq_ints Q a5 a3 c5 c3 (by omega) _ (G5.out.arg) (M5.out.arg)).mono ?_
  rintro e w6 ⟨rfl, hb6⟩
  have z6 : w5.heap.size ≤ w6.heap.size := hb6.size
  have B6 := Lib.hid (bnext B5.out hb6)
  have A6 := Lib.hid (A5.out.later hb6)
  have M6 := Lib.hid (M5.out.later hb6)
  have G6 := Lib.hid (G5.out.later hb6)
  have Y0 : w6.drew.cell? ⟨w4.heap.size, 0, none⟩ = some (.slice (some ⟨g4, 0, none⟩) P.length P.length) := (hb6.cell (p := ⟨w4.heap.size, 0, none⟩) (by show w4.heap.size < w5.heap.size; omega)).trans y0
  have Y1 : w6.drew.cell? ⟨w4.heap.size, 1, none⟩ = some (.string T) := (hb6.cell (p := ⟨w4.heap.size, 1, none⟩) (by show w4.heap.size < w5.heap.size; omega)).trans y1
  clear hb6 y0 y1
  obtain ⟨k0, k1⟩ := K.out _ B6.out.drew
  go_wp2_with fail
  go_region_with (first | (go_at_call 17; refine (to_house P T a cap hL _ (HA.out.later B6.out.drew)).mono ?_; rintro e w7 ⟨g7, rfl, o7, hb7⟩; have z7 : w6.heap.size ≤ w7.heap.size := hb7.size; have B7 := Lib.hid (bnext B6.out.drew hb7); have A7 := Lib.hid (IntOwn.later (w := w6.drew) A6.out hb7); have M7 := Lib.hid (LowInt.later (w := w6.drew) M6.out hb7); have G7 := Lib.hid (IntRes.later (w := w6.drew) G6.out hb7); have O7 := Lib.hid o7.arg; have v0 : w7.cell? ⟨w4.heap.size, 0, none⟩ = some (.slice (some ⟨g4, 0, none⟩) P.length P.length) := (hb7.cell (p := ⟨w4.heap.size, 0, none⟩) (by show w4.heap.size < w6.heap.size; omega)).trans Y0; have v1 : w7.cell? ⟨w4.heap.size, 1, none⟩ = some (.string T) := (hb7.cell (p := ⟨w4.heap.size, 1, none⟩) (by show w4.heap.size < w6.heap.size; omega)).trans Y1; clear hb7 o7) | (go_at_call 19; refine (eq_house P T _ _ _ _ (by omega) _ A7.out.arg O7.out).mono ?_; rintro e w8 ⟨rfl, hb8⟩; have z8 : w7.heap.size ≤ w8.heap.size := hb8.size; have B8 := Lib.hid (bnext B7.out hb8); have A8 := Lib.hid (A7.out.later hb8); have M8 := Lib.hid (M7.out.later hb8); have G8 := Lib.hid (G7.out.later hb8); have u0 : w8.cell? ⟨w4.heap.size, 0, none⟩ = some (.slice (some ⟨g4, 0, none⟩) P.length P.length) := (hb8.cell (p := ⟨w4.heap.size, 0, none⟩) (by show w4.heap.size < w7.heap.size; omega)).trans v0; have u1 : w8.cell? ⟨w4.heap.size, 1, none⟩ = some (.string T) := (hb8.cell (p := ⟨w4.heap.size, 1, none⟩) (by show w4.heap.size < w7.heap.size; omega)).trans v1; clear hb8))
  all_goals
    clear k0 k1 v0 v1 Y0 Y1
    go_wp2_with fail
    refine (mark_house P T (by omega) 1 (by omega) w3.heap.size g4 _ _ A8.out).mono ?_
    rintro e w9 ⟨rfl, hO9, _⟩
    have z9 : w8.heap.size ≤ w9.heap.size := hO9.size
    have sW : W0.heap.size ≤ w3.heap.size := B3.out.size
    have B9 := Lib.hid (B8.out.trans (hO9.base (by omega) (by omega)))
    have G9 := Lib.hid (G8.out.only hO9 (by omega))
    have M9 := Lib.hid (M8.out.only hO9 g4ge)
    clear hO9 u0 u1
    obtain ⟨KK, hK⟩ : ∃ KK : Nat, 1 + P.length = KK := ⟨_, rfl⟩
    have hK1 : ¬ (KK : Int) < 0 := by omega
    rw [hK]
    clear hK
    go_wp2_with fail
    refine (eq_ints Q a5 a3 c5 c3 (by omega) _ (G9.out.arg) (M9.out.arg)).mono ?_
    rintro e w10 ⟨rfl, hb10⟩
    have z10 : w9.heap.size ≤ w10.heap.size := hb10.size
    have B10 := Lib.hid (bnext B9.out hb10)
    have M10 := Lib.hid (M9.out.later hb10)
    have G10 := Lib.hid (G9.out.later hb10)
    clear hb10
    have bg : w4.heap.size + 1 ≤ w10.heap.size := by omega
    go_wp2_with fail
    refine (mark_res Q (by omega) 1 (by omega) (w4.heap.size + 1) c5 a5 _ bg G10.out).mono ?_
    rintro e w11 ⟨rfl, hb11, m11⟩
    have z11 : w10.heap.size ≤ w11.heap.size := hb11.size
    have B11 := Lib.hid (B10.out.trans (hb11.mono (by omega)))
    have M11 := Lib.hid (M10.out.below hb11 (by omega))
    have G11 := Lib.hid m11
    clear hb11 m11
    obtain ⟨q, hq⟩ : ∃ q : Int, ((1 + Q.length : Nat) : Int) = q := ⟨_, rfl⟩
    have hq0 : ¬ q < 0 := by omega
    have HQ := Lib.hid hq
    rw [hq]
    clear hq
    go_wp2_with fail
    refine (held_res Q.length (by omega) 1 (by omega) c5 a5 _ _ G11.out).mono ?_
    rintro e w12 ⟨rfl, hb12⟩
    rw [HQ.out]
    have B12 := Lib.hid (bnext B11.out hb12)
    have M12 := Lib.hid (M11.out.later hb12)
    have G12 := Lib.hid (G11.out.later hb12)
    clear hb12
    obtain ⟨k0, k1⟩ := K.out _ B12.out
    go_wp2_with fail
    refine (to_house P T a cap hL _ (HA.out.later B12.out)).mono ?_
    rintro e w13 ⟨g13, rfl, o13, hb13⟩
    have B13 := Lib.hid (bnext B12.out hb13)
    have O13 := Lib.hid o13.arg
    have M13 := Lib.hid (M12.out.later hb13)
    have G13 := Lib.hid (G12.out.later hb13)
    clear hb13 o13 k0 k1
    go_wp2_with fail
    refine (I.out _ _ _ O13.out (HF0.out.later B13.out)).mono ?_
    rintro e w14 ⟨a14, c14, rfl, o14, hb14⟩
    have B14 := Lib.hid (bnext B13.out hb14)
    have M14 := Lib.hid (M13.out.later hb14)
    have G14 := Lib.hid (G13.out.later hb14)
    have R14 := Lib.hid o14
    clear hb14 o14
    go_wp2_with fail
    refine (eq_ints Q a14 a3 c14 c3 (by omega) _ (R14.out.arg) (M14.out.arg)).mono ?_
    rintro e w15 ⟨rfl, hb15⟩
    have B15 := Lib.hid (bnext B14.out hb15)
    have G15 := Lib.hid (G14.out.later hb15)
    clear hb15
    go_wp2_with fail
    refine (held_res Q.length (by omega) 1 (by omega) c5 a5 _ _ G15.out).mono ?_
    rintro e w16 ⟨rfl, hb16⟩
    rw [HQ.out]
    have B16 := Lib.hid (bnext B15.out hb16)
    clear hb16
    go_wp2
    go_ret
    exact ⟨rfl, bnext E0.out B16.out⟩
end Go.Proofs.YtikjielgnlgnjaaDoor
