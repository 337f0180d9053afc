/-
  The walk of the law on TurnHouse.
-/
import Derived.Test.YtikjielgnlgnjaaDoorThI
import Derived.Test.YtikjielgnlgnjaaDoorCwPOh
import Derived.Deep.RegionWith
namespace Go.Proofs.YtikjielgnlgnjaaDoor
open Go.ChangeShapes Go.WideShapes Go.ChangeAt Go.RowKit Go.Joins

/-- A row of numbers was written, or nothing that lay. -/
def ResOnly (B : Nat) (Q : List Int) (a : Option Addr) (w w' : World) : Prop := (∃ g, (a = some ⟨g, 0, none⟩ ∧ ¬ Q = []) ∧ B ≤ g ∧ Only g w w') ∨ Below w.heap.size w w'
theorem ResOnly.base {B : Nat} {Q : List Int} {a : Option Addr} {w w' : World} (h : ResOnly B Q a w w') (hB : B ≤ w.heap.size) : Below B w w' := by
  rcases h with ⟨g, _, h1, h2⟩ | h
  · exact h2.base h1 hB
  · exact h.mono hB
theorem ResOnly.size {B : Nat} {Q : List Int} {a : Option Addr} {w w' : World} (h : ResOnly B Q a w w') : w.heap.size ≤ w'.heap.size := by
  rcases h with ⟨g, _, _, h2⟩ | h
  · exact h2.size
  · exact h.size
theorem HoBox.only {b g : Nat} {a : Option Addr} {cap : Nat} {P : List Int} {T : ByteArray} {w w' : World} (h : HoBox b a cap P T w) (ho : Only g w w') (hne : b ≠ g) : HoBox b a cap P T w' := by
  have hl := World.block_lt_of_cell? w _ h.1
  have hb := ho.block b hl (fun e => hne (by cases e; rfl))
  exact ⟨(World.cell?_of_block (a := ⟨b, 0, none⟩) hb).trans h.1, (World.cell?_of_block (a := ⟨b, 1, none⟩) hb).trans h.2⟩
theorem HoBox.res {b B : Nat} {a a' : Option Addr} {cap : Nat} {P Q : List Int} {T : ByteArray} {w w' : World} (h : HoBox b a cap P T w) (ho : ResOnly B Q a' w w') (hne : ∀ g, a' = some ⟨g, 0, none⟩ → ¬ Q = [] → b ≠ g) : HoBox b a cap P T w' := by
  rcases ho with ⟨g, h1, _, h2⟩ | h2
  · exact h.only h2 (hne g h1.1 h1.2)
  · exact h.later h2
set_option maxHeartbeats 1600000 in
theorem mark_hres (Q : List Int) (T : ByteArray) (hn : Q.length ≤ 1048577) (K : Nat) (hK2 : K ≤ 100000000) (B cap : Nat) (a : Option Addr) (w : World) (_hB : B ≤ w.heap.size) (h : IntRes B Q a w) :
    Calls Tryd.prog 29 #[.agg #[.slice a Q.length cap, .string T], .int .i64 K] w fun e w' => e = .returned (.int .i64 ((K + Q.length : Nat) : Int)) ∧ ResOnly B Q a w w' ∧ IntRes B (marksL K Q.length) a w' := by
  by_cases hq : Q = []
  · subst hq
    have C := Lib.hid (fun wx => mark_nil a cap K wx)
    go_enter Tryd.func29, Tryd.ntmps29
    go_wp2_with fail
    refine (C.out _).mono ?_
    rintro e w1 ⟨rfl, rfl⟩
    go_wp2
    go_ret
    exact ⟨rfl, .inr (balloc0 _ _), .inl rfl⟩
  · rcases h with h | ⟨g, h1, h2⟩
    · exact absurd h hq
    subst h1
    refine (mark_house Q T hn K hK2 B g cap w h2).mono ?_
    rintro e w' ⟨h3, h4, h5⟩
    exact ⟨h3, .inl ⟨g, ⟨rfl, hq⟩, h2.1, h4⟩, .inr ⟨g, rfl, h5⟩⟩
set_option maxHeartbeats 1600000 in
theorem held_hres (n : Nat) (T : ByteArray) (hn : n ≤ 1048577) (K : Nat) (hK2 : K ≤ 100000000) (cap : Nat) (a : Option Addr) (w : World) (B : Nat) (h : IntRes B (marksL K n) a w) :
    Calls Tryd.prog 43 #[.agg #[.slice a n cap, .string T], .int .i64 K] w fun e w' => e = .returned (.int .i64 ((K + n : Nat) : Int)) ∧ Below w.heap.size w w' := by
  have C := Lib.hid (fun wx (hx : Below w.heap.size w wx) => held_res n hn K hK2 cap a wx B (h.later hx))
  obtain ⟨q, hq⟩ : ∃ q : Nat, K + n = q := ⟨_, rfl⟩
  rw [hq] at C ⊢
  have hq0 : ¬ (q : Int) < 0 := by omega
  clear h hq
  go_enter Tryd.func43, Tryd.ntmps43
  go_wp2_with fail
  refine (C.out _ (balloc0 _ _)).mono ?_
  rintro e w1 ⟨rfl, hb1⟩
  have B1 := Lib.hid (bnext (balloc0 w _) hb1)
  clear hb1
  go_wp2
  go_ret
  exact ⟨rfl, B1.out⟩
set_option maxRecDepth 100000 in
set_option maxHeartbeats 12800000 in
theorem walk_FnExactTurnHouse (P : List Int) (T : ByteArray) (a : Option Addr) (cap : Nat) (hn : T.size ≤ maxLen) (hl : P.length ≤ maxLen) (x0 : Int) (_wf0 : (Lit.int .i64 x0).wf = true) (w : World) (ha : IntArg w a P) (hf0 : DirAt w) :
    Calls Tryd.prog 11 #[.agg #[.slice a P.length cap, .string T], .int .i64 x0] w fun e w' => e = .returned (.bool true) ∧ Below w.heap.size w w' := by
  obtain ⟨d0, d1⟩ := boxH w (.slice a P.length cap) T 24
  obtain ⟨W0, hW⟩ : ∃ W0, w.alloc (.cells #[.slice a P.length cap, .string T] 24) = W0 := ⟨_, rfl⟩
  have E0 : Hid (Below w.heap.size w W0) := by show Below w.heap.size w W0; rw [← hW]; exact balloc0 _ _
  rw [hW] at d0 d1
  have K : Hid (∀ wx, Below W0.heap.size W0 wx → wx.cell? ⟨w.heap.size, 0, none⟩ = some (.slice a P.length cap) ∧ wx.cell? ⟨w.heap.size, 1, none⟩ = some (.string T)) := fun wx hx =>
    ⟨(hx.cell (p := ⟨w.heap.size, 0, none⟩) (World.block_lt_of_cell? W0 _ d0)).trans d0, (hx.cell (p := ⟨w.heap.size, 1, none⟩) (World.block_lt_of_cell? W0 _ d1)).trans d1⟩
  have HW := Lib.hid hW
  have ha := ha.later E0.out
  have HF0 := Lib.hid (hf0.later E0.out)
  have Z := Lib.hid (sz_house P T a cap 1048576 (by omega) (by omega) hn hl W0)
  have HA := Lib.hid ha
  clear ha hl hn hW d0 d1 hf0
  go_enter Tryd.func11, Tryd.ntmps11
  go_wp2_with fail
  rw [HW.out]
  refine Z.out.mono ?_
  rintro e w1 ⟨r, rfl, r0, r1, r2, hb1⟩
  have B1 := Lib.hid hb1
  have R2 := Lib.hid r2
  clear hb1 r2
  by_cases hr : r < 0
  · go_wp2
    go_ret
    exact ⟨rfl, bnext E0.out B1.out⟩
  obtain ⟨hT, hL⟩ := R2.out (by omega)
  have S := Lib.hid (fun g wx (h : IntArg wx g P) => turnHouse_spec P T g P.length (Nat.le_refl _) hL hT x0 wx h)
  have I := Lib.hid (fun g wx (h : IntArg wx g P) (hf0 : DirAt wx) => turnHouse_impl P T g P.length (Nat.le_refl _) hL hT x0 wx h hf0)
  unfold ThAns at S I
  have hQ := thP_length P T x0
  obtain ⟨Q, hQe⟩ : ∃ Q, thP P T x0 = Q := ⟨_, rfl⟩
  obtain ⟨TQ, hTQ⟩ : ∃ TQ, thT P T x0 = TQ := ⟨_, rfl⟩
  obtain ⟨c, hce⟩ : ∃ c : Int, hoK P T x0 0 = c := ⟨_, rfl⟩
  rw [hQe, hce, hTQ] at S I
  rw [hQe] at hQ
  clear hQe hce hTQ
  obtain ⟨k0, k1⟩ := K.out _ B1.out
  go_wp2_with fail
  refine (to_house P T a cap hL _ (HA.out.later B1.out)).mono ?_
  rintro e w2 ⟨g2, rfl, o2, hb2⟩
  have B2 := Lib.hid (bnext B1.out hb2)
  have O2 := Lib.hid o2.arg
  clear hb2 o2 k0 k1
  go_wp2_with fail
  refine (S.out _ _ O2.out).mono ?_
  rintro e w3 ⟨a3, c3, rfl, o3, hb3⟩
  have B3 := Lib.hid (bnext B2.out hb3)
  have M := Lib.hid (LowInt.of o3)
  clear hb3 o3
  have QW0 : Hid (HoBox w3.heap.size a3 c3 Q TQ (w3.alloc (.cells #[.slice a3 Q.length c3, .string TQ] 27))) := HoBox.new w3 _
  have M0 := Lib.hid (M.out.later (balloc0 w3 (.cells #[.slice a3 Q.length c3, .string TQ] 27)))
  have B3' := Lib.hid (balloc B3.out (.cells #[.slice a3 Q.length c3, .string TQ] 27))
  have zV3 : (w3.alloc (.cells #[.slice a3 Q.length c3, .string TQ] 27)).heap.size = w3.heap.size + 1 := by simp
  obtain ⟨k0, k1⟩ := K.out _ B3'.out
  go_wp2_with fail
  obtain ⟨V3, hV3⟩ : ∃ V3, w3.alloc (.cells #[.slice a3 Q.length c3, .string TQ] 27) = V3 := ⟨_, rfl⟩
  rw [hV3] at QW0 M0 B3' zV3
  try rw [hV3]
  clear hV3
  refine (to_house P T a cap hL _ (HA.out.later B3'.out)).mono ?_
  rintro e w4 ⟨g4, rfl, o4, hb4⟩
  have z4 : V3.heap.size ≤ w4.heap.size := hb4.size
  have B4 := Lib.hid (bnext B3'.out hb4)
  have M4 := Lib.hid (M0.out.later hb4)
  have QW4 := Lib.hid (QW0.out.later hb4)
  have g4ge : V3.heap.size ≤ g4 := o4.1
  have g4lt : g4 < w4.heap.size := o4.2.2.2
  have O4 := Lib.hid o4
  clear hb4 o4 k0 k1
  have QX0 : Hid (HoBox w4.heap.size (some ⟨g4, 0, none⟩) P.length P T (w4.alloc (.cells #[.slice (some ⟨g4, 0, none⟩) P.length P.length, .string T] 27))) := HoBox.new w4 _
  have OX := Lib.hid (O4.out.later (balloc0 w4 (.cells #[.slice (some ⟨g4, 0, none⟩) P.length P.length, .string T] 27)))
  have MX := Lib.hid (M4.out.later (balloc0 w4 (.cells #[.slice (some ⟨g4, 0, none⟩) P.length P.length, .string T] 27)))
  have QWX := Lib.hid (QW4.out.later (balloc0 w4 (.cells #[.slice (some ⟨g4, 0, none⟩) P.length P.length, .string T] 27)))
  have BX := Lib.hid (balloc B4.out (.cells #[.slice (some ⟨g4, 0, none⟩) P.length P.length, .string T] 27))
  have zV4 : (w4.alloc (.cells #[.slice (some ⟨g4, 0, none⟩) P.length P.length, .string T] 27)).heap.size = w4.heap.size + 1 := by simp
  obtain ⟨f0, f1⟩ := QX0.out
  go_wp2_with fail
  obtain ⟨V4, hV4⟩ : ∃ V4, w4.alloc (.cells #[.slice (some ⟨g4, 0, none⟩) P.length P.length, .string T] 27) = V4 := ⟨_, rfl⟩
  rw [hV4] at QX0 OX MX QWX BX zV4
  try rw [hV4]
  clear hV4 f0 f1
  refine (I.out _ _ OX.out.arg (HF0.out.later BX.out)).mono ?_
  rintro e w5 ⟨a5, c5, rfl, o5, hb5⟩
  have z5 : V4.heap.size ≤ w5.heap.size := hb5.size
  have g5lt : ∀ g, a5 = some ⟨g, 0, none⟩ → ¬ Q = [] → V4.heap.size ≤ g ∧ g < w5.heap.size := fun g h1 h2 => by
    rcases o5 with h | ⟨g', h3, h4⟩
    · exact absurd h h2
    · rw [h3] at h1; cases h1; exact ⟨h4.1, h4.2.2.2⟩
  have B5 := Lib.hid (bnext BX.out hb5)
  have A5 := Lib.hid (OX.out.later hb5)
  have M5 := Lib.hid (MX.out.later hb5)
  have QW5 := Lib.hid (QWX.out.later hb5)
  have QX5 := Lib.hid (QX0.out.later hb5)
  have G5 : Hid (IntRes V4.heap.size Q a5 w5) := o5
  clear hb5 o5
  have QG0 : Hid (HoBox w5.heap.size a5 c5 Q TQ (w5.alloc (.cells #[.slice a5 Q.length c5, .string TQ] 27))) := HoBox.new w5 _
  have A5' := Lib.hid (A5.out.later (balloc0 w5 (.cells #[.slice a5 Q.length c5, .string TQ] 27)))
  have M5' := Lib.hid (M5.out.later (balloc0 w5 (.cells #[.slice a5 Q.length c5, .string TQ] 27)))
  have QW5' := Lib.hid (QW5.out.later (balloc0 w5 (.cells #[.slice a5 Q.length c5, .string TQ] 27)))
  have QX5' := Lib.hid (QX5.out.later (balloc0 w5 (.cells #[.slice a5 Q.length c5, .string TQ] 27)))
  have G5' := Lib.hid (G5.out.later (balloc0 w5 (.cells #[.slice a5 Q.length c5, .string TQ] 27)))
  have B5' := Lib.hid (balloc B5.out (.cells #[.slice a5 Q.length c5, .string TQ] 27))
  have zV5 : (w5.alloc (.cells #[.slice a5 Q.length c5, .string TQ] 27)).heap.size = w5.heap.size + 1 := by simp
  obtain ⟨f0, f1⟩ := QG0.out
  obtain ⟨f2, f3⟩ := QW5'.out
  go_wp2_with fail
  obtain ⟨V5, hV5⟩ : ∃ V5, w5.alloc (.cells #[.slice a5 Q.length c5, .string TQ] 27) = V5 := ⟨_, rfl⟩
  rw [hV5] at QG0 A5' M5' QW5' QX5' G5' B5' zV5
  try rw [hV5]
  clear hV5 f0 f1 f2 f3
  refine (eq_house Q TQ a5 a3 c5 c3 (by omega) _ G5'.out.arg M5'.out.arg).mono ?_
  rintro e w6 ⟨rfl, hb6⟩
  have z6 : V5.heap.size ≤ w6.heap.size := hb6.size
  have B6 := Lib.hid (bnext B5'.out hb6)
  have A6 := Lib.hid (A5'.out.later hb6)
  have M6 := Lib.hid (M5'.out.later hb6)
  have G6 := Lib.hid (G5'.out.later hb6)
  have QW6 := Lib.hid (QW5'.out.later hb6)
  have QX6 := Lib.hid (QX5'.out.later hb6)
  have QG6 := Lib.hid (QG0.out.later hb6)
  clear hb6
  have Y0 : w6.drew.cell? ⟨w4.heap.size, 0, none⟩ = some (.slice (some ⟨g4, 0, none⟩) P.length P.length) := QX6.out.1
  have Y1 : w6.drew.cell? ⟨w4.heap.size, 1, none⟩ = some (.string T) := QX6.out.2
  obtain ⟨k0, k1⟩ := K.out _ B6.out.drew
  go_wp2_with fail
  go_region_with (first | (go_at_call 17; refine (to_house P T a cap hL _ (HA.out.later B6.out.drew)).mono ?_; rintro e w7 ⟨g7, rfl, o7, hb7⟩; have z7 : w6.heap.size ≤ w7.heap.size := hb7.size; have B7 := Lib.hid (bnext B6.out.drew hb7); have A7 := Lib.hid (IntOwn.later (w := w6.drew) A6.out hb7); have M7 := Lib.hid (LowInt.later (w := w6.drew) M6.out hb7); have G7 := Lib.hid (IntRes.later (w := w6.drew) G6.out hb7); have QW7 := Lib.hid (HoBox.later (w := w6.drew) QW6.out hb7); have QX7 := Lib.hid (HoBox.later (w := w6.drew) QX6.out hb7); have QG7 := Lib.hid (HoBox.later (w := w6.drew) QG6.out hb7); have O7 := Lib.hid o7.arg; have v0 := QX7.out.1; have v1 := QX7.out.2; clear hb7 o7) | (go_at_call 19; refine (eq_house P T _ _ _ _ (by omega) _ A7.out.arg O7.out).mono ?_; rintro e w8 ⟨rfl, hb8⟩; have z8 : w7.heap.size ≤ w8.heap.size := hb8.size; have B8 := Lib.hid (bnext B7.out hb8); have A8 := Lib.hid (A7.out.later hb8); have M8 := Lib.hid (M7.out.later hb8); have G8 := Lib.hid (G7.out.later hb8); have QW8 := Lib.hid (QW7.out.later hb8); have QX8 := Lib.hid (QX7.out.later hb8); have QG8 := Lib.hid (QG7.out.later hb8); have u0 := QX8.out.1; have u1 := QX8.out.2; clear hb8))
  all_goals
    clear k0 k1 v0 v1 Y0 Y1
    go_wp2_with fail
    refine (mark_house P T (by omega) 1 (by omega) V3.heap.size g4 _ _ A8.out).mono ?_
    rintro e w9 ⟨rfl, hO9, _⟩
    have z9 : w8.heap.size ≤ w9.heap.size := hO9.size
    have sW : W0.heap.size ≤ V3.heap.size := B3'.out.size
    have B9 := Lib.hid (B8.out.trans (hO9.base (by omega) (by omega)))
    have G9 := Lib.hid (G8.out.only hO9 (by omega))
    have M9 := Lib.hid (M8.out.only hO9 (by omega))
    have QW9 := Lib.hid (QW8.out.only hO9 (by omega))
    have QG9 := Lib.hid (QG8.out.only hO9 (by omega))
    clear hO9 u0 u1
    obtain ⟨KK, hK⟩ : ∃ KK : Nat, 1 + P.length = KK := ⟨_, rfl⟩
    have hK1 : ¬ (KK : Int) < 0 := by omega
    rw [hK]
    clear hK
    obtain ⟨f0, f1⟩ := QG9.out
    obtain ⟨f2, f3⟩ := QW9.out
    go_wp2_with fail
    refine (eq_house Q TQ a5 a3 c5 c3 (by omega) _ G9.out.arg M9.out.arg).mono ?_
    rintro e w10 ⟨rfl, hb10⟩
    have z10 : w9.heap.size ≤ w10.heap.size := hb10.size
    have B10 := Lib.hid (bnext B9.out hb10)
    have M10 := Lib.hid (M9.out.later hb10)
    have G10 := Lib.hid (G9.out.later hb10)
    have QW10 := Lib.hid (QW9.out.later hb10)
    have QG10 := Lib.hid (QG9.out.later hb10)
    clear hb10 f0 f1 f2 f3
    obtain ⟨f0, f1⟩ := QG10.out
    have bg : V4.heap.size ≤ w10.heap.size := by omega
    go_wp2_with fail
    refine (mark_hres Q TQ (by omega) 1 (by omega) V4.heap.size c5 a5 _ bg G10.out).mono ?_
    rintro e w11 ⟨rfl, ro11, m11⟩
    have z11 : w10.heap.size ≤ w11.heap.size := ro11.size
    have B11 := Lib.hid (B10.out.trans ((ro11.base bg).mono (by omega)))
    have M11 := Lib.hid (M10.out.below (ro11.base bg) (by omega))
    have hne5 : ∀ g, a5 = some ⟨g, 0, none⟩ → ¬ Q = [] → w5.heap.size ≠ g ∧ w3.heap.size ≠ g := fun g h1 h2 => by
      have := g5lt g h1 h2
      omega
    have QW11 := Lib.hid (QW10.out.res ro11 (fun g h h2 => (hne5 g h h2).2))
    have QG11 := Lib.hid (QG10.out.res ro11 (fun g h h2 => (hne5 g h h2).1))
    have G11 := Lib.hid m11
    clear ro11 m11 f0 f1
    obtain ⟨q, hq⟩ : ∃ q : Int, ((1 + Q.length : Nat) : Int) = q := ⟨_, rfl⟩
    have hq0 : ¬ q < 0 := by omega
    have HQ := Lib.hid hq
    rw [hq]
    clear hq
    obtain ⟨f0, f1⟩ := QG11.out
    go_wp2_with fail
    refine (held_hres Q.length TQ (by omega) 1 (by omega) c5 a5 _ _ G11.out).mono ?_
    rintro e w12 ⟨rfl, hb12⟩
    rw [HQ.out]
    have B12 := Lib.hid (bnext B11.out hb12)
    have M12 := Lib.hid (M11.out.later hb12)
    have G12 := Lib.hid (G11.out.later hb12)
    have QW12 := Lib.hid (QW11.out.later hb12)
    have QG12 := Lib.hid (QG11.out.later hb12)
    clear hb12 f0 f1
    obtain ⟨k0, k1⟩ := K.out _ B12.out
    go_wp2_with fail
    refine (to_house P T a cap hL _ (HA.out.later B12.out)).mono ?_
    rintro e w13 ⟨g13, rfl, o13, hb13⟩
    have B13 := Lib.hid (bnext B12.out hb13)
    have O13 := Lib.hid o13.arg
    have M13 := Lib.hid (M12.out.later hb13)
    have G13 := Lib.hid (G12.out.later hb13)
    have QW13 := Lib.hid (QW12.out.later hb13)
    have QG13 := Lib.hid (QG12.out.later hb13)
    clear hb13 o13 k0 k1
    go_wp2_with fail
    refine (I.out _ _ O13.out (HF0.out.later B13.out)).mono ?_
    rintro e w14 ⟨a14, c14, rfl, o14, hb14⟩
    have B14 := Lib.hid (balloc (bnext B13.out hb14) (.cells #[.slice a14 Q.length c14, .string TQ] 27))
    have M14 := Lib.hid ((M13.out.later hb14).later (balloc0 w14 (.cells #[.slice a14 Q.length c14, .string TQ] 27)))
    have G14 := Lib.hid ((G13.out.later hb14).later (balloc0 w14 (.cells #[.slice a14 Q.length c14, .string TQ] 27)))
    have QW14 := Lib.hid ((QW13.out.later hb14).later (balloc0 w14 (.cells #[.slice a14 Q.length c14, .string TQ] 27)))
    have QG14 := Lib.hid ((QG13.out.later hb14).later (balloc0 w14 (.cells #[.slice a14 Q.length c14, .string TQ] 27)))
    have R14 := Lib.hid (IntRes.later o14 (balloc0 w14 (.cells #[.slice a14 Q.length c14, .string TQ] 27)))
    have QH14 : Hid (HoBox w14.heap.size a14 c14 Q TQ (w14.alloc (.cells #[.slice a14 Q.length c14, .string TQ] 27))) := HoBox.new w14 _
    clear hb14 o14
    obtain ⟨f0, f1⟩ := QH14.out
    obtain ⟨f2, f3⟩ := QW14.out
    go_wp2_with fail
    refine (eq_house Q TQ a14 a3 c14 c3 (by omega) _ R14.out.arg M14.out.arg).mono ?_
    rintro e w15 ⟨rfl, hb15⟩
    have B15 := Lib.hid (bnext B14.out hb15)
    have G15 := Lib.hid (G14.out.later hb15)
    have QG15 := Lib.hid (QG14.out.later hb15)
    clear hb15 f0 f1 f2 f3
    obtain ⟨f0, f1⟩ := QG15.out
    go_wp2_with fail
    refine (held_hres Q.length TQ (by omega) 1 (by omega) c5 a5 _ _ G15.out).mono ?_
    rintro e w16 ⟨rfl, hb16⟩
    rw [HQ.out]
    have B16 := Lib.hid (bnext B15.out hb16)
    clear hb16
    go_wp2
    go_ret
    exact ⟨rfl, bnext E0.out B16.out⟩
end Go.Proofs.YtikjielgnlgnjaaDoor
