/-
  The walk of the law on ReadHouse.
-/
import Derived.Test.YtikjielgnlgnjaaDoorCwTH
import Derived.Test.YtikjielgnlgnjaaDoorHrI
import Derived.Test.YtikjielgnlgnjaaDoorHrS
namespace Go.Proofs.YtikjielgnlgnjaaDoor
open Go.ChangeShapes Go.WideShapes Go.ChangeAt Go.RowKit Go.Joins

set_option maxRecDepth 100000 in
set_option maxHeartbeats 6400000 in
theorem walk_FnExactReadHouse (s : ByteArray) (w : World) (hp : Pow10 w) (tp : TypeId) (p : Value) (hv : w.var? Tryd.prog "strconv.ErrSyntax" = some #[.iface tp p]) (m : Int) (hm : w.cell? ⟨1, 0, none⟩ = some (.int .i64 m)) (hf0 : DirAt w) :
    Calls Tryd.prog 13 #[.string s] w fun e w' => e = .returned (.bool true) ∧ Below w.heap.size w w' := by
  by_cases hl : (1048576 : Int) < (s.size : Int)
  · clear hp hv hm hf0
    go_enter Tryd.func13, Tryd.ntmps13
    go_wp2_with fail
    go_ret
    exact ⟨rfl, Below.refl _ _⟩
  obtain ⟨Q, TQ, b, hV, hlen⟩ := hrVal s
  have HS := Lib.hid (readHouse_spec s (by omega) Q TQ b hV w)
  have HI : Hid (∀ wx, Below w.heap.size w wx → Calls Tryd.prog 47 #[.string s] wx (HrAns wx Q TQ b)) := fun wx h => readHouse_impl s (by omega) Q TQ b hV tp p m wx ((h.cell (p := ⟨1, 0, none⟩) (World.block_lt_of_cell? w _ hm)).trans hm) (hp.later h) (var_stays gSynL hv h (Nat.le_refl _)) (hf0.later h)
  clear hp hv hm hf0 hV
  unfold HrAns at HS HI
  go_enter Tryd.func13, Tryd.ntmps13
  go_wp2_with fail
  refine HS.out.mono ?_
  rintro e w1 ⟨a1, c1, rfl, o1, hb1⟩
  have B1 := Lib.hid (balloc hb1 (.cells #[.slice a1 Q.length c1, .string TQ] 27))
  have M1 := Lib.hid ((LowInt.of o1).later (balloc0 w1 (.cells #[.slice a1 Q.length c1, .string TQ] 27)))
  have QW1 : Hid (HoBox w1.heap.size a1 c1 Q TQ (w1.alloc (.cells #[.slice a1 Q.length c1, .string TQ] 27))) := HoBox.new w1 _
  have zV1 : (w1.alloc (.cells #[.slice a1 Q.length c1, .string TQ] 27)).heap.size = w1.heap.size + 1 := by simp
  have zw1 : w.heap.size ≤ w1.heap.size := hb1.size
  clear hb1 o1
  go_wp2_with fail
  obtain ⟨V1, hV1⟩ : ∃ V1, w1.alloc (.cells #[.slice a1 Q.length c1, .string TQ] 27) = V1 := ⟨_, rfl⟩
  rw [hV1] at B1 M1 QW1 zV1
  try rw [hV1]
  clear hV1
  refine (HI.out _ B1.out).mono ?_
  rintro e w2 ⟨a2, c2, rfl, o2, hb2⟩
  have z2 : V1.heap.size ≤ w2.heap.size := hb2.size
  have g2lt : ∀ g, a2 = some ⟨g, 0, none⟩ → ¬ Q = [] → V1.heap.size ≤ g ∧ g < w2.heap.size := fun g h1 h2 => by
    rcases o2 with h | ⟨g', h3, h4⟩
    · exact absurd h h2
    · rw [h3] at h1; cases h1; exact ⟨h4.1, h4.2.2.2⟩
  have B2 := Lib.hid (balloc (bnext B1.out hb2) (.cells #[.slice a2 Q.length c2, .string TQ] 27))
  have M2 := Lib.hid ((M1.out.later hb2).later (balloc0 w2 (.cells #[.slice a2 Q.length c2, .string TQ] 27)))
  have QW2 := Lib.hid ((QW1.out.later hb2).later (balloc0 w2 (.cells #[.slice a2 Q.length c2, .string TQ] 27)))
  have G2 := Lib.hid (IntRes.later o2 (balloc0 w2 (.cells #[.slice a2 Q.length c2, .string TQ] 27)))
  have QG2 : Hid (HoBox w2.heap.size a2 c2 Q TQ (w2.alloc (.cells #[.slice a2 Q.length c2, .string TQ] 27))) := HoBox.new w2 _
  have zV2 : (w2.alloc (.cells #[.slice a2 Q.length c2, .string TQ] 27)).heap.size = w2.heap.size + 1 := by simp
  clear hb2 o2
  obtain ⟨f0, f1⟩ := QG2.out
  obtain ⟨f2, f3⟩ := QW2.out
  go_wp2_with fail
  obtain ⟨V2, hV2⟩ : ∃ V2, w2.alloc (.cells #[.slice a2 Q.length c2, .string TQ] 27) = V2 := ⟨_, rfl⟩
  rw [hV2] at B2 M2 QW2 G2 QG2 zV2
  try rw [hV2]
  clear hV2 f0 f1 f2 f3
  refine (eq_house Q TQ a2 a1 c2 c1 (by omega) _ G2.out.arg M2.out.arg).mono ?_
  rintro e w3 ⟨rfl, hb3⟩
  have z3 : V2.heap.size ≤ w3.heap.size := hb3.size
  have B3 := Lib.hid (bnext B2.out hb3)
  have M3 := Lib.hid (M2.out.later hb3)
  have G3 := Lib.hid (G2.out.later hb3)
  have QW3 := Lib.hid (QW2.out.later hb3)
  have QG3 := Lib.hid (QG2.out.later hb3)
  clear hb3
  obtain ⟨f0, f1⟩ := QG3.out
  have bg : V1.heap.size ≤ w3.heap.size := by omega
  cases b
  all_goals
    go_wp2_with fail
    refine (mark_hres Q TQ (by omega) 1 (by omega) V1.heap.size c2 a2 _ bg G3.out).mono ?_
    rintro e w4 ⟨rfl, ro4, m4⟩
    have z4 : w3.heap.size ≤ w4.heap.size := ro4.size
    have B4 := Lib.hid (B3.out.trans ((ro4.base bg).mono (by omega)))
    have M4 := Lib.hid (M3.out.below (ro4.base bg) (by omega))
    have hne2 : ∀ g, a2 = some ⟨g, 0, none⟩ → ¬ Q = [] → w2.heap.size ≠ g ∧ w1.heap.size ≠ g := fun g h1 h2 => by
      have := g2lt g h1 h2
      omega
    have QW4 := Lib.hid (QW3.out.res ro4 (fun g h h2 => (hne2 g h h2).2))
    have QG4 := Lib.hid (QG3.out.res ro4 (fun g h h2 => (hne2 g h h2).1))
    have G4 := Lib.hid m4
    clear ro4 m4 f0 f1
    obtain ⟨q, hq⟩ : ∃ q : Int, ((1 + Q.length : Nat) : Int) = q := ⟨_, rfl⟩
    have hq0 : ¬ q < 0 := by omega
    have HQ := Lib.hid hq
    rw [hq]
    clear hq
    obtain ⟨f0, f1⟩ := QG4.out
    go_wp2_with fail
    refine (held_hres Q.length TQ (by omega) 1 (by omega) c2 a2 _ _ G4.out).mono ?_
    rintro e w5 ⟨rfl, hb5⟩
    rw [HQ.out]
    have B5 := Lib.hid (bnext B4.out hb5)
    have M5 := Lib.hid (M4.out.later hb5)
    have G5 := Lib.hid (G4.out.later hb5)
    have QW5 := Lib.hid (QW4.out.later hb5)
    have QG5 := Lib.hid (QG4.out.later hb5)
    clear hb5 f0 f1
    go_wp2_with fail
    refine (HI.out _ B5.out).mono ?_
    rintro e w6 ⟨a6, c6, rfl, o6, hb6⟩
    have B6 := Lib.hid (balloc (bnext B5.out hb6) (.cells #[.slice a6 Q.length c6, .string TQ] 27))
    have M6 := Lib.hid ((M5.out.later hb6).later (balloc0 w6 (.cells #[.slice a6 Q.length c6, .string TQ] 27)))
    have G6 := Lib.hid ((G5.out.later hb6).later (balloc0 w6 (.cells #[.slice a6 Q.length c6, .string TQ] 27)))
    have QW6 := Lib.hid ((QW5.out.later hb6).later (balloc0 w6 (.cells #[.slice a6 Q.length c6, .string TQ] 27)))
    have QG6 := Lib.hid ((QG5.out.later hb6).later (balloc0 w6 (.cells #[.slice a6 Q.length c6, .string TQ] 27)))
    have R6 := Lib.hid (IntRes.later o6 (balloc0 w6 (.cells #[.slice a6 Q.length c6, .string TQ] 27)))
    have QH6 : Hid (HoBox w6.heap.size a6 c6 Q TQ (w6.alloc (.cells #[.slice a6 Q.length c6, .string TQ] 27))) := HoBox.new w6 _
    clear hb6 o6
    obtain ⟨f0, f1⟩ := QH6.out
    obtain ⟨f2, f3⟩ := QW6.out
    go_wp2_with fail
    refine (eq_house Q TQ a6 a1 c6 c1 (by omega) _ R6.out.arg M6.out.arg).mono ?_
    rintro e w7 ⟨rfl, hb7⟩
    have B7 := Lib.hid (bnext B6.out hb7)
    have G7 := Lib.hid (G6.out.later hb7)
    have QG7 := Lib.hid (QG6.out.later hb7)
    clear hb7 f0 f1 f2 f3
    obtain ⟨f0, f1⟩ := QG7.out
    go_wp2_with fail
    refine (held_hres Q.length TQ (by omega) 1 (by omega) c2 a2 _ _ G7.out).mono ?_
    rintro e w8 ⟨rfl, hb8⟩
    rw [HQ.out]
    have B8 := Lib.hid (bnext B7.out hb8)
    clear hb8
    go_wp2
    go_ret
    exact ⟨rfl, B8.out⟩
end Go.Proofs.YtikjielgnlgnjaaDoor
