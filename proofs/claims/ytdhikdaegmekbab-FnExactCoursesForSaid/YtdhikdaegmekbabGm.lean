/-
  Levels, gauges, joints of some courses: the model's word and the program's.
-/
import Derived.Test.YtdhikdaegmekbabGq
import Derived.Test.YtdhikdaegmekbabC2b
import Derived.Test.YtdhikdaegmekbabFrac
import Derived.Test.YtdhikdaegmekbabSetM
import Derived.Deep.RegionWith
import Derived.Deep.RegionHeld3
namespace Go.Proofs.Ytdhikdaegmekbab
open Go.ChangeShapes Go.WideShapes Go.ChangeAt Go.RowKit Go.Joins


theorem TwBox.set {x y : Int} {b g o : Nat} {w : World} {v : Value} (h : TwBox b x y w) (hne : b ≠ g) : TwBox b x y (w.setCell ⟨g, o, none⟩ v) :=
  ⟨(World.cell?_setCell_other _ _ _ _ (fun e => hne (by cases e; rfl))).trans h.1, (World.cell?_setCell_other _ _ _ _ (fun e => hne (by cases e; rfl))).trans h.2⟩
theorem frq {a b c a' b' c' : Int} (h1 : a = a') (h2 : b = b') (h3 : c = c') : Ending.returned (.tuple #[.agg #[.int .i64 a, .int .i64 b], .int .i64 c]) = .returned (.tuple #[.agg #[.int .i64 a', .int .i64 b'], .int .i64 c']) := by rw [h1, h2, h3]
theorem gtup2 {a b a' b' : Int} (h1 : a = a') (h2 : b = b') : Ending.returned (.tuple #[.int .i64 a, .int .i64 b]) = .returned (.tuple #[.int .i64 a', .int .i64 b']) := by rw [h1, h2]
def lvB (L : List Int) (H : Int) : Bool := inB H 100 6000 && (decide (L.length ≤ 20) && risesB 1 (H - 1) L)
set_option maxRecDepth 100000 in
set_option maxHeartbeats 6400000 in
theorem levels_spec (L : List Int) (H : Int) (a : Option Addr) (cap : Nat) (hl : L.length ≤ 1048576) (w : World) (ha : IntArg w a L) :
    Calls Try.prog 82 #[.slice a L.length cap, .int .i64 H] w fun e w' => e = .returned (.bool (lvB L H)) ∧ Below w.heap.size w w' := by
  cases h1 : inB H 100 6000
  · clear ha
    go_enter Try.func82, Try.ntmps82
    go_wp2_with (go_at_call 108; refine (height_spec _ _).mono ?_; rintro e w' ⟨rfl, rfl⟩)
    go_ret
    exact ⟨ret_bool (by simp [lvB, h1]), Below.refl _ _⟩
  by_cases h2 : (L.length : Int) ≤ 20
  · obtain ⟨H0, H1⟩ := inB_true.1 h1
    have RS := Lib.hid (rises_spec L 1 (H - 1) hl a cap w ha)
    clear ha
    go_enter Try.func82, Try.ntmps82
    go_wp2_with (first | (go_at_call 108; refine (height_spec _ _).mono ?_; rintro e w' ⟨rfl, rfl⟩) | (go_at_call 120; refine RS.out.mono ?_; rintro e w1 ⟨rfl, hb1⟩; have B1 := Lib.hid hb1; clear hb1))
    go_ret
    exact ⟨ret_bool (by simp [lvB, h1]; omega), B1.out⟩
  · clear ha
    have h3 : ¬ L.length ≤ 20 := by omega
    go_enter Try.func82, Try.ntmps82
    go_wp2_with (go_at_call 108; refine (height_spec _ _).mono ?_; rintro e w' ⟨rfl, rfl⟩)
    go_ret
    exact ⟨ret_bool (by simp [lvB, h3]), Below.refl _ _⟩
set_option maxRecDepth 100000 in
set_option maxHeartbeats 6400000 in
theorem levels_impl (L : List Int) (H : Int) (a : Option Addr) (cap : Nat) (hl : L.length ≤ 1048576) (w : World) (ha : IntArg w a L) :
    Calls Try.prog 115 #[.slice a L.length cap, .int .i64 H] w fun e w' => e = .returned (.bool (lvB L H)) ∧ Below w.heap.size w w' := by
  cases h1 : inB H 100 6000
  · clear ha
    go_enter Try.func115, Try.ntmps115
    go_wp2_with (go_at_call 110; refine (storey_impl _ _).mono ?_; rintro e w' ⟨rfl, rfl⟩)
    go_ret
    exact ⟨ret_bool (by simp [lvB, h1]), Below.refl _ _⟩
  by_cases h2 : (L.length : Int) ≤ 20
  · obtain ⟨H0, H1⟩ := inB_true.1 h1
    have RS := Lib.hid (rising_impl L 1 (H - 1) (by omega) (by omega) hl a cap w ha)
    clear ha
    go_enter Try.func115, Try.ntmps115
    go_wp2_with (first | (go_at_call 110; refine (storey_impl _ _).mono ?_; rintro e w' ⟨rfl, rfl⟩) | (go_at_call 125; refine RS.out.mono ?_; rintro e w1 ⟨rfl, hb1⟩; have B1 := Lib.hid hb1; clear hb1))
    go_ret
    exact ⟨ret_bool (by simp [lvB, h1]; omega), by rw [← B1.out]; exact Below.refl _ _⟩
  · clear ha
    have h3 : ¬ L.length ≤ 20 := by omega
    go_enter Try.func115, Try.ntmps115
    go_wp2_with (go_at_call 110; refine (storey_impl _ _).mono ?_; rintro e w' ⟨rfl, rfl⟩)
    go_ret
    exact ⟨ret_bool (by simp [lvB, h3]), Below.refl _ _⟩
def gaN (H c : Int) : Int := if gB H c = true then lowN H c else 0
def gaD (H c : Int) : Int := if gB H c = true then lowD H c else 0
set_option maxRecDepth 100000 in
set_option maxHeartbeats 6400000 in
theorem gauge_spec (H c : Int) (w : World) : Calls Try.prog 27 #[.int .i64 H, .int .i64 c] w fun e w' => e = .returned (.tuple #[.agg #[.int .i64 (gaN H c), .int .i64 (gaD H c)], .int .i64 (gC H c)]) ∧ Below w.heap.size w w' := by
  rcases gC_cases H c with ⟨h1, hc⟩ | ⟨h1, hc⟩
  · obtain ⟨⟨H0, H1⟩, c0, c1⟩ := gB_true.1 h1
    have MK := Lib.hid (make_spec H c (by omega) (by omega) (by omega) (by omega))
    rw [hc]
    go_enter Try.func27, Try.ntmps27
    go_wp2_with fail
    refine (gcode_spec H c _).mono ?_
    rintro e w1 ⟨rfl, rfl⟩
    rw [hc]
    go_wp2_with fail
    refine (MK.out _).mono ?_
    rintro e w3 ⟨rfl, hb3⟩
    obtain ⟨hc3, hf3⟩ := bcell hb3
    have hz3 : w.heap.size < w3.heap.size := by have := hb3.size; simp at this; omega
    go_wp2
    refine bodyPost_ret (v := .tuple #[.agg #[.int .i64 (lowN H c), .int .i64 (lowD H c)], .int .i64 0]) (by simp [results, Try.results27, go_sem, hc3]) rfl ⟨frq (by simp [gaN, h1]) (by simp [gaD, h1]) rfl, ?_⟩
    exact ((bnext (balloc0 _ _) hb3).setCell (Nat.le_refl _) _).setCell (Nat.le_refl _) _
  · rw [hc]
    go_enter Try.func27, Try.ntmps27
    go_wp2_with fail
    refine (gcode_spec H c _).mono ?_
    rintro e w1 ⟨rfl, rfl⟩
    rw [hc]
    go_wp2
    refine bodyPost_ret (v := .tuple #[.agg #[.int .i64 0, .int .i64 0], .int .i64 2]) (by simp [results, Try.results27, go_sem]) rfl ⟨frq (by simp [gaN, h1]) (by simp [gaD, h1]) rfl, ?_⟩
    exact balloc0 _ _
set_option maxRecDepth 100000 in
set_option maxHeartbeats 6400000 in
theorem gauge_impl (H c : Int) (w : World) : Calls Try.prog 28 #[.int .i64 H, .int .i64 c] w fun e w' => e = .returned (.tuple #[.agg #[.int .i64 (gaN H c), .int .i64 (gaD H c)], .int .i64 (gC H c)]) ∧ Below w.heap.size w w' := by
  have Z0 := Lib.hid ((TwBox.new w 0 0 26).later (balloc0 _ (.cells #[.int .i64 H, .int .i64 c] 83)))
  have R0 := Lib.hid (there_below (there_new w #[.int .i64 0, .int .i64 0] 26 2 rfl) (balloc0 _ (.cells #[.int .i64 H, .int .i64 c] 83)))
  rcases gC_cases H c with ⟨h1, hc⟩ | ⟨h1, hc⟩
  · obtain ⟨⟨H0, H1⟩, c0, c1⟩ := gB_true.1 h1
    have MK := Lib.hid (lowest_impl H c (by omega) (by omega) (by omega) (by omega))
    rw [hc]
    go_enter Try.func28, Try.ntmps28
    go_wp2_with fail
    refine (rodOk_impl H c _).mono ?_
    rintro e w1 ⟨rfl, hb1⟩
    have R1 := Lib.hid (there_below R0.out hb1)
    have B1 := Lib.hid (bnext (balloc (balloc0 w _) _) hb1)
    clear hb1
    go_wp2_with fail
    refine (MK.out _).mono ?_
    rintro e w3 ⟨rfl, hb3⟩
    obtain ⟨u0, x0, y0⟩ := there_at (there_below R1.out hb3) (show 0 < 2 by omega)
    obtain ⟨u1, x1, y1⟩ := there_at (there_below R1.out hb3) (show 1 < 2 by omega)
    go_wp2
    refine bodyPost_ret (v := .tuple #[.agg #[.int .i64 (lowN H c), .int .i64 (lowD H c)], .int .i64 0]) (by simp [results, Try.results28, go_sem, x0, x1]) rfl ⟨frq (by simp [gaN, h1]) (by simp [gaD, h1]) rfl, ?_⟩
    exact ((bnext B1.out hb3).setCell (by simp) _).setCell (by simp) _
  · rw [hc]
    go_enter Try.func28, Try.ntmps28
    go_wp2_with fail
    refine (rodOk_impl H c _).mono ?_
    rintro e w1 ⟨rfl, hb1⟩
    obtain ⟨u0, x0, y0⟩ := there_at (there_below R0.out hb1) (show 0 < 2 by omega)
    obtain ⟨u1, x1, y1⟩ := there_at (there_below R0.out hb1) (show 1 < 2 by omega)
    obtain ⟨z0, z1⟩ := Z0.out.later hb1
    clear x0 x1
    go_wp2
    refine bodyPost_ret (v := .tuple #[.agg #[.int .i64 0, .int .i64 0], .int .i64 2]) (by simp [results, Try.results28, go_sem, z0, z1]) rfl ⟨frq (by simp [gaN, h1]) (by simp [gaD, h1]) rfl, ?_⟩
    exact ((bnext (balloc (balloc0 _ _) _) hb1).setCell (by simp) _).setCell (by simp) _
def bedC (l wd ht j H c : Int) : Int := if okB l wd ht j = true then (if gB H c = true then (if H < c * ht then 6 else 0) else 2) else 1
def bedN (l wd ht j H c : Int) : Int := if bedC l wd ht j H c = 0 then lowN (H - c * ht) c else 0
def bedD (l wd ht j H c : Int) : Int := if bedC l wd ht j H c = 0 then lowD (H - c * ht) c else 0
theorem bedC_cases (l wd ht j H c : Int) : (okB l wd ht j = false ∧ bedC l wd ht j H c = 1) ∨ (okB l wd ht j = true ∧ gB H c = false ∧ bedC l wd ht j H c = 2) ∨ (okB l wd ht j = true ∧ gB H c = true ∧ H < c * ht ∧ bedC l wd ht j H c = 6) ∨ (okB l wd ht j = true ∧ gB H c = true ∧ ¬ H < c * ht ∧ bedC l wd ht j H c = 0) := by
  cases h1 : okB l wd ht j
  · exact .inl ⟨rfl, by simp [bedC, h1]⟩
  · cases h2 : gB H c
    · exact .inr (.inl ⟨rfl, rfl, by simp [bedC, h1, h2]⟩)
    · by_cases h3 : H < c * ht
      · exact .inr (.inr (.inl ⟨rfl, rfl, h3, by simp [bedC, h1, h2, h3]⟩))
      · exact .inr (.inr (.inr ⟨rfl, rfl, h3, by simp only [bedC, h1, h2, if_true]; rw [if_neg h3]⟩))
theorem cht_range {l wd ht j H c : Int} (h1 : okB l wd ht j = true) (h2 : gB H c = true) : 0 ≤ c * ht ∧ c * ht ≤ 6000 := by
  obtain ⟨_, _, ⟨t1, t2⟩, _, _⟩ := okB_true.1 h1
  obtain ⟨-, c0, c1⟩ := gB_true.1 h2
  exact ⟨Int.mul_nonneg (by omega) (by omega), Int.le_trans (Int.mul_le_mul c1 t2 (by omega) (by omega)) (by omega)⟩
theorem left_impl (l wd ht j H c : Int) (h1 : okB l wd ht j = true) (h2 : gB H c = true) (w : World) : Calls Try.prog 113 #[.agg #[.int .i64 H, .int .i64 c], .agg #[.int .i64 l, .int .i64 wd, .int .i64 ht, .int .i64 j]] w fun e w' => e = .returned (.int .i64 (H - c * ht)) ∧ Below w.heap.size w w' := by
  obtain ⟨m0, m1⟩ := cht_range h1 h2
  obtain ⟨⟨H0, H1⟩, c0, c1⟩ := gB_true.1 h2
  clear h1 h2
  go_enter Try.func113, Try.ntmps113
  go_wp2
  go_ret
  exact ⟨rfl, balloc (balloc0 _ _) _⟩
set_option maxRecDepth 100000 in
set_option maxHeartbeats 6400000 in
theorem bcode_spec (l wd ht j H c : Int) (w : World) : Calls Try.prog 66 #[.agg #[.int .i64 l, .int .i64 wd, .int .i64 ht, .int .i64 j], .int .i64 H, .int .i64 c] w fun e w' => e = .returned (.int .i64 (bedC l wd ht j H c)) ∧ Below w.heap.size w w' := by
  have F0 := Lib.hid (FmBox.new w l wd ht j 41)
  rcases bedC_cases l wd ht j H c with ⟨h1, hc⟩ | ⟨h1, h2, hc⟩ | ⟨h1, h2, h3, hc⟩ | ⟨h1, h2, h3, hc⟩
  · rw [hc]
    go_enter Try.func66, Try.ntmps66
    go_wp2_with fail
    refine (l02ok l wd ht j _).mono ?_
    rintro e w1 ⟨rfl, hb1⟩
    go_wp2
    go_ret
    exact ⟨rfl, bnext (balloc0 _ _) hb1⟩
  · rw [hc]
    have hg : gC H c = 2 := by simp [gC, h2]
    go_enter Try.func66, Try.ntmps66
    go_wp2_with fail
    refine (l02ok l wd ht j _).mono ?_
    rintro e w1 ⟨rfl, hb1⟩
    go_wp2_with fail
    refine (gcode_spec H c _).mono ?_
    rintro e w2 ⟨rfl, rfl⟩
    rw [hg]
    go_wp2
    go_ret
    exact ⟨rfl, bnext (balloc0 _ _) hb1⟩
  · rw [hc]
    have hg : gC H c = 0 := by simp [gC, h2]
    obtain ⟨m0, m1⟩ := cht_range h1 h2
    obtain ⟨⟨H0, H1⟩, c0, c1⟩ := gB_true.1 h2
    go_enter Try.func66, Try.ntmps66
    go_wp2_with fail
    refine (l02ok l wd ht j _).mono ?_
    rintro e w1 ⟨rfl, hb1⟩
    obtain ⟨f0, f1, f2, f3⟩ := F0.out.later hb1
    go_wp2_with fail
    refine (gcode_spec H c _).mono ?_
    rintro e w2 ⟨rfl, rfl⟩
    rw [hg]
    go_wp2
    go_ret
    exact ⟨rfl, bnext (balloc0 _ _) hb1⟩
  · rw [hc]
    have hg : gC H c = 0 := by simp [gC, h2]
    obtain ⟨m0, m1⟩ := cht_range h1 h2
    obtain ⟨⟨H0, H1⟩, c0, c1⟩ := gB_true.1 h2
    go_enter Try.func66, Try.ntmps66
    go_wp2_with fail
    refine (l02ok l wd ht j _).mono ?_
    rintro e w1 ⟨rfl, hb1⟩
    obtain ⟨f0, f1, f2, f3⟩ := F0.out.later hb1
    go_wp2_with fail
    refine (gcode_spec H c _).mono ?_
    rintro e w2 ⟨rfl, rfl⟩
    rw [hg]
    go_wp2
    go_ret
    exact ⟨rfl, bnext (balloc0 _ _) hb1⟩
set_option maxRecDepth 100000 in
set_option maxHeartbeats 6400000 in
theorem bcode_impl (l wd ht j H c : Int) (w : World) : Calls Try.prog 67 #[.agg #[.int .i64 l, .int .i64 wd, .int .i64 ht, .int .i64 j], .agg #[.int .i64 H, .int .i64 c]] w fun e w' => e = .returned (.int .i64 (bedC l wd ht j H c)) ∧ Below w.heap.size w w' := by
  have F0 := (FmBox.new w l wd ht j 41).later (balloc0 _ (.cells #[.int .i64 H, .int .i64 c] 83))
  have T0 := TwBox.new (w.alloc (.cells #[.int .i64 l, .int .i64 wd, .int .i64 ht, .int .i64 j] 41)) H c 83
  rw [World.size_alloc] at T0
  have E0 := Lib.hid (balloc (balloc0 w (.cells #[.int .i64 l, .int .i64 wd, .int .i64 ht, .int .i64 j] 41)) (.cells #[.int .i64 H, .int .i64 c] 83))
  obtain ⟨W0, hW⟩ : ∃ W0, (w.alloc (.cells #[.int .i64 l, .int .i64 wd, .int .i64 ht, .int .i64 j] 41)).alloc (.cells #[.int .i64 H, .int .i64 c] 83) = W0 := ⟨_, rfl⟩
  rw [hW] at F0 T0 E0
  have K : Hid (∀ wx, Below W0.heap.size W0 wx → FmBox w.heap.size l wd ht j wx ∧ TwBox (w.heap.size + 1) H c wx) := fun wx hx => ⟨F0.later hx, T0.later hx⟩
  have E0 : Hid (Below w.heap.size w W0) := E0.out
  have HW := Lib.hid hW
  clear hW F0 T0
  rcases bedC_cases l wd ht j H c with ⟨h1, hc⟩ | ⟨h1, h2, hc⟩ | ⟨h1, h2, h3, hc⟩ | ⟨h1, h2, h3, hc⟩
  · rw [hc]
    obtain ⟨⟨f0, f1, f2, f3⟩, t0, t1⟩ := K.out _ (Below.refl _ _)
    go_enter Try.func67, Try.ntmps67
    go_wp2_with fail
    rw [HW.out]
    try go_wp2_with fail
    refine (vf_any l wd ht j _).mono ?_
    rintro e w1 ⟨rfl, hb1⟩
    have B1 := Lib.hid hb1
    clear hb1 f0 f1 f2 f3 t0 t1
    go_wp2
    go_ret
    exact ⟨rfl, bnext E0.out B1.out⟩
  · rw [hc]
    obtain ⟨⟨f0, f1, f2, f3⟩, t0, t1⟩ := K.out _ (Below.refl _ _)
    go_enter Try.func67, Try.ntmps67
    go_wp2_with fail
    rw [HW.out]
    try go_wp2_with fail
    refine (vf_any l wd ht j _).mono ?_
    rintro e w1 ⟨rfl, hb1⟩
    have B1 := Lib.hid hb1
    clear hb1 f0 f1 f2 f3 t0 t1
    obtain ⟨⟨f0, f1, f2, f3⟩, t0, t1⟩ := K.out _ B1.out
    go_wp2_with fail
    refine (rodOk_impl H c _).mono ?_
    rintro e w2 ⟨rfl, hb2⟩
    have B2 := Lib.hid (bnext B1.out hb2)
    clear hb2 f0 f1 f2 f3 t0 t1
    go_wp2
    go_ret
    exact ⟨rfl, bnext E0.out B2.out⟩
  · rw [hc]
    have h4 : H - c * ht < 0 := by omega
    obtain ⟨⟨f0, f1, f2, f3⟩, t0, t1⟩ := K.out _ (Below.refl _ _)
    go_enter Try.func67, Try.ntmps67
    go_wp2_with fail
    rw [HW.out]
    try go_wp2_with fail
    refine (vf_any l wd ht j _).mono ?_
    rintro e w1 ⟨rfl, hb1⟩
    have B1 := Lib.hid hb1
    clear hb1 f0 f1 f2 f3 t0 t1
    obtain ⟨⟨f0, f1, f2, f3⟩, t0, t1⟩ := K.out _ B1.out
    go_wp2_with fail
    refine (rodOk_impl H c _).mono ?_
    rintro e w2 ⟨rfl, hb2⟩
    have B2 := Lib.hid (bnext B1.out hb2)
    clear hb2 f0 f1 f2 f3 t0 t1
    obtain ⟨m0, m1⟩ := cht_range h1 h2
    obtain ⟨⟨H0, H1⟩, c0, c1⟩ := gB_true.1 h2
    have LE := Lib.hid (left_impl l wd ht j H c h1 h2)
    obtain ⟨⟨f0, f1, f2, f3⟩, t0, t1⟩ := K.out _ B2.out
    go_wp2_with fail
    refine (LE.out _).mono ?_
    rintro e w3 ⟨rfl, hb3⟩
    have B3 := Lib.hid (bnext B2.out hb3)
    clear hb3 f0 f1 f2 f3 t0 t1
    go_wp2
    go_ret
    exact ⟨rfl, bnext E0.out B3.out⟩
  · rw [hc]
    have h4 : ¬ H - c * ht < 0 := by omega
    obtain ⟨⟨f0, f1, f2, f3⟩, t0, t1⟩ := K.out _ (Below.refl _ _)
    go_enter Try.func67, Try.ntmps67
    go_wp2_with fail
    rw [HW.out]
    try go_wp2_with fail
    refine (vf_any l wd ht j _).mono ?_
    rintro e w1 ⟨rfl, hb1⟩
    have B1 := Lib.hid hb1
    clear hb1 f0 f1 f2 f3 t0 t1
    obtain ⟨⟨f0, f1, f2, f3⟩, t0, t1⟩ := K.out _ B1.out
    go_wp2_with fail
    refine (rodOk_impl H c _).mono ?_
    rintro e w2 ⟨rfl, hb2⟩
    have B2 := Lib.hid (bnext B1.out hb2)
    clear hb2 f0 f1 f2 f3 t0 t1
    obtain ⟨m0, m1⟩ := cht_range h1 h2
    obtain ⟨⟨H0, H1⟩, c0, c1⟩ := gB_true.1 h2
    have LE := Lib.hid (left_impl l wd ht j H c h1 h2)
    obtain ⟨⟨f0, f1, f2, f3⟩, t0, t1⟩ := K.out _ B2.out
    go_wp2_with fail
    refine (LE.out _).mono ?_
    rintro e w3 ⟨rfl, hb3⟩
    have B3 := Lib.hid (bnext B2.out hb3)
    clear hb3 f0 f1 f2 f3 t0 t1
    go_wp2
    go_ret
    exact ⟨rfl, bnext E0.out B3.out⟩
set_option maxRecDepth 100000 in
set_option maxHeartbeats 6400000 in
theorem bed_impl' (l wd ht j H c : Int) (h1 : okB l wd ht j = true) (h2 : gB H c = true) (h3 : ¬ H < c * ht) (w : World) : Calls Try.prog 68 #[.agg #[.int .i64 H, .int .i64 c], .agg #[.int .i64 l, .int .i64 wd, .int .i64 ht, .int .i64 j]] w fun e w' => e = .returned (.agg #[.int .i64 (lowN (H - c * ht) c), .int .i64 (lowD (H - c * ht) c)]) ∧ Below w.heap.size w w' := by
  obtain ⟨m0, m1⟩ := cht_range h1 h2
  obtain ⟨⟨H0, H1⟩, c0, c1⟩ := gB_true.1 h2
  have MK := Lib.hid (lowest_impl (H - c * ht) c (by omega) (by omega) (by omega) (by omega))
  have LE := Lib.hid (left_impl l wd ht j H c h1 h2)
  have T1 := Lib.hid (((TwBox.new w H c 83).later (balloc0 _ (.cells #[.int .i64 l, .int .i64 wd, .int .i64 ht, .int .i64 j] 41))).later (balloc0 _ (.cells #[.int .i64 0, .int .i64 0] 26)))
  have F1' := (FmBox.new (w.alloc (.cells #[.int .i64 H, .int .i64 c] 83)) l wd ht j 41).later (balloc0 _ (.cells #[.int .i64 0, .int .i64 0] 26))
  rw [World.size_alloc] at F1'
  have F1 := Lib.hid F1'
  have R1' := there_new ((w.alloc (.cells #[.int .i64 H, .int .i64 c] 83)).alloc (.cells #[.int .i64 l, .int .i64 wd, .int .i64 ht, .int .i64 j] 41)) #[.int .i64 0, .int .i64 0] 26 2 rfl
  rw [World.size_alloc, World.size_alloc] at R1'
  have R1 := Lib.hid R1'
  have E1 := Lib.hid (balloc (balloc (balloc0 w (.cells #[.int .i64 H, .int .i64 c] 83)) (.cells #[.int .i64 l, .int .i64 wd, .int .i64 ht, .int .i64 j] 41)) (.cells #[.int .i64 0, .int .i64 0] 26))
  clear F1' R1' h1 h2
  go_enter Try.func68, Try.ntmps68
  go_wp2_with fail
  refine wp_region_held_drew (S := fun W => TwBox w.heap.size H c W ∧ FmBox (w.heap.size + 1) l wd ht j W ∧ Below w.heap.size w W ∧ W.there (w.heap.size + 1 + 1) 0 2) (by kernel_rfl) ?_ (fun hHeld => ?_)
  · exact ⟨T1.out.drew, F1.out.drew, E1.out.drew, R1.out⟩
  refine wpAnyH_take (i := 0) (v := .agg #[.int .i64 H, .int .i64 c]) rfl (by kernel_rfl) (by kernel_rfl) (by kernel_rfl) (fun _ _ _ h => h) (Or.inl ⟨by kernel_rfl, ?_⟩) (by assumption) ?_
  · intro w hSw
    try dsimp only at hSw
    obtain ⟨⟨k0, k1⟩, ⟨f0, f1, f2, f3⟩, -, -⟩ := hSw
    go_simp
  try simp only [Act.put, List.setIfInBounds_toArray, List.set_cons_zero, List.set_cons_succ, List.getElem_toArray, List.getElem_cons_zero]
  refine wpAnyH_take (i := 1) (v := .agg #[.int .i64 l, .int .i64 wd, .int .i64 ht, .int .i64 j]) rfl (by kernel_rfl) (by kernel_rfl) (by kernel_rfl) (fun _ _ _ h => h) (Or.inl ⟨by kernel_rfl, ?_⟩) (by assumption) ?_
  · intro w hSw
    try dsimp only at hSw
    obtain ⟨⟨k0, k1⟩, ⟨f0, f1, f2, f3⟩, -, -⟩ := hSw
    go_simp
  try simp only [Act.put, List.setIfInBounds_toArray, List.set_cons_zero, List.set_cons_succ, List.getElem_toArray, List.getElem_cons_zero, List.getElem_cons_succ]
  refine wpAnyH_take (i := 3) (v := .pointer (some ⟨w.heap.size, 1, none⟩)) rfl (by kernel_rfl) (by kernel_rfl) (by kernel_rfl) (fun _ _ _ h => h) (Or.inl ⟨by kernel_rfl, ?_⟩) (by assumption) ?_
  · intro w hSw
    try dsimp only at hSw
    skip
    go_simp
  try simp only [Act.put, List.setIfInBounds_toArray, List.set_cons_zero, List.set_cons_succ, List.getElem_toArray, List.getElem_cons_zero, List.getElem_cons_succ]
  refine wpAnyH_take (i := 4) (v := .int .i64 c) rfl (by kernel_rfl) (by kernel_rfl) (by kernel_rfl) (fun _ _ _ h => h) (Or.inl ⟨by kernel_rfl, ?_⟩) (by assumption) ?_
  · intro w hSw
    try dsimp only at hSw
    obtain ⟨⟨k0, k1⟩, ⟨f0, f1, f2, f3⟩, -, -⟩ := hSw
    go_simp
  try simp only [Act.put, List.setIfInBounds_toArray, List.set_cons_zero, List.set_cons_succ, List.getElem_toArray, List.getElem_cons_zero, List.getElem_cons_succ]
  refine wpAnyH_ready (rs := [2]) (by kernel_rfl) (by simp) ?_
  refine AllReadyH.cons rfl (fun K hK => ?_) AllReadyH.nil
  go_simp
  go_at_call 113
  refine (LE.out _).mono ?_
  rintro e w2 ⟨rfl, hb2⟩
  refine hK.out _ _ ?_ (fun hHeld' => ?_)
  · exact ⟨hHeld.1.later hb2, hHeld.2.1.later hb2, bnext hHeld.2.2.1 hb2, there_below hHeld.2.2.2 hb2⟩
  clear hK K hHeld
  have hHeld := hHeld'
  clear hHeld'
  clear hb2
  try simp only [Act.put, List.setIfInBounds_toArray, List.set_cons_zero, List.set_cons_succ, List.getElem_toArray, List.getElem_cons_zero, List.getElem_cons_succ]
  refine wpAnyH_ready (rs := [5]) (by kernel_rfl) (by simp) ?_
  refine AllReadyH.cons rfl (fun K hK => ?_) AllReadyH.nil
  go_simp
  go_at_call 65
  refine (MK.out _).mono ?_
  rintro e w5 ⟨rfl, hb5⟩
  refine hK.out _ _ ?_ (fun hHeld' => ?_)
  · exact ⟨hHeld.1.later hb5, hHeld.2.1.later hb5, bnext hHeld.2.2.1 hb5, there_below hHeld.2.2.2 hb5⟩
  clear hK K hHeld
  have hHeld := hHeld'
  clear hHeld'
  clear hb5
  try simp only [Act.put, List.setIfInBounds_toArray, List.set_cons_zero, List.set_cons_succ, List.getElem_toArray, List.getElem_cons_zero, List.getElem_cons_succ]
  refine wpAnyH_ready (rs := [6]) (by kernel_rfl) (by simp) ?_
  refine AllReadyH.cons rfl (fun K hK => ?_) AllReadyH.nil
  obtain ⟨u0, x0, y0⟩ := there_at hHeld.2.2.2 (show 0 < 2 by omega)
  obtain ⟨u1, x1, y1⟩ := there_at hHeld.2.2.2 (show 1 < 2 by omega)
  go_simp
  refine hK.out _ _ ?_ (fun hHeld' => ?_)
  · exact ⟨(TwBox.set hHeld.1 (by omega)).set (by omega), (hHeld.2.1.set (by omega)).set (by omega), (hHeld.2.2.1.setCell (by simp; omega) _).setCell (by simp; omega) _, there_setM (there_setM hHeld.2.2.2 _ _) _ _⟩
  clear hK K hHeld
  have hHeld := hHeld'
  clear hHeld'
  try simp only [Act.put, List.setIfInBounds_toArray, List.set_cons_zero, List.set_cons_succ, List.getElem_toArray, List.getElem_cons_zero, List.getElem_cons_succ]
  refine wpAnyH_done (by kernel_rfl) ?_ _
  go_wp2
  refine bodyPost_ret (v := .agg #[.int .i64 (lowN (H - c * ht) c), .int .i64 (lowD (H - c * ht) c)]) (by simp [results, Try.results68, go_sem, x0, x1]) rfl ⟨rfl, hHeld.2.2.1⟩
set_option maxRecDepth 100000 in
set_option maxHeartbeats 6400000 in
theorem bedOf_spec (l wd ht j H c : Int) (w : World) : Calls Try.prog 29 #[.agg #[.int .i64 l, .int .i64 wd, .int .i64 ht, .int .i64 j], .int .i64 H, .int .i64 c] w fun e w' => e = .returned (.tuple #[.agg #[.int .i64 (bedN l wd ht j H c), .int .i64 (bedD l wd ht j H c)], .int .i64 (bedC l wd ht j H c)]) ∧ Below w.heap.size w w' := by
  have F0 := Lib.hid ((FmBox.new w l wd ht j 41).later (balloc0 _ (.cells #[.int .i64 0, .int .i64 0] 26)))
  by_cases hc : bedC l wd ht j H c = 0
  · have hok : okB l wd ht j = true ∧ gB H c = true ∧ ¬ H < c * ht := by
      rcases bedC_cases l wd ht j H c with ⟨h1, hc'⟩ | ⟨h1, h2, hc'⟩ | ⟨h1, h2, h3, hc'⟩ | ⟨h1, h2, h3, hc'⟩
      · rw [hc'] at hc; cases hc
      · rw [hc'] at hc; cases hc
      · rw [hc'] at hc; cases hc
      · exact ⟨h1, h2, h3⟩
    obtain ⟨h1, h2, h3⟩ := hok
    obtain ⟨m0, m1⟩ := cht_range h1 h2
    obtain ⟨⟨H0, H1⟩, c0, c1⟩ := gB_true.1 h2
    have MK := Lib.hid (make_spec (H - c * ht) c (by omega) (by omega) (by omega) (by omega))
    rw [hc]
    go_enter Try.func29, Try.ntmps29
    go_wp2_with fail
    refine (bcode_spec l wd ht j H c _).mono ?_
    rintro e w1 ⟨rfl, hb1⟩
    obtain ⟨hc1, hf1⟩ := bcell hb1
    obtain ⟨f0, f1, f2, f3⟩ := F0.out.later hb1
    have hz1 : w.heap.size + 1 < w1.heap.size := by have := hb1.size; simp at this; omega
    have B1 := Lib.hid (bnext (balloc (balloc0 w _) _) hb1)
    clear hb1
    rw [hc]
    go_wp2_with fail
    refine (MK.out _).mono ?_
    rintro e w3 ⟨rfl, hb3⟩
    obtain ⟨hc3, hf3⟩ := bcell hb3
    have hz3 : w.heap.size + 1 < w3.heap.size := Nat.lt_of_lt_of_le hz1 hb3.size
    go_wp2
    refine bodyPost_ret (v := .tuple #[.agg #[.int .i64 (lowN (H - c * ht) c), .int .i64 (lowD (H - c * ht) c)], .int .i64 0]) (by simp [results, Try.results29, go_sem, hc3, hc1, hz1]) rfl ⟨frq (by simp [bedN, hc]) (by simp [bedD, hc]) rfl, ?_⟩
    exact ((bnext B1.out hb3).setCell (by simp) _).setCell (by simp) _
  · obtain ⟨q, hq⟩ : ∃ q, bedC l wd ht j H c = q := ⟨_, rfl⟩
    have hn : bedN l wd ht j H c = 0 ∧ bedD l wd ht j H c = 0 := by unfold bedN bedD; rw [if_neg hc, if_neg hc]; exact ⟨rfl, rfl⟩
    have CC := Lib.hid (fun wx => bcode_spec l wd ht j H c wx)
    rw [hn.1, hn.2]
    rw [hq] at hc CC ⊢
    clear hn hq
    go_enter Try.func29, Try.ntmps29
    go_wp2_with fail
    refine (CC.out _).mono ?_
    rintro e w1 ⟨rfl, hb1⟩
    obtain ⟨hc1, hf1⟩ := bcell hb1
    have hz1 : w.heap.size + 1 < w1.heap.size := by have := hb1.size; simp at this; omega
    go_wp2
    refine bodyPost_ret (v := .tuple #[.agg #[.int .i64 0, .int .i64 0], .int .i64 q]) (by simp [results, Try.results29, go_sem, hc1]) rfl ⟨rfl, ?_⟩
    exact ((bnext (balloc (balloc0 _ _) _) hb1).setCell (by simp) _).setCell (by simp) _
set_option maxRecDepth 100000 in
set_option maxHeartbeats 6400000 in
theorem bedOf_impl (l wd ht j H c : Int) (w : World) : Calls Try.prog 31 #[.agg #[.int .i64 l, .int .i64 wd, .int .i64 ht, .int .i64 j], .int .i64 H, .int .i64 c] w fun e w' => e = .returned (.tuple #[.agg #[.int .i64 (bedN l wd ht j H c), .int .i64 (bedD l wd ht j H c)], .int .i64 (bedC l wd ht j H c)]) ∧ Below w.heap.size w w' := by
  have F0 := ((FmBox.new w l wd ht j 41).later (balloc0 _ (.cells #[.int .i64 0, .int .i64 0] 26))).later (balloc0 _ (.cells #[.int .i64 H, .int .i64 c] 83))
  have R0 := there_below (there_new (w.alloc (.cells #[.int .i64 l, .int .i64 wd, .int .i64 ht, .int .i64 j] 41)) #[.int .i64 0, .int .i64 0] 26 2 rfl) (balloc0 _ (.cells #[.int .i64 H, .int .i64 c] 83))
  have T0 := TwBox.new ((w.alloc (.cells #[.int .i64 l, .int .i64 wd, .int .i64 ht, .int .i64 j] 41)).alloc (.cells #[.int .i64 0, .int .i64 0] 26)) H c 83
  rw [World.size_alloc] at R0
  rw [World.size_alloc, World.size_alloc] at T0
  have E0 := Lib.hid (balloc (balloc (balloc0 w (.cells #[.int .i64 l, .int .i64 wd, .int .i64 ht, .int .i64 j] 41)) (.cells #[.int .i64 0, .int .i64 0] 26)) (.cells #[.int .i64 H, .int .i64 c] 83))
  have ZZ : ((((w.alloc (.cells #[.int .i64 l, .int .i64 wd, .int .i64 ht, .int .i64 j] 41)).alloc (.cells #[.int .i64 0, .int .i64 0] 26)).alloc (.cells #[.int .i64 H, .int .i64 c] 83)).cell? ⟨w.heap.size + 1, 0, none⟩ = some (.int .i64 0)) ∧ ((((w.alloc (.cells #[.int .i64 l, .int .i64 wd, .int .i64 ht, .int .i64 j] 41)).alloc (.cells #[.int .i64 0, .int .i64 0] 26)).alloc (.cells #[.int .i64 H, .int .i64 c] 83)).cell? ⟨w.heap.size + 1, 1, none⟩ = some (.int .i64 0)) := by
    have h := TwBox.later (TwBox.new (w.alloc (.cells #[.int .i64 l, .int .i64 wd, .int .i64 ht, .int .i64 j] 41)) 0 0 26) (balloc0 _ (.cells #[.int .i64 H, .int .i64 c] 83))
    rw [World.size_alloc] at h
    exact h
  obtain ⟨W0, hW⟩ : ∃ W0, ((w.alloc (.cells #[.int .i64 l, .int .i64 wd, .int .i64 ht, .int .i64 j] 41)).alloc (.cells #[.int .i64 0, .int .i64 0] 26)).alloc (.cells #[.int .i64 H, .int .i64 c] 83) = W0 := ⟨_, rfl⟩
  rw [hW] at F0 T0 E0 R0 ZZ
  have K : Hid (∀ wx, Below W0.heap.size W0 wx → FmBox w.heap.size l wd ht j wx ∧ TwBox (w.heap.size + 1 + 1) H c wx ∧ wx.there (w.heap.size + 1) 0 2 ∧ TwBox (w.heap.size + 1) 0 0 wx) := fun wx hx => ⟨F0.later hx, T0.later hx, there_below R0 hx, TwBox.later ZZ hx⟩
  have E0 : Hid (Below w.heap.size w W0) := E0.out
  have HW := Lib.hid hW
  clear hW F0 T0 R0 ZZ
  obtain ⟨⟨f0, f1, f2, f3⟩, ⟨t0, t1⟩, rr, -⟩ := K.out _ (Below.refl _ _)
  have RR := Lib.hid rr
  clear rr
  by_cases hc : bedC l wd ht j H c = 0
  · have hok : okB l wd ht j = true ∧ gB H c = true ∧ ¬ H < c * ht := by
      rcases bedC_cases l wd ht j H c with ⟨h1, hc'⟩ | ⟨h1, h2, hc'⟩ | ⟨h1, h2, h3, hc'⟩ | ⟨h1, h2, h3, hc'⟩
      · rw [hc'] at hc; cases hc
      · rw [hc'] at hc; cases hc
      · rw [hc'] at hc; cases hc
      · exact ⟨h1, h2, h3⟩
    obtain ⟨h1, h2, h3⟩ := hok
    have BE := Lib.hid (bed_impl' l wd ht j H c h1 h2 h3)
    have CC := Lib.hid (fun wx => bcode_impl l wd ht j H c wx)
    rw [hc] at CC
    have e1 : bedN l wd ht j H c = lowN (H - c * ht) c := by unfold bedN; rw [if_pos hc]
    have e2 : bedD l wd ht j H c = lowD (H - c * ht) c := by unfold bedD; rw [if_pos hc]
    rw [hc, e1, e2]
    obtain ⟨x, hx⟩ : ∃ x, lowN (H - c * ht) c = x := ⟨_, rfl⟩
    obtain ⟨y, hy⟩ : ∃ y, lowD (H - c * ht) c = y := ⟨_, rfl⟩
    rw [hx, hy] at BE ⊢
    clear h1 h2 h3 e1 e2 hx hy hc
    go_enter Try.func31, Try.ntmps31
    go_wp2_with fail
    try rw [HW.out]
    try go_wp2_with fail
    refine (CC.out _).mono ?_
    rintro e w1 ⟨rfl, hb1⟩
    have B1 := Lib.hid hb1
    clear hb1 f0 f1 f2 f3 t0 t1
    obtain ⟨⟨f0, f1, f2, f3⟩, ⟨t0, t1⟩, -, -⟩ := K.out _ B1.out
    go_wp2_with fail
    refine (BE.out _).mono ?_
    rintro e w2 ⟨rfl, hb2⟩
    have B2 := Lib.hid (bnext B1.out hb2)
    clear hb2 f0 f1 f2 f3 t0 t1
    obtain ⟨-, -, rr, -⟩ := K.out _ B2.out
    obtain ⟨u0, x0, y0⟩ := there_at rr (show 0 < 2 by omega)
    obtain ⟨u1, x1, y1⟩ := there_at rr (show 1 < 2 by omega)
    clear rr
    go_wp2
    refine bodyPost_ret (v := .tuple #[.agg #[.int .i64 x, .int .i64 y], .int .i64 0]) (by simp [results, Try.results31, go_sem, x0, x1]) rfl ⟨rfl, ?_⟩
    exact ((bnext E0.out B2.out).setCell (by simp) _).setCell (by simp) _
  · obtain ⟨q, hq⟩ : ∃ q, bedC l wd ht j H c = q := ⟨_, rfl⟩
    have hn : bedN l wd ht j H c = 0 ∧ bedD l wd ht j H c = 0 := by unfold bedN bedD; rw [if_neg hc, if_neg hc]; exact ⟨rfl, rfl⟩
    have CC := Lib.hid (fun wx => bcode_impl l wd ht j H c wx)
    rw [hn.1, hn.2]
    rw [hq] at hc CC ⊢
    clear hn hq
    go_enter Try.func31, Try.ntmps31
    go_wp2_with fail
    try rw [HW.out]
    try go_wp2_with fail
    refine (CC.out _).mono ?_
    rintro e w1 ⟨rfl, hb1⟩
    have B1 := Lib.hid hb1
    clear hb1 f0 f1 f2 f3 t0 t1
    obtain ⟨-, -, rr, z0, z1⟩ := K.out _ B1.out
    obtain ⟨u0, x0, y0⟩ := there_at rr (show 0 < 2 by omega)
    obtain ⟨u1, x1, y1⟩ := there_at rr (show 1 < 2 by omega)
    clear rr x0 x1
    go_wp2
    refine bodyPost_ret (v := .tuple #[.agg #[.int .i64 0, .int .i64 0], .int .i64 q]) (by simp [results, Try.results31, go_sem, z0, z1]) rfl ⟨rfl, ?_⟩
    exact ((bnext E0.out B1.out).setCell (by simp) _).setCell (by simp) _
end Go.Proofs.Ytdhikdaegmekbab
