/-
  Levels, gauges, joints of some courses: the model's word and the program's.
-/
import Derived.Test.YtlglijalhacmhabGqR
import Derived.Test.YtlglijalhacmhabGq
import Derived.Test.YtlglijalhacmhabC2b
import Derived.Test.YtlglijalhacmhabFrac
import Derived.Test.YtlglijalhacmhabSetM
import Derived.Deep.RegionWith
import Derived.Deep.RegionHeld3
namespace Go.Proofs.Ytlglijalhacmhab
open Go.ChangeShapes Go.WideShapes Go.ChangeAt Go.RowKit Go.Joins


theorem TwBox.set {x y : Int} {b g o : Nat} {w : World} {v : Value} (h : TwBox b x y w) (hne : b ≠ g) : TwBox b x y (w.setCell ⟨g, o, none⟩ v) :=
  ⟨(World.cell?_setCell_other _ _ _ _ (fun e => hne (by cases e; rfl))).trans h.1, (World.cell?_setCell_other _ _ _ _ (fun e => hne (by cases e; rfl))).trans h.2⟩
theorem frq {a b c a' b' c' : Int} (h1 : a = a') (h2 : b = b') (h3 : c = c') : Ending.returned (.tuple #[.agg #[.int .i64 a, .int .i64 b], .int .i64 c]) = .returned (.tuple #[.agg #[.int .i64 a', .int .i64 b'], .int .i64 c']) := by rw [h1, h2, h3]
theorem gtup2 {a b a' b' : Int} (h1 : a = a') (h2 : b = b') : Ending.returned (.tuple #[.int .i64 a, .int .i64 b]) = .returned (.tuple #[.int .i64 a', .int .i64 b']) := by rw [h1, h2]
def lvB (L : List Int) (H : Int) : Bool := inB H 100 6000 && (decide (L.length ≤ 20) && risesB 1 (H - 1) L)
set_option maxRecDepth 100000 in
set_option maxHeartbeats 6400000 in
theorem levels_spec (L : List Int) (H : Int) (a : Option Addr) (cap : Nat) (hl : L.length ≤ 1048576) (w : World) (ha : IntArg w a L) :
    Calls Try.prog 63 #[.slice a L.length cap, .int .i64 H] w fun e w' => e = .returned (.bool (lvB L H)) ∧ Below w.heap.size w w' := by
  cases h1 : inB H 100 6000
  · clear ha
    go_enter Try.func63, Try.ntmps63
    go_wp2_with (go_at_call 107; refine (height_spec _ _).mono ?_; rintro e w' ⟨rfl, rfl⟩)
    go_ret
    exact ⟨ret_bool (by simp [lvB, h1]), Below.refl _ _⟩
  by_cases h2 : (L.length : Int) ≤ 20
  · obtain ⟨H0, H1⟩ := inB_true.1 h1
    have RS := Lib.hid (rises_spec L 1 (H - 1) hl a cap w ha)
    clear ha
    go_enter Try.func63, Try.ntmps63
    go_wp2_with (first | (go_at_call 107; refine (height_spec _ _).mono ?_; rintro e w' ⟨rfl, rfl⟩) | (go_at_call 108; refine RS.out.mono ?_; rintro e w1 ⟨rfl, hb1⟩; have B1 := Lib.hid hb1; clear hb1))
    go_ret
    exact ⟨ret_bool (by simp [lvB, h1]; omega), B1.out⟩
  · clear ha
    have h3 : ¬ L.length ≤ 20 := by omega
    go_enter Try.func63, Try.ntmps63
    go_wp2_with (go_at_call 107; refine (height_spec _ _).mono ?_; rintro e w' ⟨rfl, rfl⟩)
    go_ret
    exact ⟨ret_bool (by simp [lvB, h3]), Below.refl _ _⟩
set_option maxRecDepth 100000 in
set_option maxHeartbeats 6400000 in
theorem levels_impl (L : List Int) (H : Int) (a : Option Addr) (cap : Nat) (hl : L.length ≤ 1048576) (w : World) (ha : IntArg w a L) :
    Calls Try.prog 113 #[.slice a L.length cap, .int .i64 H] w fun e w' => e = .returned (.bool (lvB L H)) ∧ Below w.heap.size w w' := by
  cases h1 : inB H 100 6000
  · clear ha
    go_enter Try.func113, Try.ntmps113
    go_wp2_with (go_at_call 143; refine (storey_impl _ _).mono ?_; rintro e w' ⟨rfl, rfl⟩)
    go_ret
    exact ⟨ret_bool (by simp [lvB, h1]), Below.refl _ _⟩
  by_cases h2 : (L.length : Int) ≤ 20
  · obtain ⟨H0, H1⟩ := inB_true.1 h1
    have RS := Lib.hid (rising_impl L 1 (H - 1) (by omega) (by omega) hl a cap w ha)
    clear ha
    go_enter Try.func113, Try.ntmps113
    go_wp2_with (first | (go_at_call 143; refine (storey_impl _ _).mono ?_; rintro e w' ⟨rfl, rfl⟩) | (go_at_call 122; refine RS.out.mono ?_; rintro e w1 ⟨rfl, hb1⟩; have B1 := Lib.hid hb1; clear hb1))
    go_ret
    exact ⟨ret_bool (by simp [lvB, h1]; omega), by rw [← B1.out]; exact Below.refl _ _⟩
  · clear ha
    have h3 : ¬ L.length ≤ 20 := by omega
    go_enter Try.func113, Try.ntmps113
    go_wp2_with (go_at_call 143; refine (storey_impl _ _).mono ?_; rintro e w' ⟨rfl, rfl⟩)
    go_ret
    exact ⟨ret_bool (by simp [lvB, h3]), Below.refl _ _⟩
def gaN (H c : Int) : Int := if gB H c = true then lowN H c else 0
def gaD (H c : Int) : Int := if gB H c = true then lowD H c else 0
def bedC (l wd ht j H c : Int) : Int := if okB l wd ht j = true then (if gB H c = true then (if H < c * ht then 6 else 0) else 2) else 1
def bedN (l wd ht j H c : Int) : Int := if bedC l wd ht j H c = 0 then lowN (H - c * ht) c else 0
def bedD (l wd ht j H c : Int) : Int := if bedC l wd ht j H c = 0 then lowD (H - c * ht) c else 0
theorem bedC_cases (l wd ht j H c : Int) : (okB l wd ht j = false ∧ bedC l wd ht j H c = 1) ∨ (okB l wd ht j = true ∧ gB H c = false ∧ bedC l wd ht j H c = 2) ∨ (okB l wd ht j = true ∧ gB H c = true ∧ H < c * ht ∧ bedC l wd ht j H c = 6) ∨ (okB l wd ht j = true ∧ gB H c = true ∧ ¬ H < c * ht ∧ bedC l wd ht j H c = 0) := by
  cases h1 : okB l wd ht j
  · exact .inl ⟨rfl, by simp [bedC, h1]⟩
  · cases h2 : gB H c
    · exact .inr (.inl ⟨rfl, rfl, by simp [bedC, h1, h2]⟩)
    · by_cases h3 : H < c * ht
      · exact .inr (.inr (.inl ⟨rfl, rfl, h3, by simp [bedC, h1, h2, h3]⟩))
      · exact .inr (.inr (.inr ⟨rfl, rfl, h3, by simp only [bedC, h1, h2, if_true]; rw [if_neg h3]⟩))
theorem cht_range {l wd ht j H c : Int} (h1 : okB l wd ht j = true) (h2 : gB H c = true) : 0 ≤ c * ht ∧ c * ht ≤ 6000 := by
  obtain ⟨_, _, ⟨t1, t2⟩, _, _⟩ := okB_true.1 h1
  obtain ⟨-, c0, c1⟩ := gB_true.1 h2
  exact ⟨Int.mul_nonneg (by omega) (by omega), Int.le_trans (Int.mul_le_mul c1 t2 (by omega) (by omega)) (by omega)⟩
end Go.Proofs.Ytlglijalhacmhab
