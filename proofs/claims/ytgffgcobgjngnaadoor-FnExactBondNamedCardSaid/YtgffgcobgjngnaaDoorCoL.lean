/-
  What the laws ask of bonds before and behind the call: their size, copies, equality.
-/
import Derived.Test.YtgffgcobgjngnaaDoorCo
import Derived.Test.YtgffgcobgjngnaaDoorRow
import Derived.Deep.RegionWith
import Derived.Deep.OwnRows
import Derived.WalkSmall
import Derived.Deep.QuietTactic
import Derived.BigQuiet
namespace Go.Proofs.YtgffgcobgjngnaaDoor
open Go.ChangeShapes Go.WideShapes Go.ChangeAt Go.RowKit Go.Joins
theorem boxB (w : World) (nm : ByteArray) (v : Value) (t : TypeId) : (w.alloc (.cells #[.string nm, v] t)).cell? ⟨w.heap.size, 0, none⟩ = some (.string nm) ∧ (w.alloc (.cells #[.string nm, v] t)).cell? ⟨w.heap.size, 1, none⟩ = some v := by
  refine ⟨?_, ?_⟩ <;> (rw [cell_of_row _ _ _ _ t (0, 0) (heap_alloc_new w _)]; rfl)
/-- A row of the call's own that holds these courses: it may be written. -/
def CoOwn (B : Nat) (L : List Co) (g : Nat) (w : World) : Prop := B ≤ g ∧ CoAt w g 0 L ∧ w.there g 0 (L.length * 2) ∧ g < w.heap.size
theorem CoOwn.arg {B : Nat} {L : List Co} {g : Nat} {w : World} (h : CoOwn B L g w) : CoArg w (some ⟨g, 0, none⟩) L := .inr ⟨g, 0, rfl, h.2.1⟩

theorem CoOwn.only {B : Nat} {L : List Co} {g b : Nat} {w w' : World} (h : CoOwn B L g w) (ho : Only b w w') (hne : g ≠ b) : CoOwn B L g w' :=
  ⟨h.1, fun k c hk => ho.range hne (h.2.1 k c hk), ho.there hne h.2.2.1, Nat.lt_of_lt_of_le h.2.2.2 ho.size⟩
theorem CoOwn.set {B : Nat} {L : List Co} {g b o : Nat} {v : Value} {w : World} (h : CoOwn B L g w) (hne : g ≠ b) : CoOwn B L g (w.setCell ⟨b, o, none⟩ v) := h.only ((Only.refl b w).set o v) hne
theorem CoOwn.later {B : Nat} {L : List Co} {g : Nat} {w w' : World} (h : CoOwn B L g w) (hb : Below w.heap.size w w') : CoOwn B L g w' := ⟨h.1, h.2.1.later hb, there_below h.2.2.1 hb, Nat.lt_of_lt_of_le h.2.2.2 hb.size⟩
theorem infoCourse : (Tryd.prog.info? 68).map (fun i => (i.zero, i.size, i.bytes)) = some (some (.agg #[.string ⟨#[]⟩, .string ⟨#[]⟩]), 2, 32) := by kernel_rfl
theorem make_courses (n : Nat) (hn : n ≤ 1048576) (w : World) : ∃ C : Array Value, C.size = n * 2 ∧ (Instr.makeSlice 22 (.int .i64 (n : Int)) (.int .i64 (n : Int))).run Tryd.prog w = .ok (.slice (some ⟨w.heap.size, 0, none⟩) n n) (w.alloc (.cells C 68)) := by
  obtain ⟨i, hi, hzz⟩ := Option.map_eq_some_iff.1 infoCourse
  simp only [Prod.mk.injEq] at hzz
  obtain ⟨hz, hs, hb⟩ := hzz
  have hr := run_make (P := Tryd.prog) w 22 68 i _ Tryd.underlying22 hi hz .i64 .i64 n n (by omega) (Int.le_refl _) (by rw [hb]; omega) (by omega)
  refine ⟨_, ?_, hr⟩
  rw [size_madeCells, hs, Int.toNat_natCast]
theorem sizeCourse : (Tryd.prog.info? 68).map (·.size) = some 2 := by kernel_rfl


theorem eq_course (c : Co) (w : World) : Calls Tryd.prog 61 #[.agg #[.string c.lead, .string c.cyc], .agg #[.string c.lead, .string c.cyc]] w fun e w' => e = .returned (.bool true) ∧ Below w.heap.size w w' := by
  go_enter Tryd.func61, Tryd.ntmps61
  go_wp2
  go_ret
  exact ⟨rfl, balloc (balloc0 _ _) _⟩

set_option maxRecDepth 100000 in
set_option maxHeartbeats 1600000 in
theorem eq_courses (L : List Co) (a a' : Option Addr) (cap cap' : Nat) (hl : L.length ≤ 1048577) (w : World) (ha : CoArg w a L) (ha' : CoArg w a' L) :
    Calls Tryd.prog 33 #[.slice a L.length cap, .slice a' L.length cap'] w fun e w' => e = .returned (.bool true) ∧ Below w.heap.size w w' := by
  have HA := Lib.hid ha
  have HA' := Lib.hid ha'
  clear ha ha'
  go_enter Tryd.func33, Tryd.ntmps33
  go_wp2
  go_loopw [5] (fun i wr => ∃ k : Nat, k ≤ L.length ∧ i = .int .i64 k ∧ Hid (Below w.heap.size w wr)) (fun i _ => L.length - (intOf i).toNat)
  case atStart => exact ⟨0, Nat.zero_le _, rfl, Below.refl _ _⟩
  case round =>
    obtain ⟨k, hk, rfl, hB⟩ := hrel
    by_cases hlt : k < L.length
    · have hlt' : (k : Int) < (L.length : Int) := by omega
      have hk0 : (0 : Int) ≤ (k : Int) := by omega
      obtain ⟨b, o, c, rfl, hc, hat⟩ := (HA.out.later hB.out).at hlt
      obtain ⟨b', o', c', rfl, hc', hat'⟩ := (HA'.out.later hB.out).at hlt
      rw [hc] at hc'
      cases hc'
      obtain ⟨c0, c1⟩ := hat.cells hc
      obtain ⟨d0, d1⟩ := hat'.cells hc
      clear hc hat hat'
      go_wp2_with fail
      go_region_with (go_at_call 61; refine (eq_course c _).mono ?_; rintro e w1 ⟨rfl, hb1⟩; have B1 := Lib.hid hb1; clear hb1)
      all_goals
        go_wp2
        go_roundw
        case rel => exact ⟨k + 1, by omega, by go_num, bnext hB.out.drew B1.out⟩
        case measure => simp [intOf]; omega
    · have hge : ¬ (k : Int) < (L.length : Int) := by omega
      go_wp2
      go_ret
      exact ⟨rfl, hB.out⟩

set_option maxRecDepth 100000 in
set_option maxHeartbeats 1600000 in
theorem eq_bond (nm : ByteArray) (L : List Co) (a a' : Option Addr) (cap cap' : Nat) (hl : L.length ≤ 1048577) (w : World) (ha : CoArg w a L) (ha' : CoArg w a' L) :
    Calls Tryd.prog 11 #[.agg #[.string nm, .slice a L.length cap], .agg #[.string nm, .slice a' L.length cap']] w fun e w' => e = .returned (.bool true) ∧ Below w.heap.size w w' := by
  have C := Lib.hid (fun wx (hx : Below w.heap.size w wx) => eq_courses L a a' cap cap' hl wx (ha.later hx) (ha'.later hx))
  clear ha ha'
  go_enter Tryd.func11, Tryd.ntmps11
  go_wp2_with fail
  refine (C.out _ (balloc (balloc0 _ _) _)).mono ?_
  rintro e w1 ⟨rfl, hb1⟩
  have B1 := Lib.hid (bnext (balloc (balloc0 _ _) _) hb1)
  clear hb1
  go_wp2
  go_ret
  exact ⟨rfl, B1.out⟩
end Go.Proofs.YtgffgcobgjngnaaDoor
