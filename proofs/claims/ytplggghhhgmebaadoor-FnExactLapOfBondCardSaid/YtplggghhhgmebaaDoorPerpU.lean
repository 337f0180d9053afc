/-
  PerpendsOf, LapBetween, LapOfBond and HeadersIn: the model's answers.
-/
import Derived.Test.YtplggghhhgmebaaDoorPerpT
namespace Go.Proofs.YtplggghhhgmebaaDoor
open Go.ChangeShapes Go.WideShapes Go.ChangeAt Go.RowKit Go.Joins


theorem near_perps {L : List Co} {k u : Nat} (h : (crs L k).ok = true) (hu : 1 ≤ u) (hu2 : u ≤ 201) : Near (perpsV L k u) := fun i z hz => by
  have := perpsV_range h hu hz
  omega
set_option maxRecDepth 100000 in
set_option maxHeartbeats 1600000 in
theorem perpsOf_spec {nm : ByteArray} {L : List Co} (hok : okBond nm L = true) (k u : Nat) (hu : 1 ≤ u) (hu2 : u ≤ 201) (w : World) :
    Calls Tryd.prog 24 #[.agg #[.string (crs L k).lead, .string (crs L k).cyc], .int .i64 (u : Int)] w fun e w' => ∃ g cap', e = .returned (.slice (some ⟨g, 0, none⟩) (perpsV L k u).length cap') ∧ IntOwn w.heap.size (perpsV L k u) g w' ∧ Below w.heap.size w w' := by
  have ho := crs_ok hok k
  refine (perps_spec (crs L k) ho u hu hu2 w).mono ?_
  rintro e w' ⟨m, g, cap', hm, rfl, h1, h2⟩
  have e1 := perpM_eq ho hm
  refine ⟨g, cap', ?_, ?_, h2⟩
  · rw [perpsV, perpL_length, e1]
  · rw [perpsV, e1]; exact h1

set_option maxRecDepth 100000 in
set_option maxHeartbeats 3200000 in
theorem between_spec {nm : ByteArray} {L : List Co} (hok : okBond nm L = true) (a : Option Addr) (cap b low high u : Nat) (hk : low ≤ 2000) (hk2 : high ≤ 2000) (hu : 1 ≤ u) (hu2 : u ≤ 201) (w : World) (h : BdAt w b nm L a cap) :
    Calls Tryd.prog 14 #[.pointer (some ⟨b, 0, none⟩), .int .i64 (low : Int), .int .i64 (high : Int), .int .i64 (u : Int)] w fun e w' => e = .returned (.int .i64 (lapOf (pairD L low high u))) ∧ Below w.heap.size w w' := by
  obtain ⟨_, h1, h8, _⟩ := okBond_facts hok
  have A1 := Lib.hid (fun k hk wx (hx : Below w.heap.size w wx) => at_spec nm L a cap h1 h8 b k hk wx (h.later hx))
  have P1 := Lib.hid (fun k wx (_ : Below w.heap.size w wx) => perpsOf_spec hok k u hu hu2 wx)
  have LP := Lib.hid (fun g g' cp cp' wx (hx : IntAt wx g 0 (perpsV L low u)) (hy : IntAt wx g' 0 (perpsV L high u)) => lap_spec (perpsV L low u) (perpsV L high u) g g' cp cp' (by have := perpsV_le (crs_ok hok low) hu; omega) (by have := perpsV_le (crs_ok hok high) hu; omega) (near_perps (crs_ok hok low) hu hu2) (near_perps (crs_ok hok high) hu hu2) wx hx hy)
  obtain ⟨X, hX⟩ : ∃ X, lapOf (pairD L low high u) = X := ⟨_, rfl⟩
  have hX' : lapOf (distL (perpsV L low u) (perpsV L high u)) = X := hX
  rw [hX'] at LP
  rw [hX]
  have AL := Lib.hid (A1.out low hk)
  have AH := Lib.hid (A1.out high hk2)
  have PL := Lib.hid (P1.out low)
  have PH := Lib.hid (P1.out high)
  obtain ⟨x1, hx1⟩ : ∃ x, (crs L low).lead = x := ⟨_, rfl⟩
  obtain ⟨x2, hx2⟩ : ∃ x, (crs L low).cyc = x := ⟨_, rfl⟩
  obtain ⟨y1, hy1⟩ : ∃ x, (crs L high).lead = x := ⟨_, rfl⟩
  obtain ⟨y2, hy2⟩ : ∃ x, (crs L high).cyc = x := ⟨_, rfl⟩
  rw [hx1, hx2] at AL PL
  rw [hy1, hy2] at AH PH
  obtain ⟨Q, hQ⟩ : ∃ Q, perpsV L low u = Q := ⟨_, rfl⟩
  obtain ⟨R, hR⟩ : ∃ R, perpsV L high u = R := ⟨_, rfl⟩
  rw [hQ] at PL LP
  rw [hR] at PH LP
  clear hX hX' hx1 hx2 hy1 hy2 hQ hR A1 P1 h
  go_enter Tryd.func14, Tryd.ntmps14
  go_wp2_with fail
  refine (AL.out _ (Below.refl _ _)).mono ?_
  rintro e w1 ⟨rfl, hb1⟩
  have B1 := Lib.hid hb1
  clear hb1
  go_wp2_with fail
  refine (PL.out _ B1.out).mono ?_
  rintro e w2 ⟨g, cp, rfl, o2, hb2⟩
  have B2 := Lib.hid (bnext B1.out hb2)
  have O2 := Lib.hid o2.2.1
  clear hb2 o2
  go_wp2_with fail
  refine (AH.out _ B2.out).mono ?_
  rintro e w3 ⟨rfl, hb3⟩
  have B3 := Lib.hid (bnext B2.out hb3)
  have O3 := Lib.hid (O2.out.later hb3)
  clear hb3
  go_wp2_with fail
  refine (PH.out _ B3.out).mono ?_
  rintro e w4 ⟨g', cp', rfl, o4, hb4⟩
  have B4 := Lib.hid (bnext B3.out hb4)
  have O4 := Lib.hid (O3.out.later hb4)
  have Q4 := Lib.hid o4.2.1
  clear hb4 o4
  go_wp2_with fail
  refine (LP.out _ _ _ _ _ O4.out Q4.out).mono ?_
  rintro e w5 ⟨rfl, hb5⟩
  have B5 := Lib.hid (bnext B4.out hb5)
  clear hb5
  go_wp2_with fail
  go_ret
  exact ⟨rfl, B5.out⟩

def tup2 (v : Value) (c : Int) : Ending := .returned (.tuple #[v, .int .i64 c])
/-- What PerpendsOf hands back. -/
def PerpAns (w : World) (nm : ByteArray) (L : List Co) (course til : Int) (e : Ending) (w' : World) : Prop :=
  ∃ a cap, e = .returned (.tuple #[.slice a (perpV nm L course til).length cap, .int .i64 (bCode nm L course til)]) ∧ IntRes w.heap.size (perpV nm L course til) a w' ∧ Below w.heap.size w w'
end Go.Proofs.YtplggghhhgmebaaDoor
