/-
  PerpendsOf, LapBetween, LapOfBond and HeadersIn: the model's answers.
-/
import Derived.Test.YtnkaafpdlmmdfaaDoorPerpT
namespace Go.Proofs.YtnkaafpdlmmdfaaDoor
open Go.ChangeShapes Go.WideShapes Go.ChangeAt Go.RowKit Go.Joins

theorem near_perps {L : List Co} {k u : Nat} (h : (crs L k).ok = true) (hu : 1 ≤ u) (hu2 : u ≤ 201) : Near (perpsV L k u) := fun i z hz => by
  have := perpsV_range h hu hz
  omega
set_option maxRecDepth 100000 in
set_option maxHeartbeats 1600000 in
theorem perpsOf_spec {nm : ByteArray} {L : List Co} (hok : okBond nm L = true) (k u : Nat) (hu : 1 ≤ u) (hu2 : u ≤ 201) (w : World) :
    Calls Tryd.prog 58 #[.agg #[.string (crs L k).lead, .string (crs L k).cyc], .int .i64 (u : Int)] w fun e w' => ∃ g cap', e = .returned (.slice (some ⟨g, 0, none⟩) (perpsV L k u).length cap') ∧ IntOwn w.heap.size (perpsV L k u) g w' ∧ Below w.heap.size w w' := by
  have ho := crs_ok hok k
  refine (perps_spec (crs L k) ho u hu hu2 w).mono ?_
  rintro e w' ⟨m, g, cap', hm, rfl, h1, h2⟩
  have e1 := perpM_eq ho hm
  refine ⟨g, cap', ?_, ?_, h2⟩
  · rw [perpsV, perpL_length, e1]
  · rw [perpsV, e1]; exact h1

set_option maxRecDepth 100000 in
set_option maxHeartbeats 3200000 in
theorem between_spec {nm : ByteArray} {L : List Co} (hok : okBond nm L = true) (a : Option Addr) (cap b low high u : Nat) (hk : low ≤ 2000) (hk2 : high ≤ 2000) (hu : 1 ≤ u) (hu2 : u ≤ 201) (w : World) (h : BdAt w b nm L a cap) :
    Calls Tryd.prog 63 #[.pointer (some ⟨b, 0, none⟩), .int .i64 (low : Int), .int .i64 (high : Int), .int .i64 (u : Int)] w fun e w' => e = .returned (.int .i64 (lapOf (pairD L low high u))) ∧ Below w.heap.size w w' := by
  obtain ⟨_, h1, h8, _⟩ := okBond_facts hok
  have A1 := Lib.hid (fun k hk wx (hx : Below w.heap.size w wx) => at_spec nm L a cap h1 h8 b k hk wx (h.later hx))
  have P1 := Lib.hid (fun k wx (_ : Below w.heap.size w wx) => perpsOf_spec hok k u hu hu2 wx)
  have LP := Lib.hid (fun g g' cp cp' wx (hx : IntAt wx g 0 (perpsV L low u)) (hy : IntAt wx g' 0 (perpsV L high u)) => lap_spec (perpsV L low u) (perpsV L high u) g g' cp cp' (by have := perpsV_le (crs_ok hok low) hu; omega) (by have := perpsV_le (crs_ok hok high) hu; omega) (near_perps (crs_ok hok low) hu hu2) (near_perps (crs_ok hok high) hu hu2) wx hx hy)
  obtain ⟨X, hX⟩ : ∃ X, lapOf (pairD L low high u) = X := ⟨_, rfl⟩
  have hX' : lapOf (distL (perpsV L low u) (perpsV L high u)) = X := hX
  rw [hX'] at LP
  rw [hX]
  have AL := Lib.hid (A1.out low hk)
  have AH := Lib.hid (A1.out high hk2)
  have PL := Lib.hid (P1.out low)
  have PH := Lib.hid (P1.out high)
  obtain ⟨x1, hx1⟩ : ∃ x, (crs L low).lead = x := ⟨_, rfl⟩
  obtain ⟨x2, hx2⟩ : ∃ x, (crs L low).cyc = x := ⟨_, rfl⟩
  obtain ⟨y1, hy1⟩ : ∃ x, (crs L high).lead = x := ⟨_, rfl⟩
  obtain ⟨y2, hy2⟩ : ∃ x, (crs L high).cyc = x := ⟨_, rfl⟩
  rw [hx1, hx2] at AL PL
  rw [hy1, hy2] at AH PH
  obtain ⟨Q, hQ⟩ : ∃ Q, perpsV L low u = Q := ⟨_, rfl⟩
  obtain ⟨R, hR⟩ : ∃ R, perpsV L high u = R := ⟨_, rfl⟩
  rw [hQ] at PL LP
  rw [hR] at PH LP
  clear hX hX' hx1 hx2 hy1 hy2 hQ hR A1 P1 h
  go_enter Tryd.func63, Tryd.ntmps63
  go_wp2_with fail
  refine (AL.out _ (Below.refl _ _)).mono ?_
  rintro e w1 ⟨rfl, hb1⟩
  have B1 := Lib.hid hb1
  clear hb1
  go_wp2_with fail
  refine (PL.out _ B1.out).mono ?_
  rintro e w2 ⟨g, cp, rfl, o2, hb2⟩
  have B2 := Lib.hid (bnext B1.out hb2)
  have O2 := Lib.hid o2.2.1
  clear hb2 o2
  go_wp2_with fail
  refine (AH.out _ B2.out).mono ?_
  rintro e w3 ⟨rfl, hb3⟩
  have B3 := Lib.hid (bnext B2.out hb3)
  have O3 := Lib.hid (O2.out.later hb3)
  clear hb3
  go_wp2_with fail
  refine (PH.out _ B3.out).mono ?_
  rintro e w4 ⟨g', cp', rfl, o4, hb4⟩
  have B4 := Lib.hid (bnext B3.out hb4)
  have O4 := Lib.hid (O3.out.later hb4)
  have Q4 := Lib.hid o4.2.1
  clear hb4 o4
  go_wp2_with fail
  refine (LP.out _ _ _ _ _ O4.out Q4.out).mono ?_
  rintro e w5 ⟨rfl, hb5⟩
  have B5 := Lib.hid (bnext B4.out hb5)
  clear hb5
  go_wp2_with fail
  go_ret
  exact ⟨rfl, B5.out⟩

def tup2 (v : Value) (c : Int) : Ending := .returned (.tuple #[v, .int .i64 c])
/-- What PerpendsOf hands back. -/
def PerpAns (w : World) (nm : ByteArray) (L : List Co) (course til : Int) (e : Ending) (w' : World) : Prop :=
  ∃ a cap, e = .returned (.tuple #[.slice a (perpV nm L course til).length cap, .int .i64 (bCode nm L course til)]) ∧ IntRes w.heap.size (perpV nm L course til) a w' ∧ Below w.heap.size w w'

set_option maxRecDepth 100000 in
set_option maxHeartbeats 1600000 in
theorem perpendsOf_spec (nm : ByteArray) (L : List Co) (a : Option Addr) (cap : Nat) (hl : L.length ≤ 1048576) (hs : CosLe 1048576 L) (course til : Int) (w : World) (ha : CoArg w a L) :
    Calls Tryd.prog 19 #[.agg #[.string nm, .slice a L.length cap], .int .i64 course, .int .i64 til] w (PerpAns w nm L course til) := by
  have hbd := bd_new w nm L a cap 29 ha
  obtain ⟨W0, hW⟩ : ∃ W0, w.alloc (.cells #[.string nm, .slice a L.length cap] 29) = W0 := ⟨_, rfl⟩
  have E0 : Hid (Below w.heap.size w W0) := by show Below w.heap.size w W0; rw [← hW]; exact balloc0 _ _
  rw [hW] at hbd
  have HW := Lib.hid hW
  have C := Lib.hid (code_spec nm L a cap hl hs w.heap.size course til W0 hbd)
  by_cases hc : bCode nm L course til = 0
  case neg =>
    obtain ⟨q, hq⟩ : ∃ q, bCode nm L course til = q := ⟨_, rfl⟩
    have HP : Hid (perpV nm L course til = []) := by show perpV nm L course til = []; simp [perpV, hc]
    rw [hq] at C hc
    have HQ := Lib.hid hq
    clear hW hbd hq ha
    go_enter Tryd.func19, Tryd.ntmps19
    go_wp2_with fail
    rw [HW.out]
    refine C.out.mono ?_
    rintro e w1 ⟨rfl, hb1⟩
    have B1 := Lib.hid (bnext E0.out hb1)
    clear hb1
    go_wp2_with fail
    refine bodyPost_ret (v := .tuple #[.slice none 0 0, .int .i64 q]) (by simp [results, Tryd.results19, go_sem]) rfl ⟨none, 0, ?_, ?_, B1.out⟩
    · rw [HP.out, HQ.out]; rfl
    · rw [HP.out]; exact .inl rfl
  obtain ⟨hok, ⟨k0, k1⟩, u0, u1⟩ := bCode_facts hc
  obtain ⟨_, h1, h8, _⟩ := okBond_facts hok
  have HP : Hid (perpV nm L course til = perpsV L course.toNat til.toNat) := by show perpV nm L course til = _; simp [perpV, hc]
  have HQ := Lib.hid hc
  rw [hc] at C
  obtain ⟨k, rfl⟩ := Int.eq_ofNat_of_zero_le k0
  obtain ⟨u, rfl⟩ := Int.eq_ofNat_of_zero_le (show 0 ≤ til by omega)
  have A1 := Lib.hid (fun wx (hx : Below W0.heap.size W0 wx) => at_spec nm L a cap h1 h8 w.heap.size k (by omega) wx (hbd.later hx))
  have P1 := Lib.hid (fun wx (_ : Below W0.heap.size W0 wx) => perpsOf_spec hok k u (by omega) (by omega) wx)
  obtain ⟨x1, hx1⟩ : ∃ x, (crs L k).lead = x := ⟨_, rfl⟩
  obtain ⟨x2, hx2⟩ : ∃ x, (crs L k).cyc = x := ⟨_, rfl⟩
  rw [hx1, hx2] at A1 P1
  have HP2 : Hid (perpV nm L (k : Int) (u : Int) = perpsV L k u) := HP.out
  obtain ⟨Q, hQ⟩ : ∃ Q, perpsV L k u = Q := ⟨_, rfl⟩
  rw [hQ] at P1 HP2
  clear hW hbd ha hc hx1 hx2 hQ HP
  go_enter Tryd.func19, Tryd.ntmps19
  go_wp2_with fail
  rw [HW.out]
  refine C.out.mono ?_
  rintro e w1 ⟨rfl, hb1⟩
  have B1 := Lib.hid hb1
  clear hb1
  go_wp2_with fail
  refine (A1.out _ B1.out).mono ?_
  rintro e w2 ⟨rfl, hb2⟩
  have B2 := Lib.hid (bnext B1.out hb2)
  clear hb2
  go_wp2_with fail
  refine (P1.out _ B2.out).mono ?_
  rintro e w3 ⟨g, cp, rfl, o3, hb3⟩
  have B3 := Lib.hid (bnext B2.out hb3)
  have O3 : Hid (IntOwn w.heap.size Q g w3) := ⟨Nat.le_trans (bnext E0.out B2.out).size o3.1, o3.2⟩
  clear hb3 o3
  go_wp2_with fail
  refine bodyPost_ret (v := .tuple #[.slice (some ⟨g, 0, none⟩) Q.length cp, .int .i64 0]) (by simp [results, Tryd.results19, go_sem]) rfl ⟨some ⟨g, 0, none⟩, cp, ?_, ?_, bnext E0.out B3.out⟩
  · rw [HP2.out, HQ.out]
  · rw [HP2.out]; exact .inr ⟨g, rfl, O3.out⟩
end Go.Proofs.YtnkaafpdlmmdfaaDoor
