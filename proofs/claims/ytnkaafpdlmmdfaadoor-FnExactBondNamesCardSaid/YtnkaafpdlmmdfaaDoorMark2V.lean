/-
  The laws' letters in a row of texts: written and looked for.
-/
import Derived.Test.YtnkaafpdlmmdfaaDoorMark
import Derived.Test.YtnkaafpdlmmdfaaDoorSplitEV
import Derived.Deep.RegionWith
namespace Go.Proofs.YtnkaafpdlmmdfaaDoor
open Go.ChangeShapes Go.WideShapes Go.ChangeAt Go.RowKit Go.Joins
theorem own_belowP {w w' : World} {B e size n : Nat} {v : Value} {xs : List Value} (h : w.ownsRow B e size v n xs) (hb : Below w.heap.size w w') : w'.ownsRow B e size v n xs := by
  refine ⟨h.1, ?_⟩
  rcases h.2 with hn | ⟨g, cap, cur, hv, hB, hgg, rest⟩
  · exact .inl hn
  · exact .inr ⟨g, cap, cur, hv, hB, (hb.block g (Array.getElem?_eq_some_iff.1 hgg).1).trans hgg, rest⟩
theorem partVals_set (cs : List ByteArray) (k : Nat) (x : ByteArray) : (partVals cs).set k (.string x) = partVals (cs.set k x) := by simp [partVals]
/-- The row that is looked at. -/
def RowAt (B : Nat) (cs : List ByteArray) (g cap : Nat) (wr : World) : Prop := wr.ownsRow B 9 1 (.slice (some ⟨g, 0, none⟩) cs.length cap) cs.length (partVals cs)
theorem row_below {B g cap : Nat} {cs : List ByteArray} {w w' : World} (h : RowAt B cs g cap w) (hb : Below w.heap.size w w') : RowAt B cs g cap w' := own_belowP h hb
theorem row_facts {B g cap k : Nat} {cs : List ByteArray} {w : World} {x : ByteArray} (h : RowAt B cs g cap w) (hx : cs[k]? = some x) : w.cell? ⟨g, k, none⟩ = some (.string x) ∧ w.frozen? ⟨g, k, none⟩ = false := by
  have hk : k < cs.length := (List.getElem?_eq_some_iff.1 hx).1
  refine ⟨?_, World.ownsRow.frozenAt h k⟩
  rw [World.ownsRow.cellAt h k (by omega)]
  simp [partVals, hx]
theorem row_store {B g cap : Nat} {cs : List ByteArray} {w : World} (h : RowAt B cs g cap w) (k : Nat) (x : ByteArray) : RowAt B (cs.set k x) g cap (w.setCell ⟨g, k, none⟩ (.string x)) ∧ w.grownBy (w.setCell ⟨g, k, none⟩ (.string x)) (some g) := by
  have hs := World.ownsRow.stored h k (.string x)
  refine ⟨?_, hs.2⟩
  have h1 := hs.1
  rw [partVals_set] at h1
  unfold RowAt
  rw [List.length_set]
  exact h1

set_option maxRecDepth 100000 in
set_option maxHeartbeats 1600000 in
theorem mark_parts (ps : List ByteArray) (hn : ps.length ≤ 1048577) (K : Nat) (hK : 1 ≤ K) (hK2 : K ≤ 1048577) (B g cap : Nat) (w : World) (hB : B ≤ w.heap.size) (h : RowAt B ps g cap w) :
    Calls Tryd.prog 37 #[.slice (some ⟨g, 0, none⟩) ps.length cap, .int .i64 K] w fun e w' => e = .returned (.int .i64 ((K + ps.length : Nat) : Int)) ∧ Below B w w' ∧ ∃ cs : List ByteArray, cs.length = ps.length ∧ (∀ j, j < ps.length → cs[j]? = some (markB (K + j))) ∧ RowAt B cs g cap w' := by
  have H := Lib.hid h
  clear h
  go_enter Tryd.func37, Tryd.ntmps37
  go_wp2
  go_loopw [1, 5] (fun u i wr => ∃ (k : Nat) (cs : List ByteArray), k ≤ ps.length ∧ u = .int .i64 ((K + k : Nat) : Int) ∧ i = .int .i64 k ∧ cs.length = ps.length ∧ Hid (∀ j, j < k → cs[j]? = some (markB (K + j))) ∧ Hid (RowAt B cs g cap wr) ∧ Hid (Below B w wr) ∧ B ≤ wr.heap.size) (fun _ i _ => ps.length - (intOf i).toNat)
  case atStart => exact ⟨0, ps, Nat.zero_le _, rfl, rfl, rfl, fun j hj => by omega, H.out, Below.refl _ _, hB⟩
  case round =>
    obtain ⟨k, cs, hk, rfl, rfl, hcs, hM, hR, hb, hBr⟩ := hrel
    by_cases hlt : k < ps.length
    · have hlt' : (k : Int) < (ps.length : Int) := by omega
      have hk0 : (0 : Int) ≤ (k : Int) := by omega
      have C := Lib.hid (mark_text (K + k) (by omega) (by omega))
      obtain ⟨x, hx⟩ : ∃ x, cs[k]? = some x := ⟨_, List.getElem?_eq_getElem (by omega)⟩
      obtain ⟨mk, hmk⟩ : ∃ mk, markB (K + k) = mk := ⟨_, rfl⟩
      rw [hmk] at C
      have HX := Lib.hid hx
      have HK := Lib.hid hmk
      clear hx hmk
      go_wp2_with (go_at_call 74; refine (C.out _).mono ?_; rintro e w1 ⟨rfl, hb1⟩; have B1 := Lib.hid hb1; clear hb1; have R1 := Lib.hid (row_below hR.out B1.out); have c1 := (row_facts R1.out HX.out).1; have f1 := (row_facts R1.out HX.out).2)
      have hrs := row_store R1.out k mk
      have hb2 : Below B w (w1.setCell ⟨g, k, none⟩ (.string mk)) := ((hb.out.trans (B1.out.mono hBr)).grown hrs.2 (by have := B1.out.size; omega) (fun q hq => by cases hq; exact own_base R1.out))
      go_roundw
      case rel =>
        refine ⟨k + 1, cs.set k mk, by omega, by go_num, by go_num, by rw [List.length_set]; exact hcs, fun j hj => ?_, hrs.1, hb2, by have := hb2.size; omega⟩
        by_cases e : j = k
        · subst e
          rw [List.getElem?_set_self (by omega), HK.out]
        · rw [List.getElem?_set_ne (fun h => e h.symm)]
          exact hM.out j (by omega)
      case measure => simp [intOf]; omega
    · have hge : ¬ (k : Int) < (ps.length : Int) := by omega
      have hkn : k = ps.length := by omega
      subst hkn
      go_wp2
      go_ret
      exact ⟨rfl, hb.out, cs, hcs, hM.out, hR.out⟩

set_option maxRecDepth 100000 in
set_option maxHeartbeats 1600000 in
theorem held_parts (cs : List ByteArray) (hn : cs.length ≤ 1048577) (K : Nat) (hK : 1 ≤ K) (hK2 : K ≤ 1048577) (hM : ∀ j, j < cs.length → cs[j]? = some (markB (K + j))) (B g cap : Nat) (w : World) (h : RowAt B cs g cap w) :
    Calls Tryd.prog 38 #[.slice (some ⟨g, 0, none⟩) cs.length cap, .int .i64 K] w fun e w' => e = .returned (.int .i64 ((K + cs.length : Nat) : Int)) ∧ Below w.heap.size w w' := by
  have H := Lib.hid h
  have HM := Lib.hid hM
  clear h hM
  go_enter Tryd.func38, Tryd.ntmps38
  go_wp2
  go_loopw [1, 5] (fun u i wr => ∃ (k : Nat), k ≤ cs.length ∧ u = .int .i64 ((K + k : Nat) : Int) ∧ i = .int .i64 k ∧ Hid (Below w.heap.size w wr)) (fun _ i _ => cs.length - (intOf i).toNat)
  case atStart => exact ⟨0, Nat.zero_le _, rfl, rfl, Below.refl _ _⟩
  case round =>
    obtain ⟨k, hk, rfl, rfl, hb⟩ := hrel
    by_cases hlt : k < cs.length
    · have hlt' : (k : Int) < (cs.length : Int) := by omega
      have hk0 : (0 : Int) ≤ (k : Int) := by omega
      obtain ⟨mk, hmk⟩ : ∃ mk, markB (K + k) = mk := ⟨_, rfl⟩
      have C := Lib.hid (mark_text (K + k) (by omega) (by omega))
      have HX := Lib.hid (HM.out k hlt)
      rw [hmk] at C HX
      clear hmk
      have R0 := Lib.hid (row_below H.out hb.out)
      have c0 := (row_facts R0.out HX.out).1
      have c0d : wr.drew.cell? ⟨g, k, none⟩ = some (.string mk) := c0
      go_wp2_with fail
      go_region_with (go_at_call 74; refine (C.out _).mono ?_; rintro e w1 ⟨rfl, hb1⟩; have B1 := Lib.hid hb1; clear hb1; have R1 := Lib.hid (row_below (w := wr.drew) R0.out B1.out); have c1 := (row_facts R1.out HX.out).1)
      all_goals
        go_wp2
        go_roundw
        case rel => exact ⟨k + 1, by omega, by go_num, by go_num, bnext hb.out.drew B1.out⟩
        case measure => simp [intOf]; omega
    · have hge : ¬ (k : Int) < (cs.length : Int) := by omega
      have hkn : k = cs.length := by omega
      subst hkn
      go_wp2
      go_ret
      exact ⟨rfl, hb.out⟩

end Go.Proofs.YtnkaafpdlmmdfaaDoor
