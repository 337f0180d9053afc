/-
  The text of a mould: the model's.
-/
import Derived.Test.YtgffgcobgjngnaaDoorMoV
import Derived.Test.YtgffgcobgjngnaaDoorFmtT
namespace Go.Proofs.YtgffgcobgjngnaaDoor
open Go.ChangeShapes Go.WideShapes Go.ChangeAt Go.RowKit Go.Joins

/-- The text of a mould. -/
def moL (c : Mo) : List UInt8 := Lib.itoa c.le ++ [120] ++ Lib.itoa c.wi ++ [120] ++ Lib.itoa c.he ++ [32, 117, 115, 101, 100, 32] ++ Lib.itoa c.us
/-- What MouldText answers. -/
def moS (c : Mo) : ByteArray := if c.ok = true then ⟨(moL c).toArray⟩ else ⟨#[]⟩
theorem moL_join (c : Mo) : joinTo [120] [c.le, c.wi, c.he] 3 ++ [32, 117, 115, 101, 100, 32] ++ Lib.itoa c.us = moL c := by
  simp [joinTo, moL]
theorem mo_cat (d1 d2 d3 d4 : List UInt8) : (ByteArray.mk d1.toArray ++ ByteArray.mk #[120] ++ ByteArray.mk d2.toArray ++ ByteArray.mk #[120] ++ ByteArray.mk d3.toArray ++ ByteArray.mk #[32, 117, 115, 101, 100, 32] ++ ByteArray.mk d4.toArray) = ByteArray.mk (d1 ++ [120] ++ d2 ++ [120] ++ d3 ++ [32, 117, 115, 101, 100, 32] ++ d4).toArray := by
  rw [← ByteArray.mk_append_mk, ← ByteArray.mk_append_mk, ← ByteArray.mk_append_mk, ← ByteArray.mk_append_mk, ← ByteArray.mk_append_mk, ← ByteArray.mk_append_mk]
theorem keepP_call {B b : Nat} {w w1 w2 : World} {c : Mo} (hbB : b < B) (h : w1.cell? ⟨b, 0, none⟩ = some (.int .i64 c.le) ∧ w1.cell? ⟨b, 1, none⟩ = some (.int .i64 c.wi) ∧ w1.cell? ⟨b, 2, none⟩ = some (.int .i64 c.he) ∧ w1.cell? ⟨b, 3, none⟩ = some (.int .i64 c.us) ∧ Below B w w1 ∧ B ≤ w1.heap.size) (hb : Below w1.heap.size w1 w2) : w2.cell? ⟨b, 0, none⟩ = some (.int .i64 c.le) ∧ w2.cell? ⟨b, 1, none⟩ = some (.int .i64 c.wi) ∧ w2.cell? ⟨b, 2, none⟩ = some (.int .i64 c.he) ∧ w2.cell? ⟨b, 3, none⟩ = some (.int .i64 c.us) ∧ Below B w w2 ∧ B ≤ w2.heap.size := by
  obtain ⟨h0, h1, h2, h3, h4, h5⟩ := h
  exact ⟨(hb.cell (p := ⟨b, 0, none⟩) (show b < w1.heap.size by omega)).trans h0, (hb.cell (p := ⟨b, 1, none⟩) (show b < w1.heap.size by omega)).trans h1, (hb.cell (p := ⟨b, 2, none⟩) (show b < w1.heap.size by omega)).trans h2, (hb.cell (p := ⟨b, 3, none⟩) (show b < w1.heap.size by omega)).trans h3, h4.trans (hb.mono h5), Nat.le_trans h5 hb.size⟩

set_option maxRecDepth 100000 in
set_option maxHeartbeats 3200000 in
theorem motext_spec (c : Mo) (hok : c.ok = true) (b : Nat) (w : World) (g0 : w.cell? ⟨b, 0, none⟩ = some (.int .i64 c.le)) (g1 : w.cell? ⟨b, 1, none⟩ = some (.int .i64 c.wi)) (g2 : w.cell? ⟨b, 2, none⟩ = some (.int .i64 c.he)) (g3 : w.cell? ⟨b, 3, none⟩ = some (.int .i64 c.us)) : Calls Tryd.prog 43 #[.pointer (some ⟨b, 0, none⟩)] w fun e w' => e = .returned (.string ⟨(moL c).toArray⟩) ∧ Below w.heap.size w w' := by
  obtain ⟨⟨l1, l2⟩, ⟨w1', w2'⟩, ⟨t1, t2⟩, ⟨j1, j2⟩⟩ := Mo.ok_facts hok
  have hbB : b < w.heap.size := World.block_lt_of_cell? w _ g0
  have D1 := Lib.hid (dec_spec c.le (by omega) (by omega))
  have n1 := Lib.itoa_length_le c.le (by omega) (by omega)
  have D2 := Lib.hid (dec_spec c.wi (by omega) (by omega))
  have n2 := Lib.itoa_length_le c.wi (by omega) (by omega)
  have D3 := Lib.hid (dec_spec c.he (by omega) (by omega))
  have n3 := Lib.itoa_length_le c.he (by omega) (by omega)
  have D4 := Lib.hid (dec_spec c.us (by omega) (by omega))
  have n4 := Lib.itoa_length_le c.us (by omega) (by omega)
  have HT : Hid (moL c = Lib.itoa c.le ++ [120] ++ Lib.itoa c.wi ++ [120] ++ Lib.itoa c.he ++ [32, 117, 115, 101, 100, 32] ++ Lib.itoa c.us) := rfl
  obtain ⟨d1, e1⟩ : ∃ d, Lib.itoa c.le = d := ⟨_, rfl⟩
  rw [e1] at D1 n1 HT
  obtain ⟨d2, e2⟩ : ∃ d, Lib.itoa c.wi = d := ⟨_, rfl⟩
  rw [e2] at D2 n2 HT
  obtain ⟨d3, e3⟩ : ∃ d, Lib.itoa c.he = d := ⟨_, rfl⟩
  rw [e3] at D3 n3 HT
  obtain ⟨d4, e4⟩ : ∃ d, Lib.itoa c.us = d := ⟨_, rfl⟩
  rw [e4] at D4 n4 HT
  have k1 : ¬ (9223372036854775807 < d1.length + 1) := by omega
  have k2 : ¬ (9223372036854775807 < d1.length + 1 + d2.length) := by omega
  have k3 : ¬ (9223372036854775807 < d1.length + 1 + d2.length + 1) := by omega
  have k4 : ¬ (9223372036854775807 < d1.length + 1 + d2.length + 1 + d3.length) := by omega
  have k5 : ¬ (9223372036854775807 < d1.length + 1 + d2.length + 1 + d3.length + 6) := by omega
  have k6 : ¬ (9223372036854775807 < d1.length + 1 + d2.length + 1 + d3.length + 6 + d4.length) := by omega
  clear hok e1 e2 e3 e4 n1 n2 n3 n4
  go_enter Tryd.func43, Tryd.ntmps43
  go_wp2_with fail
  go_region_held3 (fun w' => w'.cell? ⟨b, 0, none⟩ = some (.int .i64 c.le) ∧ w'.cell? ⟨b, 1, none⟩ = some (.int .i64 c.wi) ∧ w'.cell? ⟨b, 2, none⟩ = some (.int .i64 c.he) ∧ w'.cell? ⟨b, 3, none⟩ = some (.int .i64 c.us) ∧ Below w.heap.size w w' ∧ w.heap.size ≤ w'.heap.size)
      (first | exact keepP_call hbB (by assumption) hb | assumption | exact ⟨g0, g1, g2, g3, (Below.refl _ _).drew, Nat.le_refl _⟩)
      (first | (go_at_call_of 69 (Value.int .i64 c.le); refine (D1.out _).mono ?_; rintro e w2 ⟨rfl, hb⟩) | (go_at_call_of 69 (Value.int .i64 c.wi); refine (D2.out _).mono ?_; rintro e w2 ⟨rfl, hb⟩) | (go_at_call_of 69 (Value.int .i64 c.he); refine (D3.out _).mono ?_; rintro e w2 ⟨rfl, hb⟩) | (go_at_call_of 69 (Value.int .i64 c.us); refine (D4.out _).mono ?_; rintro e w2 ⟨rfl, hb⟩))
  all_goals
    clear k1 k2 k3 k4 k5 k6
    go_wp2
    go_split_ands
    go_ret
    exact ⟨ret_str (by rw [HT.out]; exact mo_cat d1 d2 d3 d4), by assumption⟩

set_option maxRecDepth 100000 in
set_option maxHeartbeats 1600000 in
theorem moText_spec (c : Mo) (w : World) : Calls Tryd.prog 19 #[.agg #[.int .i64 c.le, .int .i64 c.wi, .int .i64 c.he, .int .i64 c.us]] w fun e w' => e = .returned (.string (moS c)) ∧ Below w.heap.size w w' := by
  have X := Lib.hid (box_mo w c)
  have HB0 := Lib.hid (balloc0 w (.cells #[.int .i64 c.le, .int .i64 c.wi, .int .i64 c.he, .int .i64 c.us] 38))
  obtain ⟨W0, hW⟩ : ∃ W0, w.alloc (.cells #[.int .i64 c.le, .int .i64 c.wi, .int .i64 c.he, .int .i64 c.us] 38) = W0 := ⟨_, rfl⟩
  rw [hW] at X HB0
  have HW := Lib.hid hW
  clear hW
  obtain ⟨k0, k1, k2, k3⟩ := X.out _ (Below.refl _ _)
  have C := Lib.hid (mo_one_spec c w.heap.size 0 W0 k0 k1 k2 k3)
  cases h : c.ok
  · have HS : Hid (moS c = ⟨#[]⟩) := by show moS c = _; simp [moS, h]
    rw [h] at C
    clear h k0 k1 k2 k3
    go_enter Tryd.func19, Tryd.ntmps19
    go_wp2_with fail
    rw [HW.out]
    refine C.out.mono ?_
    rintro e w1 ⟨rfl, rfl⟩
    go_wp2
    go_ret
    exact ⟨ret_str HS.out.symm, HB0.out⟩
  · have HS : Hid (moS c = ⟨(moL c).toArray⟩) := by show moS c = _; simp [moS, h]
    have D := Lib.hid (motext_spec c h w.heap.size W0 k0 k1 k2 k3)
    rw [h] at C
    obtain ⟨T, hT⟩ : ∃ T, moL c = T := ⟨_, rfl⟩
    rw [hT] at D HS
    clear h hT k0 k1 k2 k3
    go_enter Tryd.func19, Tryd.ntmps19
    go_wp2_with fail
    rw [HW.out]
    refine C.out.mono ?_
    rintro e w1 ⟨rfl, rfl⟩
    go_wp2_with fail
    refine D.out.mono ?_
    rintro e w2 ⟨rfl, hb2⟩
    go_wp2
    go_ret
    exact ⟨ret_str HS.out.symm, HB0.out.trans (hb2.mono HB0.out.size)⟩
end Go.Proofs.YtgffgcobgjngnaaDoor
