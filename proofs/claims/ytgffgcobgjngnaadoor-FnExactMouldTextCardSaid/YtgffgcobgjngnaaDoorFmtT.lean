/-
  The text of a format: the model's and the program's.
-/
import Derived.Test.YtgffgcobgjngnaaDoorJoinN
import Derived.Test.YtgffgcobgjngnaaDoorDec2
import Derived.Test.YtgffgcobgjngnaaDoorC2v
import Derived.Test.YtgffgcobgjngnaaDoorKeep
namespace Go.Proofs.YtgffgcobgjngnaaDoor
open Go.ChangeShapes Go.WideShapes Go.ChangeAt Go.RowKit Go.Joins

theorem ret_str {a b : ByteArray} (h : a = b) : Ending.returned (.string a) = .returned (.string b) := by rw [h]
theorem fmt_cat (d1 d2 d3 d4 : List UInt8) : (ByteArray.mk d1.toArray ++ ByteArray.mk #[120] ++ ByteArray.mk d2.toArray ++ ByteArray.mk #[120] ++ ByteArray.mk d3.toArray ++ ByteArray.mk #[43] ++ ByteArray.mk d4.toArray) = ByteArray.mk (d1 ++ [120] ++ d2 ++ [120] ++ d3 ++ [43] ++ d4).toArray := by
  rw [← ByteArray.mk_append_mk, ← ByteArray.mk_append_mk, ← ByteArray.mk_append_mk, ← ByteArray.mk_append_mk, ← ByteArray.mk_append_mk, ← ByteArray.mk_append_mk]
/-- The text of a format. -/
def fmtL (l wd ht j : Int) : List UInt8 := Lib.itoa l ++ [120] ++ Lib.itoa wd ++ [120] ++ Lib.itoa ht ++ [43] ++ Lib.itoa j
/-- What FormatText answers. -/
def fmtS (l wd ht j : Int) : ByteArray := if okB l wd ht j = true then ⟨(fmtL l wd ht j).toArray⟩ else ⟨#[]⟩

set_option maxRecDepth 100000 in
set_option maxHeartbeats 1600000 in
theorem ftext_spec (l wd ht j : Int) (h : okB l wd ht j = true) (w : World) : Calls Tryd.prog 59 #[.agg #[.int .i64 l, .int .i64 wd, .int .i64 ht, .int .i64 j]] w fun e w' => e = .returned (.string ⟨(fmtL l wd ht j).toArray⟩) ∧ Below w.heap.size w w' := by
  obtain ⟨⟨l1, l2⟩, ⟨w1', w2'⟩, ⟨t1, t2⟩, ⟨j1, j2⟩, _⟩ := okB_true.1 h
  have R := range_new4 w l wd ht j (t := 48)
  have hz1 : w.heap.size < (w.alloc (.cells #[.int .i64 l, .int .i64 wd, .int .i64 ht, .int .i64 j] 48)).heap.size := by simp
  have hB1 : Below w.heap.size w (w.alloc (.cells #[.int .i64 l, .int .i64 wd, .int .i64 ht, .int .i64 j] 48)) := balloc0 _ _
  obtain ⟨W1, hW⟩ : ∃ W1, w.alloc (.cells #[.int .i64 l, .int .i64 wd, .int .i64 ht, .int .i64 j] 48) = W1 := ⟨_, rfl⟩
  rw [hW] at R hz1 hB1
  obtain ⟨g0, g1, g2, g3⟩ := R
  have HW := Lib.hid hW
  have D1 := Lib.hid (dec_spec l (by omega) (by omega))
  have D2 := Lib.hid (dec_spec wd (by omega) (by omega))
  have D3 := Lib.hid (dec_spec ht (by omega) (by omega))
  have D4 := Lib.hid (dec_spec j (by omega) (by omega))
  have n1 := Lib.itoa_length_le l (by omega) (by omega)
  have n2 := Lib.itoa_length_le wd (by omega) (by omega)
  have n3 := Lib.itoa_length_le ht (by omega) (by omega)
  have n4 := Lib.itoa_length_le j (by omega) (by omega)
  have HT : Hid (fmtL l wd ht j = Lib.itoa l ++ [120] ++ Lib.itoa wd ++ [120] ++ Lib.itoa ht ++ [43] ++ Lib.itoa j) := rfl
  obtain ⟨d1, e1⟩ : ∃ d, Lib.itoa l = d := ⟨_, rfl⟩
  obtain ⟨d2, e2⟩ : ∃ d, Lib.itoa wd = d := ⟨_, rfl⟩
  obtain ⟨d3, e3⟩ : ∃ d, Lib.itoa ht = d := ⟨_, rfl⟩
  obtain ⟨d4, e4⟩ : ∃ d, Lib.itoa j = d := ⟨_, rfl⟩
  rw [e1] at D1 n1 HT
  rw [e2] at D2 n2 HT
  rw [e3] at D3 n3 HT
  rw [e4] at D4 n4 HT
  have k1 : ¬ (9223372036854775807 < d1.length + 1) := by omega
  have k2 : ¬ (9223372036854775807 < d1.length + 1 + d2.length) := by omega
  have k3 : ¬ (9223372036854775807 < d1.length + 1 + d2.length + 1) := by omega
  have k4 : ¬ (9223372036854775807 < d1.length + 1 + d2.length + 1 + d3.length) := by omega
  have k5 : ¬ (9223372036854775807 < d1.length + 1 + d2.length + 1 + d3.length + 1) := by omega
  have k6 : ¬ (9223372036854775807 < d1.length + 1 + d2.length + 1 + d3.length + 1 + d4.length) := by omega
  clear hW h e1 e2 e3 e4 n1 n2 n3 n4
  go_enter Tryd.func59, Tryd.ntmps59
  go_wp2_with fail
  rw [HW.out]
  go_region_held3 (fun w' => w'.cell? ⟨w.heap.size, 0, none⟩ = some (.int .i64 l) ∧ w'.cell? ⟨w.heap.size, 1, none⟩ = some (.int .i64 wd) ∧ w'.cell? ⟨w.heap.size, 2, none⟩ = some (.int .i64 ht) ∧ w'.cell? ⟨w.heap.size, 3, none⟩ = some (.int .i64 j) ∧ Below w.heap.size w w' ∧ w.heap.size < w'.heap.size)
      (first | exact keep4_call (by assumption) hb | assumption | exact keep4_drew g0 g1 g2 g3 hB1 hz1)
      (first | (go_at_call_of 69 (Value.int .i64 l); refine (D1.out _).mono ?_; rintro e w2 ⟨rfl, hb⟩) | (go_at_call_of 69 (Value.int .i64 wd); refine (D2.out _).mono ?_; rintro e w2 ⟨rfl, hb⟩) | (go_at_call_of 69 (Value.int .i64 ht); refine (D3.out _).mono ?_; rintro e w2 ⟨rfl, hb⟩) | (go_at_call_of 69 (Value.int .i64 j); refine (D4.out _).mono ?_; rintro e w2 ⟨rfl, hb⟩))
  all_goals
    clear k1 k2 k3 k4 k5 k6
    go_wp2
    go_split_ands
    go_ret
    exact ⟨ret_str (by rw [HT.out]; exact fmt_cat d1 d2 d3 d4), by assumption⟩

theorem fmtL_join (l wd ht j : Int) : joinTo [120] [l, wd, ht] 3 ++ [43] ++ Lib.itoa j = fmtL l wd ht j := by
  simp [joinTo, fmtL]

set_option maxRecDepth 100000 in
set_option maxHeartbeats 1600000 in
theorem formatText_spec (l wd ht j : Int) (w : World) : Calls Tryd.prog 28 #[.agg #[.int .i64 l, .int .i64 wd, .int .i64 ht, .int .i64 j]] w fun e w' => e = .returned (.string (fmtS l wd ht j)) ∧ Below w.heap.size w w' := by
  have R := range_new4 w l wd ht j (t := 48)
  have HB1 : Hid (Below w.heap.size w (w.alloc (.cells #[.int .i64 l, .int .i64 wd, .int .i64 ht, .int .i64 j] 48))) := balloc0 _ _
  obtain ⟨W1, hW⟩ : ∃ W1, w.alloc (.cells #[.int .i64 l, .int .i64 wd, .int .i64 ht, .int .i64 j] 48) = W1 := ⟨_, rfl⟩
  rw [hW] at R HB1
  obtain ⟨g0, g1, g2, g3⟩ := R
  have HW := Lib.hid hW
  have C := Lib.hid (l02ok l wd ht j)
  clear hW
  cases h : okB l wd ht j
  · have HS : Hid (fmtS l wd ht j = ⟨#[]⟩) := by show fmtS l wd ht j = _; simp [fmtS, h]
    rw [h] at C
    clear h
    go_enter Tryd.func28, Tryd.ntmps28
    go_wp2_with fail
    rw [HW.out]
    go_wp2_with fail
    refine (C.out _).mono ?_
    rintro e w1 ⟨rfl, hb1⟩
    have B1 := Lib.hid (bnext HB1.out hb1)
    clear hb1 g0 g1 g2 g3
    go_wp2
    go_ret
    exact ⟨ret_str HS.out.symm, B1.out⟩
  · have HS : Hid (fmtS l wd ht j = ⟨(fmtL l wd ht j).toArray⟩) := by show fmtS l wd ht j = _; simp [fmtS, h]
    have D := Lib.hid (ftext_spec l wd ht j h)
    rw [h] at C
    obtain ⟨T, hT⟩ : ∃ T, fmtL l wd ht j = T := ⟨_, rfl⟩
    rw [hT] at D HS
    clear h hT
    go_enter Tryd.func28, Tryd.ntmps28
    go_wp2_with fail
    rw [HW.out]
    go_wp2_with fail
    refine (C.out _).mono ?_
    rintro e w1 ⟨rfl, hb1⟩
    have B1 := Lib.hid (bnext HB1.out hb1)
    have hlt : w.heap.size < W1.heap.size := World.block_lt_of_cell? W1 _ g0
    have a0 := (hb1.cell (p := ⟨w.heap.size, 0, none⟩) hlt).trans g0
    have a1 := (hb1.cell (p := ⟨w.heap.size, 1, none⟩) hlt).trans g1
    have a2 := (hb1.cell (p := ⟨w.heap.size, 2, none⟩) hlt).trans g2
    have a3 := (hb1.cell (p := ⟨w.heap.size, 3, none⟩) hlt).trans g3
    clear hb1 g0 g1 g2 g3
    go_wp2_with fail
    refine (D.out _).mono ?_
    rintro e w2 ⟨rfl, hb2⟩
    have B2 := Lib.hid (bnext B1.out hb2)
    clear hb2 a0 a1 a2 a3
    go_wp2
    go_ret
    exact ⟨ret_str HS.out.symm, B2.out⟩
end Go.Proofs.YtgffgcobgjngnaaDoor
