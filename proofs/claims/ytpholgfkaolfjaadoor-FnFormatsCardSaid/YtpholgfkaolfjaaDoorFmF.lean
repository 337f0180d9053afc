/-
  FnFormats: plain facts and the contracts of the small functions.
-/
import Derived.Test.YtpholgfkaolfjaaDoorC2fI
import Derived.Test.YtpholgfkaolfjaaDoorLenI
import Derived.Test.YtpholgfkaolfjaaDoorRfI
import Derived.Test.YtpholgfkaolfjaaDoorFmtI
namespace Go.Proofs.YtpholgfkaolfjaaDoor
open Go.ChangeShapes Go.WideShapes Go.ChangeAt Go.RowKit Go.Joins

set_option maxRecDepth 100000 in
theorem modular_impl (l wd ht j : Int) (hok : okB l wd ht j = true) (w : World) : Calls Tryd.prog 10 #[.agg #[.int .i64 l, .int .i64 wd, .int .i64 ht, .int .i64 j]] w fun e w' => e = .returned (.bool (decide (l = 2 * wd + j))) ∧ Below w.heap.size w w' := by
  have V := Lib.hid (vf_any l wd ht j)
  rw [hok] at V
  obtain ⟨⟨l1, l2⟩, ⟨w1', w2'⟩, ⟨t1, t2⟩, ⟨j1, j2⟩, _⟩ := okB_true.1 hok
  clear hok
  go_enter Tryd.func10, Tryd.ntmps10
  go_wp2_with fail
  obtain ⟨g0, g1, g2, g3⟩ := range_new4 w l wd ht j (t := 25)
  refine (V.out _).mono ?_
  rintro e w1 ⟨rfl, hb⟩
  have hlt : w.heap.size < (w.alloc (.cells #[.int .i64 l, .int .i64 wd, .int .i64 ht, .int .i64 j] 25)).heap.size := World.block_lt_of_cell? _ _ g0
  have a0 := (hb.cell (p := ⟨w.heap.size, 0, none⟩) hlt).trans g0
  have a1 := (hb.cell (p := ⟨w.heap.size, 1, none⟩) hlt).trans g1
  have a3 := (hb.cell (p := ⟨w.heap.size, 3, none⟩) hlt).trans g3
  have B1 := Lib.hid (bnext (balloc0 _ _) hb)
  clear hb g0 g1 g2 g3 hlt
  go_wp2
  go_ret
  exact ⟨ret_bool (by by_cases h : l = 2 * wd + j <;> simp [h]), B1.out⟩

/-- A piece's quarters and code. -/
def qOf (k : Nat) : Int := if k = 83 then 4 else if k = 84 then 3 else if k = 72 then 2 else if k = 66 then 2 else if k = 67 then 1 else 0
def qCode (k : Nat) : Int := if k = 83 then 0 else if k = 84 then 0 else if k = 72 then 0 else if k = 66 then 0 else if k = 67 then 0 else 2
def isCutB (k : Nat) : Bool := k == 84 || k == 66 || k == 67
theorem quartersOf_impl (k : Nat) (hk : k < 256) (w : World) : Calls Tryd.prog 11 #[.int .u8 (k : Int)] w fun e w' => e = .returned (.tuple #[.int .i64 (qOf k), .int .i64 (qCode k)]) ∧ w = w' := by
  by_cases h1 : k = 83
  · subst h1
    go_enter Tryd.func11, Tryd.ntmps11
    go_wp2
    go_ret2
    exact ⟨rfl, rfl⟩
  by_cases h2 : k = 84
  · subst h2
    go_enter Tryd.func11, Tryd.ntmps11
    go_wp2
    go_ret2
    exact ⟨rfl, rfl⟩
  by_cases h3 : k = 72
  · subst h3
    go_enter Tryd.func11, Tryd.ntmps11
    go_wp2
    go_ret2
    exact ⟨rfl, rfl⟩
  by_cases h4 : k = 66
  · subst h4
    go_enter Tryd.func11, Tryd.ntmps11
    go_wp2
    go_ret2
    exact ⟨rfl, rfl⟩
  by_cases h5 : k = 67
  · subst h5
    go_enter Tryd.func11, Tryd.ntmps11
    go_wp2
    go_ret2
    exact ⟨rfl, rfl⟩
  have k1 : ¬ (k : Int) = 83 := by omega
  have k2 : ¬ (k : Int) = 84 := by omega
  have k3 : ¬ (k : Int) = 72 := by omega
  have k4 : ¬ (k : Int) = 66 := by omega
  have k5 : ¬ (k : Int) = 67 := by omega
  go_enter Tryd.func11, Tryd.ntmps11
  go_wp2
  go_ret2
  exact ⟨by simp [qOf, qCode, h1, h2, h3, h4, h5], rfl⟩
theorem isCut_impl (k : Nat) (hk : k < 256) (w : World) : Calls Tryd.prog 12 #[.int .u8 (k : Int)] w fun e w' => e = .returned (.bool (isCutB k)) ∧ w = w' := by
  by_cases h2 : k = 84
  · subst h2
    go_enter Tryd.func12, Tryd.ntmps12
    go_wp2
    go_ret
    exact ⟨rfl, rfl⟩
  by_cases h4 : k = 66
  · subst h4
    go_enter Tryd.func12, Tryd.ntmps12
    go_wp2
    go_ret
    exact ⟨rfl, rfl⟩
  by_cases h5 : k = 67
  · subst h5
    go_enter Tryd.func12, Tryd.ntmps12
    go_wp2
    go_ret
    exact ⟨rfl, rfl⟩
  have k2 : ¬ (k : Int) = 84 := by omega
  have k4 : ¬ (k : Int) = 66 := by omega
  have k5 : ¬ (k : Int) = 67 := by omega
  go_enter Tryd.func12, Tryd.ntmps12
  go_wp2
  go_ret
  exact ⟨ret_bool (by simp [isCutB, h2, h4, h5]), rfl⟩
def allTo : Nat → Int
  | 0 => 0
  | k + 1 => allTo k + qOf k
def cutTo : Nat → Int
  | 0 => 0
  | k + 1 => cutTo k + if isCutB k then 1 else 0
theorem qOf_range (k : Nat) : 0 ≤ qOf k ∧ qOf k ≤ 4 := by
  unfold qOf
  repeat' split
  all_goals omega
theorem qOf_zero {k : Nat} (h : ¬ qCode k = 0) : qOf k = 0 := by
  unfold qOf
  unfold qCode at h
  repeat' split
  all_goals simp_all
theorem qCode_cases (k : Nat) : qCode k = 0 ∨ (qCode k = 2 ∧ qOf k = 0) := by
  unfold qOf qCode
  repeat' split
  all_goals simp
theorem allTo_range : ∀ k, 0 ≤ allTo k ∧ allTo k ≤ 4 * (k : Int)
  | 0 => ⟨by decide, by decide⟩
  | k + 1 => by
    have h := allTo_range k
    have h2 := qOf_range k
    simp only [allTo]
    omega
theorem cutTo_range : ∀ k, 0 ≤ cutTo k ∧ cutTo k ≤ (k : Int)
  | 0 => ⟨by decide, by decide⟩
  | k + 1 => by
    have h := cutTo_range k
    simp only [cutTo]
    split <;> omega
set_option maxRecDepth 100000 in
theorem all_12 : allTo 256 = 12 := by decide +kernel
set_option maxRecDepth 100000 in
theorem cut_3 : cutTo 256 = 3 := by decide +kernel

/-- A format's text is read back. -/
theorem fm_back {l wd ht j : Int} (hok : okB l wd ht j = true) : FmIs (fmtS l wd ht j) l wd ht j ∧ (fmtS l wd ht j).size ≤ 1048576 := by
  obtain ⟨⟨l1, l2⟩, ⟨w1', w2'⟩, ⟨t1, t2⟩, ⟨j1, j2⟩, _⟩ := okB_true.1 hok
  obtain ⟨a1, a2, _⟩ := numR_itoa (n := l) (by omega) (by omega)
  obtain ⟨b1, b2, _⟩ := numR_itoa (n := wd) (by omega) (by omega)
  obtain ⟨c1, c2, _⟩ := numR_itoa (n := ht) (by omega) (by omega)
  obtain ⟨d1, d2, _⟩ := numR_itoa (n := j) (by omega) (by omega)
  have e : fmtS l wd ht j = ⟨(fmtL l wd ht j).toArray⟩ := by simp [fmtS, hok]
  have no : ∀ {x : List UInt8} {c : UInt8}, (∀ y ∈ x, 48 ≤ y.toNat ∧ y.toNat ≤ 57) → (c.toNat < 48 ∨ 57 < c.toNat) → c ∉ x := fun h hc hm => by have := h _ hm; omega
  have h43 : (43 : UInt8).toNat = 43 := rfl
  have h120 : (120 : UInt8).toNat = 120 := rfl
  refine ⟨⟨⟨(Lib.itoa l ++ [120] ++ Lib.itoa wd ++ [120] ++ Lib.itoa ht).toArray⟩, itoaB j, itoaB l, itoaB wd, itoaB ht, partsOf_join (by simp) ?_ ?_, partsOf_join (by simp) ?_ ?_, by simpa [itoaB] using a1, by simpa [itoaB] using b1, by simpa [itoaB] using c1, by simpa [itoaB] using d1, hok⟩, ?_⟩
  · intro q hq
    simp only [List.mem_cons, List.not_mem_nil, or_false] at hq
    rcases hq with rfl | rfl
    · have n1 := no (c := 43) a2 (by omega)
      have n2 := no (c := 43) b2 (by omega)
      have n3 := no (c := 43) c2 (by omega)
      simp [n1, n2, n3]
    · have n4 := no (c := 43) d2 (by omega)
      simpa [itoaB] using n4
  · rw [e]
    simp [Lib.join, fmtL, itoaB]
  · intro q hq
    simp only [List.mem_cons, List.not_mem_nil, or_false] at hq
    rcases hq with rfl | rfl | rfl
    · have n1 := no (c := 120) a2 (by omega)
      simpa [itoaB] using n1
    · have n2 := no (c := 120) b2 (by omega)
      simpa [itoaB] using n2
    · have n3 := no (c := 120) c2 (by omega)
      simpa [itoaB] using n3
  · simp [Lib.join, itoaB]
  · have m1 := Lib.itoa_length_le l (by omega) (by omega)
    have m2 := Lib.itoa_length_le wd (by omega) (by omega)
    have m3 := Lib.itoa_length_le ht (by omega) (by omega)
    have m4 := Lib.itoa_length_le j (by omega) (by omega)
    rw [e]
    show (fmtL l wd ht j).toArray.size ≤ _
    simp [fmtL]
    omega
end Go.Proofs.YtpholgfkaolfjaaDoor
