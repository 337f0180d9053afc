/-
  FnLengths: the plain arithmetic, the contracts that it takes, and its walk.
-/
import Derived.Test.YtpholgfkaolfjaaC2f
import Derived.Test.YtpholgfkaolfjaaDraw2
namespace Go.Proofs.Ytpholgfkaolfjaa
open Go.ChangeShapes Go.WideShapes Go.ChangeAt Go.RowKit Go.Joins

theorem low_facts (X : Int) : ∃ g : Int, (g = 1 ∨ g = 2 ∨ g = 4) ∧ lowN X 4 * g = X ∧ lowD X 4 * g = 4 := by
  have hd1 : ((Int.gcd X 4 : Nat) : Int) ∣ X := Int.gcd_dvd_left ..
  have hd2 : ((Int.gcd X 4 : Nat) : Int) ∣ 4 := Int.gcd_dvd_right ..
  have hp : 0 < (Int.gcd X 4 : Nat) := Int.gcd_pos_of_ne_zero_right X (by omega)
  refine ⟨((Int.gcd X 4 : Nat) : Int), ?_, Int.ediv_mul_cancel hd1, Int.ediv_mul_cancel hd2⟩
  have h2 : (Int.gcd X 4 : Nat) ∣ 4 := by exact_mod_cast hd2
  have h3 := Nat.le_of_dvd (by omega) h2
  have h4 : (Int.gcd X 4 : Nat) = 1 ∨ (Int.gcd X 4 : Nat) = 2 ∨ (Int.gcd X 4 : Nat) = 3 ∨ (Int.gcd X 4 : Nat) = 4 := by omega
  rcases h4 with h | h | h | h
  · omega
  · omega
  · rw [h] at h2; omega
  · omega

/-- The least whole number that is not less than X / 4, by way of the fraction in lowest terms. -/
theorem up_facts (X : Int) (hX : 0 < X) : 1 ≤ lowD X 4 ∧ lowD X 4 ≤ 4 ∧ 1 ≤ lowN X 4 ∧ lowN X 4 ≤ X ∧ X ≤ 4 * ((lowN X 4 + lowD X 4 - 1) / lowD X 4) ∧ 4 * ((lowN X 4 + lowD X 4 - 1) / lowD X 4 - 1) < X := by
  obtain ⟨g, hg, h1, h2⟩ := low_facts X
  generalize lowN X 4 = N at h1
  generalize lowD X 4 = D at h2
  rcases hg with rfl | rfl | rfl
  · obtain rfl : D = 4 := by omega
    omega
  · obtain rfl : D = 2 := by omega
    omega
  · obtain rfl : D = 1 := by omega
    omega

theorem quot_ge (x y n : Int) (hy : 0 < y) (h : n * y ≤ x) : n ≤ x / y := (Int.le_ediv_iff_mul_le hy).2 h
theorem quot_lt (x y n : Int) (hy : 0 < y) (h : x < n * y) : x / y < n := (Int.ediv_lt_iff_lt_mul hy).2 h

theorem lengths_prep (l wd ht j n : Int) (hok : okB l wd ht j = true) (hn1 : 1 ≤ n) (hn2 : n ≤ 90) :
    ∃ N D u qa qb hh : Int, 1 ≤ D ∧ D ≤ 4 ∧ 1 ≤ N ∧ N ≤ 1000000 ∧ Hid ((N + D - 1) / D = u) ∧ 1 ≤ u ∧ u ≤ 100000 ∧ n ≤ qa ∧ qb < n ∧ 1 ≤ hh ∧ hh ≤ 100000 ∧
      Hid (∀ w, Calls Try.prog 7 #[.agg #[.int .i64 l, .int .i64 wd, .int .i64 ht, .int .i64 j], .int .i64 n] w fun e w' => e = .returned (.tuple #[.agg #[.int .i64 N, .int .i64 D], .int .i64 0]) ∧ Below w.heap.size w w') ∧
      Hid (∀ w, Calls Try.prog 8 #[.agg #[.int .i64 l, .int .i64 wd, .int .i64 ht, .int .i64 j], .int .i64 (u)] w fun e w' => e = .returned (.tuple #[.int .i64 (qa), .int .i64 (0)]) ∧ Below w.heap.size w w') ∧ Hid (∀ w, Calls Try.prog 8 #[.agg #[.int .i64 l, .int .i64 wd, .int .i64 ht, .int .i64 j], .int .i64 (u - 1)] w fun e w' => e = .returned (.tuple #[.int .i64 (qb), .int .i64 (0)]) ∧ Below w.heap.size w w') ∧ Hid (∀ w, Calls Try.prog 9 #[.agg #[.int .i64 l, .int .i64 wd, .int .i64 ht, .int .i64 j], .int .i64 (n)] w fun e w' => e = .returned (.tuple #[.int .i64 (hh), .int .i64 (0)]) ∧ Below w.heap.size w w') ∧ Hid (∀ w, Calls Try.prog 10 #[.agg #[.int .i64 l, .int .i64 wd, .int .i64 ht, .int .i64 j], .int .i64 (hh)] w fun e w' => e = .returned (.tuple #[.int .i64 (n), .int .i64 (0)]) ∧ Below w.heap.size w w') ∧ Hid (∀ w, Calls Try.prog 10 #[.agg #[.int .i64 l, .int .i64 wd, .int .i64 ht, .int .i64 j], .int .i64 (hh - 1)] w fun e w' => e = .returned (.tuple #[.int .i64 (n - 1), .int .i64 (0)]) ∧ Below w.heap.size w w') := by
  obtain ⟨⟨l1, l2⟩, ⟨w1, w2⟩, ⟨t1, t2⟩, ⟨j1, j2⟩, _⟩ := okB_true.1 hok
  have m1 : n * (l + j) ≤ 90 * 520 := Int.mul_le_mul hn2 (by omega) (by omega) (by omega)
  have m2 : 1 * (l + j) ≤ n * (l + j) := Int.mul_le_mul_of_nonneg_right hn1 (by omega)
  have m3 : n * (ht + j) ≤ 90 * 170 := Int.mul_le_mul hn2 (by omega) (by omega) (by omega)
  have m4 : 1 * (ht + j) ≤ n * (ht + j) := Int.mul_le_mul_of_nonneg_right hn1 (by omega)
  have hX : 0 < n * (l + j) - 4 * j := by omega
  obtain ⟨u1, u2, u3, u4, u5, u6⟩ := up_facts _ hX
  obtain ⟨u, hu⟩ : ∃ u, (lowN (n * (l + j) - 4 * j) 4 + lowD (n * (l + j) - 4 * j) 4 - 1) / lowD (n * (l + j) - 4 * j) 4 = u := ⟨_, rfl⟩
  rw [hu] at u5 u6
  have c1 : codeOf l wd ht j n 1 200 = 0 := codeOf_ok hok (by omega)
  have c2 : codeOf l wd ht j u 0 100000 = 0 := codeOf_ok hok (by omega)
  have c3 : codeOf l wd ht j (u - 1) 0 100000 = 0 := codeOf_ok hok (by omega)
  have c4 : codeOf l wd ht j (n * (ht + j) - j) 0 100000 = 0 := codeOf_ok hok (by omega)
  have c5 : codeOf l wd ht j (n * (ht + j) - j - 1) 0 100000 = 0 := codeOf_ok hok (by omega)
  have e1 : (n * (ht + j) - j + j) / (ht + j) = n := by
    rw [show n * (ht + j) - j + j = n * (ht + j) by omega]
    exact Int.mul_ediv_cancel n (by omega)
  have e2 : (n * (ht + j) - j - 1 + j) / (ht + j) = n - 1 := by
    have a1 := quot_lt (n * (ht + j) - j - 1 + j) (ht + j) n (by omega) (by omega)
    have a3 : (n - 1) * (ht + j) = n * (ht + j) - 1 * (ht + j) := Int.sub_mul ..
    have a2 := quot_ge (n * (ht + j) - j - 1 + j) (ht + j) (n - 1) (by omega) (by omega)
    omega
  refine ⟨_, _, u, 4 * (u + j) / (l + j), 4 * (u - 1 + j) / (l + j), n * (ht + j) - j, u1, u2, u3, by omega, hu, by omega, by omega, quot_ge _ _ _ (by omega) (by omega), quot_lt _ _ _ (by omega) (by omega), by omega, by omega, ?_, ?_, ?_, ?_, ?_, ?_⟩
  · intro w; have h := length_impl l wd ht j n w; rw [c1] at h; exact h
  · intro w; have h := quarters_impl l wd ht j u w; rw [c2] at h; exact h
  · intro w; have h := quarters_impl l wd ht j (u - 1) w; rw [c3] at h; exact h
  · intro w; have h := height_impl l wd ht j n w; rw [c1] at h; exact h
  · intro w; have h := courses_impl l wd ht j (n * (ht + j) - j) w; rw [c4, val0, e1] at h; exact h
  · intro w; have h := courses_impl l wd ht j (n * (ht + j) - j - 1) w; rw [c5, val0, e2] at h; exact h

/-- Too many bytes: what the law asks first. -/
theorem long_any (a : Option Addr) (len cap : Nat) (w : World) : Calls Try.prog 4 #[.slice a len cap, .slice none 0 0] w fun e w' => e = .returned (.bool (decide ((3000 : Int) < (len : Int)))) ∧ w = w' := by
  by_cases h : (3000 : Int) < (len : Int)
  all_goals
    go_enter Try.func4, Try.ntmps4
    go_wp2_with fail
    go_ret
    exact ⟨ret_bool (by simp [h]), rfl⟩
def AtPost (w : World) (n : Int) (e : Ending) (w' : World) : Prop := ∃ r : Int, 0 ≤ r ∧ r ≤ n - 1 ∧ e = .returned (.int .i64 r) ∧ w = w'
/-- A number from 0 to n - 1 that depends on a byte. -/
theorem at_any (w : World) (B : Nat) (a : Option Addr) (len cap : Nat) (at' n : Int) (h0 : 0 ≤ at') (h0' : at' ≤ 1000000) (hn : 1 ≤ n) (hn' : n ≤ 1000000) (hc : CodeAt w B (.slice a len cap)) (hl : len ≤ 9223372036854775807) :
    Calls Try.prog 6 #[.slice a len cap, .int .i64 at', .int .i64 n] w (AtPost w n) := by
  have hz : ¬ n = 0 := by omega
  by_cases h : at' < (len : Int)
  · have hx : ∃ (b o : Nat) (z : Int), a = some ⟨b, o, none⟩ ∧ w.cell? ⟨b, o + at'.toNat, none⟩ = some (.int .u8 z) ∧ 0 ≤ z ∧ z ≤ 255 := by
      rcases hc with hc | ⟨b, o, len', cap', z, h1, h2, h3, h4⟩
      · obtain ⟨_, _, hc⟩ := hc
        simp at hc; omega
      · simp at h1
        obtain ⟨rfl, rfl, rfl⟩ := h1
        exact ⟨b, o, z at'.toNat, rfl, h4 at'.toNat (by omega)⟩
    obtain ⟨b, o, z, rfl, hcell, hz0, hz1⟩ := hx
    obtain ⟨k, hk⟩ := Int.eq_ofNat_of_zero_le h0
    subst hk
    have hcell' : w.cell? ⟨b, o + k, none⟩ = some (.int .u8 z) := hcell
    clear hcell hc
    go_enter Try.func6, Try.ntmps6
    go_wp2_with fail
    go_ret
    have m1 := Int.emod_nonneg z hz
    have m2 := Int.emod_lt_of_pos z (show 0 < n by omega)
    exact ⟨_, m1, by omega, rfl, rfl⟩
  · clear hc
    go_enter Try.func6, Try.ntmps6
    go_wp2_with fail
    go_ret
    exact ⟨0, by omega, by omega, rfl, rfl⟩
end Go.Proofs.Ytpholgfkaolfjaa
