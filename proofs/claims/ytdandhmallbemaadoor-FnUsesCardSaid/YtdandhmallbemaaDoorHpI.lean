/-
  The heap's methods: Len, Less and Swap by the program.
-/
import Derived.Test.YtdandhmallbemaaDoorHpM
import Derived.Test.YtdandhmallbemaaDoorCmp
import Derived.Deep.RegionHeld3
import Derived.Deep.RegionWith
namespace Go.Proofs.YtdandhmallbemaaDoor
open Go.ChangeShapes Go.WideShapes Go.ChangeAt Go.RowKit Go.Joins

set_option maxHeartbeats 800000 in
theorem cmpi_impl (a b : Int) (w : World) : Calls Tryd.prog 91 #[.int .i64 a, .int .i64 b] w fun e w' => e = .returned (.int .i64 (cmpI a b)) ∧ w = w' := by
  by_cases h1 : a < b
  · go_enter Tryd.func91, Tryd.ntmps91
    go_wp2
    go_ret
    exact ⟨ret_int (cmpI_lt h1).symm, rfl⟩
  by_cases h2 : b < a
  · go_enter Tryd.func91, Tryd.ntmps91
    go_wp2
    go_ret
    exact ⟨ret_int (cmpI_gt h2).symm, rfl⟩
  · go_enter Tryd.func91, Tryd.ntmps91
    go_wp2
    go_ret
    exact ⟨ret_int (cmpI_eq (by omega)).symm, rfl⟩
theorem len_impl (L : List (Int × Int)) (v : Value) (w : World) (h : (v = .slice none 0 0 ∧ L = []) ∨ ∃ g cap, v = .slice (some ⟨g, 0, none⟩) L.length cap) : Calls Tryd.prog 88 #[v] w fun e w' => e = .returned (.int .i64 L.length) ∧ w = w' := by
  rcases h with ⟨rfl, rfl⟩ | ⟨g, cap, rfl⟩
  · go_enter Tryd.func88, Tryd.ntmps88
    go_wp2
    go_ret
    exact ⟨rfl, rfl⟩
  · go_enter Tryd.func88, Tryd.ntmps88
    go_wp2
    go_ret
    exact ⟨rfl, rfl⟩
/-- What Less reckons. -/
def cmpT (a b : Int × Int) : Int := if cmpI a.1 b.1 = 0 then cmpI a.2 b.2 else cmpI a.1 b.1
theorem cmpT_lt (a b : Int × Int) : cmpT a b < 0 ↔ tlt a b := by
  unfold cmpT cmpI tlt
  by_cases h1 : a.1 < b.1
  · simp [h1]
  · by_cases h2 : b.1 < a.1
    · have : ¬ a.1 = b.1 := by omega
      simp [h1, h2, this]
    · have e : a.1 = b.1 := by omega
      by_cases h3 : a.2 < b.2
      · simp [e, h3]
      · by_cases h4 : b.2 < a.2 <;> simp [e, h3, h4]
theorem keepL_call {n : Nat} {w w1 w2 : World} {g i j : Nat} {a b : Int × Int} (h : w1.cell? ⟨g, i, none⟩ = some (.int .i64 a.1) ∧ w1.cell? ⟨g, i + 1, none⟩ = some (.int .i64 a.2) ∧ w1.cell? ⟨g, j, none⟩ = some (.int .i64 b.1) ∧ w1.cell? ⟨g, j + 1, none⟩ = some (.int .i64 b.2) ∧ Below n w w1 ∧ n ≤ w1.heap.size) (hb : Below w1.heap.size w1 w2) : w2.cell? ⟨g, i, none⟩ = some (.int .i64 a.1) ∧ w2.cell? ⟨g, i + 1, none⟩ = some (.int .i64 a.2) ∧ w2.cell? ⟨g, j, none⟩ = some (.int .i64 b.1) ∧ w2.cell? ⟨g, j + 1, none⟩ = some (.int .i64 b.2) ∧ Below n w w2 ∧ n ≤ w2.heap.size := by
  obtain ⟨h0, h1, h2, h3, h4, h5⟩ := h
  have hg : g < w1.heap.size := World.block_lt_of_cell? w1 _ h0
  exact ⟨(hb.cell (p := ⟨g, i, none⟩) hg).trans h0, (hb.cell (p := ⟨g, i + 1, none⟩) hg).trans h1, (hb.cell (p := ⟨g, j, none⟩) hg).trans h2, (hb.cell (p := ⟨g, j + 1, none⟩) hg).trans h3, h4.trans (hb.mono h5), Nat.le_trans h5 hb.size⟩

set_option maxRecDepth 100000 in
set_option maxHeartbeats 6400000 in
theorem less_impl (g n cap i j : Nat) (a b : Int × Int) (hi : i < n) (hj : j < n) (w : World) (a0 : w.cell? ⟨g, i * 2, none⟩ = some (.int .i64 a.1)) (a1 : w.cell? ⟨g, i * 2 + 1, none⟩ = some (.int .i64 a.2)) (b0 : w.cell? ⟨g, j * 2, none⟩ = some (.int .i64 b.1)) (b1 : w.cell? ⟨g, j * 2 + 1, none⟩ = some (.int .i64 b.2)) : Calls Tryd.prog 89 #[.slice (some ⟨g, 0, none⟩) n cap, .int .i64 (i : Int), .int .i64 (j : Int)] w fun e w' => e = .returned (.bool (decide (tlt a b))) ∧ Below w.heap.size w w' := by
  have C1 := Lib.hid (cmp_impl a.1 b.1)
  have C2 := Lib.hid (cmpi_impl a.2 b.2)
  obtain ⟨u, hu⟩ : ∃ u, cmpI a.1 b.1 = u := ⟨_, rfl⟩
  obtain ⟨v, hv⟩ : ∃ v, cmpI a.2 b.2 = v := ⟨_, rfl⟩
  have HV : Hid ((if u = 0 then v else u) = cmpT a b) := by show _ = cmpT a b; unfold cmpT; rw [hu, hv]
  have HD : Hid (decide (tlt a b) = decide (cmpT a b < 0)) := by show _ = _; rw [decide_eq_decide]; exact (cmpT_lt a b).symm
  rw [hu] at C1
  rw [hv] at C2
  rw [HD.out]
  obtain ⟨r, hr⟩ : ∃ r, cmpT a b = r := ⟨_, rfl⟩
  rw [hr] at HV ⊢
  have OR : Hid (∀ (g : Nat) (wx : World), wx.cell? ⟨g, 0, none⟩ = some (.int .i64 u) → wx.cell? ⟨g, 1, none⟩ = some (.int .i64 v) → Calls Tryd.prog 57 #[.slice (some ⟨g, 0, none⟩) 2 2] wx fun e w' => e = .returned (.int .i64 r) ∧ wx = w') := fun g wx h1 h2 => or_impl u v r HV.out g wx h1 h2
  have i0 : (0 : Int) ≤ (i : Int) := by omega
  have i1 : (i : Int) < (n : Int) := by omega
  have j0 : (0 : Int) ≤ (j : Int) := by omega
  have j1 : (j : Int) < (n : Int) := by omega
  clear hu hv hr HV HD
  go_enter Tryd.func89, Tryd.ntmps89
  go_wp2_with fail
  go_region_held3 (fun w' => w'.cell? ⟨g, i * 2, none⟩ = some (.int .i64 a.1) ∧ w'.cell? ⟨g, i * 2 + 1, none⟩ = some (.int .i64 a.2) ∧ w'.cell? ⟨g, j * 2, none⟩ = some (.int .i64 b.1) ∧ w'.cell? ⟨g, j * 2 + 1, none⟩ = some (.int .i64 b.2) ∧ Below w.heap.size w w' ∧ w.heap.size ≤ w'.heap.size)
    (first | exact keepL_call (by assumption) hb | exact keepL_call (by assumption) (balloc0 _ _) | assumption | exact ⟨a0, a1, b0, b1, (Below.refl _ _).drew, Nat.le_refl _⟩)
    (first
      | (go_at_call 58; refine (C1.out _).mono ?_; rintro e w2 ⟨rfl, rfl⟩)
      | (go_at_call 91; refine (C2.out _).mono ?_; rintro e w2 ⟨rfl, rfl⟩)
      | (go_at_call 57; refine (OR.out _ _ ?_ ?_).mono ?_; exact (cell_of_row _ _ _ _ _ (0, 0) (heap_alloc_new _ _)); exact (cell_of_row _ _ _ _ _ (0, 0) (heap_alloc_new _ _)); rintro e w2 ⟨rfl, rfl⟩))
  all_goals
    go_wp2
    go_split_ands
    go_ret
    exact ⟨rfl, by assumption⟩
end Go.Proofs.YtdandhmallbemaaDoor
