/-
  Heights of storeys, rods, levels that rise: the model's word and the program's.
-/
import Derived.Test.YtmbmbkagmkmhlabDoorFmB
import Derived.Test.YtmbmbkagmkmhlabDoorIntX
import Derived.Deep.RegionWith
import Derived.Deep.RegionHeld3
namespace Go.Proofs.YtmbmbkagmkmhlabDoor
open Go.ChangeShapes Go.WideShapes Go.ChangeAt Go.RowKit Go.Joins


theorem height_spec (n : Int) (w : World) : Calls Tryd.prog 11 #[.int .i64 n] w fun e w' => e = .returned (.bool (inB n 100 6000)) ∧ w = w' := by
  go_enter Tryd.func11, Tryd.ntmps11
  go_wp2_with (go_at_call 12; refine (in_any _ _ _ _).mono ?_; rintro e w' ⟨rfl, rfl⟩)
  go_ret
  exact ⟨rfl, rfl⟩
theorem storey_impl (n : Int) (w : World) : Calls Tryd.prog 18 #[.int .i64 n] w fun e w' => e = .returned (.bool (inB n 100 6000)) ∧ w = w' := by
  go_enter Tryd.func18, Tryd.ntmps18
  go_wp2_with (go_at_call 19; refine (within_impl _ _ _ _).mono ?_; rintro e w' ⟨rfl, rfl⟩)
  go_ret
  exact ⟨rfl, rfl⟩
def gB (H c : Int) : Bool := inB H 100 6000 && inB c 1 40
theorem gB_true {H c : Int} : gB H c = true ↔ (100 ≤ H ∧ H ≤ 6000) ∧ (1 ≤ c ∧ c ≤ 40) := by simp [gB, inB_true]
def gC (H c : Int) : Int := if gB H c = true then 0 else 2
theorem gC_cases (H c : Int) : (gB H c = true ∧ gC H c = 0) ∨ (gB H c = false ∧ gC H c = 2) := by
  cases h : gB H c
  · exact .inr ⟨rfl, by simp [gC, h]⟩
  · exact .inl ⟨rfl, by simp [gC, h]⟩
theorem gcode_spec (H c : Int) (w : World) : Calls Tryd.prog 6 #[.int .i64 H, .int .i64 c] w fun e w' => e = .returned (.int .i64 (gC H c)) ∧ w = w' := by
  cases h1 : inB H 100 6000 <;> cases h2 : inB c 1 40
  all_goals
    go_enter Tryd.func6, Tryd.ntmps6
    go_wp2_with (first | (go_at_call 11; refine (height_spec _ _).mono ?_; rintro e w' ⟨rfl, rfl⟩) | (go_at_call 12; refine (in_any _ _ _ _).mono ?_; rintro e w' ⟨rfl, rfl⟩))
    go_ret
    exact ⟨ret_int (by simp [gC, gB, h1, h2]), rfl⟩
theorem rodOk_impl (H c : Int) (w : World) : Calls Tryd.prog 13 #[.agg #[.int .i64 H, .int .i64 c]] w fun e w' => e = .returned (.bool (gB H c)) ∧ Below w.heap.size w w' := by
  cases h1 : inB H 100 6000 <;> cases h2 : inB c 1 40
  all_goals
    go_enter Tryd.func13, Tryd.ntmps13
    go_wp2_with (first | (go_at_call 18; refine (storey_impl _ _).mono ?_; rintro e w' ⟨rfl, rfl⟩) | (go_at_call 19; refine (within_impl _ _ _ _).mono ?_; rintro e w' ⟨rfl, rfl⟩))
    go_ret
    exact ⟨ret_bool (by simp [gB, h1, h2]), balloc0 _ _⟩
/-- A mark of a rod. -/
def mkQ (H c k : Int) : Int := (2 * (k * H) + c) / (2 * c)
theorem near_impl (p d : Int) (h0 : 0 ≤ p) (h1 : p ≤ 1000000) (d0 : 1 ≤ d) (d1 : d ≤ 10000) (w : World) : Calls Tryd.prog 20 #[.int .i64 p, .int .i64 d] w fun e w' => e = .returned (.int .i64 ((2 * p + d) / (2 * d))) ∧ w = w' := by
  have e1 : IntKind.i64.wrap (2 * p) = 2 * p := IntWalk.i64_in _ (by omega)
  have e2 : IntKind.i64.wrap (2 * p + d) = 2 * p + d := IntWalk.i64_in _ (by omega)
  have e5 : IntKind.i64.wrap (2 * d) = 2 * d := IntWalk.i64_in _ (by omega)
  have hz : ¬ 2 * d = 0 := by omega
  have hz2 : ¬ d = 0 := by omega
  have q0 : 0 ≤ (2 * p + d) / (2 * d) := Int.ediv_nonneg (by omega) (by omega)
  have q1 : (2 * p + d) / (2 * d) ≤ 2 * p + d := Int.ediv_le_self _ (by omega)
  have e3 : (2 * p + d).tdiv (2 * d) = (2 * p + d) / (2 * d) := Int.tdiv_eq_ediv_of_nonneg (by omega)
  have e4 : IntKind.i64.wrap ((2 * p + d) / (2 * d)) = (2 * p + d) / (2 * d) := IntWalk.i64_in _ (by omega)
  go_enter Tryd.func20, Tryd.ntmps20
  go_wp2
  go_ret
  exact ⟨rfl, rfl⟩
theorem kH_range {H c k : Int} (h : gB H c = true) (k0 : 0 ≤ k) (k1 : k ≤ 40) : 0 ≤ k * H ∧ k * H ≤ 240000 := by
  obtain ⟨⟨a, b⟩, -⟩ := gB_true.1 h
  exact ⟨Int.mul_nonneg k0 (by omega), Int.le_trans (Int.mul_le_mul k1 b (by omega) (by omega)) (by omega)⟩
theorem mkQ_range {H c k : Int} (h : gB H c = true) (k0 : 0 ≤ k) (k1 : k ≤ 40) : 0 ≤ mkQ H c k ∧ mkQ H c k ≤ 480040 := by
  obtain ⟨m0, m1⟩ := kH_range h k0 k1
  obtain ⟨-, c0, c1⟩ := gB_true.1 h
  unfold mkQ
  exact ⟨Int.ediv_nonneg (by omega) (by omega), Int.le_trans (Int.ediv_le_self _ (by omega)) (by omega)⟩
theorem mark_impl (H c k : Int) (h : gB H c = true) (k0 : 0 ≤ k) (k1 : k ≤ 40) (w : World) : Calls Tryd.prog 14 #[.agg #[.int .i64 H, .int .i64 c], .int .i64 k] w fun e w' => e = .returned (.int .i64 (mkQ H c k)) ∧ Below w.heap.size w w' := by
  obtain ⟨m0, m1⟩ := kH_range h k0 k1
  obtain ⟨⟨a, b⟩, c0, c1⟩ := gB_true.1 h
  have e1 : IntKind.i64.wrap (k * H) = k * H := IntWalk.i64_in _ (by omega)
  have NR : Hid (∀ wx, Calls Tryd.prog 20 #[.int .i64 (k * H), .int .i64 c] wx fun e w' => e = .returned (.int .i64 (mkQ H c k)) ∧ wx = w') := fun wx => near_impl (k * H) c m0 (by omega) c0 (by omega) wx
  clear h
  go_enter Tryd.func14, Tryd.ntmps14
  go_wp2_with (go_at_call 20; refine (NR.out _).mono ?_; rintro e w' ⟨rfl, rfl⟩)
  go_ret
  exact ⟨rfl, balloc0 _ _⟩
theorem mark_spec (H c k : Int) (h : gB H c = true) (k0 : 0 ≤ k) (k1 : k ≤ 40) (w : World) : Calls Tryd.prog 8 #[.int .i64 H, .int .i64 c, .int .i64 k] w fun e w' => e = .returned (.int .i64 (mkQ H c k)) ∧ w = w' := by
  obtain ⟨m0, m1⟩ := kH_range h k0 k1
  obtain ⟨q0, q1⟩ := mkQ_range h k0 k1
  obtain ⟨⟨a, b⟩, c0, c1⟩ := gB_true.1 h
  have e0 : 2 * k * H = 2 * (k * H) := Int.mul_assoc ..
  have e1 : IntKind.i64.wrap (2 * k * H) = 2 * (k * H) := by rw [e0]; exact IntWalk.i64_in _ (by omega)
  have e6 : IntKind.i64.wrap (2 * (k * H)) = 2 * (k * H) := IntWalk.i64_in _ (by omega)
  have e2 : IntKind.i64.wrap (2 * (k * H) + c) = 2 * (k * H) + c := IntWalk.i64_in _ (by omega)
  have e5 : IntKind.i64.wrap (2 * c) = 2 * c := IntWalk.i64_in _ (by omega)
  have hz : ¬ 2 * c = 0 := by omega
  have hz2 : ¬ c = 0 := by omega
  have e3 : (2 * (k * H) + c).tdiv (2 * c) = mkQ H c k := Int.tdiv_eq_ediv_of_nonneg (by omega)
  have e7 : (2 * (k * H) + c) / (2 * c) = mkQ H c k := rfl
  have e4 : IntKind.i64.wrap (mkQ H c k) = mkQ H c k := IntWalk.i64_in _ (by omega)
  clear h
  go_enter Tryd.func8, Tryd.ntmps8
  go_wp2
  go_ret
  exact ⟨rfl, rfl⟩
/-- Numbers rise strictly, each within bounds. -/
def risesB (lo hi : Int) : List Int → Bool
  | [] => true
  | n :: r => inB n lo hi && risesB (n + 1) hi r
theorem rises_drop {L : List Int} {k : Nat} {z : Int} (h : L[k]? = some z) (lo hi : Int) : risesB lo hi (L.drop k) = (inB z lo hi && risesB (z + 1) hi (L.drop (k + 1))) := by
  obtain ⟨hk, e⟩ := List.getElem?_eq_some_iff.1 h
  rw [List.drop_eq_getElem_cons hk, e]
  rfl
theorem rises_end (lo hi : Int) (L : List Int) : risesB lo hi (L.drop L.length) = true := by simp [risesB]
theorem rises_all {lo hi : Int} {L : List Int} (h : risesB lo hi L = true) : ∀ z ∈ L, lo ≤ z ∧ z ≤ hi := by
  induction L generalizing lo with
  | nil => intro z hz; cases hz
  | cons n r ih =>
    simp only [risesB, Bool.and_eq_true, inB_true] at h
    intro z hz
    rcases List.mem_cons.1 hz with rfl | hz
    · exact h.1
    · have := ih h.2 z hz
      omega
end Go.Proofs.YtmbmbkagmkmhlabDoor
