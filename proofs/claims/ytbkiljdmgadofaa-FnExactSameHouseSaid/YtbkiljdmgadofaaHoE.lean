/-
  Whether two plans are equal: the model's word, and the program's.
-/
import Derived.Test.YtbkiljdmgadofaaHoLP
import Derived.Deep.RegionWith
import Derived.Laws.StructEq
namespace Go.Proofs.Ytbkiljdmgadofaa
open Go.ChangeShapes Go.WideShapes Go.ChangeAt Go.RowKit Go.Joins

theorem toList_same3 {x y : ByteArray} (h : x.toList = y.toList) : x = y := by
  apply ByteArray.ext
  apply Array.toList_inj.1
  simpa [ByteArray.toList_eq] using h
/-- Two rows of numbers are the same; two plans are. -/
def sameI (P M : List Int) : Bool := decide (P = M)
def sameHB (P : List Int) (T : ByteArray) (M : List Int) (U : ByteArray) : Bool := (T.toList == U.toList) && sameI P M
theorem sameI_ne {P M : List Int} {k : Nat} {x y : Int} (hx : P[k]? = some x) (hy : M[k]? = some y) (h : ¬ x = y) : sameI P M = false := by
  unfold sameI
  rw [decide_eq_false_iff_not]
  intro e
  subst e
  rw [hx] at hy
  exact h (Option.some.inj hy)
theorem sameI_len {P M : List Int} (h : ¬ P.length = M.length) : sameI P M = false := by
  unfold sameI
  rw [decide_eq_false_iff_not]
  exact fun e => h (by rw [e])
theorem sameI_all {P M : List Int} (hl : P.length = M.length) (h : ∀ j, j < M.length → P[j]? = M[j]?) : sameI P M = true := by
  unfold sameI
  rw [decide_eq_true_eq]
  refine List.ext_getElem? fun j => ?_
  by_cases hj : j < M.length
  · exact h j hj
  · rw [List.getElem?_eq_none (by omega), List.getElem?_eq_none (by omega)]
set_option maxRecDepth 100000 in
set_option maxHeartbeats 1600000 in
theorem same_spec (P M : List Int) (a a' : Option Addr) (cap cap' : Nat) (hl : P.length ≤ 1048576) (_hm : M.length ≤ 1048576) (w : World) (ha : IntArg w a P) (ha' : IntArg w a' M) :
    Calls Try.prog 10 #[.slice a P.length cap, .slice a' M.length cap'] w fun e w' => e = .returned (.bool (sameI P M)) ∧ Below w.heap.size w w' := by
  by_cases hlm : P.length = M.length
  case neg =>
    have hlm' : ¬ (P.length : Int) = (M.length : Int) := by omega
    have HE := Lib.hid (sameI_len hlm)
    clear ha ha'
    go_enter Try.func10, Try.ntmps10
    go_wp2
    go_ret
    exact ⟨by rw [HE.out]; rfl, Below.refl _ _⟩
  have HA := Lib.hid ha
  have HA' := Lib.hid ha'
  have HL := Lib.hid hlm
  have hlm' : (P.length : Int) = (M.length : Int) := by omega
  clear ha ha' hlm
  go_enter Try.func10, Try.ntmps10
  go_wp2
  go_loopw [5] (fun i wr => ∃ k : Nat, k ≤ M.length ∧ i = .int .i64 (k : Int) ∧ Hid (∀ j, j < k → P[j]? = M[j]?) ∧ Hid (Below w.heap.size w wr)) (fun i _ => M.length - (intOf i).toNat)
  case atStart => exact ⟨0, Nat.zero_le _, rfl, fun j h => by omega, Below.refl _ _⟩
  case round =>
    obtain ⟨k, hk, rfl, hS, hB⟩ := hrel
    by_cases hlt : k < M.length
    · have hlt' : (k : Int) < (M.length : Int) := by omega
      have hk0 : (0 : Int) ≤ (k : Int) := by omega
      obtain ⟨b, o, x, rfl, hc, hat⟩ := (HA.out.later hB.out).at (k := k) (by rw [HL.out]; exact hlt)
      obtain ⟨b', o', y, rfl, hd, hat'⟩ := (HA'.out.later hB.out).at hlt
      have c0 := hat k x hc
      have d0 := hat' k y hd
      have HC := Lib.hid hc
      have HD := Lib.hid hd
      clear hc hd hat hat'
      by_cases e0 : x = y
      case neg =>
        have HE := Lib.hid (sameI_ne HC.out HD.out e0)
        go_wp2_with fail
        go_region
        go_wp2
        go_ret
        exact ⟨ret_bool (by rw [HE.out]), hB.out.drew⟩
      subst e0
      go_wp2_with fail
      go_region
      go_wp2
      go_roundw
      case rel =>
        refine ⟨k + 1, by omega, by go_num, fun j hj => ?_, hB.out.drew⟩
        by_cases e : j = k
        · subst e
          rw [HC.out, HD.out]
        · exact hS.out j (by omega)
      case measure => simp [intOf]; omega
    · have hge : ¬ (k : Int) < (M.length : Int) := by omega
      have hkn : k = M.length := by omega
      have HE : Hid (sameI P M = true) := sameI_all HL.out (fun j hj => hS.out j (by omega))
      subst hkn
      go_wp2
      go_ret
      exact ⟨ret_bool (by rw [HE.out]), hB.out⟩
set_option maxRecDepth 100000 in
set_option maxHeartbeats 1600000 in
theorem equal_impl (P M : List Int) (a a' : Option Addr) (cap cap' : Nat) (hl : P.length ≤ 1048576) (_hm : M.length ≤ 1048576) (w : World) (ha : IntArg w a P) (ha' : IntArg w a' M) :
    Calls Try.prog 12 #[.slice a P.length cap, .slice a' M.length cap'] w fun e w' => e = .returned (.bool (sameI P M)) ∧ Below w.heap.size w w' := by
  by_cases hlm : P.length = M.length
  case neg =>
    have hlm' : ¬ (P.length : Int) = (M.length : Int) := by omega
    have HE := Lib.hid (sameI_len hlm)
    clear ha ha'
    go_enter Try.func12, Try.ntmps12
    go_wp2
    go_ret
    exact ⟨by rw [HE.out]; rfl, Below.refl _ _⟩
  have HA := Lib.hid ha
  have HA' := Lib.hid ha'
  have HL := Lib.hid hlm
  have hlm' : (P.length : Int) = (M.length : Int) := by omega
  clear ha ha' hlm
  go_enter Try.func12, Try.ntmps12
  go_wp2
  go_loopw [13] (fun i wr => ∃ k : Nat, k ≤ M.length ∧ i = .int .i64 (k : Int) ∧ Hid (∀ j, j < k → P[j]? = M[j]?) ∧ Hid (Below w.heap.size w wr)) (fun i _ => M.length - (intOf i).toNat)
  case atStart => exact ⟨0, Nat.zero_le _, rfl, fun j h => by omega, Below.refl _ _⟩
  case round =>
    obtain ⟨k, hk, rfl, hS, hB⟩ := hrel
    by_cases hlt : k < M.length
    · have hlt' : (k : Int) < (M.length : Int) := by omega
      have hk0 : (0 : Int) ≤ (k : Int) := by omega
      obtain ⟨b, o, x, rfl, hc, hat⟩ := (HA.out.later hB.out).at (k := k) (by rw [HL.out]; exact hlt)
      obtain ⟨b', o', y, rfl, hd, hat'⟩ := (HA'.out.later hB.out).at hlt
      have c0 := hat k x hc
      have d0 := hat' k y hd
      have HC := Lib.hid hc
      have HD := Lib.hid hd
      clear hc hd hat hat'
      by_cases e0 : x = y
      case neg =>
        have HE := Lib.hid (sameI_ne HC.out HD.out e0)
        go_wp2_with fail
        go_region
        go_wp2
        go_ret
        exact ⟨ret_bool (by rw [HE.out]), hB.out.drew⟩
      subst e0
      go_wp2_with fail
      go_region
      go_wp2
      go_roundw
      case rel =>
        refine ⟨k + 1, by omega, by go_num, fun j hj => ?_, hB.out.drew⟩
        by_cases e : j = k
        · subst e
          rw [HC.out, HD.out]
        · exact hS.out j (by omega)
      case measure => simp [intOf]; omega
    · have hge : ¬ (k : Int) < (M.length : Int) := by omega
      have hkn : k = M.length := by omega
      have HE : Hid (sameI P M = true) := sameI_all HL.out (fun j hj => hS.out j (by omega))
      subst hkn
      go_wp2
      go_ret
      exact ⟨ret_bool (by rw [HE.out]), hB.out⟩
set_option maxRecDepth 100000 in
set_option maxHeartbeats 1600000 in
theorem sameHouse_spec (P M : List Int) (T U : ByteArray) (a a' : Option Addr) (cap cap' : Nat) (hl : P.length ≤ 1048576) (hm : M.length ≤ 1048576) (w : World) (ha : IntArg w a P) (ha' : IntArg w a' M) :
    Calls Try.prog 5 #[.agg #[.slice a P.length cap, .string T], .agg #[.slice a' M.length cap', .string U]] w fun e w' => e = .returned (.bool (sameHB P T M U)) ∧ Below w.heap.size w w' := by
  have C := Lib.hid (fun wx (hx : Below w.heap.size w wx) => same_spec P M a a' cap cap' hl hm wx (ha.later hx) (ha'.later hx))
  have HS : Hid (sameHB P T M U = ((T.toList == U.toList) && sameI P M)) := rfl
  clear ha ha'
  obtain ⟨d0, d1⟩ := boxH w (.slice a P.length cap) T 27
  obtain ⟨f0, f1⟩ := boxH (w.alloc (.cells #[.slice a P.length cap, .string T] 27)) (.slice a' M.length cap') U 27
  have d0' := (World.cell?_alloc_lt (w.alloc (.cells #[.slice a P.length cap, .string T] 27)) (.cells #[.slice a' M.length cap', .string U] 27) ⟨w.heap.size, 0, none⟩ (by simp)).trans d0
  have d1' := (World.cell?_alloc_lt (w.alloc (.cells #[.slice a P.length cap, .string T] 27)) (.cells #[.slice a' M.length cap', .string U] 27) ⟨w.heap.size, 1, none⟩ (by simp)).trans d1
  have hsz : (w.alloc (.cells #[.slice a P.length cap, .string T] 27)).heap.size = w.heap.size + 1 := by simp
  rw [hsz] at f0 f1
  obtain ⟨W0, hW⟩ : ∃ W0, (w.alloc (.cells #[.slice a P.length cap, .string T] 27)).alloc (.cells #[.slice a' M.length cap', .string U] 27) = W0 := ⟨_, rfl⟩
  have E0 : Hid (Below w.heap.size w W0) := by show Below w.heap.size w W0; rw [← hW]; exact balloc (balloc0 _ _) _
  rw [hW] at d0' d1' f0 f1
  have HW := Lib.hid hW
  have K : Hid (∀ wx, Below W0.heap.size W0 wx → (wx.cell? ⟨w.heap.size, 0, none⟩ = some (.slice a P.length cap) ∧ wx.cell? ⟨w.heap.size, 1, none⟩ = some (.string T)) ∧ wx.cell? ⟨w.heap.size + 1, 0, none⟩ = some (.slice a' M.length cap') ∧ wx.cell? ⟨w.heap.size + 1, 1, none⟩ = some (.string U)) := fun wx hx =>
    ⟨⟨(hx.cell (World.block_lt_of_cell? W0 _ d0')).trans d0', (hx.cell (World.block_lt_of_cell? W0 _ d1')).trans d1'⟩, (hx.cell (World.block_lt_of_cell? W0 _ f0)).trans f0, (hx.cell (World.block_lt_of_cell? W0 _ f1)).trans f1⟩
  clear hW hsz d0 d1
  by_cases hT : T.toList = U.toList
  · obtain rfl := toList_same3 hT
    cases hs : sameI P M
    all_goals
      rw [hs] at C HS
      clear hs
      go_enter Try.func5, Try.ntmps5
      go_wp2_with fail
      rw [HW.out]
      go_wp2_with (go_at_call 10; refine (C.out _ E0.out).mono ?_; rintro e w1 ⟨rfl, hb1⟩; obtain ⟨⟨k0, k1⟩, k2, k3⟩ := K.out _ hb1; have B1 := Lib.hid (bnext E0.out hb1); clear hb1)
      go_ret
      exact ⟨ret_bool (by rw [HS.out]; simp), B1.out⟩
  · cases hs : sameI P M
    all_goals
      rw [hs] at C HS
      clear hs
      go_enter Try.func5, Try.ntmps5
      go_wp2_with fail
      rw [HW.out]
      go_wp2_with (go_at_call 10; refine (C.out _ E0.out).mono ?_; rintro e w1 ⟨rfl, hb1⟩; obtain ⟨⟨k0, k1⟩, k2, k3⟩ := K.out _ hb1; have B1 := Lib.hid (bnext E0.out hb1); clear hb1)
      go_ret
      first | exact ⟨ret_bool (by rw [HS.out]; simp), B1.out⟩ | exact ⟨ret_bool (by rw [HS.out]; simp [hT]), B1.out⟩ | exact ⟨ret_bool (by rw [HS.out]; simp [hT]), E0.out⟩
set_option maxRecDepth 100000 in
set_option maxHeartbeats 1600000 in
theorem sameHouse_impl (P M : List Int) (T U : ByteArray) (a a' : Option Addr) (cap cap' : Nat) (hl : P.length ≤ 1048576) (hm : M.length ≤ 1048576) (w : World) (ha : IntArg w a P) (ha' : IntArg w a' M) :
    Calls Try.prog 7 #[.agg #[.slice a P.length cap, .string T], .agg #[.slice a' M.length cap', .string U]] w fun e w' => e = .returned (.bool (sameHB P T M U)) ∧ Below w.heap.size w w' := by
  have C := Lib.hid (fun wx (hx : Below w.heap.size w wx) => equal_impl P M a a' cap cap' hl hm wx (ha.later hx) (ha'.later hx))
  have HS : Hid (sameHB P T M U = ((T.toList == U.toList) && sameI P M)) := rfl
  clear ha ha'
  obtain ⟨d0, d1⟩ := boxH w (.slice a P.length cap) T 27
  obtain ⟨f0, f1⟩ := boxH (w.alloc (.cells #[.slice a P.length cap, .string T] 27)) (.slice a' M.length cap') U 27
  have d0' := (World.cell?_alloc_lt (w.alloc (.cells #[.slice a P.length cap, .string T] 27)) (.cells #[.slice a' M.length cap', .string U] 27) ⟨w.heap.size, 0, none⟩ (by simp)).trans d0
  have d1' := (World.cell?_alloc_lt (w.alloc (.cells #[.slice a P.length cap, .string T] 27)) (.cells #[.slice a' M.length cap', .string U] 27) ⟨w.heap.size, 1, none⟩ (by simp)).trans d1
  have hsz : (w.alloc (.cells #[.slice a P.length cap, .string T] 27)).heap.size = w.heap.size + 1 := by simp
  rw [hsz] at f0 f1
  obtain ⟨W0, hW⟩ : ∃ W0, (w.alloc (.cells #[.slice a P.length cap, .string T] 27)).alloc (.cells #[.slice a' M.length cap', .string U] 27) = W0 := ⟨_, rfl⟩
  have E0 : Hid (Below w.heap.size w W0) := by show Below w.heap.size w W0; rw [← hW]; exact balloc (balloc0 _ _) _
  rw [hW] at d0' d1' f0 f1
  have HW := Lib.hid hW
  have K : Hid (∀ wx, Below W0.heap.size W0 wx → (wx.cell? ⟨w.heap.size, 0, none⟩ = some (.slice a P.length cap) ∧ wx.cell? ⟨w.heap.size, 1, none⟩ = some (.string T)) ∧ wx.cell? ⟨w.heap.size + 1, 0, none⟩ = some (.slice a' M.length cap') ∧ wx.cell? ⟨w.heap.size + 1, 1, none⟩ = some (.string U)) := fun wx hx =>
    ⟨⟨(hx.cell (World.block_lt_of_cell? W0 _ d0')).trans d0', (hx.cell (World.block_lt_of_cell? W0 _ d1')).trans d1'⟩, (hx.cell (World.block_lt_of_cell? W0 _ f0)).trans f0, (hx.cell (World.block_lt_of_cell? W0 _ f1)).trans f1⟩
  clear hW hsz d0 d1
  by_cases hT : T.toList = U.toList
  · obtain rfl := toList_same3 hT
    cases hs : sameI P M
    all_goals
      rw [hs] at C HS
      clear hs
      go_enter Try.func7, Try.ntmps7
      go_wp2_with fail
      rw [HW.out]
      go_wp2_with (go_at_call 12; refine (C.out _ E0.out).mono ?_; rintro e w1 ⟨rfl, hb1⟩; obtain ⟨⟨k0, k1⟩, k2, k3⟩ := K.out _ hb1; have B1 := Lib.hid (bnext E0.out hb1); clear hb1)
      go_ret
      exact ⟨ret_bool (by rw [HS.out]; simp), B1.out⟩
  · cases hs : sameI P M
    all_goals
      rw [hs] at C HS
      clear hs
      go_enter Try.func7, Try.ntmps7
      go_wp2_with fail
      rw [HW.out]
      go_wp2_with (go_at_call 12; refine (C.out _ E0.out).mono ?_; rintro e w1 ⟨rfl, hb1⟩; obtain ⟨⟨k0, k1⟩, k2, k3⟩ := K.out _ hb1; have B1 := Lib.hid (bnext E0.out hb1); clear hb1)
      go_ret
      first | exact ⟨ret_bool (by rw [HS.out]; simp), B1.out⟩ | exact ⟨ret_bool (by rw [HS.out]; simp [hT]), B1.out⟩ | exact ⟨ret_bool (by rw [HS.out]; simp [hT]), E0.out⟩
end Go.Proofs.Ytbkiljdmgadofaa
