/-
  Pieces: one is valid, a row of them is: the model's word and the program's.
-/
import Derived.Test.YtmbmbkagmkmhlacDoorPc
import Derived.Test.YtmbmbkagmkmhlacDoorFmB
import Derived.Test.YtmbmbkagmkmhlacDoorQn
import Derived.Deep.RegionWith
import Derived.Deep.RegionHeld3
namespace Go.Proofs.YtmbmbkagmkmhlacDoor
open Go.ChangeShapes Go.WideShapes Go.ChangeAt Go.RowKit Go.Joins


def pcB (p : Pc) : Bool := inB p.le 1 100000 && (inB p.he 1 20000 && inB p.ha 1 6)
theorem pcB_true {p : Pc} : pcB p = true ↔ (1 ≤ p.le ∧ p.le ≤ 100000) ∧ (1 ≤ p.he ∧ p.he ≤ 20000) ∧ (1 ≤ p.ha ∧ p.ha ≤ 6) := by simp [pcB, inB_true]
def pcsB (L : List Pc) : Bool := decide (L.length ≤ 20) && L.all pcB
theorem pcsB_all {L : List Pc} (h : pcsB L = true) : ∀ (k : Nat) (p : Pc), L[k]? = some p → pcB p = true := by
  intro k p hk
  simp only [pcsB, Bool.and_eq_true, List.all_eq_true] at h
  exact h.2 p (List.mem_of_getElem? hk)
theorem pcsB_len {L : List Pc} (h : pcsB L = true) : L.length ≤ 20 := by
  simp only [pcsB, Bool.and_eq_true, decide_eq_true_eq] at h
  exact h.1
theorem pcsB_not {L : List Pc} {k : Nat} {p : Pc} (hk : L[k]? = some p) (hp : pcB p = false) : pcsB L = false := by
  cases h : pcsB L
  · rfl
  · rw [pcsB_all h k p hk] at hp; cases hp
theorem pcsB_of {L : List Pc} (h : ∀ (j : Nat) (c : Pc), j < L.length → L[j]? = some c → pcB c = true) : pcsB L = decide (L.length ≤ 20) := by
  have : L.all pcB = true := List.all_eq_true.2 fun c hc => by
    obtain ⟨j, hj, e⟩ := List.getElem_of_mem hc
    exact h j c hj (by rw [List.getElem?_eq_getElem hj, e])
  simp [pcsB, this]
theorem one_spec (p : Pc) (b o : Nat) (w : World) (h0 : w.cell? ⟨b, o, none⟩ = some (.int .i64 p.le)) (h1 : w.cell? ⟨b, o + 1, none⟩ = some (.int .i64 p.he)) (h2 : w.cell? ⟨b, o + 2, none⟩ = some (.int .i64 p.ha)) :
    Calls Tryd.prog 7 #[.pointer (some ⟨b, o, none⟩)] w fun e w' => e = .returned (.bool (pcB p)) ∧ w = w' := by
  cases g0 : inB p.le 1 100000 <;> cases g1 : inB p.he 1 20000 <;> cases g2 : inB p.ha 1 6
  all_goals
    go_enter Tryd.func7, Tryd.ntmps7
    go_wp2_with (go_at_call 12; refine (in_any _ _ _ _).mono ?_; rintro e w' ⟨rfl, rfl⟩)
    go_ret
    exact ⟨ret_bool (by simp [pcB, g0, g1, g2]), rfl⟩
theorem agg3q {a b c a' b' c' : Int} (h1 : a = a') (h2 : b = b') (h3 : c = c') : Ending.returned (.agg #[.int .i64 a, .int .i64 b, .int .i64 c]) = .returned (.agg #[.int .i64 a', .int .i64 b', .int .i64 c']) := by rw [h1, h2, h3]
set_option maxHeartbeats 1600000 in
theorem clampPc (x y z : Int) (w : World) : Calls Tryd.prog 13 #[.agg #[.int .i64 x, .int .i64 y, .int .i64 z]] w fun e w' => e = .returned (.agg #[.int .i64 (min (max x 1) 100000), .int .i64 (min (max y 1) 20000), .int .i64 (min (max z 1) 6)]) ∧ Below w.heap.size w w' := by
  go_enter Tryd.func13, Tryd.ntmps13
  go_wp2
  all_goals
    refine bodyPost_ret (v := .agg #[.int .i64 _, .int .i64 _, .int .i64 _]) (by simp [results, Tryd.results13, go_sem]; exact ⟨rfl, rfl, rfl⟩) rfl ⟨agg3q (by omega) (by omega) (by omega), ?_⟩
    exact ((Below.refl _ _).alloc (Nat.le_refl _) _).alloc (by simp) _
set_option maxRecDepth 100000 in
set_option maxHeartbeats 6400000 in
theorem isPiece_ok (x y z : Int) (w : World) (h1 : 1 ≤ x ∧ x ≤ 100000) (h2 : 1 ≤ y ∧ y ≤ 20000) (h3 : 1 ≤ z ∧ z ≤ 6) : Calls Tryd.prog 9 #[.agg #[.int .i64 x, .int .i64 y, .int .i64 z]] w fun e w' => e = .returned (.bool true) ∧ Below w.heap.size w w' := by
  have C : Hid (∀ wx, Calls Tryd.prog 13 #[.agg #[.int .i64 x, .int .i64 y, .int .i64 z]] wx fun e w' => e = .returned (.agg #[.int .i64 x, .int .i64 y, .int .i64 z]) ∧ Below wx.heap.size wx w') := fun wx => (clampPc x y z wx).mono fun _ _ ⟨he, hb⟩ => ⟨he.trans (agg3q (by omega) (by omega) (by omega)), hb⟩
  clear h1 h2 h3
  have T0 := Lib.hid (TrBox.new w x y z 25)
  have E0 := Lib.hid (balloc0 w (.cells #[.int .i64 x, .int .i64 y, .int .i64 z] 25))
  go_enter Tryd.func9, Tryd.ntmps9
  go_wp2_with fail
  refine wp_region_held_drew (S := fun W => TrBox w.heap.size x y z W ∧ Below w.heap.size w W) (by kernel_rfl) ?_ (fun hHeld => ?_)
  · exact ⟨T0.out, E0.out.drew⟩
  refine wpAnyH_take (i := 0) (v := .agg #[.int .i64 x, .int .i64 y, .int .i64 z]) rfl (by kernel_rfl) (by kernel_rfl) (by kernel_rfl) (fun _ _ _ h => h) (Or.inl ⟨by kernel_rfl, ?_⟩) (by assumption) ?_
  · intro w hSw
    try dsimp only at hSw
    obtain ⟨⟨k0, k1, k2⟩, -⟩ := hSw
    go_simp
  try simp only [Act.put, List.setIfInBounds_toArray, List.set_cons_zero, List.set_cons_succ, List.getElem_toArray, List.getElem_cons_zero]
  refine wpAnyH_take (i := 1) (v := .agg #[.int .i64 x, .int .i64 y, .int .i64 z]) rfl (by kernel_rfl) (by kernel_rfl) (by kernel_rfl) (fun _ _ _ h => h) (Or.inl ⟨by kernel_rfl, ?_⟩) (by assumption) ?_
  · intro w hSw
    try dsimp only at hSw
    obtain ⟨⟨k0, k1, k2⟩, -⟩ := hSw
    go_simp
  try simp only [Act.put, List.setIfInBounds_toArray, List.set_cons_zero, List.set_cons_succ, List.getElem_toArray, List.getElem_cons_zero, List.getElem_cons_succ]
  refine wpAnyH_ready (rs := [2]) (by kernel_rfl) (by simp) ?_
  refine AllReadyH.cons rfl (fun K hK => ?_) AllReadyH.nil
  go_simp
  go_at_call 13
  refine (C.out _).mono ?_
  rintro e w1 ⟨rfl, hb1⟩
  refine hK.out _ _ ?_ (fun hHeld' => ?_)
  · exact ⟨hHeld.1.later hb1, bnext hHeld.2 hb1⟩
  clear hK K hHeld
  have hHeld := hHeld'
  clear hHeld'
  clear hb1
  try simp only [Act.put, List.setIfInBounds_toArray, List.set_cons_zero, List.set_cons_succ, List.getElem_toArray, List.getElem_cons_zero, List.getElem_cons_succ]
  refine wpAnyH_take (i := 3) (v := .bool true) rfl (by kernel_rfl) (by kernel_rfl) (by kernel_rfl) (fun _ _ _ h => h) (Or.inl ⟨by kernel_rfl, ?_⟩) (by assumption) ?_
  · intro w hSw
    try dsimp only at hSw
    skip
    go_simp
    all_goals first | omega | exact IntWalk.i64_in _ (by omega)
  try simp only [Act.put, List.setIfInBounds_toArray, List.set_cons_zero, List.set_cons_succ, List.getElem_toArray, List.getElem_cons_zero, List.getElem_cons_succ]
  refine wpAnyH_take (i := 4) (v := .bool true) rfl (by kernel_rfl) (by kernel_rfl) (by kernel_rfl) (fun _ _ _ h => h) (Or.inl ⟨by kernel_rfl, ?_⟩) (by assumption) ?_
  · intro w hSw
    try dsimp only at hSw
    skip
    go_simp
  try simp only [Act.put, List.setIfInBounds_toArray, List.set_cons_zero, List.set_cons_succ, List.getElem_toArray, List.getElem_cons_zero, List.getElem_cons_succ]
  refine wpAnyH_done (by kernel_rfl) ?_ _
  go_wp2
  go_ret
  exact ⟨rfl, hHeld.2⟩
set_option maxRecDepth 100000 in
set_option maxHeartbeats 6400000 in
theorem isPiece_out0 (x y z : Int) (w : World) (h1 : ¬ (1 ≤ x ∧ x ≤ 100000)) : Calls Tryd.prog 9 #[.agg #[.int .i64 x, .int .i64 y, .int .i64 z]] w fun e w' => e = .returned (.bool false) ∧ Below w.heap.size w w' := by
  have C : Hid (∀ wx, Calls Tryd.prog 13 #[.agg #[.int .i64 x, .int .i64 y, .int .i64 z]] wx fun e w' => (∃ x' y' z' : Int, e = .returned (.agg #[.int .i64 x', .int .i64 y', .int .i64 z']) ∧ ¬ x = x') ∧ Below wx.heap.size wx w') := fun wx => (clampPc x y z wx).mono fun _ _ ⟨he, hb⟩ => ⟨⟨_, _, _, he.trans (agg3q rfl rfl rfl), by omega⟩, hb⟩
  clear h1
  have T0 := Lib.hid (TrBox.new w x y z 25)
  have E0 := Lib.hid (balloc0 w (.cells #[.int .i64 x, .int .i64 y, .int .i64 z] 25))
  go_enter Tryd.func9, Tryd.ntmps9
  go_wp2_with fail
  refine wp_region_held_drew (S := fun W => TrBox w.heap.size x y z W ∧ Below w.heap.size w W) (by kernel_rfl) ?_ (fun hHeld => ?_)
  · exact ⟨T0.out, E0.out.drew⟩
  refine wpAnyH_take (i := 0) (v := .agg #[.int .i64 x, .int .i64 y, .int .i64 z]) rfl (by kernel_rfl) (by kernel_rfl) (by kernel_rfl) (fun _ _ _ h => h) (Or.inl ⟨by kernel_rfl, ?_⟩) (by assumption) ?_
  · intro w hSw
    try dsimp only at hSw
    obtain ⟨⟨k0, k1, k2⟩, -⟩ := hSw
    go_simp
  try simp only [Act.put, List.setIfInBounds_toArray, List.set_cons_zero, List.set_cons_succ, List.getElem_toArray, List.getElem_cons_zero]
  refine wpAnyH_take (i := 1) (v := .agg #[.int .i64 x, .int .i64 y, .int .i64 z]) rfl (by kernel_rfl) (by kernel_rfl) (by kernel_rfl) (fun _ _ _ h => h) (Or.inl ⟨by kernel_rfl, ?_⟩) (by assumption) ?_
  · intro w hSw
    try dsimp only at hSw
    obtain ⟨⟨k0, k1, k2⟩, -⟩ := hSw
    go_simp
  try simp only [Act.put, List.setIfInBounds_toArray, List.set_cons_zero, List.set_cons_succ, List.getElem_toArray, List.getElem_cons_zero, List.getElem_cons_succ]
  refine wpAnyH_ready (rs := [2]) (by kernel_rfl) (by simp) ?_
  refine AllReadyH.cons rfl (fun K hK => ?_) AllReadyH.nil
  go_simp
  go_at_call 13
  refine (C.out _).mono ?_
  rintro e w1 ⟨⟨x', y', z', rfl, hne⟩, hb1⟩
  refine hK.out _ _ ?_ (fun hHeld' => ?_)
  · exact ⟨hHeld.1.later hb1, bnext hHeld.2 hb1⟩
  clear hK K hHeld
  have hHeld := hHeld'
  clear hHeld'
  clear hb1
  try simp only [Act.put, List.setIfInBounds_toArray, List.set_cons_zero, List.set_cons_succ, List.getElem_toArray, List.getElem_cons_zero, List.getElem_cons_succ]
  refine wpAnyH_take (i := 3) (v := .bool false) rfl (by kernel_rfl) (by kernel_rfl) (by kernel_rfl) (fun _ _ _ h => h) (Or.inl ⟨by kernel_rfl, ?_⟩) (by assumption) ?_
  · intro w hSw
    try dsimp only at hSw
    skip
    go_simp
    all_goals first | omega | exact IntWalk.i64_in _ (by omega)
  try simp only [Act.put, List.setIfInBounds_toArray, List.set_cons_zero, List.set_cons_succ, List.getElem_toArray, List.getElem_cons_zero, List.getElem_cons_succ]
  refine wpAnyH_take (i := 4) (v := .bool false) rfl (by kernel_rfl) (by kernel_rfl) (by kernel_rfl) (fun _ _ _ h => h) (Or.inl ⟨by kernel_rfl, ?_⟩) (by assumption) ?_
  · intro w hSw
    try dsimp only at hSw
    skip
    go_simp
  try simp only [Act.put, List.setIfInBounds_toArray, List.set_cons_zero, List.set_cons_succ, List.getElem_toArray, List.getElem_cons_zero, List.getElem_cons_succ]
  refine wpAnyH_done (by kernel_rfl) ?_ _
  go_wp2
  go_ret
  exact ⟨rfl, hHeld.2⟩
set_option maxRecDepth 100000 in
set_option maxHeartbeats 6400000 in
theorem isPiece_out1 (x y z : Int) (w : World) (h1 : 1 ≤ x ∧ x ≤ 100000) (h2 : ¬ (1 ≤ y ∧ y ≤ 20000)) : Calls Tryd.prog 9 #[.agg #[.int .i64 x, .int .i64 y, .int .i64 z]] w fun e w' => e = .returned (.bool false) ∧ Below w.heap.size w w' := by
  have C : Hid (∀ wx, Calls Tryd.prog 13 #[.agg #[.int .i64 x, .int .i64 y, .int .i64 z]] wx fun e w' => (∃ y' z' : Int, e = .returned (.agg #[.int .i64 x, .int .i64 y', .int .i64 z']) ∧ ¬ y = y') ∧ Below wx.heap.size wx w') := fun wx => (clampPc x y z wx).mono fun _ _ ⟨he, hb⟩ => ⟨⟨_, _, he.trans (agg3q (by omega) rfl rfl), by omega⟩, hb⟩
  clear h1 h2
  have T0 := Lib.hid (TrBox.new w x y z 25)
  have E0 := Lib.hid (balloc0 w (.cells #[.int .i64 x, .int .i64 y, .int .i64 z] 25))
  go_enter Tryd.func9, Tryd.ntmps9
  go_wp2_with fail
  refine wp_region_held_drew (S := fun W => TrBox w.heap.size x y z W ∧ Below w.heap.size w W) (by kernel_rfl) ?_ (fun hHeld => ?_)
  · exact ⟨T0.out, E0.out.drew⟩
  refine wpAnyH_take (i := 0) (v := .agg #[.int .i64 x, .int .i64 y, .int .i64 z]) rfl (by kernel_rfl) (by kernel_rfl) (by kernel_rfl) (fun _ _ _ h => h) (Or.inl ⟨by kernel_rfl, ?_⟩) (by assumption) ?_
  · intro w hSw
    try dsimp only at hSw
    obtain ⟨⟨k0, k1, k2⟩, -⟩ := hSw
    go_simp
  try simp only [Act.put, List.setIfInBounds_toArray, List.set_cons_zero, List.set_cons_succ, List.getElem_toArray, List.getElem_cons_zero]
  refine wpAnyH_take (i := 1) (v := .agg #[.int .i64 x, .int .i64 y, .int .i64 z]) rfl (by kernel_rfl) (by kernel_rfl) (by kernel_rfl) (fun _ _ _ h => h) (Or.inl ⟨by kernel_rfl, ?_⟩) (by assumption) ?_
  · intro w hSw
    try dsimp only at hSw
    obtain ⟨⟨k0, k1, k2⟩, -⟩ := hSw
    go_simp
  try simp only [Act.put, List.setIfInBounds_toArray, List.set_cons_zero, List.set_cons_succ, List.getElem_toArray, List.getElem_cons_zero, List.getElem_cons_succ]
  refine wpAnyH_ready (rs := [2]) (by kernel_rfl) (by simp) ?_
  refine AllReadyH.cons rfl (fun K hK => ?_) AllReadyH.nil
  go_simp
  go_at_call 13
  refine (C.out _).mono ?_
  rintro e w1 ⟨⟨y', z', rfl, hne⟩, hb1⟩
  refine hK.out _ _ ?_ (fun hHeld' => ?_)
  · exact ⟨hHeld.1.later hb1, bnext hHeld.2 hb1⟩
  clear hK K hHeld
  have hHeld := hHeld'
  clear hHeld'
  clear hb1
  try simp only [Act.put, List.setIfInBounds_toArray, List.set_cons_zero, List.set_cons_succ, List.getElem_toArray, List.getElem_cons_zero, List.getElem_cons_succ]
  refine wpAnyH_take (i := 3) (v := .bool false) rfl (by kernel_rfl) (by kernel_rfl) (by kernel_rfl) (fun _ _ _ h => h) (Or.inl ⟨by kernel_rfl, ?_⟩) (by assumption) ?_
  · intro w hSw
    try dsimp only at hSw
    skip
    go_simp
    all_goals first | omega | exact IntWalk.i64_in _ (by omega)
  try simp only [Act.put, List.setIfInBounds_toArray, List.set_cons_zero, List.set_cons_succ, List.getElem_toArray, List.getElem_cons_zero, List.getElem_cons_succ]
  refine wpAnyH_take (i := 4) (v := .bool false) rfl (by kernel_rfl) (by kernel_rfl) (by kernel_rfl) (fun _ _ _ h => h) (Or.inl ⟨by kernel_rfl, ?_⟩) (by assumption) ?_
  · intro w hSw
    try dsimp only at hSw
    skip
    go_simp
  try simp only [Act.put, List.setIfInBounds_toArray, List.set_cons_zero, List.set_cons_succ, List.getElem_toArray, List.getElem_cons_zero, List.getElem_cons_succ]
  refine wpAnyH_done (by kernel_rfl) ?_ _
  go_wp2
  go_ret
  exact ⟨rfl, hHeld.2⟩
set_option maxRecDepth 100000 in
set_option maxHeartbeats 6400000 in
theorem isPiece_out2 (x y z : Int) (w : World) (h1 : 1 ≤ x ∧ x ≤ 100000) (h2 : 1 ≤ y ∧ y ≤ 20000) (h3 : ¬ (1 ≤ z ∧ z ≤ 6)) : Calls Tryd.prog 9 #[.agg #[.int .i64 x, .int .i64 y, .int .i64 z]] w fun e w' => e = .returned (.bool false) ∧ Below w.heap.size w w' := by
  have C : Hid (∀ wx, Calls Tryd.prog 13 #[.agg #[.int .i64 x, .int .i64 y, .int .i64 z]] wx fun e w' => (∃ z' : Int, e = .returned (.agg #[.int .i64 x, .int .i64 y, .int .i64 z']) ∧ ¬ z = z') ∧ Below wx.heap.size wx w') := fun wx => (clampPc x y z wx).mono fun _ _ ⟨he, hb⟩ => ⟨⟨_, he.trans (agg3q (by omega) (by omega) rfl), by omega⟩, hb⟩
  clear h1 h2 h3
  have T0 := Lib.hid (TrBox.new w x y z 25)
  have E0 := Lib.hid (balloc0 w (.cells #[.int .i64 x, .int .i64 y, .int .i64 z] 25))
  go_enter Tryd.func9, Tryd.ntmps9
  go_wp2_with fail
  refine wp_region_held_drew (S := fun W => TrBox w.heap.size x y z W ∧ Below w.heap.size w W) (by kernel_rfl) ?_ (fun hHeld => ?_)
  · exact ⟨T0.out, E0.out.drew⟩
  refine wpAnyH_take (i := 0) (v := .agg #[.int .i64 x, .int .i64 y, .int .i64 z]) rfl (by kernel_rfl) (by kernel_rfl) (by kernel_rfl) (fun _ _ _ h => h) (Or.inl ⟨by kernel_rfl, ?_⟩) (by assumption) ?_
  · intro w hSw
    try dsimp only at hSw
    obtain ⟨⟨k0, k1, k2⟩, -⟩ := hSw
    go_simp
  try simp only [Act.put, List.setIfInBounds_toArray, List.set_cons_zero, List.set_cons_succ, List.getElem_toArray, List.getElem_cons_zero]
  refine wpAnyH_take (i := 1) (v := .agg #[.int .i64 x, .int .i64 y, .int .i64 z]) rfl (by kernel_rfl) (by kernel_rfl) (by kernel_rfl) (fun _ _ _ h => h) (Or.inl ⟨by kernel_rfl, ?_⟩) (by assumption) ?_
  · intro w hSw
    try dsimp only at hSw
    obtain ⟨⟨k0, k1, k2⟩, -⟩ := hSw
    go_simp
  try simp only [Act.put, List.setIfInBounds_toArray, List.set_cons_zero, List.set_cons_succ, List.getElem_toArray, List.getElem_cons_zero, List.getElem_cons_succ]
  refine wpAnyH_ready (rs := [2]) (by kernel_rfl) (by simp) ?_
  refine AllReadyH.cons rfl (fun K hK => ?_) AllReadyH.nil
  go_simp
  go_at_call 13
  refine (C.out _).mono ?_
  rintro e w1 ⟨⟨z', rfl, hne⟩, hb1⟩
  refine hK.out _ _ ?_ (fun hHeld' => ?_)
  · exact ⟨hHeld.1.later hb1, bnext hHeld.2 hb1⟩
  clear hK K hHeld
  have hHeld := hHeld'
  clear hHeld'
  clear hb1
  try simp only [Act.put, List.setIfInBounds_toArray, List.set_cons_zero, List.set_cons_succ, List.getElem_toArray, List.getElem_cons_zero, List.getElem_cons_succ]
  refine wpAnyH_take (i := 3) (v := .bool false) rfl (by kernel_rfl) (by kernel_rfl) (by kernel_rfl) (fun _ _ _ h => h) (Or.inl ⟨by kernel_rfl, ?_⟩) (by assumption) ?_
  · intro w hSw
    try dsimp only at hSw
    skip
    go_simp
    all_goals first | omega | exact IntWalk.i64_in _ (by omega)
  try simp only [Act.put, List.setIfInBounds_toArray, List.set_cons_zero, List.set_cons_succ, List.getElem_toArray, List.getElem_cons_zero, List.getElem_cons_succ]
  refine wpAnyH_take (i := 4) (v := .bool false) rfl (by kernel_rfl) (by kernel_rfl) (by kernel_rfl) (fun _ _ _ h => h) (Or.inl ⟨by kernel_rfl, ?_⟩) (by assumption) ?_
  · intro w hSw
    try dsimp only at hSw
    skip
    go_simp
  try simp only [Act.put, List.setIfInBounds_toArray, List.set_cons_zero, List.set_cons_succ, List.getElem_toArray, List.getElem_cons_zero, List.getElem_cons_succ]
  refine wpAnyH_done (by kernel_rfl) ?_ _
  go_wp2
  go_ret
  exact ⟨rfl, hHeld.2⟩
theorem isPiece_impl (p : Pc) (w : World) : Calls Tryd.prog 9 #[.agg #[.int .i64 p.le, .int .i64 p.he, .int .i64 p.ha]] w fun e w' => e = .returned (.bool (pcB p)) ∧ Below w.heap.size w w' := by
  by_cases h1 : 1 ≤ p.le ∧ p.le ≤ 100000
  · by_cases h2 : 1 ≤ p.he ∧ p.he ≤ 20000
    · by_cases h3 : 1 ≤ p.ha ∧ p.ha ≤ 6
      · rw [show pcB p = true from pcB_true.2 ⟨h1, h2, h3⟩]; exact isPiece_ok _ _ _ w h1 h2 h3
      · rw [show pcB p = false by rw [Bool.eq_false_iff, ne_eq, pcB_true]; exact fun h => h3 h.2.2]; exact isPiece_out2 _ _ _ w h1 h2 h3
    · rw [show pcB p = false by rw [Bool.eq_false_iff, ne_eq, pcB_true]; exact fun h => h2 h.2.1]; exact isPiece_out1 _ _ _ w h1 h2
  · rw [show pcB p = false by rw [Bool.eq_false_iff, ne_eq, pcB_true]; exact fun h => h1 h.1]; exact isPiece_out0 _ _ _ w h1
end Go.Proofs.YtmbmbkagmkmhlacDoor
