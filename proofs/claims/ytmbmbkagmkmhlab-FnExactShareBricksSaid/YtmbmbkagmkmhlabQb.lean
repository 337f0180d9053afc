/-
  Bricks of one wall and of all walls: the model's word and the program's.
-/
import Derived.Test.YtmbmbkagmkmhlabQp
import Derived.Test.YtmbmbkagmkmhlabQf
import Derived.Test.YtmbmbkagmkmhlabIRow
import Derived.Deep.RegionWith
import Derived.Deep.RegionHeld3
namespace Go.Proofs.Ytmbmbkagmkmhlab
open Go.ChangeShapes Go.WideShapes Go.ChangeAt Go.RowKit Go.Joins

def brQ (l ht j : Int) (p : Pc) : Int := upQ (p.le * p.he * p.ha) (faceQ l ht j)
theorem vol_range {p : Pc} (hp : pcB p = true) : (1 ≤ p.le * p.he ∧ p.le * p.he ≤ 2000000000) ∧ 1 ≤ p.le * p.he * p.ha ∧ p.le * p.he * p.ha ≤ 12000000000 := by
  obtain ⟨⟨a0, a1⟩, ⟨b0, b1⟩, ⟨c0, c1⟩⟩ := pcB_true.1 hp
  have d0 : 1 * 1 ≤ p.le * p.he := Int.mul_le_mul a0 b0 (by omega) (by omega)
  have d1 : p.le * p.he ≤ 100000 * 20000 := Int.mul_le_mul a1 b1 (by omega) (by omega)
  have f0 : 1 * 1 ≤ p.le * p.he * p.ha := Int.mul_le_mul (by omega) c0 (by omega) (by omega)
  have f1 : p.le * p.he * p.ha ≤ 2000000000 * 6 := Int.mul_le_mul (by omega) c1 (by omega) (by omega)
  omega
theorem brQ_range {l wd ht j : Int} {p : Pc} (hf : okB l wd ht j = true) (hp : pcB p = true) : 1 ≤ brQ l ht j p ∧ brQ l ht j p ≤ 4000001 := by
  obtain ⟨m0, m1⟩ := faceQ_range hf
  obtain ⟨-, v0, v1⟩ := vol_range hp
  unfold brQ upQ
  constructor
  · exact Int.le_ediv_of_mul_le (by omega) (by omega)
  · exact Int.ediv_le_of_le_mul (by omega) (by omega)
def brL (l ht j : Int) (L : List Pc) : List Int := L.map (brQ l ht j)
theorem brL_length (l ht j : Int) (L : List Pc) : (brL l ht j L).length = L.length := by simp [brL]
theorem brL_take {l ht j : Int} {L : List Pc} {k : Nat} {p : Pc} (h : L[k]? = some p) : brL l ht j (L.take (k + 1)) = brL l ht j (L.take k) ++ [brQ l ht j p] := by
  unfold brL
  rw [List.take_add_one, h]
  simp
theorem brL_mem {l wd ht j : Int} {L : List Pc} (hf : okB l wd ht j = true) (hL : pcsB L = true) : ∀ z ∈ brL l ht j L, 0 ≤ z ∧ z ≤ 4000001 := by
  intro z hz
  obtain ⟨p, hp, rfl⟩ := List.mem_map.1 hz
  obtain ⟨k, hk, e⟩ := List.getElem_of_mem hp
  have := brQ_range hf (pcsB_all hL k p (by rw [List.getElem?_eq_getElem hk, e]))
  omega
set_option maxRecDepth 100000 in
set_option maxHeartbeats 6400000 in
theorem bricks_spec (l wd ht j : Int) (hf : okB l wd ht j = true) (p : Pc) (hp : pcB p = true) (b o : Nat) (w : World) (h0 : w.cell? ⟨b, o, none⟩ = some (.int .i64 p.le)) (h1 : w.cell? ⟨b, o + 1, none⟩ = some (.int .i64 p.he)) (h2 : w.cell? ⟨b, o + 2, none⟩ = some (.int .i64 p.ha)) :
    Calls Try.prog 46 #[.agg #[.int .i64 l, .int .i64 wd, .int .i64 ht, .int .i64 j], .pointer (some ⟨b, o, none⟩)] w fun e w' => e = .returned (.int .i64 (brQ l ht j p)) ∧ Below w.heap.size w w' := by
  obtain ⟨⟨l1, l2⟩, ⟨w1', w2'⟩, ⟨t1, t2⟩, ⟨j1, j2⟩, _⟩ := okB_true.1 hf
  obtain ⟨m0, m1⟩ := faceQ_range hf
  obtain ⟨⟨u0, u1⟩, v0, v1⟩ := vol_range hp
  obtain ⟨q0, q1⟩ := brQ_range hf hp
  have hz : ¬ faceQ l ht j = 0 := by omega
  have e1 : (l + j) * (ht + j) = faceQ l ht j := rfl
  have e2 : IntKind.i64.wrap (faceQ l ht j) = faceQ l ht j := IntWalk.i64_in _ (by omega)
  have e3 : (p.le * p.he * p.ha + faceQ l ht j - 1).tdiv (faceQ l ht j) = brQ l ht j p := Int.tdiv_eq_ediv_of_nonneg (by omega)
  have e4 : (p.le * p.he * p.ha + faceQ l ht j - 1) / (faceQ l ht j) = brQ l ht j p := rfl
  have g1 : IntKind.i64.wrap (p.le * p.he) = p.le * p.he := IntWalk.i64_in _ (by omega)
  have g2 : IntKind.i64.wrap (p.le * p.he * p.ha) = p.le * p.he * p.ha := IntWalk.i64_in _ (by omega)
  have g3 : IntKind.i64.wrap (brQ l ht j p) = brQ l ht j p := IntWalk.i64_in _ (by omega)
  have HC : Hid (∀ wx, Below w.heap.size w wx → wx.cell? ⟨b, o, none⟩ = some (.int .i64 p.le) ∧ wx.cell? ⟨b, o + 1, none⟩ = some (.int .i64 p.he) ∧ wx.cell? ⟨b, o + 2, none⟩ = some (.int .i64 p.ha)) := fun wx hx =>
    ⟨(hx.cell (World.block_lt_of_cell? w _ h0)).trans h0, (hx.cell (World.block_lt_of_cell? w _ h1)).trans h1, (hx.cell (World.block_lt_of_cell? w _ h2)).trans h2⟩
  clear h0 h1 h2 hf hp
  go_enter Try.func46, Try.ntmps46
  go_wp2_with fail
  refine wp_region_held_drew (S := fun W => W.cell? ⟨b, o, none⟩ = some (.int .i64 p.le) ∧ W.cell? ⟨b, o + 1, none⟩ = some (.int .i64 p.he) ∧ W.cell? ⟨b, o + 2, none⟩ = some (.int .i64 p.ha)) (by kernel_rfl) ?_ (fun hHeld => ?_)
  · exact HC.out _ (balloc0 _ _).drew
  refine wpAnyH_take (i := 0) (v := .pointer (some ⟨b, o, none⟩)) rfl (by kernel_rfl) (by kernel_rfl) (by kernel_rfl) (fun _ _ _ h => h) (Or.inl ⟨by kernel_rfl, ?_⟩) (by assumption) ?_
  · intro w hSw
    try dsimp only at hSw
    skip
    go_simp
  try simp only [Act.put, List.setIfInBounds_toArray, List.set_cons_zero, List.set_cons_succ, List.getElem_toArray, List.getElem_cons_zero]
  refine wpAnyH_take (i := 1) (v := .pointer (some ⟨b, o, none⟩)) rfl (by kernel_rfl) (by kernel_rfl) (by kernel_rfl) (fun _ _ _ h => h) (Or.inl ⟨by kernel_rfl, ?_⟩) (by assumption) ?_
  · intro w hSw
    try dsimp only at hSw
    skip
    go_simp
  try simp only [Act.put, List.setIfInBounds_toArray, List.set_cons_zero, List.set_cons_succ, List.getElem_toArray, List.getElem_cons_zero, List.getElem_cons_succ]
  refine wpAnyH_take (i := 2) (v := .pointer (some ⟨b, o, none⟩)) rfl (by kernel_rfl) (by kernel_rfl) (by kernel_rfl) (fun _ _ _ h => h) (Or.inl ⟨by kernel_rfl, ?_⟩) (by assumption) ?_
  · intro w hSw
    try dsimp only at hSw
    skip
    go_simp
  try simp only [Act.put, List.setIfInBounds_toArray, List.set_cons_zero, List.set_cons_succ, List.getElem_toArray, List.getElem_cons_zero, List.getElem_cons_succ]
  refine wpAnyH_take (i := 3) (v := .int .i64 p.le) rfl (by kernel_rfl) (by kernel_rfl) (by kernel_rfl) (fun _ _ _ h => h) (Or.inl ⟨by kernel_rfl, ?_⟩) (by assumption) ?_
  · intro w hSw
    try dsimp only at hSw
    obtain ⟨k0, k1, k2⟩ := hSw
    go_simp
  try simp only [Act.put, List.setIfInBounds_toArray, List.set_cons_zero, List.set_cons_succ, List.getElem_toArray, List.getElem_cons_zero, List.getElem_cons_succ]
  refine wpAnyH_take (i := 4) (v := .pointer (some ⟨b, o, none⟩)) rfl (by kernel_rfl) (by kernel_rfl) (by kernel_rfl) (fun _ _ _ h => h) (Or.inl ⟨by kernel_rfl, ?_⟩) (by assumption) ?_
  · intro w hSw
    try dsimp only at hSw
    skip
    go_simp
  try simp only [Act.put, List.setIfInBounds_toArray, List.set_cons_zero, List.set_cons_succ, List.getElem_toArray, List.getElem_cons_zero, List.getElem_cons_succ]
  refine wpAnyH_take (i := 5) (v := .pointer (some ⟨b, o, none⟩)) rfl (by kernel_rfl) (by kernel_rfl) (by kernel_rfl) (fun _ _ _ h => h) (Or.inl ⟨by kernel_rfl, ?_⟩) (by assumption) ?_
  · intro w hSw
    try dsimp only at hSw
    skip
    go_simp
  try simp only [Act.put, List.setIfInBounds_toArray, List.set_cons_zero, List.set_cons_succ, List.getElem_toArray, List.getElem_cons_zero, List.getElem_cons_succ]
  refine wpAnyH_take (i := 6) (v := .pointer (some ⟨b, o + 1, none⟩)) rfl (by kernel_rfl) (by kernel_rfl) (by kernel_rfl) (fun _ _ _ h => h) (Or.inl ⟨by kernel_rfl, ?_⟩) (by assumption) ?_
  · intro w hSw
    try dsimp only at hSw
    skip
    go_simp
  try simp only [Act.put, List.setIfInBounds_toArray, List.set_cons_zero, List.set_cons_succ, List.getElem_toArray, List.getElem_cons_zero, List.getElem_cons_succ]
  refine wpAnyH_take (i := 7) (v := .int .i64 p.he) rfl (by kernel_rfl) (by kernel_rfl) (by kernel_rfl) (fun _ _ _ h => h) (Or.inl ⟨by kernel_rfl, ?_⟩) (by assumption) ?_
  · intro w hSw
    try dsimp only at hSw
    obtain ⟨k0, k1, k2⟩ := hSw
    go_simp
  try simp only [Act.put, List.setIfInBounds_toArray, List.set_cons_zero, List.set_cons_succ, List.getElem_toArray, List.getElem_cons_zero, List.getElem_cons_succ]
  refine wpAnyH_take (i := 8) (v := .int .i64 (p.le * p.he)) rfl (by kernel_rfl) (by kernel_rfl) (by kernel_rfl) (fun _ _ _ h => h) (Or.inl ⟨by kernel_rfl, ?_⟩) (by assumption) ?_
  · intro w hSw
    try dsimp only at hSw
    skip
    go_simp
    all_goals first | omega | exact IntWalk.i64_in _ (by omega)
  try simp only [Act.put, List.setIfInBounds_toArray, List.set_cons_zero, List.set_cons_succ, List.getElem_toArray, List.getElem_cons_zero, List.getElem_cons_succ]
  refine wpAnyH_take (i := 9) (v := .pointer (some ⟨b, o, none⟩)) rfl (by kernel_rfl) (by kernel_rfl) (by kernel_rfl) (fun _ _ _ h => h) (Or.inl ⟨by kernel_rfl, ?_⟩) (by assumption) ?_
  · intro w hSw
    try dsimp only at hSw
    skip
    go_simp
  try simp only [Act.put, List.setIfInBounds_toArray, List.set_cons_zero, List.set_cons_succ, List.getElem_toArray, List.getElem_cons_zero, List.getElem_cons_succ]
  refine wpAnyH_take (i := 10) (v := .pointer (some ⟨b, o, none⟩)) rfl (by kernel_rfl) (by kernel_rfl) (by kernel_rfl) (fun _ _ _ h => h) (Or.inl ⟨by kernel_rfl, ?_⟩) (by assumption) ?_
  · intro w hSw
    try dsimp only at hSw
    skip
    go_simp
  try simp only [Act.put, List.setIfInBounds_toArray, List.set_cons_zero, List.set_cons_succ, List.getElem_toArray, List.getElem_cons_zero, List.getElem_cons_succ]
  refine wpAnyH_take (i := 11) (v := .pointer (some ⟨b, o + 2, none⟩)) rfl (by kernel_rfl) (by kernel_rfl) (by kernel_rfl) (fun _ _ _ h => h) (Or.inl ⟨by kernel_rfl, ?_⟩) (by assumption) ?_
  · intro w hSw
    try dsimp only at hSw
    skip
    go_simp
  try simp only [Act.put, List.setIfInBounds_toArray, List.set_cons_zero, List.set_cons_succ, List.getElem_toArray, List.getElem_cons_zero, List.getElem_cons_succ]
  refine wpAnyH_take (i := 12) (v := .int .i64 p.ha) rfl (by kernel_rfl) (by kernel_rfl) (by kernel_rfl) (fun _ _ _ h => h) (Or.inl ⟨by kernel_rfl, ?_⟩) (by assumption) ?_
  · intro w hSw
    try dsimp only at hSw
    obtain ⟨k0, k1, k2⟩ := hSw
    go_simp
  try simp only [Act.put, List.setIfInBounds_toArray, List.set_cons_zero, List.set_cons_succ, List.getElem_toArray, List.getElem_cons_zero, List.getElem_cons_succ]
  refine wpAnyH_take (i := 13) (v := .int .i64 (p.le * p.he * p.ha)) rfl (by kernel_rfl) (by kernel_rfl) (by kernel_rfl) (fun _ _ _ h => h) (Or.inl ⟨by kernel_rfl, ?_⟩) (by assumption) ?_
  · intro w hSw
    try dsimp only at hSw
    skip
    go_simp
    all_goals first | omega | exact IntWalk.i64_in _ (by omega)
  try simp only [Act.put, List.setIfInBounds_toArray, List.set_cons_zero, List.set_cons_succ, List.getElem_toArray, List.getElem_cons_zero, List.getElem_cons_succ]
  refine wpAnyH_take (i := 14) (v := .int .i64 (faceQ l ht j)) rfl (by kernel_rfl) (by kernel_rfl) (by kernel_rfl) (fun _ _ _ h => h) (Or.inl ⟨by kernel_rfl, ?_⟩) (by assumption) ?_
  · intro w hSw
    try dsimp only at hSw
    skip
    go_simp
  try simp only [Act.put, List.setIfInBounds_toArray, List.set_cons_zero, List.set_cons_succ, List.getElem_toArray, List.getElem_cons_zero, List.getElem_cons_succ]
  refine wpAnyH_take (i := 15) (v := .int .i64 (p.le * p.he * p.ha + faceQ l ht j)) rfl (by kernel_rfl) (by kernel_rfl) (by kernel_rfl) (fun _ _ _ h => h) (Or.inl ⟨by kernel_rfl, ?_⟩) (by assumption) ?_
  · intro w hSw
    try dsimp only at hSw
    skip
    go_simp
    all_goals first | omega | exact IntWalk.i64_in _ (by omega)
  try simp only [Act.put, List.setIfInBounds_toArray, List.set_cons_zero, List.set_cons_succ, List.getElem_toArray, List.getElem_cons_zero, List.getElem_cons_succ]
  refine wpAnyH_take (i := 16) (v := .int .i64 (p.le * p.he * p.ha + faceQ l ht j - 1)) rfl (by kernel_rfl) (by kernel_rfl) (by kernel_rfl) (fun _ _ _ h => h) (Or.inl ⟨by kernel_rfl, ?_⟩) (by assumption) ?_
  · intro w hSw
    try dsimp only at hSw
    skip
    go_simp
    all_goals first | omega | exact IntWalk.i64_in _ (by omega)
  try simp only [Act.put, List.setIfInBounds_toArray, List.set_cons_zero, List.set_cons_succ, List.getElem_toArray, List.getElem_cons_zero, List.getElem_cons_succ]
  refine wpAnyH_take (i := 17) (v := .int .i64 (faceQ l ht j)) rfl (by kernel_rfl) (by kernel_rfl) (by kernel_rfl) (fun _ _ _ h => h) (Or.inl ⟨by kernel_rfl, ?_⟩) (by assumption) ?_
  · intro w hSw
    try dsimp only at hSw
    skip
    go_simp
  try simp only [Act.put, List.setIfInBounds_toArray, List.set_cons_zero, List.set_cons_succ, List.getElem_toArray, List.getElem_cons_zero, List.getElem_cons_succ]
  refine wpAnyH_take (i := 18) (v := .int .i64 (brQ l ht j p)) rfl (by kernel_rfl) (by kernel_rfl) (by kernel_rfl) (fun _ _ _ h => h) (Or.inl ⟨by kernel_rfl, ?_⟩) (by assumption) ?_
  · intro w hSw
    try dsimp only at hSw
    skip
    go_simp
    all_goals first | omega | exact IntWalk.i64_in _ (by omega)
  try simp only [Act.put, List.setIfInBounds_toArray, List.set_cons_zero, List.set_cons_succ, List.getElem_toArray, List.getElem_cons_zero, List.getElem_cons_succ]
  refine wpAnyH_take (i := 19) (v := .int .i64 (brQ l ht j p)) rfl (by kernel_rfl) (by kernel_rfl) (by kernel_rfl) (fun _ _ _ h => h) (Or.inl ⟨by kernel_rfl, ?_⟩) (by assumption) ?_
  · intro w hSw
    try dsimp only at hSw
    skip
    go_simp
  try simp only [Act.put, List.setIfInBounds_toArray, List.set_cons_zero, List.set_cons_succ, List.getElem_toArray, List.getElem_cons_zero, List.getElem_cons_succ]
  refine wpAnyH_done (by kernel_rfl) ?_ _
  go_wp2
  go_ret
  exact ⟨rfl, (balloc0 _ _).drew⟩
set_option maxRecDepth 100000 in
set_option maxHeartbeats 6400000 in
theorem bricks_impl (l wd ht j : Int) (hf : okB l wd ht j = true) (p : Pc) (hp : pcB p = true) (w : World) :
    Calls Try.prog 65 #[.agg #[.int .i64 p.le, .int .i64 p.he, .int .i64 p.ha], .agg #[.int .i64 l, .int .i64 wd, .int .i64 ht, .int .i64 j]] w fun e w' => e = .returned (.int .i64 (brQ l ht j p)) ∧ Below w.heap.size w w' := by
  obtain ⟨m0, m1⟩ := faceQ_range hf
  obtain ⟨⟨u0, u1⟩, v0, v1⟩ := vol_range hp
  have g1 : IntKind.i64.wrap (p.le * p.he) = p.le * p.he := IntWalk.i64_in _ (by omega)
  have g2 : IntKind.i64.wrap (p.le * p.he * p.ha) = p.le * p.he * p.ha := IntWalk.i64_in _ (by omega)
  have FC := Lib.hid (face_impl l wd ht j hf)
  have UP : Hid (∀ wx, Calls Try.prog 58 #[.int .i64 (p.le * p.he * p.ha), .int .i64 (faceQ l ht j)] wx fun e w' => e = .returned (.int .i64 (brQ l ht j p)) ∧ wx = w') := fun wx => up_impl _ _ (by omega) (by omega) (by omega) (by omega) wx
  have T0 := Lib.hid ((TrBox.new w p.le p.he p.ha 37).later (balloc0 _ (.cells #[.int .i64 l, .int .i64 wd, .int .i64 ht, .int .i64 j] 35)))
  have F0' := FmBox.new (w.alloc (.cells #[.int .i64 p.le, .int .i64 p.he, .int .i64 p.ha] 37)) l wd ht j 35
  rw [World.size_alloc] at F0'
  have F0 := Lib.hid F0'
  have E0 := Lib.hid (balloc (balloc0 w (.cells #[.int .i64 p.le, .int .i64 p.he, .int .i64 p.ha] 37)) (.cells #[.int .i64 l, .int .i64 wd, .int .i64 ht, .int .i64 j] 35))
  clear F0' hf hp
  go_enter Try.func65, Try.ntmps65
  go_wp2_with fail
  refine wp_region_held_drew (S := fun W => TrBox w.heap.size p.le p.he p.ha W ∧ FmBox (w.heap.size + 1) l wd ht j W ∧ Below w.heap.size w W) (by kernel_rfl) ?_ (fun hHeld => ?_)
  · exact ⟨T0.out, F0.out, E0.out.drew⟩
  refine wpAnyH_take (i := 0) (v := .pointer (some ⟨w.heap.size, 0, none⟩)) rfl (by kernel_rfl) (by kernel_rfl) (by kernel_rfl) (fun _ _ _ h => h) (Or.inl ⟨by kernel_rfl, ?_⟩) (by assumption) ?_
  · intro w hSw
    try dsimp only at hSw
    skip
    go_simp
  try simp only [Act.put, List.setIfInBounds_toArray, List.set_cons_zero, List.set_cons_succ, List.getElem_toArray, List.getElem_cons_zero]
  refine wpAnyH_take (i := 1) (v := .int .i64 p.le) rfl (by kernel_rfl) (by kernel_rfl) (by kernel_rfl) (fun _ _ _ h => h) (Or.inl ⟨by kernel_rfl, ?_⟩) (by assumption) ?_
  · intro w hSw
    try dsimp only at hSw
    obtain ⟨⟨k0, k1, k2⟩, ⟨f0, f1, f2, f3⟩, -⟩ := hSw
    go_simp
  try simp only [Act.put, List.setIfInBounds_toArray, List.set_cons_zero, List.set_cons_succ, List.getElem_toArray, List.getElem_cons_zero, List.getElem_cons_succ]
  refine wpAnyH_take (i := 2) (v := .pointer (some ⟨w.heap.size, 1, none⟩)) rfl (by kernel_rfl) (by kernel_rfl) (by kernel_rfl) (fun _ _ _ h => h) (Or.inl ⟨by kernel_rfl, ?_⟩) (by assumption) ?_
  · intro w hSw
    try dsimp only at hSw
    skip
    go_simp
  try simp only [Act.put, List.setIfInBounds_toArray, List.set_cons_zero, List.set_cons_succ, List.getElem_toArray, List.getElem_cons_zero, List.getElem_cons_succ]
  refine wpAnyH_take (i := 3) (v := .int .i64 p.he) rfl (by kernel_rfl) (by kernel_rfl) (by kernel_rfl) (fun _ _ _ h => h) (Or.inl ⟨by kernel_rfl, ?_⟩) (by assumption) ?_
  · intro w hSw
    try dsimp only at hSw
    obtain ⟨⟨k0, k1, k2⟩, ⟨f0, f1, f2, f3⟩, -⟩ := hSw
    go_simp
  try simp only [Act.put, List.setIfInBounds_toArray, List.set_cons_zero, List.set_cons_succ, List.getElem_toArray, List.getElem_cons_zero, List.getElem_cons_succ]
  refine wpAnyH_take (i := 4) (v := .int .i64 (p.le * p.he)) rfl (by kernel_rfl) (by kernel_rfl) (by kernel_rfl) (fun _ _ _ h => h) (Or.inl ⟨by kernel_rfl, ?_⟩) (by assumption) ?_
  · intro w hSw
    try dsimp only at hSw
    skip
    go_simp
    all_goals first | omega | exact IntWalk.i64_in _ (by omega)
  try simp only [Act.put, List.setIfInBounds_toArray, List.set_cons_zero, List.set_cons_succ, List.getElem_toArray, List.getElem_cons_zero, List.getElem_cons_succ]
  refine wpAnyH_take (i := 5) (v := .pointer (some ⟨w.heap.size, 2, none⟩)) rfl (by kernel_rfl) (by kernel_rfl) (by kernel_rfl) (fun _ _ _ h => h) (Or.inl ⟨by kernel_rfl, ?_⟩) (by assumption) ?_
  · intro w hSw
    try dsimp only at hSw
    skip
    go_simp
  try simp only [Act.put, List.setIfInBounds_toArray, List.set_cons_zero, List.set_cons_succ, List.getElem_toArray, List.getElem_cons_zero, List.getElem_cons_succ]
  refine wpAnyH_take (i := 6) (v := .int .i64 p.ha) rfl (by kernel_rfl) (by kernel_rfl) (by kernel_rfl) (fun _ _ _ h => h) (Or.inl ⟨by kernel_rfl, ?_⟩) (by assumption) ?_
  · intro w hSw
    try dsimp only at hSw
    obtain ⟨⟨k0, k1, k2⟩, ⟨f0, f1, f2, f3⟩, -⟩ := hSw
    go_simp
  try simp only [Act.put, List.setIfInBounds_toArray, List.set_cons_zero, List.set_cons_succ, List.getElem_toArray, List.getElem_cons_zero, List.getElem_cons_succ]
  refine wpAnyH_take (i := 7) (v := .int .i64 (p.le * p.he * p.ha)) rfl (by kernel_rfl) (by kernel_rfl) (by kernel_rfl) (fun _ _ _ h => h) (Or.inl ⟨by kernel_rfl, ?_⟩) (by assumption) ?_
  · intro w hSw
    try dsimp only at hSw
    skip
    go_simp
    all_goals first | omega | exact IntWalk.i64_in _ (by omega)
  try simp only [Act.put, List.setIfInBounds_toArray, List.set_cons_zero, List.set_cons_succ, List.getElem_toArray, List.getElem_cons_zero, List.getElem_cons_succ]
  refine wpAnyH_take (i := 8) (v := .agg #[.int .i64 l, .int .i64 wd, .int .i64 ht, .int .i64 j]) rfl (by kernel_rfl) (by kernel_rfl) (by kernel_rfl) (fun _ _ _ h => h) (Or.inl ⟨by kernel_rfl, ?_⟩) (by assumption) ?_
  · intro w hSw
    try dsimp only at hSw
    obtain ⟨⟨k0, k1, k2⟩, ⟨f0, f1, f2, f3⟩, -⟩ := hSw
    go_simp
  try simp only [Act.put, List.setIfInBounds_toArray, List.set_cons_zero, List.set_cons_succ, List.getElem_toArray, List.getElem_cons_zero, List.getElem_cons_succ]
  refine wpAnyH_ready (rs := [9]) (by kernel_rfl) (by simp) ?_
  refine AllReadyH.cons rfl (fun K hK => ?_) AllReadyH.nil
  go_simp
  go_at_call 53
  refine (FC.out _).mono ?_
  rintro e w1 ⟨rfl, hb1⟩
  refine hK.out _ _ ?_ (fun hHeld' => ?_)
  · exact ⟨hHeld.1.later hb1, hHeld.2.1.later hb1, bnext hHeld.2.2 hb1⟩
  clear hK K hHeld
  have hHeld := hHeld'
  clear hHeld'
  clear hb1
  try simp only [Act.put, List.setIfInBounds_toArray, List.set_cons_zero, List.set_cons_succ, List.getElem_toArray, List.getElem_cons_zero, List.getElem_cons_succ]
  refine wpAnyH_ready (rs := [10]) (by kernel_rfl) (by simp) ?_
  refine AllReadyH.cons rfl (fun K hK => ?_) AllReadyH.nil
  go_simp
  go_at_call 58
  refine (UP.out _).mono ?_
  rintro e w2 ⟨rfl, rfl⟩
  refine hK.out _ _ ?_ (fun hHeld' => ?_)
  · exact hHeld
  clear hK K hHeld
  have hHeld := hHeld'
  clear hHeld'
  try simp only [Act.put, List.setIfInBounds_toArray, List.set_cons_zero, List.set_cons_succ, List.getElem_toArray, List.getElem_cons_zero, List.getElem_cons_succ]
  refine wpAnyH_take (i := 11) (v := .int .i64 (brQ l ht j p)) rfl (by kernel_rfl) (by kernel_rfl) (by kernel_rfl) (fun _ _ _ h => h) (Or.inl ⟨by kernel_rfl, ?_⟩) (by assumption) ?_
  · intro w hSw
    try dsimp only at hSw
    skip
    go_simp
  try simp only [Act.put, List.setIfInBounds_toArray, List.set_cons_zero, List.set_cons_succ, List.getElem_toArray, List.getElem_cons_zero, List.getElem_cons_succ]
  refine wpAnyH_done (by kernel_rfl) ?_ _
  go_wp2
  go_ret
  exact ⟨rfl, hHeld.2.2⟩
set_option maxRecDepth 100000 in
set_option maxHeartbeats 6400000 in
theorem all_spec (l wd ht j : Int) (hf : okB l wd ht j = true) (L : List Pc) (hL : pcsB L = true) (a : Option Addr) (cap : Nat) (w : World) (ha : PcArg w a L) :
    Calls Try.prog 47 #[.agg #[.int .i64 l, .int .i64 wd, .int .i64 ht, .int .i64 j], .slice a L.length cap] w fun e w' => e = .returned (.int .i64 (brL l ht j L).sum) ∧ Below w.heap.size w w' := by
  have h20 := pcsB_len hL
  have HF := Lib.hid hf
  have HL := Lib.hid (pcsB_all hL)
  have F0 := Lib.hid (FmBox.new w l wd ht j 35)
  have HA := Lib.hid (ha.later (balloc0 w (.cells #[.int .i64 l, .int .i64 wd, .int .i64 ht, .int .i64 j] 35)))
  have E0 := Lib.hid (balloc0 w (.cells #[.int .i64 l, .int .i64 wd, .int .i64 ht, .int .i64 j] 35))
  obtain ⟨W0, hW⟩ : ∃ W0, w.alloc (.cells #[.int .i64 l, .int .i64 wd, .int .i64 ht, .int .i64 j] 35) = W0 := ⟨_, rfl⟩
  rw [hW] at F0 HA E0
  have E0 : Hid (Below w.heap.size w W0) := E0.out
  have HW := Lib.hid hW
  clear hf hL ha hW
  go_enter Try.func47, Try.ntmps47
  go_wp2_with fail
  try rw [HW.out]
  try go_wp2
  go_loopw [5, 6] (fun t i wr => ∃ (k : Nat) (T : Int), k ≤ L.length ∧ t = .int .i64 T ∧ i = .int .i64 (k : Int) ∧ (0 ≤ T ∧ T ≤ 4000001 * (k : Int)) ∧ Hid (T = (brL l ht j (L.take k)).sum) ∧ Hid (Below W0.heap.size W0 wr)) (fun _ i _ => L.length - (intOf i).toNat)
  case atStart => exact ⟨0, 0, Nat.zero_le _, rfl, rfl, by omega, rfl, Below.refl _ _⟩
  case round =>
    obtain ⟨k, T, hk, rfl, rfl, hT, hS, hB⟩ := hrel
    obtain ⟨hT0, hT1⟩ := hT
    by_cases hlt : k < L.length
    · have hlt' : (k : Int) < (L.length : Int) := by omega
      have hk0 : (0 : Int) ≤ (k : Int) := by omega
      obtain ⟨b, o, p, rfl, hp, hat⟩ := (HA.out.later hB.out).at hlt
      have HP := Lib.hid hp
      have HAT := Lib.hid hat
      have HPB := Lib.hid (HL.out k p hp)
      obtain ⟨q0, q1⟩ := brQ_range HF.out HPB.out
      have HN : Hid (T + brQ l ht j p = (brL l ht j (L.take (k + 1))).sum) := by show _ = _; rw [brL_take hp, hS.out]; simp
      clear hp hat
      go_wp2_with fail
      refine wp_region_held_drew (S := fun W => FmBox w.heap.size l wd ht j W ∧ Below wr.heap.size wr W) (by kernel_rfl) ?_ (fun hHeld => ?_)
      · exact ⟨(F0.out.later hB.out).drew, (Below.refl _ _).drew⟩
      refine wpAnyH_take (i := 0) (v := .int .i64 T) rfl (by kernel_rfl) (by kernel_rfl) (by kernel_rfl) (fun _ _ _ h => h) (Or.inl ⟨by kernel_rfl, ?_⟩) (by assumption) ?_
      · intro w hSw
        try dsimp only at hSw
        skip
        go_simp
      try simp only [Act.put, List.setIfInBounds_toArray, List.set_cons_zero, List.set_cons_succ, List.getElem_toArray, List.getElem_cons_zero]
      refine wpAnyH_take (i := 1) (v := .agg #[.int .i64 l, .int .i64 wd, .int .i64 ht, .int .i64 j]) rfl (by kernel_rfl) (by kernel_rfl) (by kernel_rfl) (fun _ _ _ h => h) (Or.inl ⟨by kernel_rfl, ?_⟩) (by assumption) ?_
      · intro w hSw
        try dsimp only at hSw
        obtain ⟨⟨f0, f1, f2, f3⟩, -⟩ := hSw
        go_simp
      try simp only [Act.put, List.setIfInBounds_toArray, List.set_cons_zero, List.set_cons_succ, List.getElem_toArray, List.getElem_cons_zero, List.getElem_cons_succ]
      refine wpAnyH_take (i := 2) (v := .slice (some ⟨b, o, none⟩) L.length cap) rfl (by kernel_rfl) (by kernel_rfl) (by kernel_rfl) (fun _ _ _ h => h) (Or.inl ⟨by kernel_rfl, ?_⟩) (by assumption) ?_
      · intro w hSw
        try dsimp only at hSw
        skip
        go_simp
      try simp only [Act.put, List.setIfInBounds_toArray, List.set_cons_zero, List.set_cons_succ, List.getElem_toArray, List.getElem_cons_zero, List.getElem_cons_succ]
      refine wpAnyH_take (i := 3) (v := .int .i64 (k : Int)) rfl (by kernel_rfl) (by kernel_rfl) (by kernel_rfl) (fun _ _ _ h => h) (Or.inl ⟨by kernel_rfl, ?_⟩) (by assumption) ?_
      · intro w hSw
        try dsimp only at hSw
        skip
        go_simp
      try simp only [Act.put, List.setIfInBounds_toArray, List.set_cons_zero, List.set_cons_succ, List.getElem_toArray, List.getElem_cons_zero, List.getElem_cons_succ]
      refine wpAnyH_take (i := 4) (v := .pointer (some ⟨b, o + k * 3, none⟩)) rfl (by kernel_rfl) (by kernel_rfl) (by kernel_rfl) (fun _ _ _ h => h) (Or.inl ⟨by kernel_rfl, ?_⟩) (by assumption) ?_
      · intro w hSw
        try dsimp only at hSw
        skip
        go_simp
        all_goals first | omega | exact IntWalk.i64_in _ (by omega)
      try simp only [Act.put, List.setIfInBounds_toArray, List.set_cons_zero, List.set_cons_succ, List.getElem_toArray, List.getElem_cons_zero, List.getElem_cons_succ]
      refine wpAnyH_ready (rs := [5]) (by kernel_rfl) (by simp) ?_
      refine AllReadyH.cons rfl (fun K hK => ?_) AllReadyH.nil
      obtain ⟨c0, c1, c2⟩ := (HAT.out.later hHeld.2).cells HP.out
      go_simp
      go_at_call 46
      refine (bricks_spec l wd ht j HF.out p HPB.out b (o + k * 3) _ c0 c1 c2).mono ?_
      rintro e w1 ⟨rfl, hb1⟩
      refine hK.out _ _ ?_ (fun hHeld' => ?_)
      · exact ⟨hHeld.1.later hb1, bnext hHeld.2 hb1⟩
      clear hK K hHeld
      have hHeld := hHeld'
      clear hHeld'
      clear hb1 c0 c1 c2
      try simp only [Act.put, List.setIfInBounds_toArray, List.set_cons_zero, List.set_cons_succ, List.getElem_toArray, List.getElem_cons_zero, List.getElem_cons_succ]
      refine wpAnyH_take (i := 6) (v := .int .i64 (T + brQ l ht j p)) rfl (by kernel_rfl) (by kernel_rfl) (by kernel_rfl) (fun _ _ _ h => h) (Or.inl ⟨by kernel_rfl, ?_⟩) (by assumption) ?_
      · intro w hSw
        try dsimp only at hSw
        skip
        go_simp
        all_goals first | omega | exact IntWalk.i64_in _ (by omega)
      try simp only [Act.put, List.setIfInBounds_toArray, List.set_cons_zero, List.set_cons_succ, List.getElem_toArray, List.getElem_cons_zero, List.getElem_cons_succ]
      refine wpAnyH_take (i := 7) (v := .int .i64 (T + brQ l ht j p)) rfl (by kernel_rfl) (by kernel_rfl) (by kernel_rfl) (fun _ _ _ h => h) (Or.inl ⟨by kernel_rfl, ?_⟩) (by assumption) ?_
      · intro w hSw
        try dsimp only at hSw
        skip
        go_simp
      try simp only [Act.put, List.setIfInBounds_toArray, List.set_cons_zero, List.set_cons_succ, List.getElem_toArray, List.getElem_cons_zero, List.getElem_cons_succ]
      refine wpAnyH_done (by kernel_rfl) ?_ _
      go_wp2
      go_roundw
      case rel => exact ⟨k + 1, T + brQ l ht j p, by omega, rfl, by go_num, by omega, HN.out, hB.out.trans (hHeld.2.mono hB.out.size)⟩
      case measure => simp [intOf]; omega
    · have hge : ¬ (k : Int) < (L.length : Int) := by omega
      have HN : Hid (T = (brL l ht j L).sum) := by show _ = _; rw [hS.out, List.take_of_length_le (by omega)]
      go_wp2
      go_ret
      exact ⟨ret_int HN.out, bnext E0.out hB.out⟩
set_option maxRecDepth 100000 in
set_option maxHeartbeats 6400000 in
theorem sumQ_impl (D : List Int) (h0 : ∀ z ∈ D, 0 ≤ z ∧ z ≤ 100000000) (h1 : D.length ≤ 1000) (a : Option Addr) (cap : Nat) (w : World) (ha : IntArg w a D) :
    Calls Try.prog 49 #[.slice a D.length cap] w fun e w' => e = .returned (.int .i64 D.sum) ∧ w = w' := by
  have HA := Lib.hid ha
  have HB := Lib.hid h0
  clear ha h0
  go_enter Try.func49, Try.ntmps49
  go_wp2
  go_loopw [3, 9] (fun t i wr => ∃ (k : Nat) (T : Int), k ≤ D.length ∧ t = .int .i64 T ∧ i = .int .i64 (k : Int) ∧ (0 ≤ T ∧ T ≤ 100000000 * (k : Int)) ∧ Hid (T = (D.take k).sum) ∧ w = wr) (fun _ i _ => D.length - (intOf i).toNat)
  case atStart => exact ⟨0, 0, Nat.zero_le _, rfl, rfl, by omega, rfl, rfl⟩
  case round =>
    obtain ⟨k, T, hk, rfl, rfl, hT, hS, rfl⟩ := hrel
    obtain ⟨hT0, hT1⟩ := hT
    by_cases hlt : k < D.length
    · have hlt' : (k : Int) < (D.length : Int) := by omega
      have hk0 : (0 : Int) ≤ (k : Int) := by omega
      obtain ⟨b, o, z, rfl, hz, hat⟩ := HA.out.at hlt
      have c0 := hat k z hz
      obtain ⟨hz0, hz1⟩ := HB.out z (List.mem_of_getElem? hz)
      have HN : Hid (T + z = (D.take (k + 1)).sum) := by show _ = _; rw [List.take_add_one, hz, hS.out]; simp
      clear hz hat
      go_wp2
      go_roundw
      case rel => exact ⟨k + 1, T + z, by omega, rfl, by go_num, by omega, HN.out, by first | rfl | trivial⟩
      case measure => simp [intOf]; omega
    · have hge : ¬ (k : Int) < (D.length : Int) := by omega
      have HN : Hid (T = D.sum) := by show _ = _; rw [hS.out, List.take_of_length_le (by omega)]
      go_wp2
      go_ret
      exact ⟨ret_int HN.out, rfl⟩
set_option maxRecDepth 100000 in
set_option maxHeartbeats 6400000 in
theorem each_impl (l wd ht j : Int) (hf : okB l wd ht j = true) (L : List Pc) (hL : pcsB L = true) (a : Option Addr) (cap : Nat) (w : World) (ha : PcArg w a L) :
    Calls Try.prog 50 #[.agg #[.int .i64 l, .int .i64 wd, .int .i64 ht, .int .i64 j], .slice a L.length cap] w fun e w' => ∃ ao cp, e = .returned (.slice ao (brL l ht j L).length cp) ∧ IRow w.heap.size (brL l ht j L) ao cp w' ∧ Below w.heap.size w w' := by
  have h20 := pcsB_len hL
  have HF := Lib.hid hf
  have HL := Lib.hid (pcsB_all hL)
  have F0 := Lib.hid (FmBox.new w l wd ht j 35)
  have HA := Lib.hid (ha.later (balloc0 w (.cells #[.int .i64 l, .int .i64 wd, .int .i64 ht, .int .i64 j] 35)))
  have E0 := Lib.hid (balloc0 w (.cells #[.int .i64 l, .int .i64 wd, .int .i64 ht, .int .i64 j] 35))
  obtain ⟨W0, hW⟩ : ∃ W0, w.alloc (.cells #[.int .i64 l, .int .i64 wd, .int .i64 ht, .int .i64 j] 35) = W0 := ⟨_, rfl⟩
  rw [hW] at F0 HA E0
  have E0 : Hid (Below w.heap.size w W0) := E0.out
  have HW := Lib.hid hW
  clear hf hL ha hW
  go_enter Try.func50, Try.ntmps50
  go_wp2_with fail
  try rw [HW.out]
  try go_wp2
  go_loopw [5, 10] (fun v i wr => ∃ (k : Nat) (ao : Option Addr) (cp : Nat) (D : List Int), k ≤ L.length ∧ v = .slice ao D.length cp ∧ i = .int .i64 (k : Int) ∧ D.length = k ∧ Hid (D = brL l ht j (L.take k)) ∧ Hid (IRow W0.heap.size D ao cp wr) ∧ Hid (Below W0.heap.size W0 wr)) (fun _ i _ => L.length - (intOf i).toNat)
  case atStart => exact ⟨0, none, 0, [], Nat.zero_le _, rfl, rfl, rfl, rfl, IRow.nil _ _, Below.refl _ _⟩
  case round =>
    obtain ⟨k, ao, cp, D, hk, rfl, rfl, hDl, hD, hO, hB⟩ := hrel
    by_cases hlt : k < L.length
    · have hlt' : (k : Int) < (L.length : Int) := by omega
      have hk0 : (0 : Int) ≤ (k : Int) := by omega
      obtain ⟨b, o, p, rfl, hp, hat⟩ := (HA.out.later hB.out).at hlt
      obtain ⟨c0, c1, c2⟩ := hat.cells hp
      have HPB := Lib.hid (HL.out k p hp)
      have HN : Hid (D ++ [brQ l ht j p] = brL l ht j (L.take (k + 1))) := by show _ = _; rw [brL_take hp, hD.out]
      have c3 : Hid (D.length + 1 ≤ maxLen) := by show D.length + 1 ≤ maxLen; unfold maxLen; omega
      obtain ⟨i0, hi0, hz0, hz1, hz2⟩ := info_partsQ
      obtain ⟨f0, f1, f2, f3⟩ := (F0.out.later hB.out).later (balloc0 wr (.cells #[.int .i64 p.le, .int .i64 p.he, .int .i64 p.ha] 37))
      have hlw : w.heap.size < W0.heap.size := F0.out.lt
      have hsw := hB.out.size
      obtain ⟨q, hq⟩ : ∃ q, brQ l ht j p = q := ⟨_, rfl⟩
      have BI := Lib.hid (bricks_impl l wd ht j HF.out p HPB.out)
      rw [hq] at BI HN
      have HDl := Lib.hid hDl
      clear hp hat hq hDl
      go_wp2_with fail
      refine (BI.out _).mono ?_
      rintro e w3 ⟨rfl, hb3⟩
      have O3 := Lib.hid ((hO.out.later (balloc0 wr (.cells #[.int .i64 p.le, .int .i64 p.he, .int .i64 p.ha] 37))).later hb3)
      have B3 := Lib.hid (bnext (balloc hB.out (.cells #[.int .i64 p.le, .int .i64 p.he, .int .i64 p.ha] 37)) hb3)
      have hbase : W0.heap.size ≤ w3.heap.size := B3.out.size
      clear hb3 c0 c1 c2 f0 f1 f2 f3
      have hDk : D.length ≤ 20 := by rw [HDl.out]; omega
      go_wp2_with (at_builtin; go_must ((refine wpList_append_own _ rfl _ _ 58 rfl W0.heap.size 2 i0 (.int .i64 0) 1 8 Try.underlying58 hi0 hz0 hz1 hz2 rfl (by decide) (.slice ao D.length cp) D.length (intVals D) rfl (IRow.later O3.out (balloc0 _ _)) ⟨w3.heap.size, 0, none⟩ 1 1 [.int .i64 q] rfl rfl ((lit8 W0.heap.size w3 _ hbase).cells rfl) (by simp [Value.oneCell']) c3.out (by omega) (by simp; omega) ?_; intro v4 w4 hown4 hgrow4 _; have B4 := Lib.hid ((B3.out.alloc hbase _).grown hgrow4 (by simp; omega) (fun q hq => (World.ownsRow.lt O3.out q hq).1)); obtain ⟨g4, cp4, hv4, o4⟩ := IRow.snoc hown4; subst hv4; have O4 := Lib.hid o4; clear hown4 hgrow4 o4)))
      go_roundw
      case rel => exact ⟨k + 1, some ⟨g4, 0, none⟩, cp4, D ++ [q], by omega, by simp, by go_num, by simp [HDl.out], HN.out, O4.out, B4.out⟩
      case measure => simp [intOf]; omega
    · have hge : ¬ (k : Int) < (L.length : Int) := by omega
      have HN : Hid (D = brL l ht j L) := by show _ = _; rw [hD.out, List.take_of_length_le (by omega)]
      clear hDl
      go_wp2
      go_ret
      refine ⟨ao, cp, by rw [← HN.out]; rfl, ?_, bnext E0.out hB.out⟩
      rw [← HN.out]
      exact hO.out.mono E0.out.size
end Go.Proofs.Ytmbmbkagmkmhlab
