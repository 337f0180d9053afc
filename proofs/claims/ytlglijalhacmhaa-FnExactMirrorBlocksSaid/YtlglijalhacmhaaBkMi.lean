/-
  Arches from the other side: the program.
-/
import Derived.Test.YtlglijalhacmhaaBkR
namespace Go.Proofs.Ytlglijalhacmhaa
open Go.ChangeShapes Go.WideShapes Go.ChangeAt Go.RowKit Go.Joins

/-- Blocks that a call hands back: none, or of its own. -/
def BkRes (B : Nat) (Y : Bk) (a b c : Option Addr) (w : World) : Prop := Y = ⟨[], [], []⟩ ∨ ∃ g h m, a = some ⟨g, 0, none⟩ ∧ b = some ⟨h, 0, none⟩ ∧ c = some ⟨m, 0, none⟩ ∧ BkOwn B Y g h m w
theorem mirX_len (X : Bk) : (mirX X).A.length = (if okBk X = true then X.A.length else 0) ∧ (mirX X).L.length = (if okBk X = true then X.L.length else 0) ∧ (mirX X).H.length = (if okBk X = true then X.H.length else 0) := by
  unfold mirX
  split <;> simp
set_option maxRecDepth 100000 in
set_option maxHeartbeats 6400000 in
theorem MirrorBlocks_impl (X : Bk) (a b c : Option Addr) (ca cb cc : Nat) (hl : BkLen X 1048576) (w : World) (ha : BkArg w a b c X) :
    Calls Try.prog 43 #[.agg #[.slice a X.A.length ca, .slice b X.L.length cb, .slice c X.H.length cc]] w fun e w' => ∃ (a' b' c' : Option Addr) (x y z : Nat), e = .returned (.tuple #[.agg #[.slice a' (mirX X).A.length x, .slice b' (mirX X).L.length y, .slice c' (mirX X).H.length z], .int .i64 (bkC X)]) ∧ BkRes w.heap.size (mirX X) a' b' c' w' ∧ Below w.heap.size w w' := by
  have k0 := BkBox.new w X a b c ca cb cc 27
  have E0 := Lib.hid (balloc0 w (.cells #[.slice a X.A.length ca, .slice b X.L.length cb, .slice c X.H.length cc] 27))
  obtain ⟨U, hU⟩ : ∃ U, World.alloc w (.cells #[.slice a X.A.length ca, .slice b X.L.length cb, .slice c X.H.length cc] 27) = U := ⟨_, rfl⟩
  have zU : U.heap.size = w.heap.size + 1 := by rw [← hU]; simp
  rw [hU] at k0 E0
  have E0 : Hid (Below w.heap.size w U) := E0.out
  have KB : Hid (∀ wx, Below U.heap.size U wx → BkBox w.heap.size X a b c ca cb cc wx) := fun wx hx => k0.later hx
  have ra := heap_alloc_new U (.cells #[.slice none 0 0, .slice none 0 0, .slice none 0 0] 27)
  have E1 := Lib.hid (balloc0 U (.cells #[.slice none 0 0, .slice none 0 0, .slice none 0 0] 27))
  have k1 := k0.later E1.out
  obtain ⟨U1, hU1⟩ : ∃ U1, World.alloc U (.cells #[.slice none 0 0, .slice none 0 0, .slice none 0 0] 27) = U1 := ⟨_, rfl⟩
  have zU1 : U1.heap.size = w.heap.size + 2 := by rw [← hU1]; simp; omega
  rw [hU1] at ra E1 k1
  have E1 : Hid (Below U.heap.size U U1) := E1.out
  rw [zU] at ra
  have RA : Hid (U1.heap[w.heap.size + 1]? = some (.cells #[.slice none 0 0, .slice none 0 0, .slice none 0 0] 27 (0, 0))) := ra
  have HA := Lib.hid (ha.later E0.out)
  have HU := Lib.hid hU
  have HU1 := Lib.hid hU1
  have C := Lib.hid (bk_impl X a b c ca cb cc hl U1 (HA.out.later E1.out))
  obtain ⟨l1, l2, l3⟩ := hl
  cases hok : okBk X
  · have hq : mirX X = ⟨[], [], []⟩ := by simp [mirX, hok]
    have hc : bkC X = 1 := by simp [bkC, hok]
    rw [hok] at C
    rw [hq, hc]
    clear hU hU1 k0 ha hok hq hc ra
    go_enter Try.func43, Try.ntmps43
    go_wp2_with fail
    rw [HU.out, HU1.out]
    obtain ⟨p0, p1, p2⟩ := k1
    try go_wp2_with fail
    refine C.out.mono ?_
    rintro e w1 ⟨rfl, hb1⟩
    have B1 := Lib.hid (bnext E1.out hb1)
    have RB := (hb1.block _ (by omega)).trans RA.out
    obtain ⟨r0, r1, r2, f0, f1, f2⟩ := block_read RB
    have z1 := hb1.size
    clear hb1 p0 p1 p2
    go_wp2_with fail
    refine bodyPost_ret (v := .tuple #[.agg #[.slice none 0 0, .slice none 0 0, .slice none 0 0], .int .i64 1]) ?_ rfl ?_
    · simp [results, Try.results43, go_sem, r0, r1, r2]
    · refine ⟨none, none, none, 0, 0, 0, rfl, .inl rfl, bnext E0.out ?_⟩
      exact ((B1.out.setCell (p := ⟨w.heap.size + 1, 0, none⟩) (by rw [zU]; exact Nat.le_refl _) _).setCell (p := ⟨w.heap.size + 1, 1, none⟩) (by rw [zU]; exact Nat.le_refl _) _).setCell (p := ⟨w.heap.size + 1, 2, none⟩) (by rw [zU]; exact Nat.le_refl _) _
  have hq : mirX X = ⟨X.A.reverse, X.L.reverse, X.H.reverse⟩ := by simp [mirX, hok]
  have hc : bkC X = 0 := by simp [bkC, hok]
  have hn := (okBk_true.1 hok).1
  have hLl := (okBk_true.1 hok).2.1
  have hHl := (okBk_true.1 hok).2.2.1
  have R0 : Hid (∀ wx, Below U.heap.size U wx → _) := fun wx hx => reversed_impl X.A a ca (by omega) l1 wx (HA.out.1.later hx)
  have R1 : Hid (∀ wx, Below U.heap.size U wx → _) := fun wx hx => reversed_impl X.L b cb (by omega) l2 wx (HA.out.2.1.later hx)
  have R2 : Hid (∀ wx, Below U.heap.size U wx → _) := fun wx hx => reversed_impl X.H c cc (by omega) l3 wx (HA.out.2.2.later hx)
  rw [hok] at C
  rw [hq, hc]
  simp only [List.length_reverse]
  clear hU hU1 k0 ha hok hq hc ra hn hLl hHl
  go_enter Try.func43, Try.ntmps43
  go_wp2_with fail
  rw [HU.out, HU1.out]
  obtain ⟨p0, p1, p2⟩ := k1
  try go_wp2_with fail
  refine C.out.mono ?_
  rintro e w1 ⟨rfl, hb1⟩
  have B1 := Lib.hid (bnext E1.out hb1)
  have RB := Lib.hid ((hb1.block _ (by omega)).trans RA.out)
  have zR : w.heap.size + 1 < w1.drew.heap.size := by show _ < w1.heap.size; have := hb1.size; omega
  clear hb1 p0 p1 p2
  go_wp2_with fail
  refine wp_region_held_drew (S := fun W => Below U.heap.size U W) (by kernel_rfl) ?_ (fun hHeld => ?_)
  · exact B1.out.drew
  refine wpAnyH_take (i := 0) (v := .pointer (some ⟨w.heap.size, 0, none⟩)) rfl (by kernel_rfl) (by kernel_rfl) (by kernel_rfl) (fun _ _ _ h => h) (Or.inl ⟨by kernel_rfl, ?_⟩) (by assumption) ?_
  · intro w hSw
    try dsimp only at hSw
    skip
    go_simp
  try simp only [Act.put, List.setIfInBounds_toArray, List.set_cons_zero, List.set_cons_succ, List.getElem_toArray, List.getElem_cons_zero]
  refine wpAnyH_take (i := 1) (v := .slice a X.A.length ca) rfl (by kernel_rfl) (by kernel_rfl) (by kernel_rfl) (fun _ _ _ h => h) (Or.inl ⟨by kernel_rfl, ?_⟩) (by assumption) ?_
  · intro w hSw
    try dsimp only at hSw
    obtain ⟨p0, p1, p2⟩ := KB.out _ hSw
    go_simp
  try simp only [Act.put, List.setIfInBounds_toArray, List.set_cons_zero, List.set_cons_succ, List.getElem_toArray, List.getElem_cons_zero, List.getElem_cons_succ]
  refine wpAnyH_take (i := 3) (v := .pointer (some ⟨w.heap.size, 1, none⟩)) rfl (by kernel_rfl) (by kernel_rfl) (by kernel_rfl) (fun _ _ _ h => h) (Or.inl ⟨by kernel_rfl, ?_⟩) (by assumption) ?_
  · intro w hSw
    try dsimp only at hSw
    skip
    go_simp
  try simp only [Act.put, List.setIfInBounds_toArray, List.set_cons_zero, List.set_cons_succ, List.getElem_toArray, List.getElem_cons_zero, List.getElem_cons_succ]
  refine wpAnyH_take (i := 4) (v := .slice b X.L.length cb) rfl (by kernel_rfl) (by kernel_rfl) (by kernel_rfl) (fun _ _ _ h => h) (Or.inl ⟨by kernel_rfl, ?_⟩) (by assumption) ?_
  · intro w hSw
    try dsimp only at hSw
    obtain ⟨p0, p1, p2⟩ := KB.out _ hSw
    go_simp
  try simp only [Act.put, List.setIfInBounds_toArray, List.set_cons_zero, List.set_cons_succ, List.getElem_toArray, List.getElem_cons_zero, List.getElem_cons_succ]
  refine wpAnyH_take (i := 6) (v := .pointer (some ⟨w.heap.size, 2, none⟩)) rfl (by kernel_rfl) (by kernel_rfl) (by kernel_rfl) (fun _ _ _ h => h) (Or.inl ⟨by kernel_rfl, ?_⟩) (by assumption) ?_
  · intro w hSw
    try dsimp only at hSw
    skip
    go_simp
  try simp only [Act.put, List.setIfInBounds_toArray, List.set_cons_zero, List.set_cons_succ, List.getElem_toArray, List.getElem_cons_zero, List.getElem_cons_succ]
  refine wpAnyH_take (i := 7) (v := .slice c X.H.length cc) rfl (by kernel_rfl) (by kernel_rfl) (by kernel_rfl) (fun _ _ _ h => h) (Or.inl ⟨by kernel_rfl, ?_⟩) (by assumption) ?_
  · intro w hSw
    try dsimp only at hSw
    obtain ⟨p0, p1, p2⟩ := KB.out _ hSw
    go_simp
  try simp only [Act.put, List.setIfInBounds_toArray, List.set_cons_zero, List.set_cons_succ, List.getElem_toArray, List.getElem_cons_zero, List.getElem_cons_succ]
  refine wpAnyH_ready (rs := [2]) (by kernel_rfl) (by simp) ?_
  refine AllReadyH.cons rfl (fun K hK => ?_) AllReadyH.nil
  go_simp
  go_at_call 80
  refine (R0.out _ hHeld).mono ?_
  rintro e w2 ⟨g, x0, rfl, o, hb⟩
  refine hK.out _ _ ?_ (fun hHeld' => ?_)
  · exact bnext hHeld hb
  clear hK K hHeld
  have hHeld := hHeld'
  clear hHeld'
  have l0 : w.heap.size + 1 < g := Nat.lt_of_lt_of_le zR o.1
  have O0 := Lib.hid o
  have RB := Lib.hid ((hb.block _ (by have := zR; omega)).trans RB.out)
  have zR : w.heap.size + 1 < w2.heap.size := Nat.lt_of_lt_of_le zR hb.size
  have u0 := O0.out.2.2.2
  clear hb o
  try simp only [Act.put, List.setIfInBounds_toArray, List.set_cons_zero, List.set_cons_succ, List.getElem_toArray, List.getElem_cons_zero, List.getElem_cons_succ]
  refine wpAnyH_ready (rs := [5]) (by kernel_rfl) (by simp) ?_
  refine AllReadyH.cons rfl (fun K hK => ?_) AllReadyH.nil
  go_simp
  go_at_call 80
  refine (R1.out _ hHeld).mono ?_
  rintro e w3 ⟨h, x1, rfl, o, hb⟩
  refine hK.out _ _ ?_ (fun hHeld' => ?_)
  · exact bnext hHeld hb
  clear hK K hHeld
  have hHeld := hHeld'
  clear hHeld'
  have d1 : g < h := Nat.lt_of_lt_of_le u0 o.1
  have O1 := Lib.hid o
  have O0 := Lib.hid (O0.out.later hb)
  have RB := Lib.hid ((hb.block _ (by have := zR; omega)).trans RB.out)
  have zR : w.heap.size + 1 < w3.heap.size := Nat.lt_of_lt_of_le zR hb.size
  have u1 := O1.out.2.2.2
  have u0 := O0.out.2.2.2
  clear hb o
  try simp only [Act.put, List.setIfInBounds_toArray, List.set_cons_zero, List.set_cons_succ, List.getElem_toArray, List.getElem_cons_zero, List.getElem_cons_succ]
  refine wpAnyH_ready (rs := [8]) (by kernel_rfl) (by simp) ?_
  refine AllReadyH.cons rfl (fun K hK => ?_) AllReadyH.nil
  go_simp
  go_at_call 80
  refine (R2.out _ hHeld).mono ?_
  rintro e w4 ⟨m, x2, rfl, o, hb⟩
  refine hK.out _ _ ?_ (fun hHeld' => ?_)
  · exact bnext hHeld hb
  clear hK K hHeld
  have hHeld := hHeld'
  clear hHeld'
  have d2 : h < m := Nat.lt_of_lt_of_le u1 o.1
  have O2 := Lib.hid o
  have O0 := Lib.hid (O0.out.later hb)
  have O1 := Lib.hid (O1.out.later hb)
  have RB := Lib.hid ((hb.block _ (by have := zR; omega)).trans RB.out)
  have zR : w.heap.size + 1 < w4.heap.size := Nat.lt_of_lt_of_le zR hb.size
  have u2 := O2.out.2.2.2
  have u0 := O0.out.2.2.2
  have u1 := O1.out.2.2.2
  obtain ⟨r0, r1, r2, f0, f1, f2⟩ := block_read RB.out
  clear hb o
  try simp only [Act.put, List.setIfInBounds_toArray, List.set_cons_zero, List.set_cons_succ, List.getElem_toArray, List.getElem_cons_zero, List.getElem_cons_succ]
  refine wpAnyH_take (i := 9) (v := .agg #[.slice (some ⟨g, 0, none⟩) X.A.length x0, .slice (some ⟨h, 0, none⟩) X.L.length x1, .slice (some ⟨m, 0, none⟩) X.H.length x2]) rfl (by kernel_rfl) (by kernel_rfl) (by kernel_rfl) (fun _ _ _ h => h) (Or.inl ⟨by kernel_rfl, ?_⟩) (by assumption) ?_
  · intro w hSw
    try dsimp only at hSw
    skip
    go_simp
  try simp only [Act.put, List.setIfInBounds_toArray, List.set_cons_zero, List.set_cons_succ, List.getElem_toArray, List.getElem_cons_zero, List.getElem_cons_succ]
  refine wpAnyH_ready (rs := [10]) (by kernel_rfl) (by simp) ?_
  refine AllReadyH.cons rfl (fun K hK => ?_) AllReadyH.nil
  go_simp
  refine hK.out _ _ ?_ (fun hHeld' => ?_)
  · exact ((hHeld.setCell (p := ⟨w.heap.size + 1, 0, none⟩) (by rw [zU]; exact Nat.le_refl _) _).setCell (p := ⟨w.heap.size + 1, 1, none⟩) (by rw [zU]; exact Nat.le_refl _) _).setCell (p := ⟨w.heap.size + 1, 2, none⟩) (by rw [zU]; exact Nat.le_refl _) _
  clear hK K hHeld
  have hHeld := hHeld'
  clear hHeld'
  try simp only [Act.put, List.setIfInBounds_toArray, List.set_cons_zero, List.set_cons_succ, List.getElem_toArray, List.getElem_cons_zero, List.getElem_cons_succ]
  refine wpAnyH_take (i := 11) (v := .int .i64 0) rfl (by kernel_rfl) (by kernel_rfl) (by kernel_rfl) (fun _ _ _ h => h) (Or.inl ⟨by kernel_rfl, ?_⟩) (by assumption) ?_
  · intro w hSw
    try dsimp only at hSw
    skip
    go_simp
  try simp only [Act.put, List.setIfInBounds_toArray, List.set_cons_zero, List.set_cons_succ, List.getElem_toArray, List.getElem_cons_zero, List.getElem_cons_succ]
  refine wpAnyH_done (by kernel_rfl) ?_ _
  have FO : Hid (BkOwn w.heap.size ⟨X.A.reverse, X.L.reverse, X.H.reverse⟩ g h m w4) := ⟨O0.out.base' (by omega), O1.out.base' (by omega), O2.out.base' (by omega), d1, d2⟩
  go_wp2_with fail
  refine bodyPost_ret (v := .tuple #[.agg #[.slice (some ⟨g, 0, none⟩) X.A.length x0, .slice (some ⟨h, 0, none⟩) X.L.length x1, .slice (some ⟨m, 0, none⟩) X.H.length x2], .int .i64 0]) ?_ rfl ?_
  · simp [results, Try.results43, go_sem, r0, r1, r2]
  · refine ⟨_, _, _, x0, x1, x2, rfl, .inr ⟨g, h, m, rfl, rfl, rfl, ((FO.out.set (by omega)).set (by omega)).set (by omega)⟩, bnext E0.out ?_⟩
    exact hHeld
end Go.Proofs.Ytlglijalhacmhaa
