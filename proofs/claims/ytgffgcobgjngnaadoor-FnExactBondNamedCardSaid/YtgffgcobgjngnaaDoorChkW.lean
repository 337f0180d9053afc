/-
  The model's course of a word.
-/
import Derived.Test.YtgffgcobgjngnaaDoorChkC
import Derived.Test.YtgffgcobgjngnaaDoorCoS
namespace Go.Proofs.YtgffgcobgjngnaaDoor
open Go.ChangeShapes Go.WideShapes Go.ChangeAt Go.RowKit Go.Joins

def WordS (s : ByteArray) (w : World) (e : Ending) (w' : World) : Prop := ∃ c : Co, e = .returned (.tuple #[.agg #[.string c.lead, .string c.cyc], .int .i64 (wordOf s).2]) ∧ ((wordOf s).2 = 0 → c = (wordOf s).1) ∧ Below w.heap.size w w'
theorem wordS_of {s : ByteArray} {w w' : World} {l c : ByteArray} {x : Int} (h : (wordOf s).2 = x) (h2 : x = 0 → (⟨l, c⟩ : Co) = (wordOf s).1) (hb : Below w.heap.size w w') : WordS s w (.returned (.tuple #[.agg #[.string l, .string c], .int .i64 x])) w' :=
  ⟨⟨l, c⟩, by rw [h], fun h3 => h2 (h.symm.trans h3), hb⟩
theorem isE_of (s : ByteArray) (h : ¬ 1 ≤ s.size) : s.toList.isEmpty = true := List.isEmpty_iff.2 ((toList_nil_iff_emptyBytes _).2 (empty_of _ h))
set_option maxRecDepth 100000 in
set_option maxHeartbeats 12800000 in
theorem word_spec (s : ByteArray) (hs : s.size ≤ 1048576) (w : World) : Calls Tryd.prog 64 #[.string s] w (WordS s w) := by
  have C := Lib.hid (split_spec s hs 43 (w.alloc (.cells #[.string ⟨#[]⟩, .string ⟨#[]⟩] 68)))
  have B0 : Hid (Below w.heap.size w (w.alloc (.cells #[.string ⟨#[]⟩, .string ⟨#[]⟩] 68))) := balloc0 _ _
  have T0 : Hid ((w.alloc (.cells #[.string ⟨#[]⟩, .string ⟨#[]⟩] 68)).there w.heap.size 0 2) := there_new w _ _ 2 rfl
  obtain ⟨W0, hW⟩ : ∃ W0, w.alloc (.cells #[.string ⟨#[]⟩, .string ⟨#[]⟩] 68) = W0 := ⟨_, rfl⟩
  have hcut : cutParts s (cutsC s 43 s.size 0 0) = partsOf s 43 := rfl
  rw [hW, hcut] at C
  rw [hW] at B0 T0
  have HW := Lib.hid hW
  clear hW hcut
  obtain ⟨P, hP⟩ : ∃ P, partsOf s 43 = P := ⟨_, rfl⟩
  have HS : ∀ x ∈ P, x.size ≤ 1048576 := fun x hx => Nat.le_trans (part_size (c := 43) (hP ▸ hx)) hs
  have HP := Lib.hid hP
  rw [hP] at C
  clear hP hs
  by_cases h2 : 2 < P.length
  · have HN : Hid ((wordOf s).2 = 3) := by
      show (wordOf s).2 = 3
      unfold wordOf
      rw [HP.out]
      match P, h2 with
      | x :: y :: z :: r, _ => rfl
    have h2' : (2 : Int) < (P.length : Int) := by omega
    clear h2 HS
    go_enter Tryd.func64, Tryd.ntmps64
    go_wp2_with fail
    rw [HW.out]
    refine C.out.mono ?_
    rintro e w1 ⟨g, cap, rfl, hA⟩
    have B1 := Lib.hid (bnext B0.out hA.2.1)
    have TN := there_below T0.out hA.2.1
    clear hA
    obtain ⟨u0, x0, y0⟩ := there_at TN (k := 0) (by omega)
    obtain ⟨u1, x1, y1⟩ := there_at TN (k := 1) (by omega)
    have hlw : w.heap.size < w1.heap.size := World.block_lt_of_cell? w1 _ x0
    clear TN
    go_wp2
    refine bodyPost_ret (v := .tuple #[.agg #[.string ⟨#[]⟩, .string ⟨#[]⟩], .int .i64 3]) (by simp [results, Tryd.results64, go_sem, x0, x1]) rfl (wordS_of HN.out (fun h => absurd h (by decide)) ((B1.out.setCell (Nat.le_refl _) _).setCell (Nat.le_refl _) _))
  by_cases h1 : P.length = 2
  · obtain ⟨l, c, hab⟩ : ∃ a b, P = [a, b] := by
      match P, h1 with
      | [a, b], _ => exact ⟨a, b, rfl⟩
    subst hab
    have HWd : Hid (wordOf s = (⟨l, c⟩, Co.fault ⟨l, c⟩ true)) := by show wordOf s = _; unfold wordOf; rw [HP.out]
    have PC0 := pieces_spec l (HS l (by simp))
    have PL0 := plain_spec c (HS c (by simp))
    clear h1 h2 HS
    cases hp : piecesB l
    · rw [hp] at PC0
      have PC := Lib.hid PC0
      have PL := Lib.hid PL0
      have HN : Hid ((wordOf s).2 = 3) := by show (wordOf s).2 = 3; rw [HWd.out]; simp [Co.fault, hp]
      have HC : Hid ((3 : Int) = 0 → (⟨l, c⟩ : Co) = (wordOf s).1) := fun _ => by rw [HWd.out]
      clear PC0 PL0
      go_enter Tryd.func64, Tryd.ntmps64
      go_wp2_with fail
      rw [HW.out]
      refine C.out.mono ?_
      rintro e w1 ⟨g, cap, rfl, hA⟩
      have B1 := Lib.hid (bnext B0.out hA.2.1)
      have TN := there_below T0.out hA.2.1
      have a0 : w1.cell? ⟨g, 0, none⟩ = some (.string l) := World.ownsRow.cellAt hA.1 0 (by simp)
      have hlt0 : g < w1.heap.size := World.block_lt_of_cell? w1 _ a0
      have a1 : w1.cell? ⟨g, 1, none⟩ = some (.string c) := World.ownsRow.cellAt hA.1 1 (by simp)
      clear hA
      obtain ⟨u0, x0, y0⟩ := there_at TN (k := 0) (by omega)
      obtain ⟨u1, x1, y1⟩ := there_at TN (k := 1) (by omega)
      have hlw : w.heap.size < w1.heap.size := World.block_lt_of_cell? w1 _ x0
      clear TN
      go_wp2_with (first | (go_at_call 83; refine (PC.out _).mono ?_; rintro e w2 ⟨rfl, rfl⟩) | (go_at_call 84; refine (PL.out _).mono ?_; rintro e w2 ⟨rfl, rfl⟩))
      have e0 : ∀ ob, (((w1.setCell ⟨w.heap.size, 0, none⟩ (.string l)).setCell ⟨w.heap.size, 1, none⟩ (.string c)).alloc ob).cell? ⟨w.heap.size, 0, none⟩ = some (.string l) := fun ob => (World.cell?_alloc_lt _ _ _ (by simpa using hlw)).trans (by simp [go_sem, x0])
      have e1 : ∀ ob, (((w1.setCell ⟨w.heap.size, 0, none⟩ (.string l)).setCell ⟨w.heap.size, 1, none⟩ (.string c)).alloc ob).cell? ⟨w.heap.size, 1, none⟩ = some (.string c) := fun ob => (World.cell?_alloc_lt _ _ _ (by simpa using hlw)).trans (by simp [go_sem, x1])
      refine bodyPost_ret (v := .tuple #[.agg #[.string l, .string c], .int .i64 3]) (by simp [results, Tryd.results64, go_sem, e0, e1]) rfl (wordS_of HN.out HC.out ?_)
      first
      | exact (((balloc B1.out _).setCell (by simp; omega) _).setCell (Nat.le_refl _) _).setCell (Nat.le_refl _) _
      | exact ((balloc B1.out _).setCell (Nat.le_refl _) _).setCell (Nat.le_refl _) _
      | exact balloc ((B1.out.setCell (Nat.le_refl _) _).setCell (Nat.le_refl _) _) _
    rw [hp] at PC0
    cases hq : plainB c
    · rw [hq] at PL0
      have PC := Lib.hid PC0
      have PL := Lib.hid PL0
      have HN : Hid ((wordOf s).2 = 3) := by show (wordOf s).2 = 3; rw [HWd.out]; simp [Co.fault, hq]
      have HC : Hid ((3 : Int) = 0 → (⟨l, c⟩ : Co) = (wordOf s).1) := fun _ => by rw [HWd.out]
      clear PC0 PL0
      go_enter Tryd.func64, Tryd.ntmps64
      go_wp2_with fail
      rw [HW.out]
      refine C.out.mono ?_
      rintro e w1 ⟨g, cap, rfl, hA⟩
      have B1 := Lib.hid (bnext B0.out hA.2.1)
      have TN := there_below T0.out hA.2.1
      have a0 : w1.cell? ⟨g, 0, none⟩ = some (.string l) := World.ownsRow.cellAt hA.1 0 (by simp)
      have hlt0 : g < w1.heap.size := World.block_lt_of_cell? w1 _ a0
      have a1 : w1.cell? ⟨g, 1, none⟩ = some (.string c) := World.ownsRow.cellAt hA.1 1 (by simp)
      clear hA
      obtain ⟨u0, x0, y0⟩ := there_at TN (k := 0) (by omega)
      obtain ⟨u1, x1, y1⟩ := there_at TN (k := 1) (by omega)
      have hlw : w.heap.size < w1.heap.size := World.block_lt_of_cell? w1 _ x0
      clear TN
      go_wp2_with (first | (go_at_call 83; refine (PC.out _).mono ?_; rintro e w2 ⟨rfl, rfl⟩) | (go_at_call 84; refine (PL.out _).mono ?_; rintro e w2 ⟨rfl, rfl⟩))
      have e0 : ∀ ob, (((w1.setCell ⟨w.heap.size, 0, none⟩ (.string l)).setCell ⟨w.heap.size, 1, none⟩ (.string c)).alloc ob).cell? ⟨w.heap.size, 0, none⟩ = some (.string l) := fun ob => (World.cell?_alloc_lt _ _ _ (by simpa using hlw)).trans (by simp [go_sem, x0])
      have e1 : ∀ ob, (((w1.setCell ⟨w.heap.size, 0, none⟩ (.string l)).setCell ⟨w.heap.size, 1, none⟩ (.string c)).alloc ob).cell? ⟨w.heap.size, 1, none⟩ = some (.string c) := fun ob => (World.cell?_alloc_lt _ _ _ (by simpa using hlw)).trans (by simp [go_sem, x1])
      refine bodyPost_ret (v := .tuple #[.agg #[.string l, .string c], .int .i64 3]) (by simp [results, Tryd.results64, go_sem, e0, e1]) rfl (wordS_of HN.out HC.out ?_)
      first
      | exact (((balloc B1.out _).setCell (by simp; omega) _).setCell (Nat.le_refl _) _).setCell (Nat.le_refl _) _
      | exact ((balloc B1.out _).setCell (Nat.le_refl _) _).setCell (Nat.le_refl _) _
      | exact balloc ((B1.out.setCell (Nat.le_refl _) _).setCell (Nat.le_refl _) _) _
    rw [hq] at PL0
    by_cases hz : 1 ≤ c.size
    case neg =>
      have PC := Lib.hid PC0
      have PL := Lib.hid PL0
      have HN : Hid ((wordOf s).2 = 4) := by show (wordOf s).2 = 4; rw [HWd.out]; have h0 : c.size = 0 := (by omega); simp [Co.fault, hp, hq, h0]
      have HC : Hid ((4 : Int) = 0 → (⟨l, c⟩ : Co) = (wordOf s).1) := fun _ => by rw [HWd.out]
      have hE := isE_of c hz
      clear PC0 PL0
      go_enter Tryd.func64, Tryd.ntmps64
      go_wp2_with fail
      rw [HW.out]
      refine C.out.mono ?_
      rintro e w1 ⟨g, cap, rfl, hA⟩
      have B1 := Lib.hid (bnext B0.out hA.2.1)
      have TN := there_below T0.out hA.2.1
      have a0 : w1.cell? ⟨g, 0, none⟩ = some (.string l) := World.ownsRow.cellAt hA.1 0 (by simp)
      have hlt0 : g < w1.heap.size := World.block_lt_of_cell? w1 _ a0
      have a1 : w1.cell? ⟨g, 1, none⟩ = some (.string c) := World.ownsRow.cellAt hA.1 1 (by simp)
      clear hA
      obtain ⟨u0, x0, y0⟩ := there_at TN (k := 0) (by omega)
      obtain ⟨u1, x1, y1⟩ := there_at TN (k := 1) (by omega)
      have hlw : w.heap.size < w1.heap.size := World.block_lt_of_cell? w1 _ x0
      clear TN
      go_wp2_with (first | (go_at_call 83; refine (PC.out _).mono ?_; rintro e w2 ⟨rfl, rfl⟩) | (go_at_call 84; refine (PL.out _).mono ?_; rintro e w2 ⟨rfl, rfl⟩))
      have e0 : ∀ ob, (((w1.setCell ⟨w.heap.size, 0, none⟩ (.string l)).setCell ⟨w.heap.size, 1, none⟩ (.string c)).alloc ob).cell? ⟨w.heap.size, 0, none⟩ = some (.string l) := fun ob => (World.cell?_alloc_lt _ _ _ (by simpa using hlw)).trans (by simp [go_sem, x0])
      have e1 : ∀ ob, (((w1.setCell ⟨w.heap.size, 0, none⟩ (.string l)).setCell ⟨w.heap.size, 1, none⟩ (.string c)).alloc ob).cell? ⟨w.heap.size, 1, none⟩ = some (.string c) := fun ob => (World.cell?_alloc_lt _ _ _ (by simpa using hlw)).trans (by simp [go_sem, x1])
      refine bodyPost_ret (v := .tuple #[.agg #[.string l, .string c], .int .i64 4]) (by simp [results, Tryd.results64, go_sem, e0, e1]) rfl (wordS_of HN.out HC.out ?_)
      first
      | exact (((balloc B1.out _).setCell (by simp; omega) _).setCell (Nat.le_refl _) _).setCell (Nat.le_refl _) _
      | exact ((balloc B1.out _).setCell (Nat.le_refl _) _).setCell (Nat.le_refl _) _
      | exact balloc ((B1.out.setCell (Nat.le_refl _) _).setCell (Nat.le_refl _) _) _
    have hE := toList_ne c hz
    by_cases hy : 1 ≤ l.size
    case neg =>
      have PC := Lib.hid PC0
      have PL := Lib.hid PL0
      have HN : Hid ((wordOf s).2 = 4) := by show (wordOf s).2 = 4; rw [HWd.out]; have h0 : l.size = 0 := (by omega); simp [Co.fault, hp, hq, h0]
      have HC : Hid ((4 : Int) = 0 → (⟨l, c⟩ : Co) = (wordOf s).1) := fun _ => by rw [HWd.out]
      have hL := isE_of l hy
      clear PC0 PL0
      go_enter Tryd.func64, Tryd.ntmps64
      go_wp2_with fail
      rw [HW.out]
      refine C.out.mono ?_
      rintro e w1 ⟨g, cap, rfl, hA⟩
      have B1 := Lib.hid (bnext B0.out hA.2.1)
      have TN := there_below T0.out hA.2.1
      have a0 : w1.cell? ⟨g, 0, none⟩ = some (.string l) := World.ownsRow.cellAt hA.1 0 (by simp)
      have hlt0 : g < w1.heap.size := World.block_lt_of_cell? w1 _ a0
      have a1 : w1.cell? ⟨g, 1, none⟩ = some (.string c) := World.ownsRow.cellAt hA.1 1 (by simp)
      clear hA
      obtain ⟨u0, x0, y0⟩ := there_at TN (k := 0) (by omega)
      obtain ⟨u1, x1, y1⟩ := there_at TN (k := 1) (by omega)
      have hlw : w.heap.size < w1.heap.size := World.block_lt_of_cell? w1 _ x0
      clear TN
      go_wp2_with (first | (go_at_call 83; refine (PC.out _).mono ?_; rintro e w2 ⟨rfl, rfl⟩) | (go_at_call 84; refine (PL.out _).mono ?_; rintro e w2 ⟨rfl, rfl⟩))
      have e0 : ∀ ob, (((w1.setCell ⟨w.heap.size, 0, none⟩ (.string l)).setCell ⟨w.heap.size, 1, none⟩ (.string c)).alloc ob).cell? ⟨w.heap.size, 0, none⟩ = some (.string l) := fun ob => (World.cell?_alloc_lt _ _ _ (by simpa using hlw)).trans (by simp [go_sem, x0])
      have e1 : ∀ ob, (((w1.setCell ⟨w.heap.size, 0, none⟩ (.string l)).setCell ⟨w.heap.size, 1, none⟩ (.string c)).alloc ob).cell? ⟨w.heap.size, 1, none⟩ = some (.string c) := fun ob => (World.cell?_alloc_lt _ _ _ (by simpa using hlw)).trans (by simp [go_sem, x1])
      refine bodyPost_ret (v := .tuple #[.agg #[.string l, .string c], .int .i64 4]) (by simp [results, Tryd.results64, go_sem, e0, e1]) rfl (wordS_of HN.out HC.out ?_)
      first
      | exact (((balloc B1.out _).setCell (by simp; omega) _).setCell (Nat.le_refl _) _).setCell (Nat.le_refl _) _
      | exact ((balloc B1.out _).setCell (Nat.le_refl _) _).setCell (Nat.le_refl _) _
      | exact balloc ((B1.out.setCell (Nat.le_refl _) _).setCell (Nat.le_refl _) _) _
    have hL := toList_ne l hy
    have hcs : ¬ c.size = 0 := by omega
    have hls : ¬ l.size = 0 := by omega
    by_cases h6 : 6 < l.size
    · have h6' : (6 : Int) < (l.size : Int) := by omega
      have PC := Lib.hid PC0
      have PL := Lib.hid PL0
      have HN : Hid ((wordOf s).2 = 5) := by show (wordOf s).2 = 5; rw [HWd.out]; simp [Co.fault, hp, hq, hcs, hls, h6]
      have HC : Hid ((5 : Int) = 0 → (⟨l, c⟩ : Co) = (wordOf s).1) := fun _ => by rw [HWd.out]
      clear hcs hls hz hy h6
      clear PC0 PL0
      go_enter Tryd.func64, Tryd.ntmps64
      go_wp2_with fail
      rw [HW.out]
      refine C.out.mono ?_
      rintro e w1 ⟨g, cap, rfl, hA⟩
      have B1 := Lib.hid (bnext B0.out hA.2.1)
      have TN := there_below T0.out hA.2.1
      have a0 : w1.cell? ⟨g, 0, none⟩ = some (.string l) := World.ownsRow.cellAt hA.1 0 (by simp)
      have hlt0 : g < w1.heap.size := World.block_lt_of_cell? w1 _ a0
      have a1 : w1.cell? ⟨g, 1, none⟩ = some (.string c) := World.ownsRow.cellAt hA.1 1 (by simp)
      clear hA
      obtain ⟨u0, x0, y0⟩ := there_at TN (k := 0) (by omega)
      obtain ⟨u1, x1, y1⟩ := there_at TN (k := 1) (by omega)
      have hlw : w.heap.size < w1.heap.size := World.block_lt_of_cell? w1 _ x0
      clear TN
      go_wp2_with (first | (go_at_call 83; refine (PC.out _).mono ?_; rintro e w2 ⟨rfl, rfl⟩) | (go_at_call 84; refine (PL.out _).mono ?_; rintro e w2 ⟨rfl, rfl⟩))
      have e0 : ∀ ob, (((w1.setCell ⟨w.heap.size, 0, none⟩ (.string l)).setCell ⟨w.heap.size, 1, none⟩ (.string c)).alloc ob).cell? ⟨w.heap.size, 0, none⟩ = some (.string l) := fun ob => (World.cell?_alloc_lt _ _ _ (by simpa using hlw)).trans (by simp [go_sem, x0])
      have e1 : ∀ ob, (((w1.setCell ⟨w.heap.size, 0, none⟩ (.string l)).setCell ⟨w.heap.size, 1, none⟩ (.string c)).alloc ob).cell? ⟨w.heap.size, 1, none⟩ = some (.string c) := fun ob => (World.cell?_alloc_lt _ _ _ (by simpa using hlw)).trans (by simp [go_sem, x1])
      refine bodyPost_ret (v := .tuple #[.agg #[.string l, .string c], .int .i64 5]) (by simp [results, Tryd.results64, go_sem, e0, e1]) rfl (wordS_of HN.out HC.out ?_)
      first
      | exact (((balloc B1.out _).setCell (by simp; omega) _).setCell (Nat.le_refl _) _).setCell (Nat.le_refl _) _
      | exact ((balloc B1.out _).setCell (Nat.le_refl _) _).setCell (Nat.le_refl _) _
      | exact balloc ((B1.out.setCell (Nat.le_refl _) _).setCell (Nat.le_refl _) _) _
    have h6' : ¬ (6 : Int) < (l.size : Int) := by omega
    by_cases h8 : 8 < c.size
    · have h8' : (8 : Int) < (c.size : Int) := by omega
      have PC := Lib.hid PC0
      have PL := Lib.hid PL0
      have HN : Hid ((wordOf s).2 = 5) := by show (wordOf s).2 = 5; rw [HWd.out]; simp [Co.fault, hp, hq, hcs, hls, h6, h8]
      have HC : Hid ((5 : Int) = 0 → (⟨l, c⟩ : Co) = (wordOf s).1) := fun _ => by rw [HWd.out]
      clear hcs hls hz hy h6 h8
      clear PC0 PL0
      go_enter Tryd.func64, Tryd.ntmps64
      go_wp2_with fail
      rw [HW.out]
      refine C.out.mono ?_
      rintro e w1 ⟨g, cap, rfl, hA⟩
      have B1 := Lib.hid (bnext B0.out hA.2.1)
      have TN := there_below T0.out hA.2.1
      have a0 : w1.cell? ⟨g, 0, none⟩ = some (.string l) := World.ownsRow.cellAt hA.1 0 (by simp)
      have hlt0 : g < w1.heap.size := World.block_lt_of_cell? w1 _ a0
      have a1 : w1.cell? ⟨g, 1, none⟩ = some (.string c) := World.ownsRow.cellAt hA.1 1 (by simp)
      clear hA
      obtain ⟨u0, x0, y0⟩ := there_at TN (k := 0) (by omega)
      obtain ⟨u1, x1, y1⟩ := there_at TN (k := 1) (by omega)
      have hlw : w.heap.size < w1.heap.size := World.block_lt_of_cell? w1 _ x0
      clear TN
      go_wp2_with (first | (go_at_call 83; refine (PC.out _).mono ?_; rintro e w2 ⟨rfl, rfl⟩) | (go_at_call 84; refine (PL.out _).mono ?_; rintro e w2 ⟨rfl, rfl⟩))
      have e0 : ∀ ob, (((w1.setCell ⟨w.heap.size, 0, none⟩ (.string l)).setCell ⟨w.heap.size, 1, none⟩ (.string c)).alloc ob).cell? ⟨w.heap.size, 0, none⟩ = some (.string l) := fun ob => (World.cell?_alloc_lt _ _ _ (by simpa using hlw)).trans (by simp [go_sem, x0])
      have e1 : ∀ ob, (((w1.setCell ⟨w.heap.size, 0, none⟩ (.string l)).setCell ⟨w.heap.size, 1, none⟩ (.string c)).alloc ob).cell? ⟨w.heap.size, 1, none⟩ = some (.string c) := fun ob => (World.cell?_alloc_lt _ _ _ (by simpa using hlw)).trans (by simp [go_sem, x1])
      refine bodyPost_ret (v := .tuple #[.agg #[.string l, .string c], .int .i64 5]) (by simp [results, Tryd.results64, go_sem, e0, e1]) rfl (wordS_of HN.out HC.out ?_)
      first
      | exact (((balloc B1.out _).setCell (by simp; omega) _).setCell (Nat.le_refl _) _).setCell (Nat.le_refl _) _
      | exact ((balloc B1.out _).setCell (Nat.le_refl _) _).setCell (Nat.le_refl _) _
      | exact balloc ((B1.out.setCell (Nat.le_refl _) _).setCell (Nat.le_refl _) _) _
    have h8' : ¬ (8 : Int) < (c.size : Int) := by omega
    have PC := Lib.hid PC0
    have PL := Lib.hid PL0
    have HN : Hid ((wordOf s).2 = 0) := by show (wordOf s).2 = 0; rw [HWd.out]; simp [Co.fault, hp, hq, hcs, hls, h6, h8]
    have HC : Hid ((0 : Int) = 0 → (⟨l, c⟩ : Co) = (wordOf s).1) := fun _ => by rw [HWd.out]
    clear hcs hls hz hy h6 h8
    clear PC0 PL0
    go_enter Tryd.func64, Tryd.ntmps64
    go_wp2_with fail
    rw [HW.out]
    refine C.out.mono ?_
    rintro e w1 ⟨g, cap, rfl, hA⟩
    have B1 := Lib.hid (bnext B0.out hA.2.1)
    have TN := there_below T0.out hA.2.1
    have a0 : w1.cell? ⟨g, 0, none⟩ = some (.string l) := World.ownsRow.cellAt hA.1 0 (by simp)
    have hlt0 : g < w1.heap.size := World.block_lt_of_cell? w1 _ a0
    have a1 : w1.cell? ⟨g, 1, none⟩ = some (.string c) := World.ownsRow.cellAt hA.1 1 (by simp)
    clear hA
    obtain ⟨u0, x0, y0⟩ := there_at TN (k := 0) (by omega)
    obtain ⟨u1, x1, y1⟩ := there_at TN (k := 1) (by omega)
    have hlw : w.heap.size < w1.heap.size := World.block_lt_of_cell? w1 _ x0
    clear TN
    go_wp2_with (first | (go_at_call 83; refine (PC.out _).mono ?_; rintro e w2 ⟨rfl, rfl⟩) | (go_at_call 84; refine (PL.out _).mono ?_; rintro e w2 ⟨rfl, rfl⟩))
    have e0 : ∀ ob, (((w1.setCell ⟨w.heap.size, 0, none⟩ (.string l)).setCell ⟨w.heap.size, 1, none⟩ (.string c)).alloc ob).cell? ⟨w.heap.size, 0, none⟩ = some (.string l) := fun ob => (World.cell?_alloc_lt _ _ _ (by simpa using hlw)).trans (by simp [go_sem, x0])
    have e1 : ∀ ob, (((w1.setCell ⟨w.heap.size, 0, none⟩ (.string l)).setCell ⟨w.heap.size, 1, none⟩ (.string c)).alloc ob).cell? ⟨w.heap.size, 1, none⟩ = some (.string c) := fun ob => (World.cell?_alloc_lt _ _ _ (by simpa using hlw)).trans (by simp [go_sem, x1])
    refine bodyPost_ret (v := .tuple #[.agg #[.string l, .string c], .int .i64 0]) (by simp [results, Tryd.results64, go_sem, e0, e1]) rfl (wordS_of HN.out (fun _ => HC.out trivial) ?_)
    first
    | exact (((balloc B1.out _).setCell (by simp; omega) _).setCell (Nat.le_refl _) _).setCell (Nat.le_refl _) _
    | exact ((balloc B1.out _).setCell (Nat.le_refl _) _).setCell (Nat.le_refl _) _
    | exact balloc ((B1.out.setCell (Nat.le_refl _) _).setCell (Nat.le_refl _) _) _
  have h0 : P.length = 1 := by
    have := splitB_count 43 s
    rw [HP.out] at this
    omega
  obtain ⟨c, hab⟩ : ∃ a, P = [a] := by
    match P, h0 with
    | [a], _ => exact ⟨a, rfl⟩
  subst hab
  have HWd : Hid (wordOf s = (⟨⟨#[]⟩, c⟩, Co.fault ⟨⟨#[]⟩, c⟩ false)) := by show wordOf s = _; unfold wordOf; rw [HP.out]; rfl
  have PC0 := pieces_spec ⟨#[]⟩ (by decide)
  have PL0 := plain_spec c (HS c (by simp))
  clear h0 h1 h2 HS
  have hp : piecesB ⟨#[]⟩ = true := rfl
  rw [hp] at PC0
  cases hq : plainB c
  · rw [hq] at PL0
    have PC := Lib.hid PC0
    have PL := Lib.hid PL0
    have HN : Hid ((wordOf s).2 = 3) := by show (wordOf s).2 = 3; rw [HWd.out]; simp [Co.fault, hq]
    have HC : Hid ((3 : Int) = 0 → (⟨⟨#[]⟩, c⟩ : Co) = (wordOf s).1) := fun _ => by rw [HWd.out]
    clear PC0 PL0
    go_enter Tryd.func64, Tryd.ntmps64
    go_wp2_with fail
    rw [HW.out]
    refine C.out.mono ?_
    rintro e w1 ⟨g, cap, rfl, hA⟩
    have B1 := Lib.hid (bnext B0.out hA.2.1)
    have TN := there_below T0.out hA.2.1
    have a0 : w1.cell? ⟨g, 0, none⟩ = some (.string c) := World.ownsRow.cellAt hA.1 0 (by simp)
    have hlt0 : g < w1.heap.size := World.block_lt_of_cell? w1 _ a0
    clear hA
    obtain ⟨u0, x0, y0⟩ := there_at TN (k := 0) (by omega)
    obtain ⟨u1, x1, y1⟩ := there_at TN (k := 1) (by omega)
    have hlw : w.heap.size < w1.heap.size := World.block_lt_of_cell? w1 _ x0
    clear TN
    go_wp2_with (first | (go_at_call 83; refine (PC.out _).mono ?_; rintro e w2 ⟨rfl, rfl⟩) | (go_at_call 84; refine (PL.out _).mono ?_; rintro e w2 ⟨rfl, rfl⟩))
    have e0 : ∀ ob, (((w1.setCell ⟨w.heap.size, 0, none⟩ (.string ⟨#[]⟩)).setCell ⟨w.heap.size, 1, none⟩ (.string c)).alloc ob).cell? ⟨w.heap.size, 0, none⟩ = some (.string ⟨#[]⟩) := fun ob => (World.cell?_alloc_lt _ _ _ (by simpa using hlw)).trans (by simp [go_sem, x0])
    have e1 : ∀ ob, (((w1.setCell ⟨w.heap.size, 0, none⟩ (.string ⟨#[]⟩)).setCell ⟨w.heap.size, 1, none⟩ (.string c)).alloc ob).cell? ⟨w.heap.size, 1, none⟩ = some (.string c) := fun ob => (World.cell?_alloc_lt _ _ _ (by simpa using hlw)).trans (by simp [go_sem, x1])
    refine bodyPost_ret (v := .tuple #[.agg #[.string ⟨#[]⟩, .string c], .int .i64 3]) (by simp [results, Tryd.results64, go_sem, e0, e1]) rfl (wordS_of HN.out HC.out ?_)
    first
    | exact (((balloc B1.out _).setCell (by simp; omega) _).setCell (Nat.le_refl _) _).setCell (Nat.le_refl _) _
    | exact ((balloc B1.out _).setCell (Nat.le_refl _) _).setCell (Nat.le_refl _) _
    | exact balloc ((B1.out.setCell (Nat.le_refl _) _).setCell (Nat.le_refl _) _) _
  rw [hq] at PL0
  by_cases hz : 1 ≤ c.size
  case neg =>
    have PC := Lib.hid PC0
    have PL := Lib.hid PL0
    have HN : Hid ((wordOf s).2 = 4) := by show (wordOf s).2 = 4; rw [HWd.out]; have h0 : c.size = 0 := (by omega); simp [Co.fault, hp, hq, h0]
    have HC : Hid ((4 : Int) = 0 → (⟨⟨#[]⟩, c⟩ : Co) = (wordOf s).1) := fun _ => by rw [HWd.out]
    have hE := isE_of c hz
    clear PC0 PL0
    go_enter Tryd.func64, Tryd.ntmps64
    go_wp2_with fail
    rw [HW.out]
    refine C.out.mono ?_
    rintro e w1 ⟨g, cap, rfl, hA⟩
    have B1 := Lib.hid (bnext B0.out hA.2.1)
    have TN := there_below T0.out hA.2.1
    have a0 : w1.cell? ⟨g, 0, none⟩ = some (.string c) := World.ownsRow.cellAt hA.1 0 (by simp)
    have hlt0 : g < w1.heap.size := World.block_lt_of_cell? w1 _ a0
    clear hA
    obtain ⟨u0, x0, y0⟩ := there_at TN (k := 0) (by omega)
    obtain ⟨u1, x1, y1⟩ := there_at TN (k := 1) (by omega)
    have hlw : w.heap.size < w1.heap.size := World.block_lt_of_cell? w1 _ x0
    clear TN
    go_wp2_with (first | (go_at_call 83; refine (PC.out _).mono ?_; rintro e w2 ⟨rfl, rfl⟩) | (go_at_call 84; refine (PL.out _).mono ?_; rintro e w2 ⟨rfl, rfl⟩))
    have e0 : ∀ ob, (((w1.setCell ⟨w.heap.size, 0, none⟩ (.string ⟨#[]⟩)).setCell ⟨w.heap.size, 1, none⟩ (.string c)).alloc ob).cell? ⟨w.heap.size, 0, none⟩ = some (.string ⟨#[]⟩) := fun ob => (World.cell?_alloc_lt _ _ _ (by simpa using hlw)).trans (by simp [go_sem, x0])
    have e1 : ∀ ob, (((w1.setCell ⟨w.heap.size, 0, none⟩ (.string ⟨#[]⟩)).setCell ⟨w.heap.size, 1, none⟩ (.string c)).alloc ob).cell? ⟨w.heap.size, 1, none⟩ = some (.string c) := fun ob => (World.cell?_alloc_lt _ _ _ (by simpa using hlw)).trans (by simp [go_sem, x1])
    refine bodyPost_ret (v := .tuple #[.agg #[.string ⟨#[]⟩, .string c], .int .i64 4]) (by simp [results, Tryd.results64, go_sem, e0, e1]) rfl (wordS_of HN.out HC.out ?_)
    first
    | exact (((balloc B1.out _).setCell (by simp; omega) _).setCell (Nat.le_refl _) _).setCell (Nat.le_refl _) _
    | exact ((balloc B1.out _).setCell (Nat.le_refl _) _).setCell (Nat.le_refl _) _
    | exact balloc ((B1.out.setCell (Nat.le_refl _) _).setCell (Nat.le_refl _) _) _
  have hE := toList_ne c hz
  have hcs : ¬ c.size = 0 := by omega
  by_cases h8 : 8 < c.size
  · have h8' : (8 : Int) < (c.size : Int) := by omega
    have PC := Lib.hid PC0
    have PL := Lib.hid PL0
    have HN : Hid ((wordOf s).2 = 5) := by show (wordOf s).2 = 5; rw [HWd.out]; simp [Co.fault, hp, hq, hcs, h8]
    have HC : Hid ((5 : Int) = 0 → (⟨⟨#[]⟩, c⟩ : Co) = (wordOf s).1) := fun _ => by rw [HWd.out]
    clear hcs hz h8
    clear PC0 PL0
    go_enter Tryd.func64, Tryd.ntmps64
    go_wp2_with fail
    rw [HW.out]
    refine C.out.mono ?_
    rintro e w1 ⟨g, cap, rfl, hA⟩
    have B1 := Lib.hid (bnext B0.out hA.2.1)
    have TN := there_below T0.out hA.2.1
    have a0 : w1.cell? ⟨g, 0, none⟩ = some (.string c) := World.ownsRow.cellAt hA.1 0 (by simp)
    have hlt0 : g < w1.heap.size := World.block_lt_of_cell? w1 _ a0
    clear hA
    obtain ⟨u0, x0, y0⟩ := there_at TN (k := 0) (by omega)
    obtain ⟨u1, x1, y1⟩ := there_at TN (k := 1) (by omega)
    have hlw : w.heap.size < w1.heap.size := World.block_lt_of_cell? w1 _ x0
    clear TN
    go_wp2_with (first | (go_at_call 83; refine (PC.out _).mono ?_; rintro e w2 ⟨rfl, rfl⟩) | (go_at_call 84; refine (PL.out _).mono ?_; rintro e w2 ⟨rfl, rfl⟩))
    have e0 : ∀ ob, (((w1.setCell ⟨w.heap.size, 0, none⟩ (.string ⟨#[]⟩)).setCell ⟨w.heap.size, 1, none⟩ (.string c)).alloc ob).cell? ⟨w.heap.size, 0, none⟩ = some (.string ⟨#[]⟩) := fun ob => (World.cell?_alloc_lt _ _ _ (by simpa using hlw)).trans (by simp [go_sem, x0])
    have e1 : ∀ ob, (((w1.setCell ⟨w.heap.size, 0, none⟩ (.string ⟨#[]⟩)).setCell ⟨w.heap.size, 1, none⟩ (.string c)).alloc ob).cell? ⟨w.heap.size, 1, none⟩ = some (.string c) := fun ob => (World.cell?_alloc_lt _ _ _ (by simpa using hlw)).trans (by simp [go_sem, x1])
    refine bodyPost_ret (v := .tuple #[.agg #[.string ⟨#[]⟩, .string c], .int .i64 5]) (by simp [results, Tryd.results64, go_sem, e0, e1]) rfl (wordS_of HN.out HC.out ?_)
    first
    | exact (((balloc B1.out _).setCell (by simp; omega) _).setCell (Nat.le_refl _) _).setCell (Nat.le_refl _) _
    | exact ((balloc B1.out _).setCell (Nat.le_refl _) _).setCell (Nat.le_refl _) _
    | exact balloc ((B1.out.setCell (Nat.le_refl _) _).setCell (Nat.le_refl _) _) _
  have h8' : ¬ (8 : Int) < (c.size : Int) := by omega
  have PC := Lib.hid PC0
  have PL := Lib.hid PL0
  have HN : Hid ((wordOf s).2 = 0) := by show (wordOf s).2 = 0; rw [HWd.out]; simp [Co.fault, hp, hq, hcs, show (⟨#[]⟩ : ByteArray).size ≤ 6 by decide, h8]
  have HC : Hid ((0 : Int) = 0 → (⟨⟨#[]⟩, c⟩ : Co) = (wordOf s).1) := fun _ => by rw [HWd.out]
  clear hcs hz h8
  clear PC0 PL0
  go_enter Tryd.func64, Tryd.ntmps64
  go_wp2_with fail
  rw [HW.out]
  refine C.out.mono ?_
  rintro e w1 ⟨g, cap, rfl, hA⟩
  have B1 := Lib.hid (bnext B0.out hA.2.1)
  have TN := there_below T0.out hA.2.1
  have a0 : w1.cell? ⟨g, 0, none⟩ = some (.string c) := World.ownsRow.cellAt hA.1 0 (by simp)
  have hlt0 : g < w1.heap.size := World.block_lt_of_cell? w1 _ a0
  clear hA
  obtain ⟨u0, x0, y0⟩ := there_at TN (k := 0) (by omega)
  obtain ⟨u1, x1, y1⟩ := there_at TN (k := 1) (by omega)
  have hlw : w.heap.size < w1.heap.size := World.block_lt_of_cell? w1 _ x0
  clear TN
  go_wp2_with (first | (go_at_call 83; refine (PC.out _).mono ?_; rintro e w2 ⟨rfl, rfl⟩) | (go_at_call 84; refine (PL.out _).mono ?_; rintro e w2 ⟨rfl, rfl⟩))
  have e0 : ∀ ob, (((w1.setCell ⟨w.heap.size, 0, none⟩ (.string ⟨#[]⟩)).setCell ⟨w.heap.size, 1, none⟩ (.string c)).alloc ob).cell? ⟨w.heap.size, 0, none⟩ = some (.string ⟨#[]⟩) := fun ob => (World.cell?_alloc_lt _ _ _ (by simpa using hlw)).trans (by simp [go_sem, x0])
  have e1 : ∀ ob, (((w1.setCell ⟨w.heap.size, 0, none⟩ (.string ⟨#[]⟩)).setCell ⟨w.heap.size, 1, none⟩ (.string c)).alloc ob).cell? ⟨w.heap.size, 1, none⟩ = some (.string c) := fun ob => (World.cell?_alloc_lt _ _ _ (by simpa using hlw)).trans (by simp [go_sem, x1])
  refine bodyPost_ret (v := .tuple #[.agg #[.string ⟨#[]⟩, .string c], .int .i64 0]) (by simp [results, Tryd.results64, go_sem, e0, e1]) rfl (wordS_of HN.out (fun _ => HC.out trivial) ?_)
  first
  | exact (((balloc B1.out _).setCell (by simp; omega) _).setCell (Nat.le_refl _) _).setCell (Nat.le_refl _) _
  | exact ((balloc B1.out _).setCell (Nat.le_refl _) _).setCell (Nat.le_refl _) _
  | exact balloc ((B1.out.setCell (Nat.le_refl _) _).setCell (Nat.le_refl _) _) _
end Go.Proofs.YtgffgcobgjngnaaDoor
