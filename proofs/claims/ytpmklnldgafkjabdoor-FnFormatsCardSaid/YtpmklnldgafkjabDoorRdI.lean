/-
  ReadClay: the program's answer.
-/
import Derived.Test.YtpmklnldgafkjabDoorRdS
import Derived.Test.YtpmklnldgafkjabDoorNumI
import Derived.Test.YtpmklnldgafkjabDoorSplitI
import Derived.Test.YtpmklnldgafkjabDoorClTxtJ
namespace Go.Proofs.YtpmklnldgafkjabDoor
open Go.ChangeShapes Go.WideShapes Go.ChangeAt Go.RowKit Go.Joins

theorem word_size {s x : ByteArray} (h : x ∈ wordsOf s) : x.size ≤ s.size := by
  rw [← parts_words s] at h
  have h2 := (List.mem_filter.1 h).1
  unfold cutParts at h2
  obtain ⟨q, _, rfl⟩ := List.mem_map.1 h2
  rw [ByteArray.size_extract]
  omega
theorem gSynC : Tryd.prog.globalNamed "strconv.ErrSyntax" = some 2 := by kernel_rfl

/-- The box of a clay. -/
def RdBox (B : Nat) (nm : ByteArray) (a b c d : Int) (w : World) : Prop :=
  w.cell? ⟨B, 0, none⟩ = some (.string nm) ∧ w.cell? ⟨B, 1, none⟩ = some (.int .i64 a) ∧ w.cell? ⟨B, 2, none⟩ = some (.int .i64 b) ∧ w.cell? ⟨B, 3, none⟩ = some (.int .i64 c) ∧ w.cell? ⟨B, 4, none⟩ = some (.int .i64 d) ∧ w.there B 0 5
theorem RdBox.later {B : Nat} {nm : ByteArray} {a b c d : Int} {w w' : World} (h : RdBox B nm a b c d w) (hb : Below w.heap.size w w') : RdBox B nm a b c d w' := by
  obtain ⟨h0, h1, h2, h3, h4, h5⟩ := h
  have hl := World.block_lt_of_cell? w _ h0
  exact ⟨(hb.cell (p := ⟨B, 0, none⟩) hl).trans h0, (hb.cell (p := ⟨B, 1, none⟩) hl).trans h1, (hb.cell (p := ⟨B, 2, none⟩) hl).trans h2, (hb.cell (p := ⟨B, 3, none⟩) hl).trans h3, (hb.cell (p := ⟨B, 4, none⟩) hl).trans h4, there_below h5 hb⟩
theorem RdBox.set1 {B : Nat} {nm : ByteArray} {a b c d : Int} {w : World} (h : RdBox B nm a b c d w) (x : Int) : RdBox B nm x b c d (w.setCell ⟨B, 1, none⟩ (.int .i64 x)) := by
  obtain ⟨h0, h1, h2, h3, h4, h5⟩ := h
  refine ⟨?_, ?_, ?_, ?_, ?_, (int_store h5 (by omega) _).1⟩ <;> first | exact World.cell?_setCell_same _ _ _ h1 | exact (World.cell?_setCell_other _ _ _ _ (by simp)).trans (by assumption)
theorem RdBox.set2 {B : Nat} {nm : ByteArray} {a b c d : Int} {w : World} (h : RdBox B nm a b c d w) (x : Int) : RdBox B nm a x c d (w.setCell ⟨B, 2, none⟩ (.int .i64 x)) := by
  obtain ⟨h0, h1, h2, h3, h4, h5⟩ := h
  refine ⟨?_, ?_, ?_, ?_, ?_, (int_store h5 (by omega) _).1⟩ <;> first | exact World.cell?_setCell_same _ _ _ h2 | exact (World.cell?_setCell_other _ _ _ _ (by simp)).trans (by assumption)
theorem RdBox.set3 {B : Nat} {nm : ByteArray} {a b c d : Int} {w : World} (h : RdBox B nm a b c d w) (x : Int) : RdBox B nm a b x d (w.setCell ⟨B, 3, none⟩ (.int .i64 x)) := by
  obtain ⟨h0, h1, h2, h3, h4, h5⟩ := h
  refine ⟨?_, ?_, ?_, ?_, ?_, (int_store h5 (by omega) _).1⟩ <;> first | exact World.cell?_setCell_same _ _ _ h3 | exact (World.cell?_setCell_other _ _ _ _ (by simp)).trans (by assumption)
theorem RdBox.set4 {B : Nat} {nm : ByteArray} {a b c d : Int} {w : World} (h : RdBox B nm a b c d w) (x : Int) : RdBox B nm a b c x (w.setCell ⟨B, 4, none⟩ (.int .i64 x)) := by
  obtain ⟨h0, h1, h2, h3, h4, h5⟩ := h
  refine ⟨?_, ?_, ?_, ?_, ?_, (int_store h5 (by omega) _).1⟩ <;> first | exact World.cell?_setCell_same _ _ _ h4 | exact (World.cell?_setCell_other _ _ _ _ (by simp)).trans (by assumption)
/-- The row of the four fields' addresses. -/
def RdPtr (Q B : Nat) (w : World) : Prop :=
  w.cell? ⟨Q, 0, none⟩ = some (.pointer (some ⟨B, 1, none⟩)) ∧ w.cell? ⟨Q, 1, none⟩ = some (.pointer (some ⟨B, 2, none⟩)) ∧ w.cell? ⟨Q, 2, none⟩ = some (.pointer (some ⟨B, 3, none⟩)) ∧ w.cell? ⟨Q, 3, none⟩ = some (.pointer (some ⟨B, 4, none⟩))
theorem RdPtr.later {Q B : Nat} {w w' : World} (h : RdPtr Q B w) (hb : Below w.heap.size w w') : RdPtr Q B w' := by
  obtain ⟨h0, h1, h2, h3⟩ := h
  have hl := World.block_lt_of_cell? w _ h0
  exact ⟨(hb.cell (p := ⟨Q, 0, none⟩) hl).trans h0, (hb.cell (p := ⟨Q, 1, none⟩) hl).trans h1, (hb.cell (p := ⟨Q, 2, none⟩) hl).trans h2, (hb.cell (p := ⟨Q, 3, none⟩) hl).trans h3⟩
theorem RdPtr.set {Q B : Nat} {w : World} (h : RdPtr Q B w) (hn : B ≠ Q) (o : Nat) (v : Value) : RdPtr Q B (w.setCell ⟨B, o, none⟩ v) := by
  obtain ⟨h0, h1, h2, h3⟩ := h
  exact ⟨(World.cell?_setCell_far _ _ _ _ hn).trans h0, (World.cell?_setCell_far _ _ _ _ hn).trans h1, (World.cell?_setCell_far _ _ _ _ hn).trans h2, (World.cell?_setCell_far _ _ _ _ hn).trans h3⟩
theorem rdPtr_new (w : World) (B : Nat) (t : TypeId) : RdPtr w.heap.size B (w.alloc (.cells #[.pointer (some ⟨B, 1, none⟩), .pointer (some ⟨B, 2, none⟩), .pointer (some ⟨B, 3, none⟩), .pointer (some ⟨B, 4, none⟩)] t)) := by
  refine ⟨?_, ?_, ?_, ?_⟩ <;> (rw [cell_of_row _ _ _ _ t (0, 0) (heap_alloc_new w _)]; rfl)
/-- What the first k of four numbers hold. -/
def sel (k j : Nat) (v : Int) : Int := if j < k then v else 0


set_option maxRecDepth 100000 in
set_option maxHeartbeats 6400000 in
theorem readClay_impl (s : ByteArray) (hs : s.size ≤ 1048576) (tp : TypeId) (p : Value) (w : World) (hp : Pow10 w) (hv : w.var? Tryd.prog "strconv.ErrSyntax" = some #[.iface tp p]) : Calls Tryd.prog 13 #[.string s] w fun e w' => ClRead s e ∧ Below w.heap.size w w' := by
  have C := Lib.hid (words_impl s hs (w.alloc (.cells #[.string ⟨#[]⟩, .int .i64 0, .int .i64 0, .int .i64 0, .int .i64 0] 26)))
  have B0 : Hid (Below w.heap.size w (w.alloc (.cells #[.string ⟨#[]⟩, .int .i64 0, .int .i64 0, .int .i64 0, .int .i64 0] 26))) := balloc0 _ _
  have T0 : Hid ((w.alloc (.cells #[.string ⟨#[]⟩, .int .i64 0, .int .i64 0, .int .i64 0, .int .i64 0] 26)).there w.heap.size 0 5) := there_new w _ _ 5 rfl
  obtain ⟨W0, hW⟩ : ∃ W0, w.alloc (.cells #[.string ⟨#[]⟩, .int .i64 0, .int .i64 0, .int .i64 0, .int .i64 0] 26) = W0 := ⟨_, rfl⟩
  rw [hW] at C B0 T0
  have HW := Lib.hid hW
  clear hW
  have HS : Hid (∀ x ∈ wordsOf s, x.size ≤ 1048576) := fun x hx => Nat.le_trans (word_size hx) hs
  have HC : Hid (∀ c : Cl, c.ok = true → clT c = s → wordsOf s = clW c) := fun c h1 h2 => (clay_parts h1 h2).2
  have HP : Hid (∀ wx, Below w.heap.size w wx → Pow10 wx) := fun wx h => hp.later h
  have HV : Hid (∀ wx, Below w.heap.size w wx → wx.var? Tryd.prog "strconv.ErrSyntax" = some #[.iface tp p]) := fun wx h => var_stays gSynC hv h (Nat.le_refl _)
  clear hp hv
  obtain ⟨P, hP⟩ : ∃ P, wordsOf s = P := ⟨_, rfl⟩
  rw [hP] at C HS HC
  have HPW := Lib.hid hP
  clear hs hP
  by_cases h9 : P.length = 9
  case neg =>
    have HN : Hid (ClRead s (.returned (.tuple #[.agg #[.string ⟨#[]⟩, .int .i64 0, .int .i64 0, .int .i64 0, .int .i64 0], .bool false]))) := .inr ⟨fun c h1 h2 => h9 (by rw [HC.out c h1 h2]; rfl), rfl⟩
    have h9' : ¬ (P.length : Int) = 9 := by omega
    clear h9
    go_enter Tryd.func13, Tryd.ntmps13
    go_wp2_with fail
    rw [HW.out]
    refine C.out.mono ?_
    rintro e w1 ⟨g, cap, rfl, hA⟩
    have B1 := Lib.hid (bnext B0.out hA.2.1)
    have TN := there_below T0.out hA.2.1
    clear hA
    obtain ⟨u0, x0, y0⟩ := there_at TN (k := 0) (by omega)
    obtain ⟨u1, x1, y1⟩ := there_at TN (k := 1) (by omega)
    obtain ⟨u2, x2, y2⟩ := there_at TN (k := 2) (by omega)
    obtain ⟨u3, x3, y3⟩ := there_at TN (k := 3) (by omega)
    obtain ⟨u4, x4, y4⟩ := there_at TN (k := 4) (by omega)
    clear TN
    go_wp2
    refine bodyPost_ret (v := .tuple #[.agg #[.string ⟨#[]⟩, .int .i64 0, .int .i64 0, .int .i64 0, .int .i64 0], .bool false]) (by simp [results, Tryd.results13, go_sem, x0, x1, x2, x3, x4]) rfl ⟨HN.out, (((((B1.out.setCell (Nat.le_refl _) _).setCell (Nat.le_refl _) _).setCell (Nat.le_refl _) _).setCell (Nat.le_refl _) _).setCell (Nat.le_refl _) _)⟩
  obtain ⟨p0, p1, p2, p3, p4, p5, p6, p7, p8, hP9⟩ := nine h9
  subst hP9
  obtain ⟨v1, hv1⟩ : ∃ v, (numR p2.data.toList).getD 0 = v := ⟨_, rfl⟩
  obtain ⟨b1, hb1⟩ : ∃ b, (numR p2.data.toList).isSome = b := ⟨_, rfl⟩
  have N1 : Hid (∀ wx, Below w.heap.size w wx → Calls Tryd.prog 36 #[.string p2] wx fun e w' => e = .returned (.tuple #[.int .i64 v1, .bool b1]) ∧ Below wx.heap.size wx w') := fun wx h => by
    rw [← hv1, ← hb1]
    exact number_impl p2 (HS.out _ (by simp)) tp p wx (HP.out _ h) (HV.out _ h)
  have G1 := Lib.hid (numR_cases p2.data.toList)
  rw [hv1, hb1] at G1
  have V1 := Lib.hid hv1
  clear hv1 hb1
  obtain ⟨v2, hv2⟩ : ∃ v, (numR p4.data.toList).getD 0 = v := ⟨_, rfl⟩
  obtain ⟨b2, hb2⟩ : ∃ b, (numR p4.data.toList).isSome = b := ⟨_, rfl⟩
  have N2 : Hid (∀ wx, Below w.heap.size w wx → Calls Tryd.prog 36 #[.string p4] wx fun e w' => e = .returned (.tuple #[.int .i64 v2, .bool b2]) ∧ Below wx.heap.size wx w') := fun wx h => by
    rw [← hv2, ← hb2]
    exact number_impl p4 (HS.out _ (by simp)) tp p wx (HP.out _ h) (HV.out _ h)
  have G2 := Lib.hid (numR_cases p4.data.toList)
  rw [hv2, hb2] at G2
  have V2 := Lib.hid hv2
  clear hv2 hb2
  obtain ⟨v3, hv3⟩ : ∃ v, (numR p6.data.toList).getD 0 = v := ⟨_, rfl⟩
  obtain ⟨b3, hb3⟩ : ∃ b, (numR p6.data.toList).isSome = b := ⟨_, rfl⟩
  have N3 : Hid (∀ wx, Below w.heap.size w wx → Calls Tryd.prog 36 #[.string p6] wx fun e w' => e = .returned (.tuple #[.int .i64 v3, .bool b3]) ∧ Below wx.heap.size wx w') := fun wx h => by
    rw [← hv3, ← hb3]
    exact number_impl p6 (HS.out _ (by simp)) tp p wx (HP.out _ h) (HV.out _ h)
  have G3 := Lib.hid (numR_cases p6.data.toList)
  rw [hv3, hb3] at G3
  have V3 := Lib.hid hv3
  clear hv3 hb3
  obtain ⟨v4, hv4⟩ : ∃ v, (numR p8.data.toList).getD 0 = v := ⟨_, rfl⟩
  obtain ⟨b4, hb4⟩ : ∃ b, (numR p8.data.toList).isSome = b := ⟨_, rfl⟩
  have N4 : Hid (∀ wx, Below w.heap.size w wx → Calls Tryd.prog 36 #[.string p8] wx fun e w' => e = .returned (.tuple #[.int .i64 v4, .bool b4]) ∧ Below wx.heap.size wx w') := fun wx h => by
    rw [← hv4, ← hb4]
    exact number_impl p8 (HS.out _ (by simp)) tp p wx (HP.out _ h) (HV.out _ h)
  have G4 := Lib.hid (numR_cases p8.data.toList)
  rw [hv4, hb4] at G4
  have V4 := Lib.hid hv4
  clear hv4 hb4
  go_enter Tryd.func13, Tryd.ntmps13
  go_wp2_with fail
  rw [HW.out]
  refine C.out.mono ?_
  rintro e w1 ⟨g, cap, rfl, hA⟩
  have B1 := Lib.hid (bnext B0.out hA.2.1)
  have TN1 := Lib.hid (there_below T0.out hA.2.1)
  have HPA := Lib.hid hA
  have a0 := parts_cell HPA.out (Below.refl _ _) 0 p0 rfl
  clear hA
  go_wp2
  have R0 : Hid (RdBox w1.heap.size p0 0 0 0 0 (w1.alloc (.cells #[.string p0, .int .i64 0, .int .i64 0, .int .i64 0, .int .i64 0] 26))) := by
    obtain ⟨c0, c1, c2, c3, c4⟩ := clay_new w1 ⟨p0, 0, 0, 0, 0⟩ 26
    exact Lib.hid ⟨c0, c1, c2, c3, c4, there_new w1 _ _ 5 rfl⟩
  have E0 := balloc0 w1 (.cells #[.string p0, .int .i64 0, .int .i64 0, .int .i64 0, .int .i64 0] 26)
  have hsz : (w1.alloc (.cells #[.string p0, .int .i64 0, .int .i64 0, .int .i64 0, .int .i64 0] 26)).heap.size = w1.heap.size + 1 := by simp
  obtain ⟨wb, hwb⟩ : ∃ wb, w1.alloc (.cells #[.string p0, .int .i64 0, .int .i64 0, .int .i64 0, .int .i64 0] 26) = wb := ⟨_, rfl⟩
  rw [hwb] at R0 E0 hsz ⊢
  clear hwb
  have Q0 := rdPtr_new wb w1.heap.size 67
  have R1 := Lib.hid (R0.out.later (balloc0 wb (.cells #[.pointer (some ⟨w1.heap.size, 1, none⟩), .pointer (some ⟨w1.heap.size, 2, none⟩), .pointer (some ⟨w1.heap.size, 3, none⟩), .pointer (some ⟨w1.heap.size, 4, none⟩)] 67)))
  have E1 := Lib.hid (balloc E0 (.cells #[.pointer (some ⟨w1.heap.size, 1, none⟩), .pointer (some ⟨w1.heap.size, 2, none⟩), .pointer (some ⟨w1.heap.size, 3, none⟩), .pointer (some ⟨w1.heap.size, 4, none⟩)] 67))
  rw [hsz] at Q0
  obtain ⟨w2, hw2⟩ : ∃ w2, wb.alloc (.cells #[.pointer (some ⟨w1.heap.size, 1, none⟩), .pointer (some ⟨w1.heap.size, 2, none⟩), .pointer (some ⟨w1.heap.size, 3, none⟩), .pointer (some ⟨w1.heap.size, 4, none⟩)] 67) = w2 := ⟨_, rfl⟩
  rw [hw2] at R1 E1 Q0 ⊢
  have Q1 := Lib.hid Q0
  clear hw2 hsz E0 R0 Q0 a0
  go_loopw [26] (fun i wr => ∃ k : Nat, k ≤ 4 ∧ i = .int .i64 k ∧ Hid (RdBox w1.heap.size p0 (sel k 0 v1) (sel k 1 v2) (sel k 2 v3) (sel k 3 v4) wr) ∧ Hid (RdPtr (w1.heap.size + 1) w1.heap.size wr) ∧ Hid (Below w1.heap.size w1 wr) ∧ Hid ((1 ≤ k → numR p2.data.toList = some v1) ∧ (2 ≤ k → numR p4.data.toList = some v2) ∧ (3 ≤ k → numR p6.data.toList = some v3) ∧ (4 ≤ k → numR p8.data.toList = some v4))) (fun i _ => 4 - (intOf i).toNat)
  case atStart => exact ⟨0, by omega, rfl, R1.out, Q1.out, E1.out, Lib.hid ⟨fun h => by omega, fun h => by omega, fun h => by omega, fun h => by omega⟩⟩
  case round =>
    obtain ⟨k, hk, rfl, hR, hQ, hE, hK⟩ := hrel
    have BR := Lib.hid (bnext B1.out hE.out)
    have hk5 : k = 0 ∨ k = 1 ∨ k = 2 ∨ k = 3 ∨ k = 4 := by omega
    rcases hk5 with rfl | rfl | rfl | rfl | rfl
    · obtain ⟨q0, q1, q2, q3⟩ := hQ.out
      obtain ⟨r0, r1, r2, r3, r4, r5⟩ := hR.out
      have a2 := parts_cell HPA.out hE.out 2 p2 rfl
      cases b1
      case false =>
        have HN : Hid (ClRead s (.returned (.tuple #[.agg #[.string ⟨#[]⟩, .int .i64 0, .int .i64 0, .int .i64 0, .int .i64 0], .bool false]))) := .inr ⟨(fun c h1 h2 => by
          have e := HC.out c h1 h2
          simp only [clW, List.cons.injEq] at e
          have e2 := e.2.2.1
          rcases G1.out with ⟨n, _, _, h⟩ | ⟨h, _⟩
          · cases h
          · rw [e2, (itoaB_facts (Cl.ok_small h1).1.1 (Cl.ok_small h1).1.2).1] at h
            cases h), rfl⟩
        go_wp2_with fail
        refine (N1.out _ BR.out).mono ?_
        rintro e w4 ⟨rfl, hb⟩
        have B4 := Lib.hid (bnext BR.out hb)
        have TN := there_below TN1.out (bnext hE.out hb)
        clear hb a2 q0 q1 q2 q3 r0 r1 r2 r3 r4 r5
        obtain ⟨u0, x0, y0⟩ := there_at TN (k := 0) (by omega)
        obtain ⟨u1, x1, y1⟩ := there_at TN (k := 1) (by omega)
        obtain ⟨u2, x2, y2⟩ := there_at TN (k := 2) (by omega)
        obtain ⟨u3, x3, y3⟩ := there_at TN (k := 3) (by omega)
        obtain ⟨u4, x4, y4⟩ := there_at TN (k := 4) (by omega)
        clear TN
        go_wp2
        refine bodyPost_ret (v := .tuple #[.agg #[.string ⟨#[]⟩, .int .i64 0, .int .i64 0, .int .i64 0, .int .i64 0], .bool false]) (by simp [results, Tryd.results13, go_sem, x0, x1, x2, x3, x4]) rfl ⟨HN.out, (((((B4.out.setCell (Nat.le_refl _) _).setCell (Nat.le_refl _) _).setCell (Nat.le_refl _) _).setCell (Nat.le_refl _) _).setCell (Nat.le_refl _) _)⟩
      have GG : numR p2.data.toList = Option.some v1 := by
        rcases G1.out with ⟨n, h, h2, _⟩ | ⟨_, h⟩
        · rw [h, h2]
        · cases h
      have K1 := Lib.hid GG
      clear GG
      go_wp2_with fail
      refine (N1.out _ BR.out).mono ?_
      rintro e w4 ⟨rfl, hb⟩
      have HR4 : Hid (RdBox w1.heap.size p0 (sel 0 0 v1) (sel 0 1 v2) (sel 0 2 v3) (sel 0 3 v4) w4) := hR.out.later hb
      have HQ4 := Lib.hid (hQ.out.later hb)
      have HE4 := Lib.hid (bnext hE.out hb)
      clear hb a2 q0 q1 q2 q3 r0 r1 r2 r3 r4 r5
      obtain ⟨r0, r1, r2, r3, r4, r5⟩ := HR4.out
      obtain ⟨z, _, zf⟩ := there_at r5 (k := 1) (by omega)
      clear r5
      go_wp2
      go_roundw
      case rel => exact ⟨1, by omega, rfl, HR4.out.set1 v1, HQ4.out.set (by omega) _ _, HE4.out.setCell (Nat.le_refl _) _, Lib.hid ⟨fun _ => K1.out, fun h => by omega, fun h => by omega, fun h => by omega⟩⟩
      case measure => simp [intOf]
    · obtain ⟨q0, q1, q2, q3⟩ := hQ.out
      obtain ⟨r0, r1, r2, r3, r4, r5⟩ := hR.out
      have a4 := parts_cell HPA.out hE.out 4 p4 rfl
      cases b2
      case false =>
        have HN : Hid (ClRead s (.returned (.tuple #[.agg #[.string ⟨#[]⟩, .int .i64 0, .int .i64 0, .int .i64 0, .int .i64 0], .bool false]))) := .inr ⟨(fun c h1 h2 => by
          have e := HC.out c h1 h2
          simp only [clW, List.cons.injEq] at e
          have e2 := e.2.2.2.2.1
          rcases G2.out with ⟨n, _, _, h⟩ | ⟨h, _⟩
          · cases h
          · rw [e2, (itoaB_facts (Cl.ok_small h1).2.1.1 (Cl.ok_small h1).2.1.2).1] at h
            cases h), rfl⟩
        go_wp2_with fail
        refine (N2.out _ BR.out).mono ?_
        rintro e w4 ⟨rfl, hb⟩
        have B4 := Lib.hid (bnext BR.out hb)
        have TN := there_below TN1.out (bnext hE.out hb)
        clear hb a4 q0 q1 q2 q3 r0 r1 r2 r3 r4 r5
        obtain ⟨u0, x0, y0⟩ := there_at TN (k := 0) (by omega)
        obtain ⟨u1, x1, y1⟩ := there_at TN (k := 1) (by omega)
        obtain ⟨u2, x2, y2⟩ := there_at TN (k := 2) (by omega)
        obtain ⟨u3, x3, y3⟩ := there_at TN (k := 3) (by omega)
        obtain ⟨u4, x4, y4⟩ := there_at TN (k := 4) (by omega)
        clear TN
        go_wp2
        refine bodyPost_ret (v := .tuple #[.agg #[.string ⟨#[]⟩, .int .i64 0, .int .i64 0, .int .i64 0, .int .i64 0], .bool false]) (by simp [results, Tryd.results13, go_sem, x0, x1, x2, x3, x4]) rfl ⟨HN.out, (((((B4.out.setCell (Nat.le_refl _) _).setCell (Nat.le_refl _) _).setCell (Nat.le_refl _) _).setCell (Nat.le_refl _) _).setCell (Nat.le_refl _) _)⟩
      have GG : numR p4.data.toList = Option.some v2 := by
        rcases G2.out with ⟨n, h, h2, _⟩ | ⟨_, h⟩
        · rw [h, h2]
        · cases h
      have K1 := Lib.hid GG
      clear GG
      go_wp2_with fail
      refine (N2.out _ BR.out).mono ?_
      rintro e w4 ⟨rfl, hb⟩
      have HR4 : Hid (RdBox w1.heap.size p0 (sel 1 0 v1) (sel 1 1 v2) (sel 1 2 v3) (sel 1 3 v4) w4) := hR.out.later hb
      have HQ4 := Lib.hid (hQ.out.later hb)
      have HE4 := Lib.hid (bnext hE.out hb)
      clear hb a4 q0 q1 q2 q3 r0 r1 r2 r3 r4 r5
      obtain ⟨r0, r1, r2, r3, r4, r5⟩ := HR4.out
      obtain ⟨z, _, zf⟩ := there_at r5 (k := 2) (by omega)
      clear r5
      go_wp2
      go_roundw
      case rel => exact ⟨2, by omega, rfl, HR4.out.set2 v2, HQ4.out.set (by omega) _ _, HE4.out.setCell (Nat.le_refl _) _, Lib.hid ⟨fun _ => hK.out.1 (by omega), fun _ => K1.out, fun h => by omega, fun h => by omega⟩⟩
      case measure => simp [intOf]
    · obtain ⟨q0, q1, q2, q3⟩ := hQ.out
      obtain ⟨r0, r1, r2, r3, r4, r5⟩ := hR.out
      have a6 := parts_cell HPA.out hE.out 6 p6 rfl
      cases b3
      case false =>
        have HN : Hid (ClRead s (.returned (.tuple #[.agg #[.string ⟨#[]⟩, .int .i64 0, .int .i64 0, .int .i64 0, .int .i64 0], .bool false]))) := .inr ⟨(fun c h1 h2 => by
          have e := HC.out c h1 h2
          simp only [clW, List.cons.injEq] at e
          have e2 := e.2.2.2.2.2.2.1
          rcases G3.out with ⟨n, _, _, h⟩ | ⟨h, _⟩
          · cases h
          · rw [e2, (itoaB_facts (Cl.ok_small h1).2.2.1.1 (Cl.ok_small h1).2.2.1.2).1] at h
            cases h), rfl⟩
        go_wp2_with fail
        refine (N3.out _ BR.out).mono ?_
        rintro e w4 ⟨rfl, hb⟩
        have B4 := Lib.hid (bnext BR.out hb)
        have TN := there_below TN1.out (bnext hE.out hb)
        clear hb a6 q0 q1 q2 q3 r0 r1 r2 r3 r4 r5
        obtain ⟨u0, x0, y0⟩ := there_at TN (k := 0) (by omega)
        obtain ⟨u1, x1, y1⟩ := there_at TN (k := 1) (by omega)
        obtain ⟨u2, x2, y2⟩ := there_at TN (k := 2) (by omega)
        obtain ⟨u3, x3, y3⟩ := there_at TN (k := 3) (by omega)
        obtain ⟨u4, x4, y4⟩ := there_at TN (k := 4) (by omega)
        clear TN
        go_wp2
        refine bodyPost_ret (v := .tuple #[.agg #[.string ⟨#[]⟩, .int .i64 0, .int .i64 0, .int .i64 0, .int .i64 0], .bool false]) (by simp [results, Tryd.results13, go_sem, x0, x1, x2, x3, x4]) rfl ⟨HN.out, (((((B4.out.setCell (Nat.le_refl _) _).setCell (Nat.le_refl _) _).setCell (Nat.le_refl _) _).setCell (Nat.le_refl _) _).setCell (Nat.le_refl _) _)⟩
      have GG : numR p6.data.toList = Option.some v3 := by
        rcases G3.out with ⟨n, h, h2, _⟩ | ⟨_, h⟩
        · rw [h, h2]
        · cases h
      have K1 := Lib.hid GG
      clear GG
      go_wp2_with fail
      refine (N3.out _ BR.out).mono ?_
      rintro e w4 ⟨rfl, hb⟩
      have HR4 : Hid (RdBox w1.heap.size p0 (sel 2 0 v1) (sel 2 1 v2) (sel 2 2 v3) (sel 2 3 v4) w4) := hR.out.later hb
      have HQ4 := Lib.hid (hQ.out.later hb)
      have HE4 := Lib.hid (bnext hE.out hb)
      clear hb a6 q0 q1 q2 q3 r0 r1 r2 r3 r4 r5
      obtain ⟨r0, r1, r2, r3, r4, r5⟩ := HR4.out
      obtain ⟨z, _, zf⟩ := there_at r5 (k := 3) (by omega)
      clear r5
      go_wp2
      go_roundw
      case rel => exact ⟨3, by omega, rfl, HR4.out.set3 v3, HQ4.out.set (by omega) _ _, HE4.out.setCell (Nat.le_refl _) _, Lib.hid ⟨fun _ => hK.out.1 (by omega), fun _ => hK.out.2.1 (by omega), fun _ => K1.out, fun h => by omega⟩⟩
      case measure => simp [intOf]
    · obtain ⟨q0, q1, q2, q3⟩ := hQ.out
      obtain ⟨r0, r1, r2, r3, r4, r5⟩ := hR.out
      have a8 := parts_cell HPA.out hE.out 8 p8 rfl
      cases b4
      case false =>
        have HN : Hid (ClRead s (.returned (.tuple #[.agg #[.string ⟨#[]⟩, .int .i64 0, .int .i64 0, .int .i64 0, .int .i64 0], .bool false]))) := .inr ⟨(fun c h1 h2 => by
          have e := HC.out c h1 h2
          simp only [clW, List.cons.injEq] at e
          have e2 := e.2.2.2.2.2.2.2.2.1
          rcases G4.out with ⟨n, _, _, h⟩ | ⟨h, _⟩
          · cases h
          · rw [e2, (itoaB_facts (Cl.ok_small h1).2.2.2.1.1 (Cl.ok_small h1).2.2.2.1.2).1] at h
            cases h), rfl⟩
        go_wp2_with fail
        refine (N4.out _ BR.out).mono ?_
        rintro e w4 ⟨rfl, hb⟩
        have B4 := Lib.hid (bnext BR.out hb)
        have TN := there_below TN1.out (bnext hE.out hb)
        clear hb a8 q0 q1 q2 q3 r0 r1 r2 r3 r4 r5
        obtain ⟨u0, x0, y0⟩ := there_at TN (k := 0) (by omega)
        obtain ⟨u1, x1, y1⟩ := there_at TN (k := 1) (by omega)
        obtain ⟨u2, x2, y2⟩ := there_at TN (k := 2) (by omega)
        obtain ⟨u3, x3, y3⟩ := there_at TN (k := 3) (by omega)
        obtain ⟨u4, x4, y4⟩ := there_at TN (k := 4) (by omega)
        clear TN
        go_wp2
        refine bodyPost_ret (v := .tuple #[.agg #[.string ⟨#[]⟩, .int .i64 0, .int .i64 0, .int .i64 0, .int .i64 0], .bool false]) (by simp [results, Tryd.results13, go_sem, x0, x1, x2, x3, x4]) rfl ⟨HN.out, (((((B4.out.setCell (Nat.le_refl _) _).setCell (Nat.le_refl _) _).setCell (Nat.le_refl _) _).setCell (Nat.le_refl _) _).setCell (Nat.le_refl _) _)⟩
      have GG : numR p8.data.toList = Option.some v4 := by
        rcases G4.out with ⟨n, h, h2, _⟩ | ⟨_, h⟩
        · rw [h, h2]
        · cases h
      have K1 := Lib.hid GG
      clear GG
      go_wp2_with fail
      refine (N4.out _ BR.out).mono ?_
      rintro e w4 ⟨rfl, hb⟩
      have HR4 : Hid (RdBox w1.heap.size p0 (sel 3 0 v1) (sel 3 1 v2) (sel 3 2 v3) (sel 3 3 v4) w4) := hR.out.later hb
      have HQ4 := Lib.hid (hQ.out.later hb)
      have HE4 := Lib.hid (bnext hE.out hb)
      clear hb a8 q0 q1 q2 q3 r0 r1 r2 r3 r4 r5
      obtain ⟨r0, r1, r2, r3, r4, r5⟩ := HR4.out
      obtain ⟨z, _, zf⟩ := there_at r5 (k := 4) (by omega)
      clear r5
      go_wp2
      go_roundw
      case rel => exact ⟨4, by omega, rfl, HR4.out.set4 v4, HQ4.out.set (by omega) _ _, HE4.out.setCell (Nat.le_refl _) _, Lib.hid ⟨fun _ => hK.out.1 (by omega), fun _ => hK.out.2.1 (by omega), fun _ => hK.out.2.2.1 (by omega), fun _ => K1.out⟩⟩
      case measure => simp [intOf]
    · obtain ⟨r0, r1, r2, r3, r4, r5⟩ := hR.out
      obtain ⟨k1, k2, k3, k4⟩ := hK.out
      have f1 := Lib.hid (k1 (by omega))
      have f2 := Lib.hid (k2 (by omega))
      have f3 := Lib.hid (k3 (by omega))
      have f4 := Lib.hid (k4 (by omega))
      have g1 : wr.cell? ⟨w1.heap.size, 1, none⟩ = some (.int .i64 v1) := r1
      have g2 : wr.cell? ⟨w1.heap.size, 2, none⟩ = some (.int .i64 v2) := r2
      have g3 : wr.cell? ⟨w1.heap.size, 3, none⟩ = some (.int .i64 v3) := r3
      have g4 : wr.cell? ⟨w1.heap.size, 4, none⟩ = some (.int .i64 v4) := r4
      clear r1 r2 r3 r4 k1 k2 k3 k4 hK
      have CT := Lib.hid (clayText_impl ⟨p0, v1, v2, v3, v4⟩ wr (HP.out _ BR.out))
      have RW : Hid (RdBox w1.heap.size p0 v1 v2 v3 v4 wr) := ⟨r0, g1, g2, g3, g4, r5⟩
      clear r5
      obtain ⟨T, hT⟩ : ∃ T, clS ⟨p0, v1, v2, v3, v4⟩ = T := ⟨_, rfl⟩
      rw [hT] at CT
      by_cases hs : T = s
      · subst hs
        have HN : Hid (ClRead T (.returned (.tuple #[.agg #[.string p0, .int .i64 v1, .int .i64 v2, .int .i64 v3, .int .i64 v4], .bool true]))) := by
          have hok : Cl.ok ⟨p0, v1, v2, v3, v4⟩ = true := by
            by_cases h : Cl.ok ⟨p0, v1, v2, v3, v4⟩ = true
            · exact h
            · exfalso
              have e : T = ⟨#[]⟩ := by rw [← hT, clS, if_neg h]
              have e2 := HPW.out
              rw [e] at e2
              have e3 : wordsOf ⟨#[]⟩ = [] := by rfl
              rw [e3] at e2
              cases e2
          exact ClRead.some hok (by rw [← hT, clS, if_pos hok])
        clear hT
        go_wp2_with fail
        refine CT.out.mono ?_
        rintro e w4 ⟨rfl, hb⟩
        have B4 := Lib.hid (bnext BR.out hb)
        have TN := there_below TN1.out (bnext hE.out hb)
        have RX := RW.out.later hb
        clear hb r0 g1 g2 g3 g4
        obtain ⟨r0, g1, g2, g3, g4, _⟩ := RX
        obtain ⟨u0, x0, y0⟩ := there_at TN (k := 0) (by omega)
        obtain ⟨u1, x1, y1⟩ := there_at TN (k := 1) (by omega)
        obtain ⟨u2, x2, y2⟩ := there_at TN (k := 2) (by omega)
        obtain ⟨u3, x3, y3⟩ := there_at TN (k := 3) (by omega)
        obtain ⟨u4, x4, y4⟩ := there_at TN (k := 4) (by omega)
        clear TN
        go_wp2
        refine bodyPost_ret (v := .tuple #[.agg #[.string p0, .int .i64 v1, .int .i64 v2, .int .i64 v3, .int .i64 v4], .bool true]) (by simp [results, Tryd.results13, go_sem, x0, x1, x2, x3, x4]) rfl ⟨HN.out, (((((B4.out.setCell (Nat.le_refl _) _).setCell (Nat.le_refl _) _).setCell (Nat.le_refl _) _).setCell (Nat.le_refl _) _).setCell (Nat.le_refl _) _)⟩
      · have HN : Hid (ClRead s (.returned (.tuple #[.agg #[.string ⟨#[]⟩, .int .i64 0, .int .i64 0, .int .i64 0, .int .i64 0], .bool false]))) := .inr ⟨(fun c h1 h2 => by
          have e := HC.out c h1 h2
          simp only [clW, List.cons.injEq] at e
          obtain ⟨q0, _, q1, _, q2, _, q3, _, q4, _⟩ := e
          have z1 := f1.out
          have z2 := f2.out
          have z3 := f3.out
          have z4 := f4.out
          rw [q1, (itoaB_facts (Cl.ok_small h1).1.1 (Cl.ok_small h1).1.2).1] at z1
          rw [q2, (itoaB_facts (Cl.ok_small h1).2.1.1 (Cl.ok_small h1).2.1.2).1] at z2
          rw [q3, (itoaB_facts (Cl.ok_small h1).2.2.1.1 (Cl.ok_small h1).2.2.1.2).1] at z3
          rw [q4, (itoaB_facts (Cl.ok_small h1).2.2.2.1.1 (Cl.ok_small h1).2.2.2.1.2).1] at z4
          cases z1
          cases z2
          cases z3
          cases z4
          rw [q0] at hT
          have h9 : clS c = T := hT
          rw [clS, if_pos h1, h2] at h9
          exact hs h9.symm), rfl⟩
        have hds : (!(T.toList == s.toList)) = true := by rw [ByteArray.toList_eq, ByteArray.toList_eq]; simp; intro h; exact hs (ByteArray.ext (by simpa using h))
        clear hT hs
        go_wp2_with fail
        refine CT.out.mono ?_
        rintro e w4 ⟨rfl, hb⟩
        have B4 := Lib.hid (bnext BR.out hb)
        have TN := there_below TN1.out (bnext hE.out hb)
        clear hb r0 g1 g2 g3 g4
        obtain ⟨u0, x0, y0⟩ := there_at TN (k := 0) (by omega)
        obtain ⟨u1, x1, y1⟩ := there_at TN (k := 1) (by omega)
        obtain ⟨u2, x2, y2⟩ := there_at TN (k := 2) (by omega)
        obtain ⟨u3, x3, y3⟩ := there_at TN (k := 3) (by omega)
        obtain ⟨u4, x4, y4⟩ := there_at TN (k := 4) (by omega)
        clear TN
        go_wp2
        refine bodyPost_ret (v := .tuple #[.agg #[.string ⟨#[]⟩, .int .i64 0, .int .i64 0, .int .i64 0, .int .i64 0], .bool false]) (by simp [results, Tryd.results13, go_sem, x0, x1, x2, x3, x4]) rfl ⟨HN.out, (((((B4.out.setCell (Nat.le_refl _) _).setCell (Nat.le_refl _) _).setCell (Nat.le_refl _) _).setCell (Nat.le_refl _) _).setCell (Nat.le_refl _) _)⟩
end Go.Proofs.YtpmklnldgafkjabDoor
