/-
  ReadClay: the model's answer.
-/
import Derived.Test.YtpmklnldgafkjabDoorRdP
import Derived.Test.YtpmklnldgafkjabDoorNumS
import Derived.Test.YtpmklnldgafkjabDoorRow
namespace Go.Proofs.YtpmklnldgafkjabDoor
open Go.ChangeShapes Go.WideShapes Go.ChangeAt Go.RowKit Go.Joins

theorem ClRead.none {s : ByteArray} (h : ∀ c : Cl, c.ok = true → partsOf s 32 = clW c → False) : ClRead s (.returned (.tuple #[.agg #[.string ⟨#[]⟩, .int .i64 0, .int .i64 0, .int .i64 0, .int .i64 0], .bool false])) :=
  .inr ⟨fun c hc e => h c hc (clay_parts hc e).1, rfl⟩
theorem ClRead.some {s : ByteArray} {c : Cl} (h1 : c.ok = true) (h2 : clT c = s) : ClRead s (.returned (.tuple #[.agg #[.string c.name, .int .i64 c.sh, .int .i64 c.li, .int .i64 c.sa, .int .i64 c.pr], .bool true])) := .inl ⟨c, h1, h2, rfl⟩
theorem neS {x : ByteArray} {l : List UInt8} (h : ¬ x = ⟨l.toArray⟩) : (x.toList == l) = false := by
  rw [beq_eq_false_iff_ne]
  intro e
  rw [ByteArray.toList_eq] at e
  exact h (Go.WideShapes.bytes_inj (by simpa using e))
theorem eqS {x : ByteArray} {l : List UInt8} (h : x = ⟨l.toArray⟩) : (x.toList == l) = true := by
  rw [h, ByteArray.toList_eq]
  simp
theorem nine {α : Type} {l : List α} (h : l.length = 9) : ∃ a b c d e f g i j, l = [a, b, c, d, e, f, g, i, j] := by
  match l, h with
  | [a, b, c, d, e, f, g, i, j], _ => exact ⟨a, b, c, d, e, f, g, i, j, rfl⟩
theorem numR_cases (l : List UInt8) : (∃ n, numR l = Option.some n ∧ (numR l).getD 0 = n ∧ (numR l).isSome = true) ∨ (numR l = Option.none ∧ (numR l).isSome = false) := by
  cases numR l with
  | none => exact .inr ⟨rfl, rfl⟩
  | some n => exact .inl ⟨n, rfl, rfl, rfl⟩

set_option maxRecDepth 100000 in
set_option maxHeartbeats 6400000 in
theorem readClay_spec (s : ByteArray) (hs : s.size ≤ 1048576) (w : World) : Calls Tryd.prog 12 #[.string s] w fun e w' => ClRead s e ∧ Below w.heap.size w w' := by
  have C := Lib.hid (split_spec s hs 32 (w.alloc (.cells #[.string ⟨#[]⟩, .int .i64 0, .int .i64 0, .int .i64 0, .int .i64 0] 26)))
  have hcut : cutParts s (cutsC s 32 s.size 0 0) = partsOf s 32 := rfl
  rw [hcut] at C
  have B0 : Hid (Below w.heap.size w (w.alloc (.cells #[.string ⟨#[]⟩, .int .i64 0, .int .i64 0, .int .i64 0, .int .i64 0] 26))) := balloc0 _ _
  have T0 : Hid ((w.alloc (.cells #[.string ⟨#[]⟩, .int .i64 0, .int .i64 0, .int .i64 0, .int .i64 0] 26)).there w.heap.size 0 5) := there_new w _ _ 5 rfl
  obtain ⟨W0, hW⟩ : ∃ W0, w.alloc (.cells #[.string ⟨#[]⟩, .int .i64 0, .int .i64 0, .int .i64 0, .int .i64 0] 26) = W0 := ⟨_, rfl⟩
  rw [hW] at C B0 T0
  have HW := Lib.hid hW
  clear hW hcut hs
  obtain ⟨P, hP⟩ : ∃ P, partsOf s 32 = P := ⟨_, rfl⟩
  have HP := Lib.hid hP
  rw [hP] at C
  clear hP
  by_cases h9 : P.length = 9
  case neg =>
    have HN : Hid (ClRead s (.returned (.tuple #[.agg #[.string ⟨#[]⟩, .int .i64 0, .int .i64 0, .int .i64 0, .int .i64 0], .bool false]))) := ClRead.none (fun c _ e => h9 (by rw [HP.out] at e; rw [e]; rfl))
    have h9' : ¬ (P.length : Int) = 9 := by omega
    clear h9
    go_enter Tryd.func12, Tryd.ntmps12
    go_wp2_with fail
    rw [HW.out]
    refine C.out.mono ?_
    rintro e w1 ⟨g, cap, rfl, hA⟩
    have B1 := Lib.hid (bnext B0.out hA.2.1)
    have TN := there_below T0.out hA.2.1
    clear hA
    obtain ⟨u0, x0, y0⟩ := there_at TN (k := 0) (by omega)
    obtain ⟨u1, x1, y1⟩ := there_at TN (k := 1) (by omega)
    obtain ⟨u2, x2, y2⟩ := there_at TN (k := 2) (by omega)
    obtain ⟨u3, x3, y3⟩ := there_at TN (k := 3) (by omega)
    obtain ⟨u4, x4, y4⟩ := there_at TN (k := 4) (by omega)
    clear TN
    go_wp2
    refine bodyPost_ret (v := .tuple #[.agg #[.string ⟨#[]⟩, .int .i64 0, .int .i64 0, .int .i64 0, .int .i64 0], .bool false]) (by simp [results, Tryd.results12, go_sem, x0, x1, x2, x3, x4]) rfl ⟨HN.out, (((((B1.out.setCell (Nat.le_refl _) _).setCell (Nat.le_refl _) _).setCell (Nat.le_refl _) _).setCell (Nat.le_refl _) _).setCell (Nat.le_refl _) _)⟩
  obtain ⟨p0, p1, p2, p3, p4, p5, p6, p7, p8, hP9⟩ := nine h9
  subst hP9
  by_cases hk1 : p1 = ⟨([115, 104, 114, 105, 110, 107] : List UInt8).toArray⟩
  case neg =>
    have HN : Hid (ClRead s (.returned (.tuple #[.agg #[.string ⟨#[]⟩, .int .i64 0, .int .i64 0, .int .i64 0, .int .i64 0], .bool false]))) := ClRead.none (fun c _ e => hk1 (by rw [HP.out] at e; simp only [clW, List.cons.injEq] at e; exact e.2.1))
    have q1 := neS hk1
    clear hk1
    go_enter Tryd.func12, Tryd.ntmps12
    go_wp2_with fail
    rw [HW.out]
    refine C.out.mono ?_
    rintro e w1 ⟨g, cap, rfl, hA⟩
    have B1 := Lib.hid (bnext B0.out hA.2.1)
    have HPA := Lib.hid hA
    have TN1 := Lib.hid (there_below T0.out hA.2.1)
    clear hA
    have a1 := parts_cell HPA.out (Below.refl _ _) 1 p1 rfl
    have TN := TN1.out
    obtain ⟨u0, x0, y0⟩ := there_at TN (k := 0) (by omega)
    obtain ⟨u1, x1, y1⟩ := there_at TN (k := 1) (by omega)
    obtain ⟨u2, x2, y2⟩ := there_at TN (k := 2) (by omega)
    obtain ⟨u3, x3, y3⟩ := there_at TN (k := 3) (by omega)
    obtain ⟨u4, x4, y4⟩ := there_at TN (k := 4) (by omega)
    clear TN
    go_wp2
    refine bodyPost_ret (v := .tuple #[.agg #[.string ⟨#[]⟩, .int .i64 0, .int .i64 0, .int .i64 0, .int .i64 0], .bool false]) (by simp [results, Tryd.results12, go_sem, x0, x1, x2, x3, x4]) rfl ⟨HN.out, (((((B1.out.setCell (Nat.le_refl _) _).setCell (Nat.le_refl _) _).setCell (Nat.le_refl _) _).setCell (Nat.le_refl _) _).setCell (Nat.le_refl _) _)⟩
  have q1 := eqS hk1
  by_cases hk3 : p3 = ⟨([108, 105, 109, 101] : List UInt8).toArray⟩
  case neg =>
    have HN : Hid (ClRead s (.returned (.tuple #[.agg #[.string ⟨#[]⟩, .int .i64 0, .int .i64 0, .int .i64 0, .int .i64 0], .bool false]))) := ClRead.none (fun c _ e => hk3 (by rw [HP.out] at e; simp only [clW, List.cons.injEq] at e; exact e.2.2.2.1))
    have q3 := neS hk3
    clear hk3
    go_enter Tryd.func12, Tryd.ntmps12
    go_wp2_with fail
    rw [HW.out]
    refine C.out.mono ?_
    rintro e w1 ⟨g, cap, rfl, hA⟩
    have B1 := Lib.hid (bnext B0.out hA.2.1)
    have HPA := Lib.hid hA
    have TN1 := Lib.hid (there_below T0.out hA.2.1)
    clear hA
    have a1 := parts_cell HPA.out (Below.refl _ _) 1 p1 rfl
    have a3 := parts_cell HPA.out (Below.refl _ _) 3 p3 rfl
    have TN := TN1.out
    obtain ⟨u0, x0, y0⟩ := there_at TN (k := 0) (by omega)
    obtain ⟨u1, x1, y1⟩ := there_at TN (k := 1) (by omega)
    obtain ⟨u2, x2, y2⟩ := there_at TN (k := 2) (by omega)
    obtain ⟨u3, x3, y3⟩ := there_at TN (k := 3) (by omega)
    obtain ⟨u4, x4, y4⟩ := there_at TN (k := 4) (by omega)
    clear TN
    go_wp2
    refine bodyPost_ret (v := .tuple #[.agg #[.string ⟨#[]⟩, .int .i64 0, .int .i64 0, .int .i64 0, .int .i64 0], .bool false]) (by simp [results, Tryd.results12, go_sem, x0, x1, x2, x3, x4]) rfl ⟨HN.out, (((((B1.out.setCell (Nat.le_refl _) _).setCell (Nat.le_refl _) _).setCell (Nat.le_refl _) _).setCell (Nat.le_refl _) _).setCell (Nat.le_refl _) _)⟩
  have q3 := eqS hk3
  by_cases hk5 : p5 = ⟨([115, 97, 110, 100] : List UInt8).toArray⟩
  case neg =>
    have HN : Hid (ClRead s (.returned (.tuple #[.agg #[.string ⟨#[]⟩, .int .i64 0, .int .i64 0, .int .i64 0, .int .i64 0], .bool false]))) := ClRead.none (fun c _ e => hk5 (by rw [HP.out] at e; simp only [clW, List.cons.injEq] at e; exact e.2.2.2.2.2.1))
    have q5 := neS hk5
    clear hk5
    go_enter Tryd.func12, Tryd.ntmps12
    go_wp2_with fail
    rw [HW.out]
    refine C.out.mono ?_
    rintro e w1 ⟨g, cap, rfl, hA⟩
    have B1 := Lib.hid (bnext B0.out hA.2.1)
    have HPA := Lib.hid hA
    have TN1 := Lib.hid (there_below T0.out hA.2.1)
    clear hA
    have a1 := parts_cell HPA.out (Below.refl _ _) 1 p1 rfl
    have a3 := parts_cell HPA.out (Below.refl _ _) 3 p3 rfl
    have a5 := parts_cell HPA.out (Below.refl _ _) 5 p5 rfl
    have TN := TN1.out
    obtain ⟨u0, x0, y0⟩ := there_at TN (k := 0) (by omega)
    obtain ⟨u1, x1, y1⟩ := there_at TN (k := 1) (by omega)
    obtain ⟨u2, x2, y2⟩ := there_at TN (k := 2) (by omega)
    obtain ⟨u3, x3, y3⟩ := there_at TN (k := 3) (by omega)
    obtain ⟨u4, x4, y4⟩ := there_at TN (k := 4) (by omega)
    clear TN
    go_wp2
    refine bodyPost_ret (v := .tuple #[.agg #[.string ⟨#[]⟩, .int .i64 0, .int .i64 0, .int .i64 0, .int .i64 0], .bool false]) (by simp [results, Tryd.results12, go_sem, x0, x1, x2, x3, x4]) rfl ⟨HN.out, (((((B1.out.setCell (Nat.le_refl _) _).setCell (Nat.le_refl _) _).setCell (Nat.le_refl _) _).setCell (Nat.le_refl _) _).setCell (Nat.le_refl _) _)⟩
  have q5 := eqS hk5
  by_cases hk7 : p7 = ⟨([112, 114, 105, 99, 101] : List UInt8).toArray⟩
  case neg =>
    have HN : Hid (ClRead s (.returned (.tuple #[.agg #[.string ⟨#[]⟩, .int .i64 0, .int .i64 0, .int .i64 0, .int .i64 0], .bool false]))) := ClRead.none (fun c _ e => hk7 (by rw [HP.out] at e; simp only [clW, List.cons.injEq] at e; exact e.2.2.2.2.2.2.2.1))
    have q7 := neS hk7
    clear hk7
    go_enter Tryd.func12, Tryd.ntmps12
    go_wp2_with fail
    rw [HW.out]
    refine C.out.mono ?_
    rintro e w1 ⟨g, cap, rfl, hA⟩
    have B1 := Lib.hid (bnext B0.out hA.2.1)
    have HPA := Lib.hid hA
    have TN1 := Lib.hid (there_below T0.out hA.2.1)
    clear hA
    have a1 := parts_cell HPA.out (Below.refl _ _) 1 p1 rfl
    have a3 := parts_cell HPA.out (Below.refl _ _) 3 p3 rfl
    have a5 := parts_cell HPA.out (Below.refl _ _) 5 p5 rfl
    have a7 := parts_cell HPA.out (Below.refl _ _) 7 p7 rfl
    have TN := TN1.out
    obtain ⟨u0, x0, y0⟩ := there_at TN (k := 0) (by omega)
    obtain ⟨u1, x1, y1⟩ := there_at TN (k := 1) (by omega)
    obtain ⟨u2, x2, y2⟩ := there_at TN (k := 2) (by omega)
    obtain ⟨u3, x3, y3⟩ := there_at TN (k := 3) (by omega)
    obtain ⟨u4, x4, y4⟩ := there_at TN (k := 4) (by omega)
    clear TN
    go_wp2
    refine bodyPost_ret (v := .tuple #[.agg #[.string ⟨#[]⟩, .int .i64 0, .int .i64 0, .int .i64 0, .int .i64 0], .bool false]) (by simp [results, Tryd.results12, go_sem, x0, x1, x2, x3, x4]) rfl ⟨HN.out, (((((B1.out.setCell (Nat.le_refl _) _).setCell (Nat.le_refl _) _).setCell (Nat.le_refl _) _).setCell (Nat.le_refl _) _).setCell (Nat.le_refl _) _)⟩
  have q7 := eqS hk7
  have N1 := Lib.hid (number_spec p2)
  have G1 := Lib.hid (numR_cases p2.data.toList)
  obtain ⟨v1, hv1⟩ : ∃ v, (numR p2.data.toList).getD 0 = v := ⟨_, rfl⟩
  obtain ⟨b1, hb1⟩ : ∃ b, (numR p2.data.toList).isSome = b := ⟨_, rfl⟩
  rw [hv1, hb1] at N1 G1
  have V1 := Lib.hid hv1
  clear hv1 hb1
  have N2 := Lib.hid (number_spec p4)
  have G2 := Lib.hid (numR_cases p4.data.toList)
  obtain ⟨v2, hv2⟩ : ∃ v, (numR p4.data.toList).getD 0 = v := ⟨_, rfl⟩
  obtain ⟨b2, hb2⟩ : ∃ b, (numR p4.data.toList).isSome = b := ⟨_, rfl⟩
  rw [hv2, hb2] at N2 G2
  have V2 := Lib.hid hv2
  clear hv2 hb2
  have N3 := Lib.hid (number_spec p6)
  have G3 := Lib.hid (numR_cases p6.data.toList)
  obtain ⟨v3, hv3⟩ : ∃ v, (numR p6.data.toList).getD 0 = v := ⟨_, rfl⟩
  obtain ⟨b3, hb3⟩ : ∃ b, (numR p6.data.toList).isSome = b := ⟨_, rfl⟩
  rw [hv3, hb3] at N3 G3
  have V3 := Lib.hid hv3
  clear hv3 hb3
  have N4 := Lib.hid (number_spec p8)
  have G4 := Lib.hid (numR_cases p8.data.toList)
  obtain ⟨v4, hv4⟩ : ∃ v, (numR p8.data.toList).getD 0 = v := ⟨_, rfl⟩
  obtain ⟨b4, hb4⟩ : ∃ b, (numR p8.data.toList).isSome = b := ⟨_, rfl⟩
  rw [hv4, hb4] at N4 G4
  have V4 := Lib.hid hv4
  clear hv4 hb4
  have HK := Lib.hid (And.intro hk1 (And.intro hk3 (And.intro hk5 hk7)))
  clear hk1 hk3 hk5 hk7
  cases b1
  case false =>
    have HN : Hid (ClRead s (.returned (.tuple #[.agg #[.string ⟨#[]⟩, .int .i64 0, .int .i64 0, .int .i64 0, .int .i64 0], .bool false]))) := ClRead.none (fun c hc e => by
      rw [HP.out] at e
      simp only [clW, List.cons.injEq] at e
      have e2 := e.2.2.1
      rcases G1.out with ⟨n, _, _, h⟩ | ⟨h, _⟩
      · cases h
      · rw [e2, (itoaB_facts (Cl.ok_small hc).1.1 (Cl.ok_small hc).1.2).1] at h
        cases h)
    go_enter Tryd.func12, Tryd.ntmps12
    go_wp2_with fail
    rw [HW.out]
    refine C.out.mono ?_
    rintro e w1 ⟨g, cap, rfl, hA⟩
    have B1 := Lib.hid (bnext B0.out hA.2.1)
    have HPA := Lib.hid hA
    have TN1 := Lib.hid (there_below T0.out hA.2.1)
    clear hA
    have a0 := parts_cell HPA.out (Below.refl _ _) 0 p0 rfl
    have a1 := parts_cell HPA.out (Below.refl _ _) 1 p1 rfl
    have a2 := parts_cell HPA.out (Below.refl _ _) 2 p2 rfl
    have a3 := parts_cell HPA.out (Below.refl _ _) 3 p3 rfl
    have a4 := parts_cell HPA.out (Below.refl _ _) 4 p4 rfl
    have a5 := parts_cell HPA.out (Below.refl _ _) 5 p5 rfl
    have a6 := parts_cell HPA.out (Below.refl _ _) 6 p6 rfl
    have a7 := parts_cell HPA.out (Below.refl _ _) 7 p7 rfl
    have a8 := parts_cell HPA.out (Below.refl _ _) 8 p8 rfl
    go_wp2_with fail
    refine (N1.out _).mono ?_
    rintro e w2 ⟨rfl, hb⟩
    have Z1 := Lib.hid hb
    clear hb a0 a1 a2 a3 a4 a5 a6 a7 a8
    have a0 := parts_cell HPA.out Z1.out 0 p0 rfl
    have a1 := parts_cell HPA.out Z1.out 1 p1 rfl
    have a2 := parts_cell HPA.out Z1.out 2 p2 rfl
    have a3 := parts_cell HPA.out Z1.out 3 p3 rfl
    have a4 := parts_cell HPA.out Z1.out 4 p4 rfl
    have a5 := parts_cell HPA.out Z1.out 5 p5 rfl
    have a6 := parts_cell HPA.out Z1.out 6 p6 rfl
    have a7 := parts_cell HPA.out Z1.out 7 p7 rfl
    have a8 := parts_cell HPA.out Z1.out 8 p8 rfl
    go_wp2_with fail
    refine (N2.out _).mono ?_
    rintro e w3 ⟨rfl, hb⟩
    have Z2 := Lib.hid (bnext Z1.out hb)
    clear hb a0 a1 a2 a3 a4 a5 a6 a7 a8
    have a0 := parts_cell HPA.out Z2.out 0 p0 rfl
    have a1 := parts_cell HPA.out Z2.out 1 p1 rfl
    have a2 := parts_cell HPA.out Z2.out 2 p2 rfl
    have a3 := parts_cell HPA.out Z2.out 3 p3 rfl
    have a4 := parts_cell HPA.out Z2.out 4 p4 rfl
    have a5 := parts_cell HPA.out Z2.out 5 p5 rfl
    have a6 := parts_cell HPA.out Z2.out 6 p6 rfl
    have a7 := parts_cell HPA.out Z2.out 7 p7 rfl
    have a8 := parts_cell HPA.out Z2.out 8 p8 rfl
    go_wp2_with fail
    refine (N3.out _).mono ?_
    rintro e w4 ⟨rfl, hb⟩
    have Z3 := Lib.hid (bnext Z2.out hb)
    clear hb a0 a1 a2 a3 a4 a5 a6 a7 a8
    have a0 := parts_cell HPA.out Z3.out 0 p0 rfl
    have a1 := parts_cell HPA.out Z3.out 1 p1 rfl
    have a2 := parts_cell HPA.out Z3.out 2 p2 rfl
    have a3 := parts_cell HPA.out Z3.out 3 p3 rfl
    have a4 := parts_cell HPA.out Z3.out 4 p4 rfl
    have a5 := parts_cell HPA.out Z3.out 5 p5 rfl
    have a6 := parts_cell HPA.out Z3.out 6 p6 rfl
    have a7 := parts_cell HPA.out Z3.out 7 p7 rfl
    have a8 := parts_cell HPA.out Z3.out 8 p8 rfl
    go_wp2_with fail
    refine (N4.out _).mono ?_
    rintro e w5 ⟨rfl, hb⟩
    have Z4 := Lib.hid (bnext Z3.out hb)
    clear hb a0 a1 a2 a3 a4 a5 a6 a7 a8
    have a0 := parts_cell HPA.out Z4.out 0 p0 rfl
    have a1 := parts_cell HPA.out Z4.out 1 p1 rfl
    have a2 := parts_cell HPA.out Z4.out 2 p2 rfl
    have a3 := parts_cell HPA.out Z4.out 3 p3 rfl
    have a4 := parts_cell HPA.out Z4.out 4 p4 rfl
    have a5 := parts_cell HPA.out Z4.out 5 p5 rfl
    have a6 := parts_cell HPA.out Z4.out 6 p6 rfl
    have a7 := parts_cell HPA.out Z4.out 7 p7 rfl
    have a8 := parts_cell HPA.out Z4.out 8 p8 rfl
    have B5 := Lib.hid (bnext B1.out Z4.out)
    have TN5 := Lib.hid (there_below TN1.out Z4.out)
    have TN := there_below TN5.out (balloc0 w5 (.cells #[.string p0, .int .i64 v1, .int .i64 v2, .int .i64 v3, .int .i64 v4] 26))
    have B6 := Lib.hid (balloc B5.out (.cells #[.string p0, .int .i64 v1, .int .i64 v2, .int .i64 v3, .int .i64 v4] 26))
    obtain ⟨u0, x0, y0⟩ := there_at TN (k := 0) (by omega)
    obtain ⟨u1, x1, y1⟩ := there_at TN (k := 1) (by omega)
    obtain ⟨u2, x2, y2⟩ := there_at TN (k := 2) (by omega)
    obtain ⟨u3, x3, y3⟩ := there_at TN (k := 3) (by omega)
    obtain ⟨u4, x4, y4⟩ := there_at TN (k := 4) (by omega)
    clear TN
    go_wp2
    refine bodyPost_ret (v := .tuple #[.agg #[.string ⟨#[]⟩, .int .i64 0, .int .i64 0, .int .i64 0, .int .i64 0], .bool false]) (by simp [results, Tryd.results12, go_sem, x0, x1, x2, x3, x4]) rfl ⟨HN.out, (((((B6.out.setCell (Nat.le_refl _) _).setCell (Nat.le_refl _) _).setCell (Nat.le_refl _) _).setCell (Nat.le_refl _) _).setCell (Nat.le_refl _) _)⟩
  have GG1 : numR p2.data.toList = Option.some v1 := by
    rcases G1.out with ⟨n, h, h2, _⟩ | ⟨_, h⟩
    · rw [h, h2]
    · cases h
  have K1 := Lib.hid GG1
  clear GG1
  cases b2
  case false =>
    have HN : Hid (ClRead s (.returned (.tuple #[.agg #[.string ⟨#[]⟩, .int .i64 0, .int .i64 0, .int .i64 0, .int .i64 0], .bool false]))) := ClRead.none (fun c hc e => by
      rw [HP.out] at e
      simp only [clW, List.cons.injEq] at e
      have e2 := e.2.2.2.2.1
      rcases G2.out with ⟨n, _, _, h⟩ | ⟨h, _⟩
      · cases h
      · rw [e2, (itoaB_facts (Cl.ok_small hc).2.1.1 (Cl.ok_small hc).2.1.2).1] at h
        cases h)
    go_enter Tryd.func12, Tryd.ntmps12
    go_wp2_with fail
    rw [HW.out]
    refine C.out.mono ?_
    rintro e w1 ⟨g, cap, rfl, hA⟩
    have B1 := Lib.hid (bnext B0.out hA.2.1)
    have HPA := Lib.hid hA
    have TN1 := Lib.hid (there_below T0.out hA.2.1)
    clear hA
    have a0 := parts_cell HPA.out (Below.refl _ _) 0 p0 rfl
    have a1 := parts_cell HPA.out (Below.refl _ _) 1 p1 rfl
    have a2 := parts_cell HPA.out (Below.refl _ _) 2 p2 rfl
    have a3 := parts_cell HPA.out (Below.refl _ _) 3 p3 rfl
    have a4 := parts_cell HPA.out (Below.refl _ _) 4 p4 rfl
    have a5 := parts_cell HPA.out (Below.refl _ _) 5 p5 rfl
    have a6 := parts_cell HPA.out (Below.refl _ _) 6 p6 rfl
    have a7 := parts_cell HPA.out (Below.refl _ _) 7 p7 rfl
    have a8 := parts_cell HPA.out (Below.refl _ _) 8 p8 rfl
    go_wp2_with fail
    refine (N1.out _).mono ?_
    rintro e w2 ⟨rfl, hb⟩
    have Z1 := Lib.hid hb
    clear hb a0 a1 a2 a3 a4 a5 a6 a7 a8
    have a0 := parts_cell HPA.out Z1.out 0 p0 rfl
    have a1 := parts_cell HPA.out Z1.out 1 p1 rfl
    have a2 := parts_cell HPA.out Z1.out 2 p2 rfl
    have a3 := parts_cell HPA.out Z1.out 3 p3 rfl
    have a4 := parts_cell HPA.out Z1.out 4 p4 rfl
    have a5 := parts_cell HPA.out Z1.out 5 p5 rfl
    have a6 := parts_cell HPA.out Z1.out 6 p6 rfl
    have a7 := parts_cell HPA.out Z1.out 7 p7 rfl
    have a8 := parts_cell HPA.out Z1.out 8 p8 rfl
    go_wp2_with fail
    refine (N2.out _).mono ?_
    rintro e w3 ⟨rfl, hb⟩
    have Z2 := Lib.hid (bnext Z1.out hb)
    clear hb a0 a1 a2 a3 a4 a5 a6 a7 a8
    have a0 := parts_cell HPA.out Z2.out 0 p0 rfl
    have a1 := parts_cell HPA.out Z2.out 1 p1 rfl
    have a2 := parts_cell HPA.out Z2.out 2 p2 rfl
    have a3 := parts_cell HPA.out Z2.out 3 p3 rfl
    have a4 := parts_cell HPA.out Z2.out 4 p4 rfl
    have a5 := parts_cell HPA.out Z2.out 5 p5 rfl
    have a6 := parts_cell HPA.out Z2.out 6 p6 rfl
    have a7 := parts_cell HPA.out Z2.out 7 p7 rfl
    have a8 := parts_cell HPA.out Z2.out 8 p8 rfl
    go_wp2_with fail
    refine (N3.out _).mono ?_
    rintro e w4 ⟨rfl, hb⟩
    have Z3 := Lib.hid (bnext Z2.out hb)
    clear hb a0 a1 a2 a3 a4 a5 a6 a7 a8
    have a0 := parts_cell HPA.out Z3.out 0 p0 rfl
    have a1 := parts_cell HPA.out Z3.out 1 p1 rfl
    have a2 := parts_cell HPA.out Z3.out 2 p2 rfl
    have a3 := parts_cell HPA.out Z3.out 3 p3 rfl
    have a4 := parts_cell HPA.out Z3.out 4 p4 rfl
    have a5 := parts_cell HPA.out Z3.out 5 p5 rfl
    have a6 := parts_cell HPA.out Z3.out 6 p6 rfl
    have a7 := parts_cell HPA.out Z3.out 7 p7 rfl
    have a8 := parts_cell HPA.out Z3.out 8 p8 rfl
    go_wp2_with fail
    refine (N4.out _).mono ?_
    rintro e w5 ⟨rfl, hb⟩
    have Z4 := Lib.hid (bnext Z3.out hb)
    clear hb a0 a1 a2 a3 a4 a5 a6 a7 a8
    have a0 := parts_cell HPA.out Z4.out 0 p0 rfl
    have a1 := parts_cell HPA.out Z4.out 1 p1 rfl
    have a2 := parts_cell HPA.out Z4.out 2 p2 rfl
    have a3 := parts_cell HPA.out Z4.out 3 p3 rfl
    have a4 := parts_cell HPA.out Z4.out 4 p4 rfl
    have a5 := parts_cell HPA.out Z4.out 5 p5 rfl
    have a6 := parts_cell HPA.out Z4.out 6 p6 rfl
    have a7 := parts_cell HPA.out Z4.out 7 p7 rfl
    have a8 := parts_cell HPA.out Z4.out 8 p8 rfl
    have B5 := Lib.hid (bnext B1.out Z4.out)
    have TN5 := Lib.hid (there_below TN1.out Z4.out)
    have TN := there_below TN5.out (balloc0 w5 (.cells #[.string p0, .int .i64 v1, .int .i64 v2, .int .i64 v3, .int .i64 v4] 26))
    have B6 := Lib.hid (balloc B5.out (.cells #[.string p0, .int .i64 v1, .int .i64 v2, .int .i64 v3, .int .i64 v4] 26))
    obtain ⟨u0, x0, y0⟩ := there_at TN (k := 0) (by omega)
    obtain ⟨u1, x1, y1⟩ := there_at TN (k := 1) (by omega)
    obtain ⟨u2, x2, y2⟩ := there_at TN (k := 2) (by omega)
    obtain ⟨u3, x3, y3⟩ := there_at TN (k := 3) (by omega)
    obtain ⟨u4, x4, y4⟩ := there_at TN (k := 4) (by omega)
    clear TN
    go_wp2
    refine bodyPost_ret (v := .tuple #[.agg #[.string ⟨#[]⟩, .int .i64 0, .int .i64 0, .int .i64 0, .int .i64 0], .bool false]) (by simp [results, Tryd.results12, go_sem, x0, x1, x2, x3, x4]) rfl ⟨HN.out, (((((B6.out.setCell (Nat.le_refl _) _).setCell (Nat.le_refl _) _).setCell (Nat.le_refl _) _).setCell (Nat.le_refl _) _).setCell (Nat.le_refl _) _)⟩
  have GG2 : numR p4.data.toList = Option.some v2 := by
    rcases G2.out with ⟨n, h, h2, _⟩ | ⟨_, h⟩
    · rw [h, h2]
    · cases h
  have K2 := Lib.hid GG2
  clear GG2
  cases b3
  case false =>
    have HN : Hid (ClRead s (.returned (.tuple #[.agg #[.string ⟨#[]⟩, .int .i64 0, .int .i64 0, .int .i64 0, .int .i64 0], .bool false]))) := ClRead.none (fun c hc e => by
      rw [HP.out] at e
      simp only [clW, List.cons.injEq] at e
      have e2 := e.2.2.2.2.2.2.1
      rcases G3.out with ⟨n, _, _, h⟩ | ⟨h, _⟩
      · cases h
      · rw [e2, (itoaB_facts (Cl.ok_small hc).2.2.1.1 (Cl.ok_small hc).2.2.1.2).1] at h
        cases h)
    go_enter Tryd.func12, Tryd.ntmps12
    go_wp2_with fail
    rw [HW.out]
    refine C.out.mono ?_
    rintro e w1 ⟨g, cap, rfl, hA⟩
    have B1 := Lib.hid (bnext B0.out hA.2.1)
    have HPA := Lib.hid hA
    have TN1 := Lib.hid (there_below T0.out hA.2.1)
    clear hA
    have a0 := parts_cell HPA.out (Below.refl _ _) 0 p0 rfl
    have a1 := parts_cell HPA.out (Below.refl _ _) 1 p1 rfl
    have a2 := parts_cell HPA.out (Below.refl _ _) 2 p2 rfl
    have a3 := parts_cell HPA.out (Below.refl _ _) 3 p3 rfl
    have a4 := parts_cell HPA.out (Below.refl _ _) 4 p4 rfl
    have a5 := parts_cell HPA.out (Below.refl _ _) 5 p5 rfl
    have a6 := parts_cell HPA.out (Below.refl _ _) 6 p6 rfl
    have a7 := parts_cell HPA.out (Below.refl _ _) 7 p7 rfl
    have a8 := parts_cell HPA.out (Below.refl _ _) 8 p8 rfl
    go_wp2_with fail
    refine (N1.out _).mono ?_
    rintro e w2 ⟨rfl, hb⟩
    have Z1 := Lib.hid hb
    clear hb a0 a1 a2 a3 a4 a5 a6 a7 a8
    have a0 := parts_cell HPA.out Z1.out 0 p0 rfl
    have a1 := parts_cell HPA.out Z1.out 1 p1 rfl
    have a2 := parts_cell HPA.out Z1.out 2 p2 rfl
    have a3 := parts_cell HPA.out Z1.out 3 p3 rfl
    have a4 := parts_cell HPA.out Z1.out 4 p4 rfl
    have a5 := parts_cell HPA.out Z1.out 5 p5 rfl
    have a6 := parts_cell HPA.out Z1.out 6 p6 rfl
    have a7 := parts_cell HPA.out Z1.out 7 p7 rfl
    have a8 := parts_cell HPA.out Z1.out 8 p8 rfl
    go_wp2_with fail
    refine (N2.out _).mono ?_
    rintro e w3 ⟨rfl, hb⟩
    have Z2 := Lib.hid (bnext Z1.out hb)
    clear hb a0 a1 a2 a3 a4 a5 a6 a7 a8
    have a0 := parts_cell HPA.out Z2.out 0 p0 rfl
    have a1 := parts_cell HPA.out Z2.out 1 p1 rfl
    have a2 := parts_cell HPA.out Z2.out 2 p2 rfl
    have a3 := parts_cell HPA.out Z2.out 3 p3 rfl
    have a4 := parts_cell HPA.out Z2.out 4 p4 rfl
    have a5 := parts_cell HPA.out Z2.out 5 p5 rfl
    have a6 := parts_cell HPA.out Z2.out 6 p6 rfl
    have a7 := parts_cell HPA.out Z2.out 7 p7 rfl
    have a8 := parts_cell HPA.out Z2.out 8 p8 rfl
    go_wp2_with fail
    refine (N3.out _).mono ?_
    rintro e w4 ⟨rfl, hb⟩
    have Z3 := Lib.hid (bnext Z2.out hb)
    clear hb a0 a1 a2 a3 a4 a5 a6 a7 a8
    have a0 := parts_cell HPA.out Z3.out 0 p0 rfl
    have a1 := parts_cell HPA.out Z3.out 1 p1 rfl
    have a2 := parts_cell HPA.out Z3.out 2 p2 rfl
    have a3 := parts_cell HPA.out Z3.out 3 p3 rfl
    have a4 := parts_cell HPA.out Z3.out 4 p4 rfl
    have a5 := parts_cell HPA.out Z3.out 5 p5 rfl
    have a6 := parts_cell HPA.out Z3.out 6 p6 rfl
    have a7 := parts_cell HPA.out Z3.out 7 p7 rfl
    have a8 := parts_cell HPA.out Z3.out 8 p8 rfl
    go_wp2_with fail
    refine (N4.out _).mono ?_
    rintro e w5 ⟨rfl, hb⟩
    have Z4 := Lib.hid (bnext Z3.out hb)
    clear hb a0 a1 a2 a3 a4 a5 a6 a7 a8
    have a0 := parts_cell HPA.out Z4.out 0 p0 rfl
    have a1 := parts_cell HPA.out Z4.out 1 p1 rfl
    have a2 := parts_cell HPA.out Z4.out 2 p2 rfl
    have a3 := parts_cell HPA.out Z4.out 3 p3 rfl
    have a4 := parts_cell HPA.out Z4.out 4 p4 rfl
    have a5 := parts_cell HPA.out Z4.out 5 p5 rfl
    have a6 := parts_cell HPA.out Z4.out 6 p6 rfl
    have a7 := parts_cell HPA.out Z4.out 7 p7 rfl
    have a8 := parts_cell HPA.out Z4.out 8 p8 rfl
    have B5 := Lib.hid (bnext B1.out Z4.out)
    have TN5 := Lib.hid (there_below TN1.out Z4.out)
    have TN := there_below TN5.out (balloc0 w5 (.cells #[.string p0, .int .i64 v1, .int .i64 v2, .int .i64 v3, .int .i64 v4] 26))
    have B6 := Lib.hid (balloc B5.out (.cells #[.string p0, .int .i64 v1, .int .i64 v2, .int .i64 v3, .int .i64 v4] 26))
    obtain ⟨u0, x0, y0⟩ := there_at TN (k := 0) (by omega)
    obtain ⟨u1, x1, y1⟩ := there_at TN (k := 1) (by omega)
    obtain ⟨u2, x2, y2⟩ := there_at TN (k := 2) (by omega)
    obtain ⟨u3, x3, y3⟩ := there_at TN (k := 3) (by omega)
    obtain ⟨u4, x4, y4⟩ := there_at TN (k := 4) (by omega)
    clear TN
    go_wp2
    refine bodyPost_ret (v := .tuple #[.agg #[.string ⟨#[]⟩, .int .i64 0, .int .i64 0, .int .i64 0, .int .i64 0], .bool false]) (by simp [results, Tryd.results12, go_sem, x0, x1, x2, x3, x4]) rfl ⟨HN.out, (((((B6.out.setCell (Nat.le_refl _) _).setCell (Nat.le_refl _) _).setCell (Nat.le_refl _) _).setCell (Nat.le_refl _) _).setCell (Nat.le_refl _) _)⟩
  have GG3 : numR p6.data.toList = Option.some v3 := by
    rcases G3.out with ⟨n, h, h2, _⟩ | ⟨_, h⟩
    · rw [h, h2]
    · cases h
  have K3 := Lib.hid GG3
  clear GG3
  cases b4
  case false =>
    have HN : Hid (ClRead s (.returned (.tuple #[.agg #[.string ⟨#[]⟩, .int .i64 0, .int .i64 0, .int .i64 0, .int .i64 0], .bool false]))) := ClRead.none (fun c hc e => by
      rw [HP.out] at e
      simp only [clW, List.cons.injEq] at e
      have e2 := e.2.2.2.2.2.2.2.2.1
      rcases G4.out with ⟨n, _, _, h⟩ | ⟨h, _⟩
      · cases h
      · rw [e2, (itoaB_facts (Cl.ok_small hc).2.2.2.1.1 (Cl.ok_small hc).2.2.2.1.2).1] at h
        cases h)
    go_enter Tryd.func12, Tryd.ntmps12
    go_wp2_with fail
    rw [HW.out]
    refine C.out.mono ?_
    rintro e w1 ⟨g, cap, rfl, hA⟩
    have B1 := Lib.hid (bnext B0.out hA.2.1)
    have HPA := Lib.hid hA
    have TN1 := Lib.hid (there_below T0.out hA.2.1)
    clear hA
    have a0 := parts_cell HPA.out (Below.refl _ _) 0 p0 rfl
    have a1 := parts_cell HPA.out (Below.refl _ _) 1 p1 rfl
    have a2 := parts_cell HPA.out (Below.refl _ _) 2 p2 rfl
    have a3 := parts_cell HPA.out (Below.refl _ _) 3 p3 rfl
    have a4 := parts_cell HPA.out (Below.refl _ _) 4 p4 rfl
    have a5 := parts_cell HPA.out (Below.refl _ _) 5 p5 rfl
    have a6 := parts_cell HPA.out (Below.refl _ _) 6 p6 rfl
    have a7 := parts_cell HPA.out (Below.refl _ _) 7 p7 rfl
    have a8 := parts_cell HPA.out (Below.refl _ _) 8 p8 rfl
    go_wp2_with fail
    refine (N1.out _).mono ?_
    rintro e w2 ⟨rfl, hb⟩
    have Z1 := Lib.hid hb
    clear hb a0 a1 a2 a3 a4 a5 a6 a7 a8
    have a0 := parts_cell HPA.out Z1.out 0 p0 rfl
    have a1 := parts_cell HPA.out Z1.out 1 p1 rfl
    have a2 := parts_cell HPA.out Z1.out 2 p2 rfl
    have a3 := parts_cell HPA.out Z1.out 3 p3 rfl
    have a4 := parts_cell HPA.out Z1.out 4 p4 rfl
    have a5 := parts_cell HPA.out Z1.out 5 p5 rfl
    have a6 := parts_cell HPA.out Z1.out 6 p6 rfl
    have a7 := parts_cell HPA.out Z1.out 7 p7 rfl
    have a8 := parts_cell HPA.out Z1.out 8 p8 rfl
    go_wp2_with fail
    refine (N2.out _).mono ?_
    rintro e w3 ⟨rfl, hb⟩
    have Z2 := Lib.hid (bnext Z1.out hb)
    clear hb a0 a1 a2 a3 a4 a5 a6 a7 a8
    have a0 := parts_cell HPA.out Z2.out 0 p0 rfl
    have a1 := parts_cell HPA.out Z2.out 1 p1 rfl
    have a2 := parts_cell HPA.out Z2.out 2 p2 rfl
    have a3 := parts_cell HPA.out Z2.out 3 p3 rfl
    have a4 := parts_cell HPA.out Z2.out 4 p4 rfl
    have a5 := parts_cell HPA.out Z2.out 5 p5 rfl
    have a6 := parts_cell HPA.out Z2.out 6 p6 rfl
    have a7 := parts_cell HPA.out Z2.out 7 p7 rfl
    have a8 := parts_cell HPA.out Z2.out 8 p8 rfl
    go_wp2_with fail
    refine (N3.out _).mono ?_
    rintro e w4 ⟨rfl, hb⟩
    have Z3 := Lib.hid (bnext Z2.out hb)
    clear hb a0 a1 a2 a3 a4 a5 a6 a7 a8
    have a0 := parts_cell HPA.out Z3.out 0 p0 rfl
    have a1 := parts_cell HPA.out Z3.out 1 p1 rfl
    have a2 := parts_cell HPA.out Z3.out 2 p2 rfl
    have a3 := parts_cell HPA.out Z3.out 3 p3 rfl
    have a4 := parts_cell HPA.out Z3.out 4 p4 rfl
    have a5 := parts_cell HPA.out Z3.out 5 p5 rfl
    have a6 := parts_cell HPA.out Z3.out 6 p6 rfl
    have a7 := parts_cell HPA.out Z3.out 7 p7 rfl
    have a8 := parts_cell HPA.out Z3.out 8 p8 rfl
    go_wp2_with fail
    refine (N4.out _).mono ?_
    rintro e w5 ⟨rfl, hb⟩
    have Z4 := Lib.hid (bnext Z3.out hb)
    clear hb a0 a1 a2 a3 a4 a5 a6 a7 a8
    have a0 := parts_cell HPA.out Z4.out 0 p0 rfl
    have a1 := parts_cell HPA.out Z4.out 1 p1 rfl
    have a2 := parts_cell HPA.out Z4.out 2 p2 rfl
    have a3 := parts_cell HPA.out Z4.out 3 p3 rfl
    have a4 := parts_cell HPA.out Z4.out 4 p4 rfl
    have a5 := parts_cell HPA.out Z4.out 5 p5 rfl
    have a6 := parts_cell HPA.out Z4.out 6 p6 rfl
    have a7 := parts_cell HPA.out Z4.out 7 p7 rfl
    have a8 := parts_cell HPA.out Z4.out 8 p8 rfl
    have B5 := Lib.hid (bnext B1.out Z4.out)
    have TN5 := Lib.hid (there_below TN1.out Z4.out)
    have TN := there_below TN5.out (balloc0 w5 (.cells #[.string p0, .int .i64 v1, .int .i64 v2, .int .i64 v3, .int .i64 v4] 26))
    have B6 := Lib.hid (balloc B5.out (.cells #[.string p0, .int .i64 v1, .int .i64 v2, .int .i64 v3, .int .i64 v4] 26))
    obtain ⟨u0, x0, y0⟩ := there_at TN (k := 0) (by omega)
    obtain ⟨u1, x1, y1⟩ := there_at TN (k := 1) (by omega)
    obtain ⟨u2, x2, y2⟩ := there_at TN (k := 2) (by omega)
    obtain ⟨u3, x3, y3⟩ := there_at TN (k := 3) (by omega)
    obtain ⟨u4, x4, y4⟩ := there_at TN (k := 4) (by omega)
    clear TN
    go_wp2
    refine bodyPost_ret (v := .tuple #[.agg #[.string ⟨#[]⟩, .int .i64 0, .int .i64 0, .int .i64 0, .int .i64 0], .bool false]) (by simp [results, Tryd.results12, go_sem, x0, x1, x2, x3, x4]) rfl ⟨HN.out, (((((B6.out.setCell (Nat.le_refl _) _).setCell (Nat.le_refl _) _).setCell (Nat.le_refl _) _).setCell (Nat.le_refl _) _).setCell (Nat.le_refl _) _)⟩
  have GG4 : numR p8.data.toList = Option.some v4 := by
    rcases G4.out with ⟨n, h, h2, _⟩ | ⟨_, h⟩
    · rw [h, h2]
    · cases h
  have K4 := Lib.hid GG4
  clear GG4
  obtain ⟨c, hc⟩ : ∃ c : Cl, c = ⟨p0, v1, v2, v3, v4⟩ := ⟨_, rfl⟩
  have HT : Hid (clT ⟨p0, v1, v2, v3, v4⟩ = s) := clay_from (by rw [HP.out, HK.out.1, HK.out.2.1, HK.out.2.2.1, HK.out.2.2.2]) K1.out K2.out K3.out K4.out
  have CO := Lib.hid (fun b wx => one_spec ⟨p0, v1, v2, v3, v4⟩ b 0 wx)
  cases hok : Cl.ok ⟨p0, v1, v2, v3, v4⟩
  · have HN : Hid (ClRead s (.returned (.tuple #[.agg #[.string ⟨#[]⟩, .int .i64 0, .int .i64 0, .int .i64 0, .int .i64 0], .bool false]))) := ClRead.none (fun c hcc e => by
      have h1 := (clay_parts hcc rfl).1
      have e2 : clT c = s := by
        rw [← clW_join c, ← e]
        exact Go.WideShapes.bytes_inj (by simpa using join_partsOf s 32)
      rw [HP.out] at e
      simp only [clW, List.cons.injEq] at e
      obtain ⟨q0, _, q1, _, q2, _, q3, _, q4, _⟩ := e
      have f1 := K1.out
      have f2 := K2.out
      have f3 := K3.out
      have f4 := K4.out
      rw [q1, (itoaB_facts (Cl.ok_small hcc).1.1 (Cl.ok_small hcc).1.2).1] at f1
      rw [q2, (itoaB_facts (Cl.ok_small hcc).2.1.1 (Cl.ok_small hcc).2.1.2).1] at f2
      rw [q3, (itoaB_facts (Cl.ok_small hcc).2.2.1.1 (Cl.ok_small hcc).2.2.1.2).1] at f3
      rw [q4, (itoaB_facts (Cl.ok_small hcc).2.2.2.1.1 (Cl.ok_small hcc).2.2.2.1.2).1] at f4
      cases f1
      cases f2
      cases f3
      cases f4
      rw [q0] at hok
      have h9 : c.ok = false := hok
      rw [hcc] at h9
      cases h9)
    rw [hok] at CO
    clear hok hc
    go_enter Tryd.func12, Tryd.ntmps12
    go_wp2_with fail
    rw [HW.out]
    refine C.out.mono ?_
    rintro e w1 ⟨g, cap, rfl, hA⟩
    have B1 := Lib.hid (bnext B0.out hA.2.1)
    have HPA := Lib.hid hA
    have TN1 := Lib.hid (there_below T0.out hA.2.1)
    clear hA
    have a0 := parts_cell HPA.out (Below.refl _ _) 0 p0 rfl
    have a1 := parts_cell HPA.out (Below.refl _ _) 1 p1 rfl
    have a2 := parts_cell HPA.out (Below.refl _ _) 2 p2 rfl
    have a3 := parts_cell HPA.out (Below.refl _ _) 3 p3 rfl
    have a4 := parts_cell HPA.out (Below.refl _ _) 4 p4 rfl
    have a5 := parts_cell HPA.out (Below.refl _ _) 5 p5 rfl
    have a6 := parts_cell HPA.out (Below.refl _ _) 6 p6 rfl
    have a7 := parts_cell HPA.out (Below.refl _ _) 7 p7 rfl
    have a8 := parts_cell HPA.out (Below.refl _ _) 8 p8 rfl
    go_wp2_with fail
    refine (N1.out _).mono ?_
    rintro e w2 ⟨rfl, hb⟩
    have Z1 := Lib.hid hb
    clear hb a0 a1 a2 a3 a4 a5 a6 a7 a8
    have a0 := parts_cell HPA.out Z1.out 0 p0 rfl
    have a1 := parts_cell HPA.out Z1.out 1 p1 rfl
    have a2 := parts_cell HPA.out Z1.out 2 p2 rfl
    have a3 := parts_cell HPA.out Z1.out 3 p3 rfl
    have a4 := parts_cell HPA.out Z1.out 4 p4 rfl
    have a5 := parts_cell HPA.out Z1.out 5 p5 rfl
    have a6 := parts_cell HPA.out Z1.out 6 p6 rfl
    have a7 := parts_cell HPA.out Z1.out 7 p7 rfl
    have a8 := parts_cell HPA.out Z1.out 8 p8 rfl
    go_wp2_with fail
    refine (N2.out _).mono ?_
    rintro e w3 ⟨rfl, hb⟩
    have Z2 := Lib.hid (bnext Z1.out hb)
    clear hb a0 a1 a2 a3 a4 a5 a6 a7 a8
    have a0 := parts_cell HPA.out Z2.out 0 p0 rfl
    have a1 := parts_cell HPA.out Z2.out 1 p1 rfl
    have a2 := parts_cell HPA.out Z2.out 2 p2 rfl
    have a3 := parts_cell HPA.out Z2.out 3 p3 rfl
    have a4 := parts_cell HPA.out Z2.out 4 p4 rfl
    have a5 := parts_cell HPA.out Z2.out 5 p5 rfl
    have a6 := parts_cell HPA.out Z2.out 6 p6 rfl
    have a7 := parts_cell HPA.out Z2.out 7 p7 rfl
    have a8 := parts_cell HPA.out Z2.out 8 p8 rfl
    go_wp2_with fail
    refine (N3.out _).mono ?_
    rintro e w4 ⟨rfl, hb⟩
    have Z3 := Lib.hid (bnext Z2.out hb)
    clear hb a0 a1 a2 a3 a4 a5 a6 a7 a8
    have a0 := parts_cell HPA.out Z3.out 0 p0 rfl
    have a1 := parts_cell HPA.out Z3.out 1 p1 rfl
    have a2 := parts_cell HPA.out Z3.out 2 p2 rfl
    have a3 := parts_cell HPA.out Z3.out 3 p3 rfl
    have a4 := parts_cell HPA.out Z3.out 4 p4 rfl
    have a5 := parts_cell HPA.out Z3.out 5 p5 rfl
    have a6 := parts_cell HPA.out Z3.out 6 p6 rfl
    have a7 := parts_cell HPA.out Z3.out 7 p7 rfl
    have a8 := parts_cell HPA.out Z3.out 8 p8 rfl
    go_wp2_with fail
    refine (N4.out _).mono ?_
    rintro e w5 ⟨rfl, hb⟩
    have Z4 := Lib.hid (bnext Z3.out hb)
    clear hb a0 a1 a2 a3 a4 a5 a6 a7 a8
    have a0 := parts_cell HPA.out Z4.out 0 p0 rfl
    have a1 := parts_cell HPA.out Z4.out 1 p1 rfl
    have a2 := parts_cell HPA.out Z4.out 2 p2 rfl
    have a3 := parts_cell HPA.out Z4.out 3 p3 rfl
    have a4 := parts_cell HPA.out Z4.out 4 p4 rfl
    have a5 := parts_cell HPA.out Z4.out 5 p5 rfl
    have a6 := parts_cell HPA.out Z4.out 6 p6 rfl
    have a7 := parts_cell HPA.out Z4.out 7 p7 rfl
    have a8 := parts_cell HPA.out Z4.out 8 p8 rfl
    have B5 := Lib.hid (bnext B1.out Z4.out)
    have TN5 := Lib.hid (there_below TN1.out Z4.out)
    have cn := clay_new w5 ⟨p0, v1, v2, v3, v4⟩ 26
    have TN6 := Lib.hid (there_below TN5.out (balloc0 w5 (.cells #[.string p0, .int .i64 v1, .int .i64 v2, .int .i64 v3, .int .i64 v4] 26)))
    have B6 := Lib.hid (balloc B5.out (.cells #[.string p0, .int .i64 v1, .int .i64 v2, .int .i64 v3, .int .i64 v4] 26))
    have CO2 := Lib.hid (CO.out w5.heap.size _ cn.1 cn.2.1 cn.2.2.1 cn.2.2.2.1 cn.2.2.2.2)
    clear cn
    go_wp2_with fail
    refine CO2.out.mono ?_
    rintro e w6 ⟨rfl, rfl⟩
    have TN := TN6.out
    obtain ⟨u0, x0, y0⟩ := there_at TN (k := 0) (by omega)
    obtain ⟨u1, x1, y1⟩ := there_at TN (k := 1) (by omega)
    obtain ⟨u2, x2, y2⟩ := there_at TN (k := 2) (by omega)
    obtain ⟨u3, x3, y3⟩ := there_at TN (k := 3) (by omega)
    obtain ⟨u4, x4, y4⟩ := there_at TN (k := 4) (by omega)
    clear TN
    go_wp2
    refine bodyPost_ret (v := .tuple #[.agg #[.string ⟨#[]⟩, .int .i64 0, .int .i64 0, .int .i64 0, .int .i64 0], .bool false]) (by simp [results, Tryd.results12, go_sem, x0, x1, x2, x3, x4]) rfl ⟨HN.out, (((((B6.out.setCell (Nat.le_refl _) _).setCell (Nat.le_refl _) _).setCell (Nat.le_refl _) _).setCell (Nat.le_refl _) _).setCell (Nat.le_refl _) _)⟩
  · have HN : Hid (ClRead s (.returned (.tuple #[.agg #[.string p0, .int .i64 v1, .int .i64 v2, .int .i64 v3, .int .i64 v4], .bool true]))) := ClRead.some hok HT.out
    rw [hok] at CO
    clear hok hc
    go_enter Tryd.func12, Tryd.ntmps12
    go_wp2_with fail
    rw [HW.out]
    refine C.out.mono ?_
    rintro e w1 ⟨g, cap, rfl, hA⟩
    have B1 := Lib.hid (bnext B0.out hA.2.1)
    have HPA := Lib.hid hA
    have TN1 := Lib.hid (there_below T0.out hA.2.1)
    clear hA
    have a0 := parts_cell HPA.out (Below.refl _ _) 0 p0 rfl
    have a1 := parts_cell HPA.out (Below.refl _ _) 1 p1 rfl
    have a2 := parts_cell HPA.out (Below.refl _ _) 2 p2 rfl
    have a3 := parts_cell HPA.out (Below.refl _ _) 3 p3 rfl
    have a4 := parts_cell HPA.out (Below.refl _ _) 4 p4 rfl
    have a5 := parts_cell HPA.out (Below.refl _ _) 5 p5 rfl
    have a6 := parts_cell HPA.out (Below.refl _ _) 6 p6 rfl
    have a7 := parts_cell HPA.out (Below.refl _ _) 7 p7 rfl
    have a8 := parts_cell HPA.out (Below.refl _ _) 8 p8 rfl
    go_wp2_with fail
    refine (N1.out _).mono ?_
    rintro e w2 ⟨rfl, hb⟩
    have Z1 := Lib.hid hb
    clear hb a0 a1 a2 a3 a4 a5 a6 a7 a8
    have a0 := parts_cell HPA.out Z1.out 0 p0 rfl
    have a1 := parts_cell HPA.out Z1.out 1 p1 rfl
    have a2 := parts_cell HPA.out Z1.out 2 p2 rfl
    have a3 := parts_cell HPA.out Z1.out 3 p3 rfl
    have a4 := parts_cell HPA.out Z1.out 4 p4 rfl
    have a5 := parts_cell HPA.out Z1.out 5 p5 rfl
    have a6 := parts_cell HPA.out Z1.out 6 p6 rfl
    have a7 := parts_cell HPA.out Z1.out 7 p7 rfl
    have a8 := parts_cell HPA.out Z1.out 8 p8 rfl
    go_wp2_with fail
    refine (N2.out _).mono ?_
    rintro e w3 ⟨rfl, hb⟩
    have Z2 := Lib.hid (bnext Z1.out hb)
    clear hb a0 a1 a2 a3 a4 a5 a6 a7 a8
    have a0 := parts_cell HPA.out Z2.out 0 p0 rfl
    have a1 := parts_cell HPA.out Z2.out 1 p1 rfl
    have a2 := parts_cell HPA.out Z2.out 2 p2 rfl
    have a3 := parts_cell HPA.out Z2.out 3 p3 rfl
    have a4 := parts_cell HPA.out Z2.out 4 p4 rfl
    have a5 := parts_cell HPA.out Z2.out 5 p5 rfl
    have a6 := parts_cell HPA.out Z2.out 6 p6 rfl
    have a7 := parts_cell HPA.out Z2.out 7 p7 rfl
    have a8 := parts_cell HPA.out Z2.out 8 p8 rfl
    go_wp2_with fail
    refine (N3.out _).mono ?_
    rintro e w4 ⟨rfl, hb⟩
    have Z3 := Lib.hid (bnext Z2.out hb)
    clear hb a0 a1 a2 a3 a4 a5 a6 a7 a8
    have a0 := parts_cell HPA.out Z3.out 0 p0 rfl
    have a1 := parts_cell HPA.out Z3.out 1 p1 rfl
    have a2 := parts_cell HPA.out Z3.out 2 p2 rfl
    have a3 := parts_cell HPA.out Z3.out 3 p3 rfl
    have a4 := parts_cell HPA.out Z3.out 4 p4 rfl
    have a5 := parts_cell HPA.out Z3.out 5 p5 rfl
    have a6 := parts_cell HPA.out Z3.out 6 p6 rfl
    have a7 := parts_cell HPA.out Z3.out 7 p7 rfl
    have a8 := parts_cell HPA.out Z3.out 8 p8 rfl
    go_wp2_with fail
    refine (N4.out _).mono ?_
    rintro e w5 ⟨rfl, hb⟩
    have Z4 := Lib.hid (bnext Z3.out hb)
    clear hb a0 a1 a2 a3 a4 a5 a6 a7 a8
    have a0 := parts_cell HPA.out Z4.out 0 p0 rfl
    have a1 := parts_cell HPA.out Z4.out 1 p1 rfl
    have a2 := parts_cell HPA.out Z4.out 2 p2 rfl
    have a3 := parts_cell HPA.out Z4.out 3 p3 rfl
    have a4 := parts_cell HPA.out Z4.out 4 p4 rfl
    have a5 := parts_cell HPA.out Z4.out 5 p5 rfl
    have a6 := parts_cell HPA.out Z4.out 6 p6 rfl
    have a7 := parts_cell HPA.out Z4.out 7 p7 rfl
    have a8 := parts_cell HPA.out Z4.out 8 p8 rfl
    have B5 := Lib.hid (bnext B1.out Z4.out)
    have TN5 := Lib.hid (there_below TN1.out Z4.out)
    have cn := clay_new w5 ⟨p0, v1, v2, v3, v4⟩ 26
    have TN6 := Lib.hid (there_below TN5.out (balloc0 w5 (.cells #[.string p0, .int .i64 v1, .int .i64 v2, .int .i64 v3, .int .i64 v4] 26)))
    have B6 := Lib.hid (balloc B5.out (.cells #[.string p0, .int .i64 v1, .int .i64 v2, .int .i64 v3, .int .i64 v4] 26))
    have CO2 := Lib.hid (CO.out w5.heap.size _ cn.1 cn.2.1 cn.2.2.1 cn.2.2.2.1 cn.2.2.2.2)
    clear cn
    go_wp2_with fail
    refine CO2.out.mono ?_
    rintro e w6 ⟨rfl, rfl⟩
    have TN := TN6.out
    obtain ⟨z0, z1, z2, z3, z4⟩ := clay_new w5 ⟨p0, v1, v2, v3, v4⟩ 26
    obtain ⟨u0, x0, y0⟩ := there_at TN (k := 0) (by omega)
    obtain ⟨u1, x1, y1⟩ := there_at TN (k := 1) (by omega)
    obtain ⟨u2, x2, y2⟩ := there_at TN (k := 2) (by omega)
    obtain ⟨u3, x3, y3⟩ := there_at TN (k := 3) (by omega)
    obtain ⟨u4, x4, y4⟩ := there_at TN (k := 4) (by omega)
    clear TN
    go_wp2
    refine bodyPost_ret (v := .tuple #[.agg #[.string p0, .int .i64 v1, .int .i64 v2, .int .i64 v3, .int .i64 v4], .bool true]) (by simp [results, Tryd.results12, go_sem, x0, x1, x2, x3, x4]) rfl ⟨HN.out, (((((B6.out.setCell (Nat.le_refl _) _).setCell (Nat.le_refl _) _).setCell (Nat.le_refl _) _).setCell (Nat.le_refl _) _).setCell (Nat.le_refl _) _)⟩
end Go.Proofs.YtpmklnldgafkjabDoor
