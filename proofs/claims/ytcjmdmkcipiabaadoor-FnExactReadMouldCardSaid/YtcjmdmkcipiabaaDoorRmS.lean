/-
  ReadMould: what its answer is, and the model's.
-/
import Derived.Test.YtcjmdmkcipiabaaDoorSpl2
import Derived.Test.YtcjmdmkcipiabaaDoorRdS
import Derived.Test.YtcjmdmkcipiabaaDoorNumS
import Derived.Test.YtcjmdmkcipiabaaDoorRmP
import Derived.Test.YtcjmdmkcipiabaaDoorRfS
import Derived.Test.YtcjmdmkcipiabaaDoorMoS
import Derived.Test.YtcjmdmkcipiabaaDoorRow
import Derived.Test.YtcjmdmkcipiabaaDoorKeep
namespace Go.Proofs.YtcjmdmkcipiabaaDoor
open Go.ChangeShapes Go.WideShapes Go.ChangeAt Go.RowKit Go.Joins

set_option maxRecDepth 100000 in
set_option maxHeartbeats 6400000 in
theorem readMould_spec (s : ByteArray) (hs : s.size ≤ 1048576) (w : World) : Calls Tryd.prog 5 #[.string s] w fun e w' => MoRead s e ∧ Below w.heap.size w w' := by
  have C := Lib.hid (split_spec s hs 32 (w.alloc (.cells #[.int .i64 0, .int .i64 0, .int .i64 0, .int .i64 0] 23)))
  have B0 : Hid (Below w.heap.size w (w.alloc (.cells #[.int .i64 0, .int .i64 0, .int .i64 0, .int .i64 0] 23))) := balloc0 _ _
  have T0 : Hid ((w.alloc (.cells #[.int .i64 0, .int .i64 0, .int .i64 0, .int .i64 0] 23)).there w.heap.size 0 4) := there_new w _ _ 4 rfl
  obtain ⟨W0, hW⟩ : ∃ W0, w.alloc (.cells #[.int .i64 0, .int .i64 0, .int .i64 0, .int .i64 0] 23) = W0 := ⟨_, rfl⟩
  have hcut : cutParts s (cutsC s 32 s.size 0 0) = partsOf s 32 := rfl
  rw [hW, hcut] at C
  rw [hW] at B0 T0
  have HW := Lib.hid hW
  clear hW hcut
  obtain ⟨P, hP⟩ : ∃ P, partsOf s 32 = P := ⟨_, rfl⟩
  have HS : ∀ x ∈ P, x.size ≤ 1048576 := fun x hx => Nat.le_trans (part_size (c := 32) (hP ▸ hx)) hs
  have HP := Lib.hid hP
  rw [hP] at C
  clear hP hs
  by_cases h2 : P.length = 3
  case neg =>
    have HN : Hid (MoRead s (.returned (.tuple #[.agg #[.int .i64 0, .int .i64 0, .int .i64 0, .int .i64 0], .bool false]))) := MoRead.none (fun a b p q r l wd ht j e _ _ _ _ _ _ => h2 (by rw [← HP.out, e]; rfl))
    have h2' : ¬ (P.length : Int) = 3 := by omega
    clear h2 HS
    go_enter Tryd.func5, Tryd.ntmps5
    go_wp2_with fail
    rw [HW.out]
    refine C.out.mono ?_
    rintro e w1 ⟨g, cap, rfl, hA⟩
    have B1 := Lib.hid (bnext B0.out hA.2.1)
    have TN := there_below T0.out hA.2.1
    clear hA
    obtain ⟨u0, x0, y0⟩ := there_at TN (k := 0) (by omega)
    obtain ⟨u1, x1, y1⟩ := there_at TN (k := 1) (by omega)
    obtain ⟨u2, x2, y2⟩ := there_at TN (k := 2) (by omega)
    obtain ⟨u3, x3, y3⟩ := there_at TN (k := 3) (by omega)
    clear TN
    go_wp2
    refine bodyPost_ret (v := .tuple #[.agg #[.int .i64 0, .int .i64 0, .int .i64 0, .int .i64 0], .bool false]) (by simp [results, Tryd.results5, go_sem, x0, x1, x2, x3]) rfl ⟨HN.out, ((((B1.out.setCell (Nat.le_refl _) _).setCell (Nat.le_refl _) _).setCell (Nat.le_refl _) _).setCell (Nat.le_refl _) _)⟩
  obtain ⟨a, pu, pb, hab⟩ := three h2
  subst hab
  by_cases hu : pu = usedB
  case neg =>
    have HN : Hid (MoRead s (.returned (.tuple #[.agg #[.int .i64 0, .int .i64 0, .int .i64 0, .int .i64 0], .bool false]))) := MoRead.none (fun a' b' p q r l wd ht j e _ _ _ _ _ _ => hu (by
      rw [HP.out] at e
      simp only [List.cons.injEq, and_true] at e
      exact e.2.1))
    have hu1 : (pu.toList == [117, 115, 101, 100]) = false := by
      rw [beq_eq_false_iff_ne]
      intro h
      apply hu
      apply Go.WideShapes.bytes_inj
      rw [ByteArray.toList_eq] at h
      rw [h]
      rfl
    clear h2 HS hu
    go_enter Tryd.func5, Tryd.ntmps5
    go_wp2_with fail
    rw [HW.out]
    refine C.out.mono ?_
    rintro e w1 ⟨g, cap, rfl, hA⟩
    have B1 := Lib.hid (bnext B0.out hA.2.1)
    have TN := there_below T0.out hA.2.1
    have a1 := parts_cell hA (Below.refl _ _) 1 pu rfl
    clear hA
    obtain ⟨u0, x0, y0⟩ := there_at TN (k := 0) (by omega)
    obtain ⟨u1, x1, y1⟩ := there_at TN (k := 1) (by omega)
    obtain ⟨u2, x2, y2⟩ := there_at TN (k := 2) (by omega)
    obtain ⟨u3, x3, y3⟩ := there_at TN (k := 3) (by omega)
    clear TN
    go_wp2
    refine bodyPost_ret (v := .tuple #[.agg #[.int .i64 0, .int .i64 0, .int .i64 0, .int .i64 0], .bool false]) (by simp [results, Tryd.results5, go_sem, x0, x1, x2, x3]) rfl ⟨HN.out, ((((B1.out.setCell (Nat.le_refl _) _).setCell (Nat.le_refl _) _).setCell (Nat.le_refl _) _).setCell (Nat.le_refl _) _)⟩
  have hu1 : pu = ⟨#[117, 115, 101, 100]⟩ := hu
  subst hu1
  clear hu
  have C2 := Lib.hid (fun W => split_spec a (HS a (by simp)) 120 W)
  have hcut : cutParts a (cutsC a 120 a.size 0 0) = partsOf a 120 := rfl
  rw [hcut] at C2
  clear hcut HS
  obtain ⟨P2, hP2⟩ : ∃ P2, partsOf a 120 = P2 := ⟨_, rfl⟩
  have HP2 := Lib.hid hP2
  rw [hP2] at C2
  clear hP2
  by_cases h3 : P2.length = 3
  case neg =>
    have HN : Hid (MoRead s (.returned (.tuple #[.agg #[.int .i64 0, .int .i64 0, .int .i64 0, .int .i64 0], .bool false]))) := MoRead.none (fun a' b' p q r l wd ht j e e2 _ _ _ _ _ => h3 (by
      rw [HP.out] at e
      simp only [List.cons.injEq, and_true] at e
      rw [← HP2.out, e.1, e2]
      rfl))
    have h3' : ¬ (P2.length : Int) = 3 := by omega
    clear h3
    go_enter Tryd.func5, Tryd.ntmps5
    go_wp2_with fail
    rw [HW.out]
    refine C.out.mono ?_
    rintro e w1 ⟨g, cap, rfl, hA⟩
    have B1 := Lib.hid (bnext B0.out hA.2.1)
    have HPA := Lib.hid hA
    have TN1 := Lib.hid (there_below T0.out hA.2.1)
    have a0 := parts_cell hA (Below.refl _ _) 0 a rfl
    have a1 := parts_cell hA (Below.refl _ _) 1 ⟨#[117, 115, 101, 100]⟩ rfl
    clear hA
    go_wp2_with fail
    refine (C2.out _).mono ?_
    rintro e w2 ⟨g2, cap2, rfl, hA⟩
    have B2 := Lib.hid (bnext B1.out hA.2.1)
    have HPB := Lib.hid hA
    have TN2 := Lib.hid (there_below TN1.out hA.2.1)
    have D2 := Lib.hid hA.2.1
    clear hA a0 a1
    have TN := TN2.out
    obtain ⟨u0, x0, y0⟩ := there_at TN (k := 0) (by omega)
    obtain ⟨u1, x1, y1⟩ := there_at TN (k := 1) (by omega)
    obtain ⟨u2, x2, y2⟩ := there_at TN (k := 2) (by omega)
    obtain ⟨u3, x3, y3⟩ := there_at TN (k := 3) (by omega)
    clear TN
    go_wp2
    refine bodyPost_ret (v := .tuple #[.agg #[.int .i64 0, .int .i64 0, .int .i64 0, .int .i64 0], .bool false]) (by simp [results, Tryd.results5, go_sem, x0, x1, x2, x3]) rfl ⟨HN.out, ((((B2.out.setCell (Nat.le_refl _) _).setCell (Nat.le_refl _) _).setCell (Nat.le_refl _) _).setCell (Nat.le_refl _) _)⟩
  obtain ⟨p1, p2, p3, hpp⟩ := three h3
  subst hpp
  have HX : Hid (∀ a' b' p q r : ByteArray, partsOf s 32 = [a', usedB, b'] → partsOf a' 120 = [p, q, r] → p = p1 ∧ q = p2 ∧ r = p3 ∧ b' = pb) := by
    intro a' b' p q r e e2
    rw [HP.out] at e
    simp only [List.cons.injEq, and_true] at e
    rw [← e.1, HP2.out] at e2
    simp only [List.cons.injEq, and_true] at e2
    exact ⟨e2.1.symm, e2.2.1.symm, e2.2.2.symm, e.2.2.symm⟩
  have N1 := Lib.hid (number_spec p1)
  have G1 := Lib.hid (numR_cases p1.data.toList)
  obtain ⟨v1, hv1⟩ : ∃ v, (numR p1.data.toList).getD 0 = v := ⟨_, rfl⟩
  obtain ⟨b1, hb1⟩ : ∃ bo, (numR p1.data.toList).isSome = bo := ⟨_, rfl⟩
  rw [hv1, hb1] at N1 G1
  clear hv1 hb1
  have N2 := Lib.hid (number_spec p2)
  have G2 := Lib.hid (numR_cases p2.data.toList)
  obtain ⟨v2, hv2⟩ : ∃ v, (numR p2.data.toList).getD 0 = v := ⟨_, rfl⟩
  obtain ⟨b2, hb2⟩ : ∃ bo, (numR p2.data.toList).isSome = bo := ⟨_, rfl⟩
  rw [hv2, hb2] at N2 G2
  clear hv2 hb2
  have N3 := Lib.hid (number_spec p3)
  have G3 := Lib.hid (numR_cases p3.data.toList)
  obtain ⟨v3, hv3⟩ : ∃ v, (numR p3.data.toList).getD 0 = v := ⟨_, rfl⟩
  obtain ⟨b3, hb3⟩ : ∃ bo, (numR p3.data.toList).isSome = bo := ⟨_, rfl⟩
  rw [hv3, hb3] at N3 G3
  clear hv3 hb3
  have N4 := Lib.hid (number_spec pb)
  have G4 := Lib.hid (numR_cases pb.data.toList)
  obtain ⟨v4, hv4⟩ : ∃ v, (numR pb.data.toList).getD 0 = v := ⟨_, rfl⟩
  obtain ⟨b4, hb4⟩ : ∃ bo, (numR pb.data.toList).isSome = bo := ⟨_, rfl⟩
  rw [hv4, hb4] at N4 G4
  clear hv4 hb4
  cases b1
  case false =>
    have HN : Hid (MoRead s (.returned (.tuple #[.agg #[.int .i64 0, .int .i64 0, .int .i64 0, .int .i64 0], .bool false]))) := MoRead.none (fun a' b' p q r l wd ht j e e2 n1 n2 n3 n4 _ => by
      obtain ⟨rfl, rfl, rfl, rfl⟩ := HX.out a' b' p q r e e2
      rcases G1.out with ⟨n, _, _, h⟩ | ⟨h, _⟩
      · cases h
      · rw [n1] at h
        cases h)
    go_enter Tryd.func5, Tryd.ntmps5
    go_wp2_with fail
    rw [HW.out]
    refine C.out.mono ?_
    rintro e w1 ⟨g, cap, rfl, hA⟩
    have B1 := Lib.hid (bnext B0.out hA.2.1)
    have HPA := Lib.hid hA
    have TN1 := Lib.hid (there_below T0.out hA.2.1)
    have a0 := parts_cell hA (Below.refl _ _) 0 a rfl
    have a1 := parts_cell hA (Below.refl _ _) 1 ⟨#[117, 115, 101, 100]⟩ rfl
    clear hA
    go_wp2_with fail
    refine (C2.out _).mono ?_
    rintro e w2 ⟨g2, cap2, rfl, hA⟩
    have B2 := Lib.hid (bnext B1.out hA.2.1)
    have HPB := Lib.hid hA
    have TN2 := Lib.hid (there_below TN1.out hA.2.1)
    have D2 := Lib.hid hA.2.1
    clear hA a0 a1
    have c0 := parts_cell HPB.out (Below.refl _ _) 0 p1 rfl
    have c1 := parts_cell HPB.out (Below.refl _ _) 1 p2 rfl
    have c2 := parts_cell HPB.out (Below.refl _ _) 2 p3 rfl
    have c3 := parts_cell HPA.out (bnext D2.out (Below.refl _ _)) 2 pb rfl
    go_wp2_with fail
    refine (N1.out _).mono ?_
    rintro e w3 ⟨rfl, hb⟩
    have Z1 := Lib.hid hb
    clear hb
    clear c0 c1 c2 c3
    have c0 := parts_cell HPB.out Z1.out 0 p1 rfl
    have c1 := parts_cell HPB.out Z1.out 1 p2 rfl
    have c2 := parts_cell HPB.out Z1.out 2 p3 rfl
    have c3 := parts_cell HPA.out (bnext D2.out Z1.out) 2 pb rfl
    go_wp2_with fail
    refine (N2.out _).mono ?_
    rintro e w4 ⟨rfl, hb⟩
    have Z2 := Lib.hid (bnext Z1.out hb)
    clear hb
    clear c0 c1 c2 c3
    have c0 := parts_cell HPB.out Z2.out 0 p1 rfl
    have c1 := parts_cell HPB.out Z2.out 1 p2 rfl
    have c2 := parts_cell HPB.out Z2.out 2 p3 rfl
    have c3 := parts_cell HPA.out (bnext D2.out Z2.out) 2 pb rfl
    go_wp2_with fail
    refine (N3.out _).mono ?_
    rintro e w5 ⟨rfl, hb⟩
    have Z3 := Lib.hid (bnext Z2.out hb)
    clear hb
    clear c0 c1 c2 c3
    have c0 := parts_cell HPB.out Z3.out 0 p1 rfl
    have c1 := parts_cell HPB.out Z3.out 1 p2 rfl
    have c2 := parts_cell HPB.out Z3.out 2 p3 rfl
    have c3 := parts_cell HPA.out (bnext D2.out Z3.out) 2 pb rfl
    go_wp2_with fail
    refine (N4.out _).mono ?_
    rintro e w6 ⟨rfl, hb⟩
    have Z4 := Lib.hid (bnext Z3.out hb)
    clear hb
    clear c0 c1 c2 c3
    have B6 := Lib.hid (bnext B2.out Z4.out)
    have TN6 := Lib.hid (there_below TN2.out Z4.out)
    have TN := there_below TN6.out (balloc0 w6 (.cells #[.int .i64 v1, .int .i64 v2, .int .i64 v3, .int .i64 v4] 23))
    have B7 := Lib.hid (balloc B6.out (.cells #[.int .i64 v1, .int .i64 v2, .int .i64 v3, .int .i64 v4] 23))
    obtain ⟨u0, x0, y0⟩ := there_at TN (k := 0) (by omega)
    obtain ⟨u1, x1, y1⟩ := there_at TN (k := 1) (by omega)
    obtain ⟨u2, x2, y2⟩ := there_at TN (k := 2) (by omega)
    obtain ⟨u3, x3, y3⟩ := there_at TN (k := 3) (by omega)
    clear TN
    go_wp2
    refine bodyPost_ret (v := .tuple #[.agg #[.int .i64 0, .int .i64 0, .int .i64 0, .int .i64 0], .bool false]) (by simp [results, Tryd.results5, go_sem, x0, x1, x2, x3]) rfl ⟨HN.out, ((((B7.out.setCell (Nat.le_refl _) _).setCell (Nat.le_refl _) _).setCell (Nat.le_refl _) _).setCell (Nat.le_refl _) _)⟩
  have GG1 : numR p1.data.toList = Option.some v1 := by
    rcases G1.out with ⟨n, h, h2, _⟩ | ⟨_, h⟩
    · rw [h, h2]
    · cases h
  have K1 := Lib.hid GG1
  clear GG1
  cases b2
  case false =>
    have HN : Hid (MoRead s (.returned (.tuple #[.agg #[.int .i64 0, .int .i64 0, .int .i64 0, .int .i64 0], .bool false]))) := MoRead.none (fun a' b' p q r l wd ht j e e2 n1 n2 n3 n4 _ => by
      obtain ⟨rfl, rfl, rfl, rfl⟩ := HX.out a' b' p q r e e2
      rcases G2.out with ⟨n, _, _, h⟩ | ⟨h, _⟩
      · cases h
      · rw [n2] at h
        cases h)
    go_enter Tryd.func5, Tryd.ntmps5
    go_wp2_with fail
    rw [HW.out]
    refine C.out.mono ?_
    rintro e w1 ⟨g, cap, rfl, hA⟩
    have B1 := Lib.hid (bnext B0.out hA.2.1)
    have HPA := Lib.hid hA
    have TN1 := Lib.hid (there_below T0.out hA.2.1)
    have a0 := parts_cell hA (Below.refl _ _) 0 a rfl
    have a1 := parts_cell hA (Below.refl _ _) 1 ⟨#[117, 115, 101, 100]⟩ rfl
    clear hA
    go_wp2_with fail
    refine (C2.out _).mono ?_
    rintro e w2 ⟨g2, cap2, rfl, hA⟩
    have B2 := Lib.hid (bnext B1.out hA.2.1)
    have HPB := Lib.hid hA
    have TN2 := Lib.hid (there_below TN1.out hA.2.1)
    have D2 := Lib.hid hA.2.1
    clear hA a0 a1
    have c0 := parts_cell HPB.out (Below.refl _ _) 0 p1 rfl
    have c1 := parts_cell HPB.out (Below.refl _ _) 1 p2 rfl
    have c2 := parts_cell HPB.out (Below.refl _ _) 2 p3 rfl
    have c3 := parts_cell HPA.out (bnext D2.out (Below.refl _ _)) 2 pb rfl
    go_wp2_with fail
    refine (N1.out _).mono ?_
    rintro e w3 ⟨rfl, hb⟩
    have Z1 := Lib.hid hb
    clear hb
    clear c0 c1 c2 c3
    have c0 := parts_cell HPB.out Z1.out 0 p1 rfl
    have c1 := parts_cell HPB.out Z1.out 1 p2 rfl
    have c2 := parts_cell HPB.out Z1.out 2 p3 rfl
    have c3 := parts_cell HPA.out (bnext D2.out Z1.out) 2 pb rfl
    go_wp2_with fail
    refine (N2.out _).mono ?_
    rintro e w4 ⟨rfl, hb⟩
    have Z2 := Lib.hid (bnext Z1.out hb)
    clear hb
    clear c0 c1 c2 c3
    have c0 := parts_cell HPB.out Z2.out 0 p1 rfl
    have c1 := parts_cell HPB.out Z2.out 1 p2 rfl
    have c2 := parts_cell HPB.out Z2.out 2 p3 rfl
    have c3 := parts_cell HPA.out (bnext D2.out Z2.out) 2 pb rfl
    go_wp2_with fail
    refine (N3.out _).mono ?_
    rintro e w5 ⟨rfl, hb⟩
    have Z3 := Lib.hid (bnext Z2.out hb)
    clear hb
    clear c0 c1 c2 c3
    have c0 := parts_cell HPB.out Z3.out 0 p1 rfl
    have c1 := parts_cell HPB.out Z3.out 1 p2 rfl
    have c2 := parts_cell HPB.out Z3.out 2 p3 rfl
    have c3 := parts_cell HPA.out (bnext D2.out Z3.out) 2 pb rfl
    go_wp2_with fail
    refine (N4.out _).mono ?_
    rintro e w6 ⟨rfl, hb⟩
    have Z4 := Lib.hid (bnext Z3.out hb)
    clear hb
    clear c0 c1 c2 c3
    have B6 := Lib.hid (bnext B2.out Z4.out)
    have TN6 := Lib.hid (there_below TN2.out Z4.out)
    have TN := there_below TN6.out (balloc0 w6 (.cells #[.int .i64 v1, .int .i64 v2, .int .i64 v3, .int .i64 v4] 23))
    have B7 := Lib.hid (balloc B6.out (.cells #[.int .i64 v1, .int .i64 v2, .int .i64 v3, .int .i64 v4] 23))
    obtain ⟨u0, x0, y0⟩ := there_at TN (k := 0) (by omega)
    obtain ⟨u1, x1, y1⟩ := there_at TN (k := 1) (by omega)
    obtain ⟨u2, x2, y2⟩ := there_at TN (k := 2) (by omega)
    obtain ⟨u3, x3, y3⟩ := there_at TN (k := 3) (by omega)
    clear TN
    go_wp2
    refine bodyPost_ret (v := .tuple #[.agg #[.int .i64 0, .int .i64 0, .int .i64 0, .int .i64 0], .bool false]) (by simp [results, Tryd.results5, go_sem, x0, x1, x2, x3]) rfl ⟨HN.out, ((((B7.out.setCell (Nat.le_refl _) _).setCell (Nat.le_refl _) _).setCell (Nat.le_refl _) _).setCell (Nat.le_refl _) _)⟩
  have GG2 : numR p2.data.toList = Option.some v2 := by
    rcases G2.out with ⟨n, h, h2, _⟩ | ⟨_, h⟩
    · rw [h, h2]
    · cases h
  have K2 := Lib.hid GG2
  clear GG2
  cases b3
  case false =>
    have HN : Hid (MoRead s (.returned (.tuple #[.agg #[.int .i64 0, .int .i64 0, .int .i64 0, .int .i64 0], .bool false]))) := MoRead.none (fun a' b' p q r l wd ht j e e2 n1 n2 n3 n4 _ => by
      obtain ⟨rfl, rfl, rfl, rfl⟩ := HX.out a' b' p q r e e2
      rcases G3.out with ⟨n, _, _, h⟩ | ⟨h, _⟩
      · cases h
      · rw [n3] at h
        cases h)
    go_enter Tryd.func5, Tryd.ntmps5
    go_wp2_with fail
    rw [HW.out]
    refine C.out.mono ?_
    rintro e w1 ⟨g, cap, rfl, hA⟩
    have B1 := Lib.hid (bnext B0.out hA.2.1)
    have HPA := Lib.hid hA
    have TN1 := Lib.hid (there_below T0.out hA.2.1)
    have a0 := parts_cell hA (Below.refl _ _) 0 a rfl
    have a1 := parts_cell hA (Below.refl _ _) 1 ⟨#[117, 115, 101, 100]⟩ rfl
    clear hA
    go_wp2_with fail
    refine (C2.out _).mono ?_
    rintro e w2 ⟨g2, cap2, rfl, hA⟩
    have B2 := Lib.hid (bnext B1.out hA.2.1)
    have HPB := Lib.hid hA
    have TN2 := Lib.hid (there_below TN1.out hA.2.1)
    have D2 := Lib.hid hA.2.1
    clear hA a0 a1
    have c0 := parts_cell HPB.out (Below.refl _ _) 0 p1 rfl
    have c1 := parts_cell HPB.out (Below.refl _ _) 1 p2 rfl
    have c2 := parts_cell HPB.out (Below.refl _ _) 2 p3 rfl
    have c3 := parts_cell HPA.out (bnext D2.out (Below.refl _ _)) 2 pb rfl
    go_wp2_with fail
    refine (N1.out _).mono ?_
    rintro e w3 ⟨rfl, hb⟩
    have Z1 := Lib.hid hb
    clear hb
    clear c0 c1 c2 c3
    have c0 := parts_cell HPB.out Z1.out 0 p1 rfl
    have c1 := parts_cell HPB.out Z1.out 1 p2 rfl
    have c2 := parts_cell HPB.out Z1.out 2 p3 rfl
    have c3 := parts_cell HPA.out (bnext D2.out Z1.out) 2 pb rfl
    go_wp2_with fail
    refine (N2.out _).mono ?_
    rintro e w4 ⟨rfl, hb⟩
    have Z2 := Lib.hid (bnext Z1.out hb)
    clear hb
    clear c0 c1 c2 c3
    have c0 := parts_cell HPB.out Z2.out 0 p1 rfl
    have c1 := parts_cell HPB.out Z2.out 1 p2 rfl
    have c2 := parts_cell HPB.out Z2.out 2 p3 rfl
    have c3 := parts_cell HPA.out (bnext D2.out Z2.out) 2 pb rfl
    go_wp2_with fail
    refine (N3.out _).mono ?_
    rintro e w5 ⟨rfl, hb⟩
    have Z3 := Lib.hid (bnext Z2.out hb)
    clear hb
    clear c0 c1 c2 c3
    have c0 := parts_cell HPB.out Z3.out 0 p1 rfl
    have c1 := parts_cell HPB.out Z3.out 1 p2 rfl
    have c2 := parts_cell HPB.out Z3.out 2 p3 rfl
    have c3 := parts_cell HPA.out (bnext D2.out Z3.out) 2 pb rfl
    go_wp2_with fail
    refine (N4.out _).mono ?_
    rintro e w6 ⟨rfl, hb⟩
    have Z4 := Lib.hid (bnext Z3.out hb)
    clear hb
    clear c0 c1 c2 c3
    have B6 := Lib.hid (bnext B2.out Z4.out)
    have TN6 := Lib.hid (there_below TN2.out Z4.out)
    have TN := there_below TN6.out (balloc0 w6 (.cells #[.int .i64 v1, .int .i64 v2, .int .i64 v3, .int .i64 v4] 23))
    have B7 := Lib.hid (balloc B6.out (.cells #[.int .i64 v1, .int .i64 v2, .int .i64 v3, .int .i64 v4] 23))
    obtain ⟨u0, x0, y0⟩ := there_at TN (k := 0) (by omega)
    obtain ⟨u1, x1, y1⟩ := there_at TN (k := 1) (by omega)
    obtain ⟨u2, x2, y2⟩ := there_at TN (k := 2) (by omega)
    obtain ⟨u3, x3, y3⟩ := there_at TN (k := 3) (by omega)
    clear TN
    go_wp2
    refine bodyPost_ret (v := .tuple #[.agg #[.int .i64 0, .int .i64 0, .int .i64 0, .int .i64 0], .bool false]) (by simp [results, Tryd.results5, go_sem, x0, x1, x2, x3]) rfl ⟨HN.out, ((((B7.out.setCell (Nat.le_refl _) _).setCell (Nat.le_refl _) _).setCell (Nat.le_refl _) _).setCell (Nat.le_refl _) _)⟩
  have GG3 : numR p3.data.toList = Option.some v3 := by
    rcases G3.out with ⟨n, h, h2, _⟩ | ⟨_, h⟩
    · rw [h, h2]
    · cases h
  have K3 := Lib.hid GG3
  clear GG3
  cases b4
  case false =>
    have HN : Hid (MoRead s (.returned (.tuple #[.agg #[.int .i64 0, .int .i64 0, .int .i64 0, .int .i64 0], .bool false]))) := MoRead.none (fun a' b' p q r l wd ht j e e2 n1 n2 n3 n4 _ => by
      obtain ⟨rfl, rfl, rfl, rfl⟩ := HX.out a' b' p q r e e2
      rcases G4.out with ⟨n, _, _, h⟩ | ⟨h, _⟩
      · cases h
      · rw [n4] at h
        cases h)
    go_enter Tryd.func5, Tryd.ntmps5
    go_wp2_with fail
    rw [HW.out]
    refine C.out.mono ?_
    rintro e w1 ⟨g, cap, rfl, hA⟩
    have B1 := Lib.hid (bnext B0.out hA.2.1)
    have HPA := Lib.hid hA
    have TN1 := Lib.hid (there_below T0.out hA.2.1)
    have a0 := parts_cell hA (Below.refl _ _) 0 a rfl
    have a1 := parts_cell hA (Below.refl _ _) 1 ⟨#[117, 115, 101, 100]⟩ rfl
    clear hA
    go_wp2_with fail
    refine (C2.out _).mono ?_
    rintro e w2 ⟨g2, cap2, rfl, hA⟩
    have B2 := Lib.hid (bnext B1.out hA.2.1)
    have HPB := Lib.hid hA
    have TN2 := Lib.hid (there_below TN1.out hA.2.1)
    have D2 := Lib.hid hA.2.1
    clear hA a0 a1
    have c0 := parts_cell HPB.out (Below.refl _ _) 0 p1 rfl
    have c1 := parts_cell HPB.out (Below.refl _ _) 1 p2 rfl
    have c2 := parts_cell HPB.out (Below.refl _ _) 2 p3 rfl
    have c3 := parts_cell HPA.out (bnext D2.out (Below.refl _ _)) 2 pb rfl
    go_wp2_with fail
    refine (N1.out _).mono ?_
    rintro e w3 ⟨rfl, hb⟩
    have Z1 := Lib.hid hb
    clear hb
    clear c0 c1 c2 c3
    have c0 := parts_cell HPB.out Z1.out 0 p1 rfl
    have c1 := parts_cell HPB.out Z1.out 1 p2 rfl
    have c2 := parts_cell HPB.out Z1.out 2 p3 rfl
    have c3 := parts_cell HPA.out (bnext D2.out Z1.out) 2 pb rfl
    go_wp2_with fail
    refine (N2.out _).mono ?_
    rintro e w4 ⟨rfl, hb⟩
    have Z2 := Lib.hid (bnext Z1.out hb)
    clear hb
    clear c0 c1 c2 c3
    have c0 := parts_cell HPB.out Z2.out 0 p1 rfl
    have c1 := parts_cell HPB.out Z2.out 1 p2 rfl
    have c2 := parts_cell HPB.out Z2.out 2 p3 rfl
    have c3 := parts_cell HPA.out (bnext D2.out Z2.out) 2 pb rfl
    go_wp2_with fail
    refine (N3.out _).mono ?_
    rintro e w5 ⟨rfl, hb⟩
    have Z3 := Lib.hid (bnext Z2.out hb)
    clear hb
    clear c0 c1 c2 c3
    have c0 := parts_cell HPB.out Z3.out 0 p1 rfl
    have c1 := parts_cell HPB.out Z3.out 1 p2 rfl
    have c2 := parts_cell HPB.out Z3.out 2 p3 rfl
    have c3 := parts_cell HPA.out (bnext D2.out Z3.out) 2 pb rfl
    go_wp2_with fail
    refine (N4.out _).mono ?_
    rintro e w6 ⟨rfl, hb⟩
    have Z4 := Lib.hid (bnext Z3.out hb)
    clear hb
    clear c0 c1 c2 c3
    have B6 := Lib.hid (bnext B2.out Z4.out)
    have TN6 := Lib.hid (there_below TN2.out Z4.out)
    have TN := there_below TN6.out (balloc0 w6 (.cells #[.int .i64 v1, .int .i64 v2, .int .i64 v3, .int .i64 v4] 23))
    have B7 := Lib.hid (balloc B6.out (.cells #[.int .i64 v1, .int .i64 v2, .int .i64 v3, .int .i64 v4] 23))
    obtain ⟨u0, x0, y0⟩ := there_at TN (k := 0) (by omega)
    obtain ⟨u1, x1, y1⟩ := there_at TN (k := 1) (by omega)
    obtain ⟨u2, x2, y2⟩ := there_at TN (k := 2) (by omega)
    obtain ⟨u3, x3, y3⟩ := there_at TN (k := 3) (by omega)
    clear TN
    go_wp2
    refine bodyPost_ret (v := .tuple #[.agg #[.int .i64 0, .int .i64 0, .int .i64 0, .int .i64 0], .bool false]) (by simp [results, Tryd.results5, go_sem, x0, x1, x2, x3]) rfl ⟨HN.out, ((((B7.out.setCell (Nat.le_refl _) _).setCell (Nat.le_refl _) _).setCell (Nat.le_refl _) _).setCell (Nat.le_refl _) _)⟩
  have GG4 : numR pb.data.toList = Option.some v4 := by
    rcases G4.out with ⟨n, h, h2, _⟩ | ⟨_, h⟩
    · rw [h, h2]
    · cases h
  have K4 := Lib.hid GG4
  clear GG4
  cases hok : (⟨v1, v2, v3, v4⟩ : Mo).ok
  · have HN : Hid (MoRead s (.returned (.tuple #[.agg #[.int .i64 0, .int .i64 0, .int .i64 0, .int .i64 0], .bool false]))) := MoRead.none (fun a' b' p q r l wd ht j e e2 n1 n2 n3 n4 ok => by
      obtain ⟨rfl, rfl, rfl, rfl⟩ := HX.out a' b' p q r e e2
      rw [K1.out] at n1
      rw [K2.out] at n2
      rw [K3.out] at n3
      rw [K4.out] at n4
      cases n1
      cases n2
      cases n3
      cases n4
      rw [hok] at ok
      cases ok)
    have HOK := Lib.hid hok
    clear hok
    go_enter Tryd.func5, Tryd.ntmps5
    go_wp2_with fail
    rw [HW.out]
    refine C.out.mono ?_
    rintro e w1 ⟨g, cap, rfl, hA⟩
    have B1 := Lib.hid (bnext B0.out hA.2.1)
    have HPA := Lib.hid hA
    have TN1 := Lib.hid (there_below T0.out hA.2.1)
    have a0 := parts_cell hA (Below.refl _ _) 0 a rfl
    have a1 := parts_cell hA (Below.refl _ _) 1 ⟨#[117, 115, 101, 100]⟩ rfl
    clear hA
    go_wp2_with fail
    refine (C2.out _).mono ?_
    rintro e w2 ⟨g2, cap2, rfl, hA⟩
    have B2 := Lib.hid (bnext B1.out hA.2.1)
    have HPB := Lib.hid hA
    have TN2 := Lib.hid (there_below TN1.out hA.2.1)
    have D2 := Lib.hid hA.2.1
    clear hA a0 a1
    have c0 := parts_cell HPB.out (Below.refl _ _) 0 p1 rfl
    have c1 := parts_cell HPB.out (Below.refl _ _) 1 p2 rfl
    have c2 := parts_cell HPB.out (Below.refl _ _) 2 p3 rfl
    have c3 := parts_cell HPA.out (bnext D2.out (Below.refl _ _)) 2 pb rfl
    go_wp2_with fail
    refine (N1.out _).mono ?_
    rintro e w3 ⟨rfl, hb⟩
    have Z1 := Lib.hid hb
    clear hb
    clear c0 c1 c2 c3
    have c0 := parts_cell HPB.out Z1.out 0 p1 rfl
    have c1 := parts_cell HPB.out Z1.out 1 p2 rfl
    have c2 := parts_cell HPB.out Z1.out 2 p3 rfl
    have c3 := parts_cell HPA.out (bnext D2.out Z1.out) 2 pb rfl
    go_wp2_with fail
    refine (N2.out _).mono ?_
    rintro e w4 ⟨rfl, hb⟩
    have Z2 := Lib.hid (bnext Z1.out hb)
    clear hb
    clear c0 c1 c2 c3
    have c0 := parts_cell HPB.out Z2.out 0 p1 rfl
    have c1 := parts_cell HPB.out Z2.out 1 p2 rfl
    have c2 := parts_cell HPB.out Z2.out 2 p3 rfl
    have c3 := parts_cell HPA.out (bnext D2.out Z2.out) 2 pb rfl
    go_wp2_with fail
    refine (N3.out _).mono ?_
    rintro e w5 ⟨rfl, hb⟩
    have Z3 := Lib.hid (bnext Z2.out hb)
    clear hb
    clear c0 c1 c2 c3
    have c0 := parts_cell HPB.out Z3.out 0 p1 rfl
    have c1 := parts_cell HPB.out Z3.out 1 p2 rfl
    have c2 := parts_cell HPB.out Z3.out 2 p3 rfl
    have c3 := parts_cell HPA.out (bnext D2.out Z3.out) 2 pb rfl
    go_wp2_with fail
    refine (N4.out _).mono ?_
    rintro e w6 ⟨rfl, hb⟩
    have Z4 := Lib.hid (bnext Z3.out hb)
    clear hb
    clear c0 c1 c2 c3
    have B6 := Lib.hid (bnext B2.out Z4.out)
    have TN6 := Lib.hid (there_below TN2.out Z4.out)
    obtain ⟨z0, z1, z2, z3⟩ := range_new4 w6 v1 v2 v3 v4 (t := 23)
    have TN7 := Lib.hid (there_below TN6.out (balloc0 w6 (.cells #[.int .i64 v1, .int .i64 v2, .int .i64 v3, .int .i64 v4] 23)))
    have B7 := Lib.hid (balloc B6.out (.cells #[.int .i64 v1, .int .i64 v2, .int .i64 v3, .int .i64 v4] 23))
    go_wp2_with fail
    refine (mo_one_spec ⟨v1, v2, v3, v4⟩ w6.heap.size 0 _ z0 z1 z2 z3).mono ?_
    rintro e w8 ⟨rfl, rfl⟩
    rw [HOK.out]
    have B8 := Lib.hid B7.out
    have TN := TN7.out
    clear z0 z1 z2 z3
    obtain ⟨u0, x0, y0⟩ := there_at TN (k := 0) (by omega)
    obtain ⟨u1, x1, y1⟩ := there_at TN (k := 1) (by omega)
    obtain ⟨u2, x2, y2⟩ := there_at TN (k := 2) (by omega)
    obtain ⟨u3, x3, y3⟩ := there_at TN (k := 3) (by omega)
    clear TN
    go_wp2
    refine bodyPost_ret (v := .tuple #[.agg #[.int .i64 0, .int .i64 0, .int .i64 0, .int .i64 0], .bool false]) (by simp [results, Tryd.results5, go_sem, x0, x1, x2, x3]) rfl ⟨HN.out, ((((B8.out.setCell (Nat.le_refl _) _).setCell (Nat.le_refl _) _).setCell (Nat.le_refl _) _).setCell (Nat.le_refl _) _)⟩
  · have HN : Hid (MoRead s (.returned (.tuple #[.agg #[.int .i64 v1, .int .i64 v2, .int .i64 v3, .int .i64 v4], .bool true]))) := .inl ⟨v1, v2, v3, v4, ⟨a, pb, p1, p2, p3, HP.out, HP2.out, K1.out, K2.out, K3.out, K4.out, hok⟩, rfl⟩
    have HOK := Lib.hid hok
    clear hok
    go_enter Tryd.func5, Tryd.ntmps5
    go_wp2_with fail
    rw [HW.out]
    refine C.out.mono ?_
    rintro e w1 ⟨g, cap, rfl, hA⟩
    have B1 := Lib.hid (bnext B0.out hA.2.1)
    have HPA := Lib.hid hA
    have TN1 := Lib.hid (there_below T0.out hA.2.1)
    have a0 := parts_cell hA (Below.refl _ _) 0 a rfl
    have a1 := parts_cell hA (Below.refl _ _) 1 ⟨#[117, 115, 101, 100]⟩ rfl
    clear hA
    go_wp2_with fail
    refine (C2.out _).mono ?_
    rintro e w2 ⟨g2, cap2, rfl, hA⟩
    have B2 := Lib.hid (bnext B1.out hA.2.1)
    have HPB := Lib.hid hA
    have TN2 := Lib.hid (there_below TN1.out hA.2.1)
    have D2 := Lib.hid hA.2.1
    clear hA a0 a1
    have c0 := parts_cell HPB.out (Below.refl _ _) 0 p1 rfl
    have c1 := parts_cell HPB.out (Below.refl _ _) 1 p2 rfl
    have c2 := parts_cell HPB.out (Below.refl _ _) 2 p3 rfl
    have c3 := parts_cell HPA.out (bnext D2.out (Below.refl _ _)) 2 pb rfl
    go_wp2_with fail
    refine (N1.out _).mono ?_
    rintro e w3 ⟨rfl, hb⟩
    have Z1 := Lib.hid hb
    clear hb
    clear c0 c1 c2 c3
    have c0 := parts_cell HPB.out Z1.out 0 p1 rfl
    have c1 := parts_cell HPB.out Z1.out 1 p2 rfl
    have c2 := parts_cell HPB.out Z1.out 2 p3 rfl
    have c3 := parts_cell HPA.out (bnext D2.out Z1.out) 2 pb rfl
    go_wp2_with fail
    refine (N2.out _).mono ?_
    rintro e w4 ⟨rfl, hb⟩
    have Z2 := Lib.hid (bnext Z1.out hb)
    clear hb
    clear c0 c1 c2 c3
    have c0 := parts_cell HPB.out Z2.out 0 p1 rfl
    have c1 := parts_cell HPB.out Z2.out 1 p2 rfl
    have c2 := parts_cell HPB.out Z2.out 2 p3 rfl
    have c3 := parts_cell HPA.out (bnext D2.out Z2.out) 2 pb rfl
    go_wp2_with fail
    refine (N3.out _).mono ?_
    rintro e w5 ⟨rfl, hb⟩
    have Z3 := Lib.hid (bnext Z2.out hb)
    clear hb
    clear c0 c1 c2 c3
    have c0 := parts_cell HPB.out Z3.out 0 p1 rfl
    have c1 := parts_cell HPB.out Z3.out 1 p2 rfl
    have c2 := parts_cell HPB.out Z3.out 2 p3 rfl
    have c3 := parts_cell HPA.out (bnext D2.out Z3.out) 2 pb rfl
    go_wp2_with fail
    refine (N4.out _).mono ?_
    rintro e w6 ⟨rfl, hb⟩
    have Z4 := Lib.hid (bnext Z3.out hb)
    clear hb
    clear c0 c1 c2 c3
    have B6 := Lib.hid (bnext B2.out Z4.out)
    have TN6 := Lib.hid (there_below TN2.out Z4.out)
    obtain ⟨z0, z1, z2, z3⟩ := range_new4 w6 v1 v2 v3 v4 (t := 23)
    have TN7 := Lib.hid (there_below TN6.out (balloc0 w6 (.cells #[.int .i64 v1, .int .i64 v2, .int .i64 v3, .int .i64 v4] 23)))
    have B7 := Lib.hid (balloc B6.out (.cells #[.int .i64 v1, .int .i64 v2, .int .i64 v3, .int .i64 v4] 23))
    go_wp2_with fail
    refine (mo_one_spec ⟨v1, v2, v3, v4⟩ w6.heap.size 0 _ z0 z1 z2 z3).mono ?_
    rintro e w8 ⟨rfl, rfl⟩
    rw [HOK.out]
    have B8 := Lib.hid B7.out
    have TN := TN7.out
    obtain ⟨u0, x0, t0⟩ := there_at TN (k := 0) (by omega)
    obtain ⟨u1, x1, t1⟩ := there_at TN (k := 1) (by omega)
    obtain ⟨u2, x2, t2⟩ := there_at TN (k := 2) (by omega)
    obtain ⟨u3, x3, t3⟩ := there_at TN (k := 3) (by omega)
    clear TN
    go_wp2
    refine bodyPost_ret (v := .tuple #[.agg #[.int .i64 v1, .int .i64 v2, .int .i64 v3, .int .i64 v4], .bool true]) (by simp [results, Tryd.results5, go_sem, x0, x1, x2, x3]) rfl ⟨HN.out, ((((B8.out.setCell (Nat.le_refl _) _).setCell (Nat.le_refl _) _).setCell (Nat.le_refl _) _).setCell (Nat.le_refl _) _)⟩
end Go.Proofs.YtcjmdmkcipiabaaDoor
