/-
  ReadFormat: what its answer is, and the model's.
-/
import Derived.Test.YtpmklnldgafkjabDoorSpl2
import Derived.Test.YtpmklnldgafkjabDoorRdS
import Derived.Test.YtpmklnldgafkjabDoorNumS
import Derived.Test.YtpmklnldgafkjabDoorC2a
import Derived.Test.YtpmklnldgafkjabDoorRow
import Derived.Test.YtpmklnldgafkjabDoorKeep
namespace Go.Proofs.YtpmklnldgafkjabDoor
open Go.ChangeShapes Go.WideShapes Go.ChangeAt Go.RowKit Go.Joins

/-- s is the text of the format with these measures. -/
def FmIs (s : ByteArray) (l wd h j : Int) : Prop := ∃ a b p q r : ByteArray, partsOf s 43 = [a, b] ∧ partsOf a 120 = [p, q, r] ∧ numR p.data.toList = some l ∧ numR q.data.toList = some wd ∧ numR r.data.toList = some h ∧ numR b.data.toList = some j ∧ okB l wd h j = true
theorem FmIs.one {s : ByteArray} {l wd h j l' wd' h' j' : Int} (H : FmIs s l wd h j) (H' : FmIs s l' wd' h' j') : l = l' ∧ wd = wd' ∧ h = h' ∧ j = j' := by
  obtain ⟨a, b, p, q, r, e1, e2, n1, n2, n3, n4, _⟩ := H
  obtain ⟨a', b', p', q', r', f1, f2, m1, m2, m3, m4, _⟩ := H'
  rw [e1] at f1
  simp only [List.cons.injEq, and_true] at f1
  obtain ⟨rfl, rfl⟩ := f1
  rw [e2] at f2
  simp only [List.cons.injEq, and_true] at f2
  obtain ⟨rfl, rfl, rfl⟩ := f2
  rw [n1] at m1; rw [n2] at m2; rw [n3] at m3; rw [n4] at m4
  exact ⟨Option.some.inj m1, Option.some.inj m2, Option.some.inj m3, Option.some.inj m4⟩
/-- The format with the text s, or none. -/
def FmRead (s : ByteArray) (e : Ending) : Prop :=
  (∃ v1 v2 v3 v4 : Int, FmIs s v1 v2 v3 v4 ∧ e = .returned (.tuple #[.agg #[.int .i64 v1, .int .i64 v2, .int .i64 v3, .int .i64 v4], .bool true])) ∨
  ((∀ l wd h j : Int, ¬ FmIs s l wd h j) ∧ e = .returned (.tuple #[.agg #[.int .i64 0, .int .i64 0, .int .i64 0, .int .i64 0], .bool false]))
theorem fmRead_one {s : ByteArray} {e e' : Ending} (h : FmRead s e) (h' : FmRead s e') : e = e' := by
  rcases h with ⟨a, b, c, d, h1, h2⟩ | ⟨h1, h2⟩ <;> rcases h' with ⟨a', b', c', d', k1, k2⟩ | ⟨k1, k2⟩
  · obtain ⟨rfl, rfl, rfl, rfl⟩ := h1.one k1
    rw [h2, k2]
  · exact absurd h1 (k1 _ _ _ _)
  · exact absurd k1 (h1 _ _ _ _)
  · rw [h2, k2]
theorem FmRead.form {s : ByteArray} {e : Ending} (h : FmRead s e) : ∃ (v1 v2 v3 v4 : Int) (b : Bool), e = .returned (.tuple #[.agg #[.int .i64 v1, .int .i64 v2, .int .i64 v3, .int .i64 v4], .bool b]) := by
  rcases h with ⟨a, b, c, d, _, h2⟩ | ⟨_, h2⟩
  · exact ⟨a, b, c, d, true, h2⟩
  · exact ⟨0, 0, 0, 0, false, h2⟩
theorem FmRead.none {s : ByteArray} (h : ∀ a b p q r : ByteArray, ∀ l wd ht j : Int, partsOf s 43 = [a, b] → partsOf a 120 = [p, q, r] → numR p.data.toList = Option.some l → numR q.data.toList = Option.some wd → numR r.data.toList = Option.some ht → numR b.data.toList = Option.some j → okB l wd ht j = true → False) : FmRead s (.returned (.tuple #[.agg #[.int .i64 0, .int .i64 0, .int .i64 0, .int .i64 0], .bool false])) :=
  .inr ⟨fun l wd ht j ⟨a, b, p, q, r, e1, e2, n1, n2, n3, n4, ok⟩ => h a b p q r l wd ht j e1 e2 n1 n2 n3 n4 ok, rfl⟩
theorem two {α : Type} {l : List α} (h : l.length = 2) : ∃ a b, l = [a, b] := by
  match l, h with
  | [a, b], _ => exact ⟨a, b, rfl⟩
theorem three {α : Type} {l : List α} (h : l.length = 3) : ∃ a b c, l = [a, b, c] := by
  match l, h with
  | [a, b, c], _ => exact ⟨a, b, c, rfl⟩

set_option maxRecDepth 100000 in
set_option maxHeartbeats 6400000 in
theorem readFormat_spec (s : ByteArray) (hs : s.size ≤ 1048576) (w : World) : Calls Tryd.prog 18 #[.string s] w fun e w' => FmRead s e ∧ Below w.heap.size w w' := by
  have C := Lib.hid (split_spec s hs 43 (w.alloc (.cells #[.int .i64 0, .int .i64 0, .int .i64 0, .int .i64 0] 36)))
  have B0 : Hid (Below w.heap.size w (w.alloc (.cells #[.int .i64 0, .int .i64 0, .int .i64 0, .int .i64 0] 36))) := balloc0 _ _
  have T0 : Hid ((w.alloc (.cells #[.int .i64 0, .int .i64 0, .int .i64 0, .int .i64 0] 36)).there w.heap.size 0 4) := there_new w _ _ 4 rfl
  obtain ⟨W0, hW⟩ : ∃ W0, w.alloc (.cells #[.int .i64 0, .int .i64 0, .int .i64 0, .int .i64 0] 36) = W0 := ⟨_, rfl⟩
  have hcut : cutParts s (cutsC s 43 s.size 0 0) = partsOf s 43 := rfl
  rw [hW, hcut] at C
  rw [hW] at B0 T0
  have HW := Lib.hid hW
  clear hW hcut
  obtain ⟨P, hP⟩ : ∃ P, partsOf s 43 = P := ⟨_, rfl⟩
  have HS : ∀ x ∈ P, x.size ≤ 1048576 := fun x hx => Nat.le_trans (part_size (c := 43) (hP ▸ hx)) hs
  have HP := Lib.hid hP
  rw [hP] at C
  clear hP hs
  by_cases h2 : P.length = 2
  case neg =>
    have HN : Hid (FmRead s (.returned (.tuple #[.agg #[.int .i64 0, .int .i64 0, .int .i64 0, .int .i64 0], .bool false]))) := FmRead.none (fun a b p q r l wd ht j e _ _ _ _ _ _ => h2 (by rw [← HP.out, e]; rfl))
    have h2' : ¬ (P.length : Int) = 2 := by omega
    clear h2 HS
    go_enter Tryd.func18, Tryd.ntmps18
    go_wp2_with fail
    rw [HW.out]
    refine C.out.mono ?_
    rintro e w1 ⟨g, cap, rfl, hA⟩
    have B1 := Lib.hid (bnext B0.out hA.2.1)
    have TN := there_below T0.out hA.2.1
    clear hA
    obtain ⟨u0, x0, y0⟩ := there_at TN (k := 0) (by omega)
    obtain ⟨u1, x1, y1⟩ := there_at TN (k := 1) (by omega)
    obtain ⟨u2, x2, y2⟩ := there_at TN (k := 2) (by omega)
    obtain ⟨u3, x3, y3⟩ := there_at TN (k := 3) (by omega)
    clear TN
    go_wp2
    refine bodyPost_ret (v := .tuple #[.agg #[.int .i64 0, .int .i64 0, .int .i64 0, .int .i64 0], .bool false]) (by simp [results, Tryd.results18, go_sem, x0, x1, x2, x3]) rfl ⟨HN.out, ((((B1.out.setCell (Nat.le_refl _) _).setCell (Nat.le_refl _) _).setCell (Nat.le_refl _) _).setCell (Nat.le_refl _) _)⟩
  obtain ⟨a, pb, hab⟩ := two h2
  subst hab
  have C2 := Lib.hid (fun W => split_spec a (HS a (by simp)) 120 W)
  have hcut : cutParts a (cutsC a 120 a.size 0 0) = partsOf a 120 := rfl
  rw [hcut] at C2
  clear hcut HS
  obtain ⟨P2, hP2⟩ : ∃ P2, partsOf a 120 = P2 := ⟨_, rfl⟩
  have HP2 := Lib.hid hP2
  rw [hP2] at C2
  clear hP2
  by_cases h3 : P2.length = 3
  case neg =>
    have HN : Hid (FmRead s (.returned (.tuple #[.agg #[.int .i64 0, .int .i64 0, .int .i64 0, .int .i64 0], .bool false]))) := FmRead.none (fun a' b' p q r l wd ht j e e2 _ _ _ _ _ => h3 (by
      rw [HP.out] at e
      simp only [List.cons.injEq, and_true] at e
      rw [← HP2.out, e.1, e2]
      rfl))
    have h3' : ¬ (P2.length : Int) = 3 := by omega
    clear h3
    go_enter Tryd.func18, Tryd.ntmps18
    go_wp2_with fail
    rw [HW.out]
    refine C.out.mono ?_
    rintro e w1 ⟨g, cap, rfl, hA⟩
    have B1 := Lib.hid (bnext B0.out hA.2.1)
    have HPA := Lib.hid hA
    have TN1 := Lib.hid (there_below T0.out hA.2.1)
    have a0 := parts_cell hA (Below.refl _ _) 0 a rfl
    clear hA
    go_wp2_with fail
    refine (C2.out _).mono ?_
    rintro e w2 ⟨g2, cap2, rfl, hA⟩
    have B2 := Lib.hid (bnext B1.out hA.2.1)
    have HPB := Lib.hid hA
    have TN2 := Lib.hid (there_below TN1.out hA.2.1)
    have D2 := Lib.hid hA.2.1
    clear hA a0
    have TN := TN2.out
    obtain ⟨u0, x0, y0⟩ := there_at TN (k := 0) (by omega)
    obtain ⟨u1, x1, y1⟩ := there_at TN (k := 1) (by omega)
    obtain ⟨u2, x2, y2⟩ := there_at TN (k := 2) (by omega)
    obtain ⟨u3, x3, y3⟩ := there_at TN (k := 3) (by omega)
    clear TN
    go_wp2
    refine bodyPost_ret (v := .tuple #[.agg #[.int .i64 0, .int .i64 0, .int .i64 0, .int .i64 0], .bool false]) (by simp [results, Tryd.results18, go_sem, x0, x1, x2, x3]) rfl ⟨HN.out, ((((B2.out.setCell (Nat.le_refl _) _).setCell (Nat.le_refl _) _).setCell (Nat.le_refl _) _).setCell (Nat.le_refl _) _)⟩
  obtain ⟨p1, p2, p3, hpp⟩ := three h3
  subst hpp
  have HX : Hid (∀ a' b' p q r : ByteArray, partsOf s 43 = [a', b'] → partsOf a' 120 = [p, q, r] → p = p1 ∧ q = p2 ∧ r = p3 ∧ b' = pb) := by
    intro a' b' p q r e e2
    rw [HP.out] at e
    simp only [List.cons.injEq, and_true] at e
    rw [← e.1, HP2.out] at e2
    simp only [List.cons.injEq, and_true] at e2
    exact ⟨e2.1.symm, e2.2.1.symm, e2.2.2.symm, e.2.symm⟩
  have N1 := Lib.hid (number_spec p1)
  have G1 := Lib.hid (numR_cases p1.data.toList)
  obtain ⟨v1, hv1⟩ : ∃ v, (numR p1.data.toList).getD 0 = v := ⟨_, rfl⟩
  obtain ⟨b1, hb1⟩ : ∃ bo, (numR p1.data.toList).isSome = bo := ⟨_, rfl⟩
  rw [hv1, hb1] at N1 G1
  clear hv1 hb1
  have N2 := Lib.hid (number_spec p2)
  have G2 := Lib.hid (numR_cases p2.data.toList)
  obtain ⟨v2, hv2⟩ : ∃ v, (numR p2.data.toList).getD 0 = v := ⟨_, rfl⟩
  obtain ⟨b2, hb2⟩ : ∃ bo, (numR p2.data.toList).isSome = bo := ⟨_, rfl⟩
  rw [hv2, hb2] at N2 G2
  clear hv2 hb2
  have N3 := Lib.hid (number_spec p3)
  have G3 := Lib.hid (numR_cases p3.data.toList)
  obtain ⟨v3, hv3⟩ : ∃ v, (numR p3.data.toList).getD 0 = v := ⟨_, rfl⟩
  obtain ⟨b3, hb3⟩ : ∃ bo, (numR p3.data.toList).isSome = bo := ⟨_, rfl⟩
  rw [hv3, hb3] at N3 G3
  clear hv3 hb3
  have N4 := Lib.hid (number_spec pb)
  have G4 := Lib.hid (numR_cases pb.data.toList)
  obtain ⟨v4, hv4⟩ : ∃ v, (numR pb.data.toList).getD 0 = v := ⟨_, rfl⟩
  obtain ⟨b4, hb4⟩ : ∃ bo, (numR pb.data.toList).isSome = bo := ⟨_, rfl⟩
  rw [hv4, hb4] at N4 G4
  clear hv4 hb4
  cases b1
  case false =>
    have HN : Hid (FmRead s (.returned (.tuple #[.agg #[.int .i64 0, .int .i64 0, .int .i64 0, .int .i64 0], .bool false]))) := FmRead.none (fun a' b' p q r l wd ht j e e2 n1 n2 n3 n4 _ => by
      obtain ⟨rfl, rfl, rfl, rfl⟩ := HX.out a' b' p q r e e2
      rcases G1.out with ⟨n, _, _, h⟩ | ⟨h, _⟩
      · cases h
      · rw [n1] at h
        cases h)
    go_enter Tryd.func18, Tryd.ntmps18
    go_wp2_with fail
    rw [HW.out]
    refine C.out.mono ?_
    rintro e w1 ⟨g, cap, rfl, hA⟩
    have B1 := Lib.hid (bnext B0.out hA.2.1)
    have HPA := Lib.hid hA
    have TN1 := Lib.hid (there_below T0.out hA.2.1)
    have a0 := parts_cell hA (Below.refl _ _) 0 a rfl
    clear hA
    go_wp2_with fail
    refine (C2.out _).mono ?_
    rintro e w2 ⟨g2, cap2, rfl, hA⟩
    have B2 := Lib.hid (bnext B1.out hA.2.1)
    have HPB := Lib.hid hA
    have TN2 := Lib.hid (there_below TN1.out hA.2.1)
    have D2 := Lib.hid hA.2.1
    clear hA a0
    have c0 := parts_cell HPB.out (Below.refl _ _) 0 p1 rfl
    have c1 := parts_cell HPB.out (Below.refl _ _) 1 p2 rfl
    have c2 := parts_cell HPB.out (Below.refl _ _) 2 p3 rfl
    have c3 := parts_cell HPA.out (bnext D2.out (Below.refl _ _)) 1 pb rfl
    go_wp2_with fail
    refine (N1.out _).mono ?_
    rintro e w3 ⟨rfl, hb⟩
    have Z1 := Lib.hid hb
    clear hb
    clear c0 c1 c2 c3
    have c0 := parts_cell HPB.out Z1.out 0 p1 rfl
    have c1 := parts_cell HPB.out Z1.out 1 p2 rfl
    have c2 := parts_cell HPB.out Z1.out 2 p3 rfl
    have c3 := parts_cell HPA.out (bnext D2.out Z1.out) 1 pb rfl
    go_wp2_with fail
    refine (N2.out _).mono ?_
    rintro e w4 ⟨rfl, hb⟩
    have Z2 := Lib.hid (bnext Z1.out hb)
    clear hb
    clear c0 c1 c2 c3
    have c0 := parts_cell HPB.out Z2.out 0 p1 rfl
    have c1 := parts_cell HPB.out Z2.out 1 p2 rfl
    have c2 := parts_cell HPB.out Z2.out 2 p3 rfl
    have c3 := parts_cell HPA.out (bnext D2.out Z2.out) 1 pb rfl
    go_wp2_with fail
    refine (N3.out _).mono ?_
    rintro e w5 ⟨rfl, hb⟩
    have Z3 := Lib.hid (bnext Z2.out hb)
    clear hb
    clear c0 c1 c2 c3
    have c0 := parts_cell HPB.out Z3.out 0 p1 rfl
    have c1 := parts_cell HPB.out Z3.out 1 p2 rfl
    have c2 := parts_cell HPB.out Z3.out 2 p3 rfl
    have c3 := parts_cell HPA.out (bnext D2.out Z3.out) 1 pb rfl
    go_wp2_with fail
    refine (N4.out _).mono ?_
    rintro e w6 ⟨rfl, hb⟩
    have Z4 := Lib.hid (bnext Z3.out hb)
    clear hb
    clear c0 c1 c2 c3
    have B6 := Lib.hid (bnext B2.out Z4.out)
    have TN6 := Lib.hid (there_below TN2.out Z4.out)
    have TN := there_below TN6.out (balloc0 w6 (.cells #[.int .i64 v1, .int .i64 v2, .int .i64 v3, .int .i64 v4] 36))
    have B7 := Lib.hid (balloc B6.out (.cells #[.int .i64 v1, .int .i64 v2, .int .i64 v3, .int .i64 v4] 36))
    obtain ⟨u0, x0, y0⟩ := there_at TN (k := 0) (by omega)
    obtain ⟨u1, x1, y1⟩ := there_at TN (k := 1) (by omega)
    obtain ⟨u2, x2, y2⟩ := there_at TN (k := 2) (by omega)
    obtain ⟨u3, x3, y3⟩ := there_at TN (k := 3) (by omega)
    clear TN
    go_wp2
    refine bodyPost_ret (v := .tuple #[.agg #[.int .i64 0, .int .i64 0, .int .i64 0, .int .i64 0], .bool false]) (by simp [results, Tryd.results18, go_sem, x0, x1, x2, x3]) rfl ⟨HN.out, ((((B7.out.setCell (Nat.le_refl _) _).setCell (Nat.le_refl _) _).setCell (Nat.le_refl _) _).setCell (Nat.le_refl _) _)⟩
  have GG1 : numR p1.data.toList = Option.some v1 := by
    rcases G1.out with ⟨n, h, h2, _⟩ | ⟨_, h⟩
    · rw [h, h2]
    · cases h
  have K1 := Lib.hid GG1
  clear GG1
  cases b2
  case false =>
    have HN : Hid (FmRead s (.returned (.tuple #[.agg #[.int .i64 0, .int .i64 0, .int .i64 0, .int .i64 0], .bool false]))) := FmRead.none (fun a' b' p q r l wd ht j e e2 n1 n2 n3 n4 _ => by
      obtain ⟨rfl, rfl, rfl, rfl⟩ := HX.out a' b' p q r e e2
      rcases G2.out with ⟨n, _, _, h⟩ | ⟨h, _⟩
      · cases h
      · rw [n2] at h
        cases h)
    go_enter Tryd.func18, Tryd.ntmps18
    go_wp2_with fail
    rw [HW.out]
    refine C.out.mono ?_
    rintro e w1 ⟨g, cap, rfl, hA⟩
    have B1 := Lib.hid (bnext B0.out hA.2.1)
    have HPA := Lib.hid hA
    have TN1 := Lib.hid (there_below T0.out hA.2.1)
    have a0 := parts_cell hA (Below.refl _ _) 0 a rfl
    clear hA
    go_wp2_with fail
    refine (C2.out _).mono ?_
    rintro e w2 ⟨g2, cap2, rfl, hA⟩
    have B2 := Lib.hid (bnext B1.out hA.2.1)
    have HPB := Lib.hid hA
    have TN2 := Lib.hid (there_below TN1.out hA.2.1)
    have D2 := Lib.hid hA.2.1
    clear hA a0
    have c0 := parts_cell HPB.out (Below.refl _ _) 0 p1 rfl
    have c1 := parts_cell HPB.out (Below.refl _ _) 1 p2 rfl
    have c2 := parts_cell HPB.out (Below.refl _ _) 2 p3 rfl
    have c3 := parts_cell HPA.out (bnext D2.out (Below.refl _ _)) 1 pb rfl
    go_wp2_with fail
    refine (N1.out _).mono ?_
    rintro e w3 ⟨rfl, hb⟩
    have Z1 := Lib.hid hb
    clear hb
    clear c0 c1 c2 c3
    have c0 := parts_cell HPB.out Z1.out 0 p1 rfl
    have c1 := parts_cell HPB.out Z1.out 1 p2 rfl
    have c2 := parts_cell HPB.out Z1.out 2 p3 rfl
    have c3 := parts_cell HPA.out (bnext D2.out Z1.out) 1 pb rfl
    go_wp2_with fail
    refine (N2.out _).mono ?_
    rintro e w4 ⟨rfl, hb⟩
    have Z2 := Lib.hid (bnext Z1.out hb)
    clear hb
    clear c0 c1 c2 c3
    have c0 := parts_cell HPB.out Z2.out 0 p1 rfl
    have c1 := parts_cell HPB.out Z2.out 1 p2 rfl
    have c2 := parts_cell HPB.out Z2.out 2 p3 rfl
    have c3 := parts_cell HPA.out (bnext D2.out Z2.out) 1 pb rfl
    go_wp2_with fail
    refine (N3.out _).mono ?_
    rintro e w5 ⟨rfl, hb⟩
    have Z3 := Lib.hid (bnext Z2.out hb)
    clear hb
    clear c0 c1 c2 c3
    have c0 := parts_cell HPB.out Z3.out 0 p1 rfl
    have c1 := parts_cell HPB.out Z3.out 1 p2 rfl
    have c2 := parts_cell HPB.out Z3.out 2 p3 rfl
    have c3 := parts_cell HPA.out (bnext D2.out Z3.out) 1 pb rfl
    go_wp2_with fail
    refine (N4.out _).mono ?_
    rintro e w6 ⟨rfl, hb⟩
    have Z4 := Lib.hid (bnext Z3.out hb)
    clear hb
    clear c0 c1 c2 c3
    have B6 := Lib.hid (bnext B2.out Z4.out)
    have TN6 := Lib.hid (there_below TN2.out Z4.out)
    have TN := there_below TN6.out (balloc0 w6 (.cells #[.int .i64 v1, .int .i64 v2, .int .i64 v3, .int .i64 v4] 36))
    have B7 := Lib.hid (balloc B6.out (.cells #[.int .i64 v1, .int .i64 v2, .int .i64 v3, .int .i64 v4] 36))
    obtain ⟨u0, x0, y0⟩ := there_at TN (k := 0) (by omega)
    obtain ⟨u1, x1, y1⟩ := there_at TN (k := 1) (by omega)
    obtain ⟨u2, x2, y2⟩ := there_at TN (k := 2) (by omega)
    obtain ⟨u3, x3, y3⟩ := there_at TN (k := 3) (by omega)
    clear TN
    go_wp2
    refine bodyPost_ret (v := .tuple #[.agg #[.int .i64 0, .int .i64 0, .int .i64 0, .int .i64 0], .bool false]) (by simp [results, Tryd.results18, go_sem, x0, x1, x2, x3]) rfl ⟨HN.out, ((((B7.out.setCell (Nat.le_refl _) _).setCell (Nat.le_refl _) _).setCell (Nat.le_refl _) _).setCell (Nat.le_refl _) _)⟩
  have GG2 : numR p2.data.toList = Option.some v2 := by
    rcases G2.out with ⟨n, h, h2, _⟩ | ⟨_, h⟩
    · rw [h, h2]
    · cases h
  have K2 := Lib.hid GG2
  clear GG2
  cases b3
  case false =>
    have HN : Hid (FmRead s (.returned (.tuple #[.agg #[.int .i64 0, .int .i64 0, .int .i64 0, .int .i64 0], .bool false]))) := FmRead.none (fun a' b' p q r l wd ht j e e2 n1 n2 n3 n4 _ => by
      obtain ⟨rfl, rfl, rfl, rfl⟩ := HX.out a' b' p q r e e2
      rcases G3.out with ⟨n, _, _, h⟩ | ⟨h, _⟩
      · cases h
      · rw [n3] at h
        cases h)
    go_enter Tryd.func18, Tryd.ntmps18
    go_wp2_with fail
    rw [HW.out]
    refine C.out.mono ?_
    rintro e w1 ⟨g, cap, rfl, hA⟩
    have B1 := Lib.hid (bnext B0.out hA.2.1)
    have HPA := Lib.hid hA
    have TN1 := Lib.hid (there_below T0.out hA.2.1)
    have a0 := parts_cell hA (Below.refl _ _) 0 a rfl
    clear hA
    go_wp2_with fail
    refine (C2.out _).mono ?_
    rintro e w2 ⟨g2, cap2, rfl, hA⟩
    have B2 := Lib.hid (bnext B1.out hA.2.1)
    have HPB := Lib.hid hA
    have TN2 := Lib.hid (there_below TN1.out hA.2.1)
    have D2 := Lib.hid hA.2.1
    clear hA a0
    have c0 := parts_cell HPB.out (Below.refl _ _) 0 p1 rfl
    have c1 := parts_cell HPB.out (Below.refl _ _) 1 p2 rfl
    have c2 := parts_cell HPB.out (Below.refl _ _) 2 p3 rfl
    have c3 := parts_cell HPA.out (bnext D2.out (Below.refl _ _)) 1 pb rfl
    go_wp2_with fail
    refine (N1.out _).mono ?_
    rintro e w3 ⟨rfl, hb⟩
    have Z1 := Lib.hid hb
    clear hb
    clear c0 c1 c2 c3
    have c0 := parts_cell HPB.out Z1.out 0 p1 rfl
    have c1 := parts_cell HPB.out Z1.out 1 p2 rfl
    have c2 := parts_cell HPB.out Z1.out 2 p3 rfl
    have c3 := parts_cell HPA.out (bnext D2.out Z1.out) 1 pb rfl
    go_wp2_with fail
    refine (N2.out _).mono ?_
    rintro e w4 ⟨rfl, hb⟩
    have Z2 := Lib.hid (bnext Z1.out hb)
    clear hb
    clear c0 c1 c2 c3
    have c0 := parts_cell HPB.out Z2.out 0 p1 rfl
    have c1 := parts_cell HPB.out Z2.out 1 p2 rfl
    have c2 := parts_cell HPB.out Z2.out 2 p3 rfl
    have c3 := parts_cell HPA.out (bnext D2.out Z2.out) 1 pb rfl
    go_wp2_with fail
    refine (N3.out _).mono ?_
    rintro e w5 ⟨rfl, hb⟩
    have Z3 := Lib.hid (bnext Z2.out hb)
    clear hb
    clear c0 c1 c2 c3
    have c0 := parts_cell HPB.out Z3.out 0 p1 rfl
    have c1 := parts_cell HPB.out Z3.out 1 p2 rfl
    have c2 := parts_cell HPB.out Z3.out 2 p3 rfl
    have c3 := parts_cell HPA.out (bnext D2.out Z3.out) 1 pb rfl
    go_wp2_with fail
    refine (N4.out _).mono ?_
    rintro e w6 ⟨rfl, hb⟩
    have Z4 := Lib.hid (bnext Z3.out hb)
    clear hb
    clear c0 c1 c2 c3
    have B6 := Lib.hid (bnext B2.out Z4.out)
    have TN6 := Lib.hid (there_below TN2.out Z4.out)
    have TN := there_below TN6.out (balloc0 w6 (.cells #[.int .i64 v1, .int .i64 v2, .int .i64 v3, .int .i64 v4] 36))
    have B7 := Lib.hid (balloc B6.out (.cells #[.int .i64 v1, .int .i64 v2, .int .i64 v3, .int .i64 v4] 36))
    obtain ⟨u0, x0, y0⟩ := there_at TN (k := 0) (by omega)
    obtain ⟨u1, x1, y1⟩ := there_at TN (k := 1) (by omega)
    obtain ⟨u2, x2, y2⟩ := there_at TN (k := 2) (by omega)
    obtain ⟨u3, x3, y3⟩ := there_at TN (k := 3) (by omega)
    clear TN
    go_wp2
    refine bodyPost_ret (v := .tuple #[.agg #[.int .i64 0, .int .i64 0, .int .i64 0, .int .i64 0], .bool false]) (by simp [results, Tryd.results18, go_sem, x0, x1, x2, x3]) rfl ⟨HN.out, ((((B7.out.setCell (Nat.le_refl _) _).setCell (Nat.le_refl _) _).setCell (Nat.le_refl _) _).setCell (Nat.le_refl _) _)⟩
  have GG3 : numR p3.data.toList = Option.some v3 := by
    rcases G3.out with ⟨n, h, h2, _⟩ | ⟨_, h⟩
    · rw [h, h2]
    · cases h
  have K3 := Lib.hid GG3
  clear GG3
  cases b4
  case false =>
    have HN : Hid (FmRead s (.returned (.tuple #[.agg #[.int .i64 0, .int .i64 0, .int .i64 0, .int .i64 0], .bool false]))) := FmRead.none (fun a' b' p q r l wd ht j e e2 n1 n2 n3 n4 _ => by
      obtain ⟨rfl, rfl, rfl, rfl⟩ := HX.out a' b' p q r e e2
      rcases G4.out with ⟨n, _, _, h⟩ | ⟨h, _⟩
      · cases h
      · rw [n4] at h
        cases h)
    go_enter Tryd.func18, Tryd.ntmps18
    go_wp2_with fail
    rw [HW.out]
    refine C.out.mono ?_
    rintro e w1 ⟨g, cap, rfl, hA⟩
    have B1 := Lib.hid (bnext B0.out hA.2.1)
    have HPA := Lib.hid hA
    have TN1 := Lib.hid (there_below T0.out hA.2.1)
    have a0 := parts_cell hA (Below.refl _ _) 0 a rfl
    clear hA
    go_wp2_with fail
    refine (C2.out _).mono ?_
    rintro e w2 ⟨g2, cap2, rfl, hA⟩
    have B2 := Lib.hid (bnext B1.out hA.2.1)
    have HPB := Lib.hid hA
    have TN2 := Lib.hid (there_below TN1.out hA.2.1)
    have D2 := Lib.hid hA.2.1
    clear hA a0
    have c0 := parts_cell HPB.out (Below.refl _ _) 0 p1 rfl
    have c1 := parts_cell HPB.out (Below.refl _ _) 1 p2 rfl
    have c2 := parts_cell HPB.out (Below.refl _ _) 2 p3 rfl
    have c3 := parts_cell HPA.out (bnext D2.out (Below.refl _ _)) 1 pb rfl
    go_wp2_with fail
    refine (N1.out _).mono ?_
    rintro e w3 ⟨rfl, hb⟩
    have Z1 := Lib.hid hb
    clear hb
    clear c0 c1 c2 c3
    have c0 := parts_cell HPB.out Z1.out 0 p1 rfl
    have c1 := parts_cell HPB.out Z1.out 1 p2 rfl
    have c2 := parts_cell HPB.out Z1.out 2 p3 rfl
    have c3 := parts_cell HPA.out (bnext D2.out Z1.out) 1 pb rfl
    go_wp2_with fail
    refine (N2.out _).mono ?_
    rintro e w4 ⟨rfl, hb⟩
    have Z2 := Lib.hid (bnext Z1.out hb)
    clear hb
    clear c0 c1 c2 c3
    have c0 := parts_cell HPB.out Z2.out 0 p1 rfl
    have c1 := parts_cell HPB.out Z2.out 1 p2 rfl
    have c2 := parts_cell HPB.out Z2.out 2 p3 rfl
    have c3 := parts_cell HPA.out (bnext D2.out Z2.out) 1 pb rfl
    go_wp2_with fail
    refine (N3.out _).mono ?_
    rintro e w5 ⟨rfl, hb⟩
    have Z3 := Lib.hid (bnext Z2.out hb)
    clear hb
    clear c0 c1 c2 c3
    have c0 := parts_cell HPB.out Z3.out 0 p1 rfl
    have c1 := parts_cell HPB.out Z3.out 1 p2 rfl
    have c2 := parts_cell HPB.out Z3.out 2 p3 rfl
    have c3 := parts_cell HPA.out (bnext D2.out Z3.out) 1 pb rfl
    go_wp2_with fail
    refine (N4.out _).mono ?_
    rintro e w6 ⟨rfl, hb⟩
    have Z4 := Lib.hid (bnext Z3.out hb)
    clear hb
    clear c0 c1 c2 c3
    have B6 := Lib.hid (bnext B2.out Z4.out)
    have TN6 := Lib.hid (there_below TN2.out Z4.out)
    have TN := there_below TN6.out (balloc0 w6 (.cells #[.int .i64 v1, .int .i64 v2, .int .i64 v3, .int .i64 v4] 36))
    have B7 := Lib.hid (balloc B6.out (.cells #[.int .i64 v1, .int .i64 v2, .int .i64 v3, .int .i64 v4] 36))
    obtain ⟨u0, x0, y0⟩ := there_at TN (k := 0) (by omega)
    obtain ⟨u1, x1, y1⟩ := there_at TN (k := 1) (by omega)
    obtain ⟨u2, x2, y2⟩ := there_at TN (k := 2) (by omega)
    obtain ⟨u3, x3, y3⟩ := there_at TN (k := 3) (by omega)
    clear TN
    go_wp2
    refine bodyPost_ret (v := .tuple #[.agg #[.int .i64 0, .int .i64 0, .int .i64 0, .int .i64 0], .bool false]) (by simp [results, Tryd.results18, go_sem, x0, x1, x2, x3]) rfl ⟨HN.out, ((((B7.out.setCell (Nat.le_refl _) _).setCell (Nat.le_refl _) _).setCell (Nat.le_refl _) _).setCell (Nat.le_refl _) _)⟩
  have GG4 : numR pb.data.toList = Option.some v4 := by
    rcases G4.out with ⟨n, h, h2, _⟩ | ⟨_, h⟩
    · rw [h, h2]
    · cases h
  have K4 := Lib.hid GG4
  clear GG4
  have CO := Lib.hid (fun wx => l02ok v1 v2 v3 v4 wx)
  cases hok : okB v1 v2 v3 v4
  · have HN : Hid (FmRead s (.returned (.tuple #[.agg #[.int .i64 0, .int .i64 0, .int .i64 0, .int .i64 0], .bool false]))) := FmRead.none (fun a' b' p q r l wd ht j e e2 n1 n2 n3 n4 ok => by
      obtain ⟨rfl, rfl, rfl, rfl⟩ := HX.out a' b' p q r e e2
      rw [K1.out] at n1
      rw [K2.out] at n2
      rw [K3.out] at n3
      rw [K4.out] at n4
      cases n1
      cases n2
      cases n3
      cases n4
      rw [hok] at ok
      cases ok)
    rw [hok] at CO
    clear hok
    go_enter Tryd.func18, Tryd.ntmps18
    go_wp2_with fail
    rw [HW.out]
    refine C.out.mono ?_
    rintro e w1 ⟨g, cap, rfl, hA⟩
    have B1 := Lib.hid (bnext B0.out hA.2.1)
    have HPA := Lib.hid hA
    have TN1 := Lib.hid (there_below T0.out hA.2.1)
    have a0 := parts_cell hA (Below.refl _ _) 0 a rfl
    clear hA
    go_wp2_with fail
    refine (C2.out _).mono ?_
    rintro e w2 ⟨g2, cap2, rfl, hA⟩
    have B2 := Lib.hid (bnext B1.out hA.2.1)
    have HPB := Lib.hid hA
    have TN2 := Lib.hid (there_below TN1.out hA.2.1)
    have D2 := Lib.hid hA.2.1
    clear hA a0
    have c0 := parts_cell HPB.out (Below.refl _ _) 0 p1 rfl
    have c1 := parts_cell HPB.out (Below.refl _ _) 1 p2 rfl
    have c2 := parts_cell HPB.out (Below.refl _ _) 2 p3 rfl
    have c3 := parts_cell HPA.out (bnext D2.out (Below.refl _ _)) 1 pb rfl
    go_wp2_with fail
    refine (N1.out _).mono ?_
    rintro e w3 ⟨rfl, hb⟩
    have Z1 := Lib.hid hb
    clear hb
    clear c0 c1 c2 c3
    have c0 := parts_cell HPB.out Z1.out 0 p1 rfl
    have c1 := parts_cell HPB.out Z1.out 1 p2 rfl
    have c2 := parts_cell HPB.out Z1.out 2 p3 rfl
    have c3 := parts_cell HPA.out (bnext D2.out Z1.out) 1 pb rfl
    go_wp2_with fail
    refine (N2.out _).mono ?_
    rintro e w4 ⟨rfl, hb⟩
    have Z2 := Lib.hid (bnext Z1.out hb)
    clear hb
    clear c0 c1 c2 c3
    have c0 := parts_cell HPB.out Z2.out 0 p1 rfl
    have c1 := parts_cell HPB.out Z2.out 1 p2 rfl
    have c2 := parts_cell HPB.out Z2.out 2 p3 rfl
    have c3 := parts_cell HPA.out (bnext D2.out Z2.out) 1 pb rfl
    go_wp2_with fail
    refine (N3.out _).mono ?_
    rintro e w5 ⟨rfl, hb⟩
    have Z3 := Lib.hid (bnext Z2.out hb)
    clear hb
    clear c0 c1 c2 c3
    have c0 := parts_cell HPB.out Z3.out 0 p1 rfl
    have c1 := parts_cell HPB.out Z3.out 1 p2 rfl
    have c2 := parts_cell HPB.out Z3.out 2 p3 rfl
    have c3 := parts_cell HPA.out (bnext D2.out Z3.out) 1 pb rfl
    go_wp2_with fail
    refine (N4.out _).mono ?_
    rintro e w6 ⟨rfl, hb⟩
    have Z4 := Lib.hid (bnext Z3.out hb)
    clear hb
    clear c0 c1 c2 c3
    have B6 := Lib.hid (bnext B2.out Z4.out)
    have TN6 := Lib.hid (there_below TN2.out Z4.out)
    obtain ⟨z0, z1, z2, z3⟩ := range_new4 w6 v1 v2 v3 v4 (t := 36)
    have TN7 := Lib.hid (there_below TN6.out (balloc0 w6 (.cells #[.int .i64 v1, .int .i64 v2, .int .i64 v3, .int .i64 v4] 36)))
    have B7 := Lib.hid (balloc B6.out (.cells #[.int .i64 v1, .int .i64 v2, .int .i64 v3, .int .i64 v4] 36))
    go_wp2_with fail
    refine (CO.out _).mono ?_
    rintro e w8 ⟨rfl, hb⟩
    have B8 := Lib.hid (bnext B7.out hb)
    have TN := there_below TN7.out hb
    clear hb z0 z1 z2 z3
    obtain ⟨u0, x0, y0⟩ := there_at TN (k := 0) (by omega)
    obtain ⟨u1, x1, y1⟩ := there_at TN (k := 1) (by omega)
    obtain ⟨u2, x2, y2⟩ := there_at TN (k := 2) (by omega)
    obtain ⟨u3, x3, y3⟩ := there_at TN (k := 3) (by omega)
    clear TN
    go_wp2
    refine bodyPost_ret (v := .tuple #[.agg #[.int .i64 0, .int .i64 0, .int .i64 0, .int .i64 0], .bool false]) (by simp [results, Tryd.results18, go_sem, x0, x1, x2, x3]) rfl ⟨HN.out, ((((B8.out.setCell (Nat.le_refl _) _).setCell (Nat.le_refl _) _).setCell (Nat.le_refl _) _).setCell (Nat.le_refl _) _)⟩
  · have HN : Hid (FmRead s (.returned (.tuple #[.agg #[.int .i64 v1, .int .i64 v2, .int .i64 v3, .int .i64 v4], .bool true]))) := .inl ⟨v1, v2, v3, v4, ⟨a, pb, p1, p2, p3, HP.out, HP2.out, K1.out, K2.out, K3.out, K4.out, hok⟩, rfl⟩
    rw [hok] at CO
    clear hok
    go_enter Tryd.func18, Tryd.ntmps18
    go_wp2_with fail
    rw [HW.out]
    refine C.out.mono ?_
    rintro e w1 ⟨g, cap, rfl, hA⟩
    have B1 := Lib.hid (bnext B0.out hA.2.1)
    have HPA := Lib.hid hA
    have TN1 := Lib.hid (there_below T0.out hA.2.1)
    have a0 := parts_cell hA (Below.refl _ _) 0 a rfl
    clear hA
    go_wp2_with fail
    refine (C2.out _).mono ?_
    rintro e w2 ⟨g2, cap2, rfl, hA⟩
    have B2 := Lib.hid (bnext B1.out hA.2.1)
    have HPB := Lib.hid hA
    have TN2 := Lib.hid (there_below TN1.out hA.2.1)
    have D2 := Lib.hid hA.2.1
    clear hA a0
    have c0 := parts_cell HPB.out (Below.refl _ _) 0 p1 rfl
    have c1 := parts_cell HPB.out (Below.refl _ _) 1 p2 rfl
    have c2 := parts_cell HPB.out (Below.refl _ _) 2 p3 rfl
    have c3 := parts_cell HPA.out (bnext D2.out (Below.refl _ _)) 1 pb rfl
    go_wp2_with fail
    refine (N1.out _).mono ?_
    rintro e w3 ⟨rfl, hb⟩
    have Z1 := Lib.hid hb
    clear hb
    clear c0 c1 c2 c3
    have c0 := parts_cell HPB.out Z1.out 0 p1 rfl
    have c1 := parts_cell HPB.out Z1.out 1 p2 rfl
    have c2 := parts_cell HPB.out Z1.out 2 p3 rfl
    have c3 := parts_cell HPA.out (bnext D2.out Z1.out) 1 pb rfl
    go_wp2_with fail
    refine (N2.out _).mono ?_
    rintro e w4 ⟨rfl, hb⟩
    have Z2 := Lib.hid (bnext Z1.out hb)
    clear hb
    clear c0 c1 c2 c3
    have c0 := parts_cell HPB.out Z2.out 0 p1 rfl
    have c1 := parts_cell HPB.out Z2.out 1 p2 rfl
    have c2 := parts_cell HPB.out Z2.out 2 p3 rfl
    have c3 := parts_cell HPA.out (bnext D2.out Z2.out) 1 pb rfl
    go_wp2_with fail
    refine (N3.out _).mono ?_
    rintro e w5 ⟨rfl, hb⟩
    have Z3 := Lib.hid (bnext Z2.out hb)
    clear hb
    clear c0 c1 c2 c3
    have c0 := parts_cell HPB.out Z3.out 0 p1 rfl
    have c1 := parts_cell HPB.out Z3.out 1 p2 rfl
    have c2 := parts_cell HPB.out Z3.out 2 p3 rfl
    have c3 := parts_cell HPA.out (bnext D2.out Z3.out) 1 pb rfl
    go_wp2_with fail
    refine (N4.out _).mono ?_
    rintro e w6 ⟨rfl, hb⟩
    have Z4 := Lib.hid (bnext Z3.out hb)
    clear hb
    clear c0 c1 c2 c3
    have B6 := Lib.hid (bnext B2.out Z4.out)
    have TN6 := Lib.hid (there_below TN2.out Z4.out)
    obtain ⟨z0, z1, z2, z3⟩ := range_new4 w6 v1 v2 v3 v4 (t := 36)
    have TN7 := Lib.hid (there_below TN6.out (balloc0 w6 (.cells #[.int .i64 v1, .int .i64 v2, .int .i64 v3, .int .i64 v4] 36)))
    have B7 := Lib.hid (balloc B6.out (.cells #[.int .i64 v1, .int .i64 v2, .int .i64 v3, .int .i64 v4] 36))
    go_wp2_with fail
    refine (CO.out _).mono ?_
    rintro e w8 ⟨rfl, hb⟩
    have B8 := Lib.hid (bnext B7.out hb)
    have TN := there_below TN7.out hb
    have hlt7 : w6.heap.size < (w6.alloc (.cells #[.int .i64 v1, .int .i64 v2, .int .i64 v3, .int .i64 v4] 36)).heap.size := World.block_lt_of_cell? _ _ z0
    have y0 := (hb.cell (p := ⟨w6.heap.size, 0, none⟩) hlt7).trans z0
    have y1 := (hb.cell (p := ⟨w6.heap.size, 1, none⟩) hlt7).trans z1
    have y2 := (hb.cell (p := ⟨w6.heap.size, 2, none⟩) hlt7).trans z2
    have y3 := (hb.cell (p := ⟨w6.heap.size, 3, none⟩) hlt7).trans z3
    clear hb z0 z1 z2 z3 hlt7
    obtain ⟨u0, x0, t0⟩ := there_at TN (k := 0) (by omega)
    obtain ⟨u1, x1, t1⟩ := there_at TN (k := 1) (by omega)
    obtain ⟨u2, x2, t2⟩ := there_at TN (k := 2) (by omega)
    obtain ⟨u3, x3, t3⟩ := there_at TN (k := 3) (by omega)
    clear TN
    go_wp2
    refine bodyPost_ret (v := .tuple #[.agg #[.int .i64 v1, .int .i64 v2, .int .i64 v3, .int .i64 v4], .bool true]) (by simp [results, Tryd.results18, go_sem, x0, x1, x2, x3]) rfl ⟨HN.out, ((((B8.out.setCell (Nat.le_refl _) _).setCell (Nat.le_refl _) _).setCell (Nat.le_refl _) _).setCell (Nat.le_refl _) _)⟩
end Go.Proofs.YtpmklnldgafkjabDoor
