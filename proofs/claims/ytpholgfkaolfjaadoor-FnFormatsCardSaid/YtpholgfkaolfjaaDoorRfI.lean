/-
  ReadFormat: the program's answer.
-/
import Derived.Test.YtpholgfkaolfjaaDoorRfN
import Derived.Test.YtpholgfkaolfjaaDoorC2v
namespace Go.Proofs.YtpholgfkaolfjaaDoor
open Go.ChangeShapes Go.WideShapes Go.ChangeAt Go.RowKit Go.Joins

theorem valF_digits : ∀ (l : List UInt8) (acc u : Nat), valF acc l = some u → ∀ c ∈ l, 48 ≤ c.toNat
  | [], _, _, _, c, hc => by simp at hc
  | x :: l, acc, u, h, c, hc => by
    simp only [valF] at h
    split at h
    · rename_i hd
      rcases List.mem_cons.1 hc with rfl | hc
      · exact hd.1
      · exact valF_digits l _ u h c hc
    · cases h
theorem numR_clean {l : List UInt8} {n : Int} (h : numR l = some n) : (43 : UInt8) ∉ l := by
  intro hm
  unfold numR at h
  split at h
  · split at h
    · rename_i u hu
      have h43 : (43 : UInt8) ∈ tr l := by
        cases l with
        | nil => simp at hm
        | cons c r =>
          by_cases hc : c = 45
          · subst hc
            simp only [tr, if_true]
            simpa using hm
          · simpa [tr, hc] using hm
      have := valF_digits _ _ _ hu 43 h43
      revert this
      decide
    · cases h
  · cases h
theorem numR_empty : numR (⟨#[]⟩ : ByteArray).data.toList = none := by rfl
/-- What is read behind the cut. -/
def FmTwo (a b : ByteArray) (l wd h j : Int) : Prop := ∃ p q r : ByteArray, partsOf a 120 = [p, q, r] ∧ numR p.data.toList = some l ∧ numR q.data.toList = some wd ∧ numR r.data.toList = some h ∧ numR b.data.toList = some j ∧ okB l wd h j = true
theorem cut_two (s : ByteArray) : ∃ (a b : ByteArray) (f : Bool), a.size ≤ s.size ∧ b.size ≤ s.size ∧ (⟨(Lib.cut s.data.toList [43]).1.toArray⟩ : ByteArray) = a ∧ (⟨(Lib.cut s.data.toList [43]).2.1.toArray⟩ : ByteArray) = b ∧ (Lib.cut s.data.toList [43]).2.2 = f ∧ ∀ l wd h j, FmIs s l wd h j ↔ FmTwo a b l wd h j := by
  rcases cut_cases 43 s with ⟨h1, h2⟩ | ⟨a, b, h2, h1, k1, k2⟩
  · refine ⟨s, ⟨#[]⟩, false, Nat.le_refl _, Nat.zero_le _, by rw [h2], by rw [h2], by rw [h2], fun l wd h j => ⟨?_, ?_⟩⟩
    · rintro ⟨a, b, p, q, r, e, _⟩
      rw [h1] at e
      simp at e
    · rintro ⟨p, q, r, _, _, _, _, e, _⟩
      rw [numR_empty] at e
      cases e
  · refine ⟨a, b, true, k1, k2, by rw [h2], by rw [h2], by rw [h2], fun l wd h j => ⟨?_, ?_⟩⟩
    · rintro ⟨a', b', p, q, r, e, e2, n1, n2, n3, n4, ok⟩
      rw [h1] at e
      simp only [List.cons.injEq] at e
      obtain ⟨rfl, e⟩ := e
      have hb : b' = b := by
        have hj := join_partsOf b 43
        rw [e] at hj
        apply Go.WideShapes.bytes_inj
        rw [← hj]
        simp [Lib.join]
      subst hb
      exact ⟨p, q, r, e2, n1, n2, n3, n4, ok⟩
    · rintro ⟨p, q, r, e2, n1, n2, n3, n4, ok⟩
      have e : partsOf b 43 = [b] := toList_inj_map (by rw [partsOf_spl, spl_plain (numR_clean n4)]; rfl)
      exact ⟨a, b, p, q, r, by rw [h1, e], e2, n1, n2, n3, n4, ok⟩
theorem own_form {w : World} {B e size n : Nat} {v : Value} {xs : List Value} (h : w.ownsRow B e size v n xs) : (v = .slice none 0 0 ∧ n = 0) ∨ ∃ g cap, v = .slice (some ⟨g, 0, none⟩) n cap := by
  rcases h.2 with ⟨h1, h2⟩ | ⟨a, c, cur, e1, _⟩
  · exact .inl ⟨h1, h2⟩
  · exact .inr ⟨a, c, e1⟩

set_option maxRecDepth 100000 in
set_option maxHeartbeats 6400000 in
theorem readFormat_impl (s : ByteArray) (hs : s.size ≤ 1048576) (tp : TypeId) (p : Value) (m : Int) (w : World) (hm : w.cell? ⟨0, 0, none⟩ = some (.int .i64 m)) (hp : Pow10 w) (hv : w.var? Tryd.prog "strconv.ErrSyntax" = some #[.iface tp p]) : Calls Tryd.prog 7 #[.string s] w fun e w' => FmRead s e ∧ Below w.heap.size w w' := by
  have HM : Hid (∀ wx, Below w.heap.size w wx → wx.cell? ⟨0, 0, none⟩ = some (.int .i64 m)) := fun wx h => (h.cell (p := ⟨0, 0, none⟩) (World.block_lt_of_cell? w _ hm)).trans hm
  have HP : Hid (∀ wx, Below w.heap.size w wx → Pow10 wx) := fun wx h => hp.later h
  have HV : Hid (∀ wx, Below w.heap.size w wx → wx.var? Tryd.prog "strconv.ErrSyntax" = some #[.iface tp p]) := fun wx h => var_stays gSynC hv h (Nat.le_refl _)
  have B0 : Hid (Below w.heap.size w (w.alloc (.cells #[.int .i64 0, .int .i64 0, .int .i64 0, .int .i64 0] 25))) := balloc0 _ _
  have T0 : Hid ((w.alloc (.cells #[.int .i64 0, .int .i64 0, .int .i64 0, .int .i64 0] 25)).there w.heap.size 0 4) := there_new w _ _ 4 rfl
  have C0 := Tryd.strings_Cut s ⟨#[43]⟩ m (w.alloc (.cells #[.int .i64 0, .int .i64 0, .int .i64 0, .int .i64 0] 25)) (by omega) (HM.out _ B0.out)
  have e43 : (⟨#[43]⟩ : ByteArray).data.toList = [43] := rfl
  rw [e43] at C0
  obtain ⟨a, b, f, sa, sb, e1, e2, e3, HF0⟩ := cut_two s
  rw [e1, e2, e3] at C0
  obtain ⟨W0, hW⟩ : ∃ W0, w.alloc (.cells #[.int .i64 0, .int .i64 0, .int .i64 0, .int .i64 0] 25) = W0 := ⟨_, rfl⟩
  rw [hW] at C0 B0 T0
  have HW := Lib.hid hW
  have C := Lib.hid C0
  have HF := Lib.hid HF0
  have NI : Hid (∀ wx, Below w.heap.size w wx → _) := fun wx h => numbers_impl a (by omega) tp p m wx (HM.out _ h) (HP.out _ h) (HV.out _ h)
  have DI : Hid (∀ wx, Below w.heap.size w wx → Calls Tryd.prog 21 #[.string b] wx fun e w' => e = .returned (.tuple #[.int .i64 ((numR b.data.toList).getD 0), .bool (numR b.data.toList).isSome]) ∧ Below wx.heap.size wx w') := fun wx h => number_impl b (by omega) tp p wx (HP.out _ h) (HV.out _ h)
  have VI := Lib.hid vf_any
  clear hW hm hp hv hs C0 HF0 e43 e1 e2 e3 sa sb
  go_enter Tryd.func7, Tryd.ntmps7
  go_wp2_with fail
  rw [HW.out]
  refine C.out.mono ?_
  rintro e w1 ⟨rfl, n, hn⟩
  have B1 : Hid (Below w.heap.size w w1) := hn ▸ below_drewN B0.out n
  have TN1 : Hid (w1.there w.heap.size 0 4) := there_below T0.out (hn ▸ below_drewN (Below.refl _ _) n)
  clear hn
  go_wp2_with fail
  refine (NI.out _ B1.out).mono ?_
  rintro e w2 ⟨hb, hor⟩
  have B2 := Lib.hid (bnext B1.out hb)
  have TN2 := Lib.hid (there_below TN1.out hb)
  clear hb
  rcases hor with ⟨ns, v, hmap, rfl, hown⟩ | ⟨hno, rfl⟩
  case inr =>
    have HN : Hid (FmRead s (.returned (.tuple #[.agg #[.int .i64 0, .int .i64 0, .int .i64 0, .int .i64 0], .bool false]))) := .inr ⟨(fun l wd h j H => by
      obtain ⟨p, q, r, e2, n1, n2, n3, _, _⟩ := (HF.out l wd h j).1 H
      obtain ⟨x, hx, hxn⟩ := hno
      rw [e2] at hx
      simp only [List.mem_cons, List.not_mem_nil, or_false] at hx
      rcases hx with rfl | rfl | rfl
      · rw [n1] at hxn; cases hxn
      · rw [n2] at hxn; cases hxn
      · rw [n3] at hxn; cases hxn), rfl⟩
    have TN := TN2.out
    clear hno
    obtain ⟨u0, x0, t0⟩ := there_at TN (k := 0) (by omega)
    obtain ⟨u1, x1, t1⟩ := there_at TN (k := 1) (by omega)
    obtain ⟨u2, x2, t2⟩ := there_at TN (k := 2) (by omega)
    obtain ⟨u3, x3, t3⟩ := there_at TN (k := 3) (by omega)
    clear TN
    go_wp2
    refine bodyPost_ret (v := .tuple #[.agg #[.int .i64 0, .int .i64 0, .int .i64 0, .int .i64 0], .bool false]) (by simp [results, Tryd.results7, go_sem, x0, x1, x2, x3]) rfl ⟨HN.out, ((((B2.out.setCell (Nat.le_refl _) _).setCell (Nat.le_refl _) _).setCell (Nat.le_refl _) _).setCell (Nat.le_refl _) _)⟩
  by_cases h3 : ns.length = 3
  case neg =>
    have HN : Hid (FmRead s (.returned (.tuple #[.agg #[.int .i64 0, .int .i64 0, .int .i64 0, .int .i64 0], .bool false]))) := .inr ⟨(fun l wd h j H => by
      obtain ⟨p, q, r, e2, n1, n2, n3, _, _⟩ := (HF.out l wd h j).1 H
      rw [e2] at hmap
      have := congrArg List.length hmap
      simp at this
      omega), rfl⟩
    have h3' : ¬ (ns.length : Int) = 3 := by omega
    have TN := TN2.out
    rcases own_form hown with ⟨rfl, _⟩ | ⟨g, cap, rfl⟩
    all_goals
      clear hown hmap h3
      obtain ⟨u0, x0, t0⟩ := there_at TN (k := 0) (by omega)
      obtain ⟨u1, x1, t1⟩ := there_at TN (k := 1) (by omega)
      obtain ⟨u2, x2, t2⟩ := there_at TN (k := 2) (by omega)
      obtain ⟨u3, x3, t3⟩ := there_at TN (k := 3) (by omega)
      clear TN
      go_wp2
      refine bodyPost_ret (v := .tuple #[.agg #[.int .i64 0, .int .i64 0, .int .i64 0, .int .i64 0], .bool false]) (by simp [results, Tryd.results7, go_sem, x0, x1, x2, x3]) rfl ⟨HN.out, ((((B2.out.setCell (Nat.le_refl _) _).setCell (Nat.le_refl _) _).setCell (Nat.le_refl _) _).setCell (Nat.le_refl _) _)⟩
  obtain ⟨v1, v2, v3, hv⟩ := three h3
  subst hv
  obtain ⟨g, cap, rfl⟩ : ∃ g cap, v = .slice (some ⟨g, 0, none⟩) 3 cap := by
    rcases own_form hown with ⟨_, h⟩ | h
    · cases h
    · exact h
  have c0 : w2.cell? ⟨g, 0, none⟩ = some (.int .i64 v1) := World.ownsRow.cellAt hown 0 (by simp)
  have c1 : w2.cell? ⟨g, 1, none⟩ = some (.int .i64 v2) := World.ownsRow.cellAt hown 1 (by simp)
  have c2 : w2.cell? ⟨g, 2, none⟩ = some (.int .i64 v3) := World.ownsRow.cellAt hown 2 (by simp)
  obtain ⟨p1, p2, p3, hpp⟩ := three (l := partsOf a 120) (by have := congrArg List.length hmap; simpa using this)
  rw [hpp] at hmap
  simp only [List.map_cons, List.map_nil, List.cons.injEq, and_true] at hmap
  have HX := Lib.hid (And.intro hpp hmap)
  clear hown hpp hmap h3
  have hlt : g < w2.heap.size := World.block_lt_of_cell? w2 _ c0
  have D := Lib.hid (DI.out w2 B2.out)
  rcases numR_cases b.data.toList with ⟨v4, h1, h2, h3⟩ | ⟨h1, h3⟩
  case inr =>
    have HN : Hid (FmRead s (.returned (.tuple #[.agg #[.int .i64 0, .int .i64 0, .int .i64 0, .int .i64 0], .bool false]))) := .inr ⟨(fun l wd h j H => by
      obtain ⟨p, q, r, e2, n1, n2, n3, n4, _⟩ := (HF.out l wd h j).1 H
      rw [h1] at n4
      cases n4), rfl⟩
    obtain ⟨v4, hv4⟩ : ∃ v, (numR b.data.toList).getD 0 = v := ⟨_, rfl⟩
    rw [h3, hv4] at D
    clear h1 h3 hv4
    go_wp2_with fail
    refine D.out.mono ?_
    rintro e w3 ⟨rfl, hb⟩
    have B3 := Lib.hid (bnext B2.out hb)
    have TN := there_below TN2.out hb
    clear hb c0 c1 c2
    obtain ⟨u0, x0, t0⟩ := there_at TN (k := 0) (by omega)
    obtain ⟨u1, x1, t1⟩ := there_at TN (k := 1) (by omega)
    obtain ⟨u2, x2, t2⟩ := there_at TN (k := 2) (by omega)
    obtain ⟨u3, x3, t3⟩ := there_at TN (k := 3) (by omega)
    clear TN
    go_wp2
    refine bodyPost_ret (v := .tuple #[.agg #[.int .i64 0, .int .i64 0, .int .i64 0, .int .i64 0], .bool false]) (by simp [results, Tryd.results7, go_sem, x0, x1, x2, x3]) rfl ⟨HN.out, ((((B3.out.setCell (Nat.le_refl _) _).setCell (Nat.le_refl _) _).setCell (Nat.le_refl _) _).setCell (Nat.le_refl _) _)⟩
  rw [h2, h3] at D
  have K4 := Lib.hid h1
  clear h1 h2 h3
  have CO := Lib.hid (fun wx => VI.out v1 v2 v3 v4 wx)
  have HQ : Hid (okB v1 v2 v3 v4 = true → FmRead s (.returned (.tuple #[.agg #[.int .i64 v1, .int .i64 v2, .int .i64 v3, .int .i64 v4], .bool true]))) := fun h => .inl ⟨v1, v2, v3, v4, (HF.out _ _ _ _).2 ⟨p1, p2, p3, HX.out.1, HX.out.2.1, HX.out.2.2.1, HX.out.2.2.2, K4.out, h⟩, rfl⟩
  have HR : Hid (okB v1 v2 v3 v4 = false → FmRead s (.returned (.tuple #[.agg #[.int .i64 0, .int .i64 0, .int .i64 0, .int .i64 0], .bool false]))) := fun h0 => .inr ⟨(fun l wd h j H => by
    obtain ⟨p, q, r, e2, n1, n2, n3, n4, ok⟩ := (HF.out l wd h j).1 H
    rw [HX.out.1] at e2
    simp only [List.cons.injEq, and_true] at e2
    obtain ⟨rfl, rfl, rfl⟩ := e2
    rw [HX.out.2.1] at n1
    rw [HX.out.2.2.1] at n2
    rw [HX.out.2.2.2] at n3
    rw [K4.out] at n4
    cases n1
    cases n2
    cases n3
    cases n4
    rw [h0] at ok
    cases ok), rfl⟩
  go_wp2_with fail
  refine D.out.mono ?_
  rintro e w3 ⟨rfl, hb⟩
  have B3 := Lib.hid (bnext B2.out hb)
  have TN3 := Lib.hid (there_below TN2.out hb)
  have d0 := (hb.cell (p := ⟨g, 0, none⟩) hlt).trans c0
  have d1 := (hb.cell (p := ⟨g, 1, none⟩) hlt).trans c1
  have d2 := (hb.cell (p := ⟨g, 2, none⟩) hlt).trans c2
  have ha := balloc0 w3 (.cells #[.int .i64 0, .int .i64 0, .int .i64 0, .int .i64 0] 25)
  have hlt3 : g < w3.heap.size := World.block_lt_of_cell? w3 _ d0
  have e0 := (ha.cell (p := ⟨g, 0, none⟩) hlt3).trans d0
  have e1 := (ha.cell (p := ⟨g, 1, none⟩) hlt3).trans d1
  have e2 := (ha.cell (p := ⟨g, 2, none⟩) hlt3).trans d2
  clear hb ha c0 c1 c2 hlt hlt3
  go_wp2_with fail
  go_region
  go_wp2_with fail
  clear d0 d1 d2 e0 e1 e2
  obtain ⟨z0, z1, z2, z3⟩ := range_new4 w3 v1 v2 v3 v4 (t := 25)
  have B4 : Hid (Below w.heap.size w (w3.alloc (.cells #[.int .i64 v1, .int .i64 v2, .int .i64 v3, .int .i64 v4] 25)).drew) := (balloc B3.out _).drew
  have TN4 : Hid ((w3.alloc (.cells #[.int .i64 v1, .int .i64 v2, .int .i64 v3, .int .i64 v4] 25)).drew.there w.heap.size 0 4) := there_below TN3.out (balloc0 w3 _).drew
  have hlt4 : w3.heap.size < (w3.alloc (.cells #[.int .i64 v1, .int .i64 v2, .int .i64 v3, .int .i64 v4] 25)).drew.heap.size := World.block_lt_of_cell? _ _ z0
  have HZ : Hid (∀ w', Below (w3.alloc (.cells #[.int .i64 v1, .int .i64 v2, .int .i64 v3, .int .i64 v4] 25)).drew.heap.size (w3.alloc (.cells #[.int .i64 v1, .int .i64 v2, .int .i64 v3, .int .i64 v4] 25)).drew w' → w'.cell? ⟨w3.heap.size, 0, none⟩ = some (.int .i64 v1) ∧ w'.cell? ⟨w3.heap.size, 1, none⟩ = some (.int .i64 v2) ∧ w'.cell? ⟨w3.heap.size, 2, none⟩ = some (.int .i64 v3) ∧ w'.cell? ⟨w3.heap.size, 3, none⟩ = some (.int .i64 v4)) := fun w' hb =>
    ⟨(hb.cell (p := ⟨w3.heap.size, 0, none⟩) hlt4).trans z0, (hb.cell (p := ⟨w3.heap.size, 1, none⟩) hlt4).trans z1, (hb.cell (p := ⟨w3.heap.size, 2, none⟩) hlt4).trans z2, (hb.cell (p := ⟨w3.heap.size, 3, none⟩) hlt4).trans z3⟩
  clear z0 z1 z2 z3 hlt4
  cases hok : okB v1 v2 v3 v4
  · have HN := Lib.hid (HR.out hok)
    rw [hok] at CO
    clear hok
    refine (CO.out _).mono ?_
    rintro e w5 ⟨rfl, hb⟩
    have B5 := Lib.hid (bnext B4.out hb)
    have TN := there_below TN4.out hb
    clear hb
    obtain ⟨u0, x0, t0⟩ := there_at TN (k := 0) (by omega)
    obtain ⟨u1, x1, t1⟩ := there_at TN (k := 1) (by omega)
    obtain ⟨u2, x2, t2⟩ := there_at TN (k := 2) (by omega)
    obtain ⟨u3, x3, t3⟩ := there_at TN (k := 3) (by omega)
    clear TN
    go_wp2
    refine bodyPost_ret (v := .tuple #[.agg #[.int .i64 0, .int .i64 0, .int .i64 0, .int .i64 0], .bool false]) (by simp [results, Tryd.results7, go_sem, x0, x1, x2, x3]) rfl ⟨HN.out, ((((B5.out.setCell (Nat.le_refl _) _).setCell (Nat.le_refl _) _).setCell (Nat.le_refl _) _).setCell (Nat.le_refl _) _)⟩
  · have HN := Lib.hid (HQ.out hok)
    rw [hok] at CO
    clear hok
    refine (CO.out _).mono ?_
    rintro e w5 ⟨rfl, hb⟩
    have B5 := Lib.hid (bnext B4.out hb)
    have TN := there_below TN4.out hb
    obtain ⟨z0, z1, z2, z3⟩ := HZ.out _ hb
    clear hb
    obtain ⟨u0, x0, t0⟩ := there_at TN (k := 0) (by omega)
    obtain ⟨u1, x1, t1⟩ := there_at TN (k := 1) (by omega)
    obtain ⟨u2, x2, t2⟩ := there_at TN (k := 2) (by omega)
    obtain ⟨u3, x3, t3⟩ := there_at TN (k := 3) (by omega)
    clear TN
    go_wp2
    refine bodyPost_ret (v := .tuple #[.agg #[.int .i64 v1, .int .i64 v2, .int .i64 v3, .int .i64 v4], .bool true]) (by simp [results, Tryd.results7, go_sem, x0, x1, x2, x3]) rfl ⟨HN.out, ((((B5.out.setCell (Nat.le_refl _) _).setCell (Nat.le_refl _) _).setCell (Nat.le_refl _) _).setCell (Nat.le_refl _) _)⟩
end Go.Proofs.YtpholgfkaolfjaaDoor
