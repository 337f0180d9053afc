/-
  AreaInside: the model's word, and the program's.
-/
import Derived.Test.YtikjielgnlgnjaaDoorHoC
namespace Go.Proofs.YtikjielgnlgnjaaDoor
open Go.ChangeShapes Go.WideShapes Go.ChangeAt Go.RowKit Go.Joins Go.Shelf

/-- Twice the area between 0, 0 and some sides. -/
def crossS (s t : Spot) : Int := s.x * t.y - t.x * s.y
def areaOf (l : List (Spot × Spot)) : Int := (l.map fun x => crossS x.1 x.2).sum
theorem areaOf_nil : areaOf [] = 0 := rfl
theorem areaOf_snoc (l : List (Spot × Spot)) (x : Spot × Spot) : areaOf (l ++ [x]) = areaOf l + crossS x.1 x.2 := by simp [areaOf]
theorem mul_bound {x y : Int} (hx : -2400 ≤ x ∧ x ≤ 2400) (hy : -2400 ≤ y ∧ y ≤ 2400) : -5760000 ≤ x * y ∧ x * y ≤ 5760000 := by
  have h : (x * y).natAbs ≤ 2400 * 2400 := by
    rw [Int.natAbs_mul]
    exact Nat.mul_le_mul (by omega) (by omega)
  omega
theorem area_bound {P : List Int} (h : runsB P = true) (T : ByteArray) : ∀ k : Nat, k ≤ 12 → -(11520000 * (k : Int)) ≤ areaOf (legs P T k) ∧ areaOf (legs P T k) ≤ 11520000 * (k : Int)
  | 0, _ => by rw [show legs P T 0 = [] from rfl, areaOf_nil]; omega
  | k + 1, hk => by
    have ih := area_bound h T k (by omega)
    rw [legs_succ, areaOf_snoc]
    have a1 := spot_le h T k
    have a2 := spot_le h T (k + 1)
    have b1 := mul_bound (x := (spot P T k).x) (y := (spot P T (k + 1)).y) (by omega) (by omega)
    have b2 := mul_bound (x := (spot P T (k + 1)).x) (y := (spot P T k).y) (by omega) (by omega)
    simp only [crossS]
    omega
def arV (P : List Int) (T : ByteArray) : Int := if okHo P T = true then (((areaOf (legs P T P.length)).natAbs : Nat) : Int).tdiv 2 else 0
theorem ar_bad {P : List Int} {T : ByteArray} (h : okHo P T = false) : arV P T = 0 ∧ hoC P T = 1 := by simp [arV, hoC, h]
theorem ar_good {P : List Int} {T : ByteArray} (h : okHo P T = true) : arV P T = (((areaOf (legs P T P.length)).natAbs : Nat) : Int).tdiv 2 ∧ hoC P T = 0 := by simp [arV, hoC, h]
theorem sizeA_spec (n : Int) (h0 : -1000000000 ≤ n) (h1 : n ≤ 1000000000) (w : World) : Calls Tryd.prog 67 #[.int .i64 n] w fun e w' => e = .returned (.int .i64 (n.natAbs : Int)) ∧ w = w' := by
  by_cases h : n < 0
  · go_enter Tryd.func67, Tryd.ntmps67
    go_wp2
    go_ret
    exact ⟨ret_int (by omega), rfl⟩
  · go_enter Tryd.func67, Tryd.ntmps67
    go_wp2
    go_ret
    exact ⟨ret_int (by omega), rfl⟩
theorem distA_impl (n : Int) (h0 : -1000000000 ≤ n) (h1 : n ≤ 1000000000) (w : World) : Calls Tryd.prog 65 #[.int .i64 n, .int .i64 0] w fun e w' => e = .returned (.int .i64 (n.natAbs : Int)) ∧ w = w' := by
  go_enter Tryd.func65, Tryd.ntmps65
  go_wp2
  go_ret
  exact ⟨ret_int (by omega), rfl⟩
set_option maxRecDepth 100000 in
set_option maxHeartbeats 1600000 in
theorem cross_impl (s t : Spot) (hs : (-2400 ≤ s.x ∧ s.x ≤ 2400) ∧ -2400 ≤ s.y ∧ s.y ≤ 2400) (ht : (-2400 ≤ t.x ∧ t.x ≤ 2400) ∧ -2400 ≤ t.y ∧ t.y ≤ 2400) (w : World) :
    Calls Tryd.prog 68 #[plc s, plc t] w fun e w' => e = .returned (.int .i64 (crossS s t)) ∧ Below w.heap.size w w' := by
  obtain ⟨x, y, d⟩ := s
  obtain ⟨x', y', d'⟩ := t
  simp only at hs ht
  have b1 := mul_bound hs.1 ht.2
  have b2 := mul_bound ht.1 hs.2
  simp only [plc, crossS]
  obtain ⟨p, hp⟩ : ∃ p, x * y' = p := ⟨_, rfl⟩
  obtain ⟨q, hq⟩ : ∃ q, x' * y = q := ⟨_, rfl⟩
  have w1 : IntKind.i64.wrap (x * y') = p := by rw [← hp]; exact IntWalk.i64_in _ (by omega)
  have w2 : IntKind.i64.wrap (x' * y) = q := by rw [← hq]; exact IntWalk.i64_in _ (by omega)
  rw [hp] at b1 ⊢
  rw [hq] at b2 ⊢
  have w3 : IntKind.i64.wrap (p - q) = p - q := IntWalk.i64_in _ (by omega)
  clear hp hq
  go_enter Tryd.func68, Tryd.ntmps68
  go_wp2
  go_ret
  exact ⟨by simp, balloc (balloc0 _ _) _⟩
set_option maxRecDepth 100000 in
set_option maxHeartbeats 3200000 in
theorem areaInside_spec (P : List Int) (T : ByteArray) (a : Option Addr) (cap : Nat) (hl : P.length ≤ 1048576) (hs : T.size ≤ 1048576) (w : World) (ha : IntArg w a P) :
    Calls Tryd.prog 39 #[.agg #[.slice a P.length cap, .string T]] w fun e w' => e = .returned (.tuple #[.int .i64 (arV P T), .int .i64 (hoC P T)]) ∧ Below w.heap.size w w' := by
  obtain ⟨W0, hW⟩ : ∃ W0, w.alloc (.cells #[.slice a P.length cap, .string T] 27) = W0 := ⟨_, rfl⟩
  have E0 : Hid (Below w.heap.size w W0) := by show Below w.heap.size w W0; rw [← hW]; exact balloc0 _ _
  have HB : Hid (HoBox w.heap.size a cap P T W0) := by show HoBox _ _ _ _ _ _; rw [← hW]; exact HoBox.new w _
  have C := Lib.hid (okH_spec P T a cap hl hs w.heap.size W0 HB.out (ha.later E0.out))
  have HW := Lib.hid hW
  have HA := Lib.hid (ha.later E0.out)
  clear hW ha
  cases h : okHo P T
  · obtain ⟨e1, e2⟩ := ar_bad h
    rw [e1, e2]
    rw [h] at C
    clear e1 e2 h
    go_enter Tryd.func39, Tryd.ntmps39
    go_wp2_with fail
    rw [HW.out]
    refine C.out.mono ?_
    rintro e w1 ⟨rfl, hb1⟩
    have B1 := Lib.hid (bnext E0.out hb1)
    clear hb1
    go_wp2
    go_ret2
    exact ⟨rfl, B1.out⟩
  · obtain ⟨e1, e2⟩ := ar_good h
    rw [e1, e2]
    rw [h] at C
    obtain ⟨h4, h12, hT, hr⟩ := okHo_size h
    have PT := Lib.hid (fun wx hb hx => points_spec P T a cap hr h12 hT w.heap.size wx hb hx)
    have AB := Lib.hid (fun k hk => area_bound hr T k hk)
    have SL := Lib.hid (fun k => spot_le hr T k)
    obtain ⟨A, hA⟩ : ∃ A, areaOf (legs P T P.length) = A := ⟨_, rfl⟩
    have hAb := AB.out P.length h12
    rw [hA] at hAb ⊢
    have SZ := Lib.hid (sizeA_spec A (by omega) (by omega))
    have HAe := Lib.hid hA
    have LEN := Lib.hid (ptsC_length P T (P.length + 1))
    have AT := Lib.hid (fun k (hk : k < P.length + 1) => ptsC_at (P := P) (T := T) hk)
    obtain ⟨Q, hQ⟩ : ∃ Q, ptsC P T (P.length + 1) = Q := ⟨_, rfl⟩
    rw [hQ] at PT LEN
    have AT : Hid (∀ k, k < P.length + 1 → Q[k]? = some ((spot P T k).x, (spot P T k).y)) := fun k hk => by rw [← hQ]; exact ptsC_at hk
    clear e1 e2 h hr hA hQ
    go_enter Tryd.func39, Tryd.ntmps39
    go_wp2_with fail
    rw [HW.out]
    refine C.out.mono ?_
    rintro e w1 ⟨rfl, hb1⟩
    have B1 := Lib.hid (bnext E0.out hb1)
    have HB1 := Lib.hid (HB.out.later hb1)
    have HA1 := Lib.hid (HA.out.later hb1)
    clear hb1
    go_wp2_with fail
    refine (PT.out _ HB1.out HA1.out).mono ?_
    rintro e w2 ⟨v, bs, rfl, hP, hb2⟩
    have B2 := Lib.hid (bnext B1.out hb2)
    have HB2 := Lib.hid (HB1.out.later hb2)
    have hlq := LEN.out
    obtain ⟨g, cp, rfl⟩ := hP.form.2 (by omega)
    have PL := Lib.hid hP.lies
    clear hb2 hP
    go_wp2
    go_loopw [5, 6] (fun t i wr => ∃ (k : Nat) (q : Int), k ≤ P.length ∧ t = .int .i64 q ∧ i = .int .i64 (k : Int) ∧ Hid (areaOf (legs P T k) = q) ∧ Hid (Below w2.heap.size w2 wr)) (fun _ i _ => P.length - (intOf i).toNat)
    case atStart => exact ⟨0, 0, Nat.zero_le _, rfl, rfl, rfl, Below.refl _ _⟩
    case round =>
      obtain ⟨k, q, hk, rfl, rfl, hq, hBr⟩ := hrel
      obtain ⟨d0, d1⟩ := HB2.out.later hBr.out
      by_cases hlt : k < P.length
      · have hlt' : (k : Int) < (P.length : Int) := by omega
        have hk0 : (0 : Int) ≤ (k : Int) := by omega
        have hk1 : (k : Int) < (Q.length : Int) := by omega
        have hk2 : (k : Int) + 1 < (Q.length : Int) := by omega
        obtain ⟨g1, c1, b1, e1, p1, i1⟩ := (PL.out.later hBr.out).2 k _ (AT.out k (by omega))
        obtain ⟨g2, c2, b2, e2, p2, i2⟩ := (PL.out.later hBr.out).2 (k + 1) _ (AT.out (k + 1) (by omega))
        simp only [Value.slice.injEq, Option.some.injEq, Addr.mk.injEq] at e1 e2
        obtain ⟨⟨rfl, -⟩, -, rfl⟩ := e1
        obtain ⟨⟨rfl, -⟩, -, rfl⟩ := e2
        have x1 := i1 0 _ rfl
        have y1 := i1 1 _ rfl
        have x2 := i2 0 _ rfl
        have y2 := i2 1 _ rfl
        simp only [Nat.zero_add] at x1 y1 x2 y2
        have a1 := SL.out k
        have a2 := SL.out (k + 1)
        have hqb := AB.out k (by omega)
        have HN : Hid (areaOf (legs P T (k + 1)) = q + ((spot P T k).x * (spot P T (k + 1)).y - (spot P T (k + 1)).x * (spot P T k).y)) := by show _ = _; rw [legs_succ, areaOf_snoc, hq.out]; rfl
        rw [hq.out] at hqb
        have m1 := mul_bound (x := (spot P T k).x) (y := (spot P T (k + 1)).y) (by omega) (by omega)
        have m2 := mul_bound (x := (spot P T (k + 1)).x) (y := (spot P T k).y) (by omega) (by omega)
        obtain ⟨u1, hu1⟩ : ∃ z, (spot P T k).x = z := ⟨_, rfl⟩
        obtain ⟨u2, hu2⟩ : ∃ z, (spot P T k).y = z := ⟨_, rfl⟩
        obtain ⟨u3, hu3⟩ : ∃ z, (spot P T (k + 1)).x = z := ⟨_, rfl⟩
        obtain ⟨u4, hu4⟩ : ∃ z, (spot P T (k + 1)).y = z := ⟨_, rfl⟩
        rw [hu1] at x1 HN m1
        rw [hu2] at y1 HN m2
        rw [hu3] at x2 HN m2
        rw [hu4] at y2 HN m1
        clear hu1 hu2 hu3 hu4 i1 i2 a1 a2
        obtain ⟨p, hp⟩ : ∃ p, u1 * u4 = p := ⟨_, rfl⟩
        obtain ⟨r, hr⟩ : ∃ r, u3 * u2 = r := ⟨_, rfl⟩
        have w1' : IntKind.i64.wrap (u1 * u4) = p := by rw [← hp]; exact IntWalk.i64_in _ (by omega)
        have w2' : IntKind.i64.wrap (u3 * u2) = r := by rw [← hr]; exact IntWalk.i64_in _ (by omega)
        rw [hp] at m1 HN
        rw [hr] at m2 HN
        have w3' : IntKind.i64.wrap (p - r) = p - r := IntWalk.i64_in _ (by omega)
        have w4' : IntKind.i64.wrap (q + (p - r)) = q + (p - r) := IntWalk.i64_in _ (by omega)
        clear hp hr
        go_wp2
        go_region
        go_wp2
        go_roundw
        case rel => exact ⟨k + 1, q + (p - r), by omega, by simp, by go_num, HN.out, hBr.out.drew⟩
        case measure => simp [intOf]; omega
      · have hge : ¬ (k : Int) < (P.length : Int) := by omega
        have hkn : k = P.length := by omega
        have HE : Hid (q = A) := by show _ = _; rw [← hq.out, hkn]; exact HAe.out
        have HF := Lib.hid (bnext B2.out hBr.out)
        rw [HE.out]
        go_wp2_with fail
        refine (SZ.out _).mono ?_
        rintro e w3 ⟨rfl, rfl⟩
        go_wp2
        go_ret2
        exact ⟨by simp, HF.out⟩
attribute [local go_sem] Oper.semAt_some
theorem others_below {W w3 : World} {pb : Nat} {t : TypeId} {u u1 : Value} (hb : Below W.heap.size W w3) (hv : Boxed W pb t u) : KeepsOthers W (w3.setCell ⟨pb, 0, none⟩ u1) := by
  refine ⟨Nat.le_trans hb.size (by simp [World.setCell]), fun k o hk ho => ?_⟩
  refine (Below.heap_setCell _ _ _ k (fun e => ?_)).trans ((hb.block k (Array.getElem?_eq_some_iff.1 hk).1).trans hk)
  have h1 : k = pb := e
  subst h1
  have h2 : W.heap[k]? = some (.cells #[u] t (0, 0)) := hv
  rw [hk] at h2
  cases h2
  cases ho
set_option maxRecDepth 100000 in
set_option maxHeartbeats 8000000 in
theorem areaInside_impl (P : List Int) (T : ByteArray) (a : Option Addr) (cap : Nat) (hl : P.length ≤ 1048576) (hs : T.size ≤ 1048576) (w : World) (ha : IntArg w a P) (hd : DirAt w) :
    Calls Tryd.prog 40 #[.agg #[.slice a P.length cap, .string T]] w fun e w' => e = .returned (.tuple #[.int .i64 (arV P T), .int .i64 (hoC P T)]) ∧ Below w.heap.size w w' := by
  have K := house_new w (.slice a P.length cap) T 27
  obtain ⟨W0, hW⟩ : ∃ W0, w.alloc (.cells #[.slice a P.length cap, .string T] 27) = W0 := ⟨_, rfl⟩
  have E0 : Hid (Below w.heap.size w W0) := by show Below w.heap.size w W0; rw [← hW]; exact balloc0 _ _
  rw [hW] at K
  have HA := Lib.hid (ha.later E0.out)
  have HD := Lib.hid (hd.later E0.out)
  have HW := Lib.hid hW
  obtain ⟨d0, d1⟩ := K.out _ (Below.refl _ _)
  have C := Lib.hid (validHouse_impl P T a cap hl hs W0 HA.out HD.out)
  have z0 : W0.heap.size = w.heap.size + 1 := by rw [← hW]; simp
  clear hW ha hd
  cases h : okHo P T
  · obtain ⟨e1, e2⟩ := ar_bad h
    rw [e1, e2]
    rw [h] at C
    clear e1 e2 h
    go_enter Tryd.func40, Tryd.ntmps40
    go_wp2_with fail
    rw [HW.out]
    go_wp2_with fail
    refine C.out.mono ?_
    rintro e w1 ⟨rfl, hb1⟩
    have B1 := Lib.hid (bnext E0.out hb1)
    clear hb1
    go_wp2
    go_ret2
    exact ⟨rfl, B1.out⟩
  obtain ⟨e1, e2⟩ := ar_good h
  rw [e1, e2]
  rw [h] at C
  obtain ⟨h4, h12, hT, hr⟩ := okHo_size h
  have hok : okHo' P T := ⟨hr, okHo_walk h, h12, hT⟩
  have HI := Lib.hid (fun wx => walk_in (.slice a P.length cap) T wx)
  have AB := Lib.hid (fun k hk => area_bound hr T k hk)
  have SL := Lib.hid (fun k => spot_le hr T k)
  obtain ⟨A, hA⟩ : ∃ A, areaOf (legs P T P.length) = A := ⟨_, rfl⟩
  have hAb := AB.out P.length h12
  rw [hA] at hAb ⊢
  have SZ := Lib.hid (distA_impl A (by omega) (by omega))
  have HAe := Lib.hid hA
  clear e1 e2 h hA
  refine (callsIn_wide (n := 6)).1 ?_
  refine callsIn_of_wp_marks Tryd.func40 rfl trivial ?_ rfl
  simp only [Tryd.ntmps40, List.size_toArray, List.length_cons, List.length_nil, Nat.reduceAdd, Nat.reduceSub, Array.replicate_succ, Array.replicate_zero, List.push_toArray, List.append_toArray, List.nil_append, List.cons_append]
  gi_wp2_with fail
  rw [HW.out]
  gi_wp2_with fail
  refine ⟨trivial, (callsIn_wide.2 C.out).mono ?_⟩
  rintro e w1 ⟨rfl, hb1⟩
  have hB1 := bnext E0.out hb1
  have hI1 := HA.out.later hb1
  have hD1 := HD.out.later hb1
  have zw := hb1.size
  clear d0 d1
  obtain ⟨d0, d1⟩ := K.out _ hb1
  have q0 : (w1.alloc (.cells #[.int .i64 0] 2)).cell? ⟨w.heap.size, 0, none⟩ = some (.slice a P.length cap) := (World.cell?_alloc_lt _ _ _ (World.block_lt_of_cell? w1 _ d0)).trans d0
  have q1 : (w1.alloc (.cells #[.int .i64 0] 2)).cell? ⟨w.heap.size, 1, none⟩ = some (.string T) := (World.cell?_alloc_lt _ _ _ (World.block_lt_of_cell? w1 _ d1)).trans d1
  gi_wp2_with (refine ⟨trivial, ?_⟩; gi_at_call 64; refine (callsIn_wide.2 (callsIn_wide.1 (HI.out _))).mono ?_; rintro e w' ⟨rfl, rfl⟩)
  obtain ⟨W2, hW2⟩ : ∃ W2, ((w1.alloc (.cells #[.int .i64 0] 2)).alloc (.cells #[.slice a P.length cap, .string T] 27)) = W2 := ⟨_, rfl⟩
  have z2 : W2.heap.size = w1.heap.size + 2 := by rw [← hW2]; simp
  have hB2 : Below w1.heap.size w1 W2 := by rw [← hW2]; exact balloc (balloc0 _ _) _
  have hP2 : Boxed W2 w1.heap.size 2 (.int .i64 0) := by rw [← hW2]; exact (Boxed.new w1 2 (.int .i64 0)).alloc _
  have hH2 : HoR w1.heap.size (w1.heap.size + 1) a cap P T W2 := by
    refine ⟨(IntDeep.of hI1).below hB2 (Nat.le_refl _), hD1.below hB2 hD1.lt, hD1.lt, ?_⟩
    rw [← hW2]
    have := heap_alloc_new (w1.alloc (.cells #[.int .i64 0] 2)) (.cells #[.slice a P.length cap, .string T] 27)
    simpa using this
  rw [hW2]
  clear hW2 q0 q1 d0 d1 hb1
  refine range_all rfl (by omega) (gf := 86) (lb := #[.pointer (some ⟨w1.heap.size + 1, 0, none⟩)]) rfl trivial (enters_of Tryd.func86 (by kernel_rfl) rfl)
    (walk_goes _ (by omega) w1.heap.size (w1.heap.size + 1) P T a cap hok (W2.heap.size + 2) W2 (by omega) (by omega) hH2) KpH.t (KpH.put (by omega)) (Below.refl _ _) (fun _ => rfl)
    (fun pre W => Boxed W w1.heap.size 2 (.int .i64 (areaOf pre)) ∧ Below w1.heap.size w1 W)
    (fun s W W' row hs hg hr => ⟨boxed_keep hs.1 hg (fun e => by rcases hr _ e.symm with h | ⟨h, _⟩ <;> omega), below_row hs.2 hs.2.size hg (fun r e => by rcases hr r e with h | ⟨h, _⟩ <;> omega)⟩)
    ⟨hP2, hB2⟩
    (fun pre x a' W => (∃ tf tb, a' = { tmps := #[.agg #[.slice a P.length cap, .string T], .pointer (some ⟨w.heap.size, 0, none⟩), .int .i64 0, .int .i64 0, .pointer (some ⟨w1.heap.size, 0, none⟩), .pointer (some ⟨tf, 0, none⟩), .pointer (some ⟨tb, 0, none⟩), .agg #[.slice a P.length cap, .string T], .bool true, .bool false, .agg #[.slice a P.length cap, .string T], .func (.func 86) #[] #[.pointer (some ⟨w1.heap.size + 1, 0, none⟩)], plc x.1, plc x.2, undef, undef, undef, undef, undef, undef, undef, undef], defers := [] } ∧ FrAt tf x.1 W ∧ FrAt tb x.2 W) ∧ Boxed W w1.heap.size 2 (.int .i64 (areaOf pre)) ∧ Below w1.heap.size w1 W)
    (fun pre x a' W l o o' hl ho hc h => by
      obtain ⟨⟨tf, tb, h1, h2, h2'⟩, h3, h5⟩ := h
      exact ⟨⟨tf, tb, h1, h2.put o' ho hc, h2'.put o' ho hc⟩, boxed_keep h3 (grownBy_putObj' W l o') (fun e => by cases e; omega), h5.trans ⟨rfl, rfl, rfl, by simp, fun k hk => World.putObj_heap_other (by omega)⟩⟩)
    ?assign ?body ?done
  case assign =>
    rintro l pre ⟨⟨x, y, d⟩, ⟨x', y', d'⟩⟩ W hpx hsz ⟨hv, hB⟩
    simp only [encL, plc]
    gi_wp2
    refine ⟨?_, ?_, ⟨_, _, rfl, FrAt.below (heap_alloc_new _ _) (balloc0 _ _) (by simp), by have := heap_alloc_new (W.alloc (.cells #[.int .i64 x, .int .i64 y] 72)) (.cells #[.int .i64 x', .int .i64 y'] 72); rw [World.size_alloc] at this; exact this⟩, (hv.alloc _).alloc _, balloc (balloc hB _) _⟩
    · exact ⟨by simp; omega, fun k o hk _ => (Below.heap_alloc _ _ _ (by have := (Array.getElem?_eq_some_iff.1 hk).1; simp; omega)).trans ((Below.heap_alloc _ _ _ (Array.getElem?_eq_some_iff.1 hk).1).trans hk)⟩
    · exact KpH.below (balloc (balloc0 _ _) _) hB.size (by omega) (Nat.le_refl _)
  case body =>
    rintro l pre x a' W hpx hsz ⟨⟨tf, tb, rfl, hF, hT2⟩, hv, hB⟩
    obtain ⟨k, hk, rfl, rfl⟩ := legs_pre hpx
    have a1 := SL.out k
    have a2 := SL.out (k + 1)
    have hqb := AB.out k (by omega)
    have hqb2 := AB.out (k + 1) (by omega)
    have HN := Lib.hid (areaOf_snoc (legs P T k) (spot P T k, spot P T (k + 1)))
    rw [legs_succ, HN.out] at hqb2
    have CR := Lib.hid (fun wx => cross_impl (spot P T k) (spot P T (k + 1)) ⟨by omega, by omega⟩ ⟨by omega, by omega⟩ wx)
    obtain ⟨q, hq⟩ : ∃ q, areaOf (legs P T k) = q := ⟨_, rfl⟩
    rw [hq] at hv hqb hqb2 HN
    simp only at hqb2 HN
    obtain ⟨r, hr⟩ : ∃ r, crossS (spot P T k) (spot P T (k + 1)) = r := ⟨_, rfl⟩
    rw [hr] at CR hqb2 HN
    clear hq hr a1 a2
    obtain ⟨⟨c0, c1⟩, _, _⟩ := hF.cells
    obtain ⟨⟨c2, c3⟩, _, _⟩ := hT2.cells
    have d0 := hv.cell
    have f0 := hv.frozen
    have hw : IntKind.i64.wrap (q + r) = q + r := IntWalk.i64_in _ (by omega)
    simp only [plc] at CR ⊢
    gi_wp2_with fail
    gi_region_with ((first | refine ⟨trivial, fun _ => by omega, ?_⟩ | refine ⟨trivial, ?_⟩); gi_at_call 68; refine (show CallsIn (Fence.wide.inRound l) _ _ _ _ _ _ from callsIn_wide.2 (CR.out _)).mono ?_; rintro e w3 ⟨rfl, hb3⟩; have B3 := Lib.hid (undrew hb3); have e0 := (boxed_keep hv (grownH (undrew hb3)) (by simp)).cell; have g0 := (boxed_keep hv (grownH (undrew hb3)) (by simp)).frozen; clear hb3)
    all_goals
      gi_wp2
      refine ⟨others_below B3.out hv, KpH.t (KpH.below (m := W.heap.size) B3.out hB.size (by omega) (Nat.le_refl _)) (KpH.set (p := ⟨w1.heap.size, 0, none⟩) (Nat.le_refl _) (by show w1.heap.size ≠ _; omega) (by show w1.heap.size < _; omega)), ?_, ?_⟩
      · rw [HN.out]
        exact (boxed_keep hv (grownH B3.out) (by simp)).set _
      · exact ((hB.trans (B3.out.mono hB.size)).setCell (p := ⟨w1.heap.size, 0, none⟩) (Nat.le_refl _) _)
  case done =>
    rintro D W hD ⟨hv, hB⟩ hK
    rw [HAe.out] at hv
    have d0 := hv.cell
    gi_wp2_with fail
    refine ⟨trivial, (callsIn_wide.2 (SZ.out _)).mono ?_⟩
    rintro e w3 ⟨rfl, rfl⟩
    gi_wp2
    refine ⟨by simp, .inl ⟨_, _, rfl, run_takeDeferred hK, ?_⟩⟩
    refine ⟨.tuple #[.int .i64 ((A.natAbs : Int).tdiv 2), .int .i64 0], by simp [results, Tryd.results40, go_sem], rfl, ?_⟩
    exact (hB1.trans (hB.mono (by omega))).trans ⟨rfl, rfl, rfl, by simp, fun k hk => World.putObj_heap_other (by omega)⟩
end Go.Proofs.YtikjielgnlgnjaaDoor
