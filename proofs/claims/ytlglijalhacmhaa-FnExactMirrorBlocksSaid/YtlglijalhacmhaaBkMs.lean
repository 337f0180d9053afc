/-
  Arches from the other side: the model.
-/
import Derived.Test.YtlglijalhacmhaaBkQ
import Derived.Deep.RegionWith
import Derived.Deep.RegionLaw
namespace Go.Proofs.Ytlglijalhacmhaa
open Go.ChangeShapes Go.WideShapes Go.ChangeAt Go.RowKit Go.Joins

theorem rev_step {P : List Int} {j : Nat} {z : Int} (h : P[j]? = some z) : P.reverse.take (P.length - (j + 1)) ++ [z] = P.reverse.take (P.length - j) := by
  have hj := (List.getElem?_eq_some_iff.1 h).1
  have e : P.length - j = (P.length - (j + 1)) + 1 := by omega
  rw [e, List.take_add_one, List.getElem?_reverse (by omega), show P.length - 1 - (P.length - (j + 1)) = j by omega, h]
  rfl
theorem rev_all (P : List Int) : P.reverse.take (P.length - 0) = P.reverse := by
  rw [List.take_of_length_le (by simp)]
theorem rev_none (P : List Int) : P.reverse.take (P.length - P.length) = [] := by simp
theorem mir_lens (X : Bk) (D : List Int) (P : List Int) (j : Nat) (h : D = P.reverse.take (P.length - j)) (hP : P.length ≤ 11) : D.length ≤ 11 := by
  rw [h, List.length_take]; omega
set_option maxRecDepth 100000 in
set_option maxHeartbeats 6400000 in
theorem MirrorBlocks_spec (X : Bk) (a b c : Option Addr) (ca cb cc : Nat) (hl : BkLen X 1048576) (w : World) (ha : BkArg w a b c X) :
    Calls Try.prog 42 #[.agg #[.slice a X.A.length ca, .slice b X.L.length cb, .slice c X.H.length cc]] w fun e w' => ∃ (a' b' c' : Option Addr) (x y z : Nat), e = .returned (.tuple #[.agg #[.slice a' (mirX X).A.length x, .slice b' (mirX X).L.length y, .slice c' (mirX X).H.length z], .int .i64 (bkC X)]) ∧ (IntRes w.heap.size (mirX X).A a' w' ∧ IntRes w.heap.size (mirX X).L b' w' ∧ IntRes w.heap.size (mirX X).H c' w') ∧ Below w.heap.size w w' := by
  have k0 := BkBox.new w X a b c ca cb cc 27
  have E0 := Lib.hid (balloc0 w (.cells #[.slice a X.A.length ca, .slice b X.L.length cb, .slice c X.H.length cc] 27))
  obtain ⟨U, hU⟩ : ∃ U, World.alloc w (.cells #[.slice a X.A.length ca, .slice b X.L.length cb, .slice c X.H.length cc] 27) = U := ⟨_, rfl⟩
  have zU : U.heap.size = w.heap.size + 1 := by rw [← hU]; simp
  rw [hU] at k0 E0
  have E0 : Hid (Below w.heap.size w U) := E0.out
  have ra := heap_alloc_new U (.cells #[.slice none 0 0, .slice none 0 0, .slice none 0 0] 27)
  have E1 := Lib.hid (balloc0 U (.cells #[.slice none 0 0, .slice none 0 0, .slice none 0 0] 27))
  have k1 := k0.later E1.out
  obtain ⟨U1, hU1⟩ : ∃ U1, World.alloc U (.cells #[.slice none 0 0, .slice none 0 0, .slice none 0 0] 27) = U1 := ⟨_, rfl⟩
  have zU1 : U1.heap.size = w.heap.size + 2 := by rw [← hU1]; simp; omega
  rw [hU1] at ra E1 k1
  have E1 : Hid (Below U.heap.size U U1) := E1.out
  rw [zU] at ra
  have RA : Hid (U1.heap[w.heap.size + 1]? = some (.cells #[.slice none 0 0, .slice none 0 0, .slice none 0 0] 27 (0, 0))) := ra
  have ha0 := Lib.hid ha
  have HA := Lib.hid ((ha.later E0.out).later E1.out)
  have HU := Lib.hid hU
  have HU1 := Lib.hid hU1
  have K1 := Lib.hid k1
  have C := Lib.hid (bk_spec X a b c ca cb cc w.heap.size hl U1 HA.out k1)
  obtain ⟨l1, l2, l3⟩ := hl
  cases hok : okBk X
  · have hq : mirX X = ⟨[], [], []⟩ := by simp [mirX, hok]
    have hc : bkC X = 1 := by simp [bkC, hok]
    rw [hok] at C
    rw [hq, hc]
    clear hU hU1 k0 k1 ha hok hq hc ra
    go_enter Try.func42, Try.ntmps42
    go_wp2_with fail
    rw [HU.out, HU1.out]
    refine C.out.mono ?_
    rintro e w1 ⟨rfl, hb1⟩
    have B1 := Lib.hid (bnext E0.out (bnext E1.out hb1))
    have RB := (hb1.block _ (by omega)).trans RA.out
    obtain ⟨r0, r1, r2, f0, f1, f2⟩ := block_read RB
    have z1 := hb1.size
    clear hb1
    go_wp2_with fail
    refine bodyPost_ret (v := .tuple #[.agg #[.slice none 0 0, .slice none 0 0, .slice none 0 0], .int .i64 1]) ?_ rfl ?_
    · simp [results, Try.results42, go_sem, r0, r1, r2]
    · refine ⟨none, none, none, 0, 0, 0, rfl, ⟨.inl rfl, .inl rfl, .inl rfl⟩, ?_⟩
      exact ((B1.out.setCell (p := ⟨w.heap.size + 1, 0, none⟩) (Nat.le_add_right _ _) _).setCell (p := ⟨w.heap.size + 1, 1, none⟩) (Nat.le_add_right _ _) _).setCell (p := ⟨w.heap.size + 1, 2, none⟩) (Nat.le_add_right _ _) _
  have hq : mirX X = ⟨X.A.reverse, X.L.reverse, X.H.reverse⟩ := by simp [mirX, hok]
  have hc : bkC X = 0 := by simp [bkC, hok]
  have hn := (okBk_true.1 hok).1
  have hLl := (okBk_true.1 hok).2.1
  have hHl := (okBk_true.1 hok).2.2.1
  have HLl := Lib.hid hLl
  have HHl := Lib.hid hHl
  have hL11 : X.L.length ≤ 11 := by omega
  have hH11 : X.H.length ≤ 11 := by omega
  have hA10 : X.A.length ≤ 11 := by omega
  have hA2 : 2 ≤ X.A.length := by omega
  rw [hok] at C
  rw [hq, hc]
  simp only [List.length_reverse]
  clear hU hU1 k0 k1 ha hok hq hc ra hn hLl hHl
  go_enter Try.func42, Try.ntmps42
  go_wp2_with fail
  rw [HU.out, HU1.out]
  refine C.out.mono ?_
  rintro e w1 ⟨rfl, hb1⟩
  have B1 := Lib.hid (bnext E0.out (bnext E1.out hb1))
  have HA1 := Lib.hid (HA.out.later hb1)
  have RB := Lib.hid ((hb1.block _ (by omega)).trans RA.out)
  have z1 : w.heap.size + 1 < w1.heap.size := by have := hb1.size; omega
  have KA := K1.out.later hb1
  have b4 := balloc0 w1 (.cells #[.slice none 0 0, .slice none 0 0, .slice none 0 0] 27)
  have M0 : MirAt w w.heap.size w1.heap.size X a b c ca cb cc [] [] [] none none none 0 0 0 (w1.alloc (.cells #[.slice none 0 0, .slice none 0 0, .slice none 0 0] 27)) :=
    ⟨KA.later b4, heap_alloc_new w1 _, IRow.nil _ _, IRow.nil _ _, IRow.nil _ _, .inl rfl, .inl rfl, .inl rfl, B1.out.alloc B1.out.size _, by omega, by omega, by simp, (b4.block _ (by omega)).trans RB.out⟩
  have HA4 := Lib.hid (HA1.out.later b4)
  have z4 : (w1.alloc (.cells #[.slice none 0 0, .slice none 0 0, .slice none 0 0] 27)).heap.size = w1.heap.size + 1 := by simp
  obtain ⟨n4, hn4⟩ : ∃ n, w1.heap.size = n := ⟨_, rfl⟩
  obtain ⟨W4, hW4⟩ : ∃ W, w1.alloc (.cells #[.slice none 0 0, .slice none 0 0, .slice none 0 0] 27) = W := ⟨_, rfl⟩
  rw [hn4] at M0 z1 z4
  rw [hW4] at M0 HA4 z4
  have M0 := Lib.hid M0
  have HN4 := Lib.hid hn4
  have HW4 := Lib.hid hW4
  obtain ⟨p0, p1, p2⟩ := KA
  have z1' : w.heap.size < w1.heap.size := by omega
  clear hb1 b4 hn4 hW4
  go_wp2_with fail
  rw [HW4.out, HN4.out]
  clear p0 p1 p2 z1'
  go_loopw [5] (fun i wr => ∃ (j : Nat) (D : List Int) (ao : Option Addr) (cp : Nat), j ≤ X.A.length ∧ i = .int .i64 ((j : Int) - 1) ∧ Hid (D = X.A.reverse.take (X.A.length - j)) ∧ Hid (MirAt w w.heap.size n4 X a b c ca cb cc D [] [] ao none none cp 0 0 wr)) (fun i _ => ((intOf i) + 1).toNat)
  case atStart => exact ⟨X.A.length, [], none, 0, Nat.le_refl _, by go_num, (rev_none _).symm, M0.out⟩
  case round =>
    obtain ⟨j, D, ao, cp, hj, rfl, hD, hM⟩ := hrel
    cases j with
    | zero =>
      have hge : ¬ (0 : Int) ≤ ((0 : Nat) : Int) - 1 := by omega
      have HD : Hid (D = X.A.reverse) := by show _ = _; rw [hD.out, rev_all]
      obtain ⟨⟨p0, p1, p2⟩, _⟩ := hM.out
      go_wp2_with fail
      clear p0 p1 p2
      go_loopw [6] (fun i wr2 => ∃ (j : Nat) (D1 D2 : List Int) (a1 a2 : Option Addr) (c1 c2 : Nat), j ≤ X.L.length ∧ i = .int .i64 ((j : Int) - 1) ∧ Hid (D1 = X.L.reverse.take (X.L.length - j)) ∧ Hid (D2 = X.H.reverse.take (X.H.length - j)) ∧ Hid (MirAt w w.heap.size n4 X a b c ca cb cc D D1 D2 ao a1 a2 cp c1 c2 wr2)) (fun i _ => ((intOf i) + 1).toNat)
      case atStart => exact ⟨X.L.length, [], [], none, none, 0, 0, Nat.le_refl _, by go_num, (rev_none _).symm, by rw [HLl.out, ← HHl.out]; exact (rev_none _).symm, hM.out⟩
      case round =>
        obtain ⟨j, D1, D2, a1, a2, c1, c2, hj, rfl, hD1, hD2, hM2⟩ := hrel
        cases j with
        | zero =>
          have hge : ¬ (0 : Int) ≤ ((0 : Nat) : Int) - 1 := by omega
          have HD1 : Hid (D1 = X.L.reverse) := by show _ = _; rw [hD1.out, rev_all]
          have HD2 : Hid (D2 = X.H.reverse) := by show _ = _; rw [hD2.out, rev_all]
          obtain ⟨-, q4, i0, i1, i2, -, -, -, hB, z1, z2, z3, q2⟩ := hM2.out
          obtain ⟨r0, r1, r2, f0, f1, f2⟩ := block_read q4
          obtain ⟨y0, y1, y2, f3, f4, f5⟩ := block_read q2
          have I0 := Lib.hid i0.res
          have I1 := Lib.hid i1.res
          have I2 := Lib.hid i2.res
          have HB := Lib.hid hB
          clear q4 q2 i0 i1 i2 hB
          go_wp2_with fail
          refine bodyPost_ret (v := .tuple #[.agg #[.slice ao D.length cp, .slice a1 D1.length c1, .slice a2 D2.length c2], .int .i64 0]) ?_ rfl ?_
          · simp [results, Try.results42, go_sem, y0, y1, y2]
          · have OO := fun u0 u1 u2 => (((Only.refl (w.heap.size + 1) wr).set 0 u0).set 1 u1).set 2 u2
            refine ⟨ao, a1, a2, ⟨cp, c1, c2, by rw [HD.out, HD1.out, HD2.out]; simp⟩, ⟨?_, ?_, ?_⟩, ?_⟩
            · rw [← HD.out]; exact (I0.out.only (OO _ _ _) (by omega)).mono (by omega)
            · rw [← HD1.out]; exact (I1.out.only (OO _ _ _) (by omega)).mono (by omega)
            · rw [← HD2.out]; exact (I2.out.only (OO _ _ _) (by omega)).mono (by omega)
            · exact ((HB.out.setCell (p := ⟨w.heap.size + 1, 0, none⟩) (Nat.le_add_right _ _) _).setCell (p := ⟨w.heap.size + 1, 1, none⟩) (Nat.le_add_right _ _) _).setCell (p := ⟨w.heap.size + 1, 2, none⟩) (Nat.le_add_right _ _) _
        | succ j =>
          have ej : ((j + 1 : Nat) : Int) - 1 = (j : Int) := by omega
          rw [ej]
          have hj0 : (0 : Int) ≤ (j : Int) := by omega
          have hjL : (j : Int) < (X.L.length : Int) := by omega
          have hjH : (j : Int) < (X.H.length : Int) := by rw [HHl.out, ← HLl.out]; omega
          have hjHn : j < X.H.length := by rw [HHl.out, ← HLl.out]; omega
          obtain ⟨⟨p0, p1, p2⟩, q4, -⟩ := hM2.out
          obtain ⟨r0, r1, r2, f0, f1, f2⟩ := block_read q4
          have hB := hM2.out.2.2.2.2.2.2.2.2.1
          obtain ⟨bb, oo, z, rfl, hz, hat⟩ := ((ha0.out).2.1.later hB).at (show j < X.L.length by omega)
          have cz := hat j z hz
          have HZ := Lib.hid (rev_step hz)
          have hDl := mir_lens X D1 X.L (j + 1) hD1.out (by omega)
          have hDl2 : D2.length ≤ 11 := mir_lens X D2 X.H (j + 1) hD2.out (by omega)
          have c31 : Hid (D1.length + 1 ≤ maxLen) := by show D1.length + 1 ≤ maxLen; unfold maxLen; omega
          have c32 : Hid (D2.length + 1 ≤ maxLen) := by show D2.length + 1 ≤ maxLen; unfold maxLen; omega
          obtain ⟨i0, hi0, hz0, hz1, hz2⟩ := info_partsQ
          have bz := World.block_lt_of_cell? _ _ cz
          have zn4 := hM2.out.2.2.2.2.2.2.2.2.2.2.2.1
          have hMd := Lib.hid hM2.out.drew
          have zn5 : n4 < wr.heap.size := zn4
          have zn6 : w.heap.size < wr.heap.size := by have := hM2.out.2.2.2.2.2.2.2.2.2.2.1; omega
          clear hz hat q4 hB
          go_wp2_with fail
          go_region_law (first
      | (refine step_append_own2 rfl (.tmp 38) (.tmp 44) 22 rfl (n4 + 1) 2 i0 (.int .i64 0) 1 8 Try.underlying22 hi0 hz0 hz1 hz2 rfl (by decide) (.slice a1 D1.length c1) D1.length (intVals D1) (by simp [Act.eval]) (IRow.later (w := wr.drew) hMd.out.2.2.2.1 (balloc0 _ _)) ⟨wr.drew.heap.size, 0, none⟩ 1 1 [.int .i64 z] (by simp [Act.eval]) rfl ((lit8 (n4 + 1) wr.drew _ (hMd.out.2.2.2.2.2.2.2.2.2.2.2.1)).cells rfl) (by simp [Value.oneCell']) c31.out (by omega) (by simp; omega) ?_
         intro v1 w3 hown hgrow hblk
         obtain ⟨g, cq, rfl, f3, s3, N⟩ := MirAt.push1 (wr := wr.drew) hMd.out hown hgrow hblk
         obtain ⟨u3, s3⟩ := Option.isSome_iff_exists.1 s3
         have N4 := Lib.hid N
         clear N hown hgrow hblk)
      | (go_simp; go_wp2_with fail))
          all_goals
            have N5 := N4.out
            rw [List.length_append] at N5
            simp only [List.length_cons, List.length_nil, Nat.zero_add] at N5
            obtain ⟨W5, hW5⟩ : ∃ W, w3.setCell ⟨n4, 1, none⟩ (.slice (some ⟨g, 0, none⟩) (D1.length + 1) cq) = W := ⟨_, rfl⟩
            rw [hW5] at N5
            have HW5 := Lib.hid hW5
            clear hW5 N4 p0 p1 p2 r0 r1 r2 f0 f1 f2 cz bz hMd zn4 zn5 zn6 f3 s3
            have hM5 := Lib.hid N5
            clear N5
            obtain ⟨⟨p0, p1, p2⟩, q4, -⟩ := hM5.out
            obtain ⟨r0, r1, r2, f0, f1, f2⟩ := block_read q4
            have hB := hM5.out.2.2.2.2.2.2.2.2.1
            obtain ⟨bh, oh, y, rfl, hy, hat⟩ := ((ha0.out).2.2.later hB).at hjHn
            have cz := hat j y hy
            have HY := Lib.hid (rev_step hy)
            have bz := World.block_lt_of_cell? _ _ cz
            have zn4 := hM5.out.2.2.2.2.2.2.2.2.2.2.2.1
            have hMd := Lib.hid hM5.out.drew
            have zn5 : n4 < W5.heap.size := zn4
            have zn6 : w.heap.size < W5.heap.size := by have := hM5.out.2.2.2.2.2.2.2.2.2.2.1; omega
            clear hy hat q4 hB
            go_wp2_with fail
            rw [HW5.out]
            go_region_law (first
      | (refine step_append_own2 rfl (.tmp 48) (.tmp 54) 22 rfl (n4 + 1) 2 i0 (.int .i64 0) 1 8 Try.underlying22 hi0 hz0 hz1 hz2 rfl (by decide) (.slice a2 D2.length c2) D2.length (intVals D2) (by simp [Act.eval]) (IRow.later (w := W5.drew) hMd.out.2.2.2.2.1 (balloc0 _ _)) ⟨W5.drew.heap.size, 0, none⟩ 1 1 [.int .i64 y] (by simp [Act.eval]) rfl ((lit8 (n4 + 1) W5.drew _ (hMd.out.2.2.2.2.2.2.2.2.2.2.2.1)).cells rfl) (by simp [Value.oneCell']) c32.out (by omega) (by simp; omega) ?_
         intro v1 w6 hown hgrow hblk
         obtain ⟨g2, cr, rfl, f3, s3, N⟩ := MirAt.push2 (wr := W5.drew) hMd.out hown hgrow hblk
         obtain ⟨u3, s3⟩ := Option.isSome_iff_exists.1 s3
         have N6 := Lib.hid N
         clear N hown hgrow hblk)
      | (go_simp; go_wp2_with fail))
            all_goals
              go_wp2
              go_roundw
              case rel => exact ⟨j, D1 ++ [z], D2 ++ [y], some ⟨g, 0, none⟩, some ⟨g2, 0, none⟩, cq, cr, by omega, rfl, by show D1 ++ [z] = _; rw [hD1.out]; exact HZ.out, by show D2 ++ [y] = _; rw [hD2.out]; exact HY.out, Lib.hid (by simpa using N6.out)⟩
              case measure => simp [intOf]
    | succ j =>
      have ej : ((j + 1 : Nat) : Int) - 1 = (j : Int) := by omega
      rw [ej]
      have hj0 : (0 : Int) ≤ (j : Int) := by omega
      have hjA : (j : Int) < (X.A.length : Int) := by omega
      obtain ⟨⟨p0, p1, p2⟩, q4, -⟩ := hM.out
      obtain ⟨r0, r1, r2, f0, f1, f2⟩ := block_read q4
      have hB := hM.out.2.2.2.2.2.2.2.2.1
      obtain ⟨bb, oo, z, rfl, hz, hat⟩ := ((ha0.out).1.later hB).at (show j < X.A.length by omega)
      have cz := hat j z hz
      have HZ := Lib.hid (rev_step hz)
      have hDl := mir_lens X D X.A (j + 1) hD.out (by omega)
      have c30 : Hid (D.length + 1 ≤ maxLen) := by show D.length + 1 ≤ maxLen; unfold maxLen; omega
      obtain ⟨i0, hi0, hz0, hz1, hz2⟩ := info_partsQ
      have bz := World.block_lt_of_cell? _ _ cz
      have zn4 := hM.out.2.2.2.2.2.2.2.2.2.2.2.1
      have hMd := Lib.hid hM.out.drew
      have zn5 : n4 < wr.heap.size := zn4
      have zn6 : w.heap.size < wr.heap.size := by have := hM.out.2.2.2.2.2.2.2.2.2.2.1; omega
      clear hz hat q4 hB
      go_wp2_with fail
      go_region_law (first
      | (refine step_append_own2 rfl (.tmp 20) (.tmp 26) 22 rfl (n4 + 1) 2 i0 (.int .i64 0) 1 8 Try.underlying22 hi0 hz0 hz1 hz2 rfl (by decide) (.slice ao D.length cp) D.length (intVals D) (by simp [Act.eval]) (IRow.later (w := wr.drew) hMd.out.2.2.1 (balloc0 _ _)) ⟨wr.drew.heap.size, 0, none⟩ 1 1 [.int .i64 z] (by simp [Act.eval]) rfl ((lit8 (n4 + 1) wr.drew _ (hMd.out.2.2.2.2.2.2.2.2.2.2.2.1)).cells rfl) (by simp [Value.oneCell']) c30.out (by omega) (by simp; omega) ?_
         intro v1 w3 hown hgrow hblk
         obtain ⟨g, cq, rfl, f3, s3, N⟩ := MirAt.push0 (wr := wr.drew) hMd.out hown hgrow hblk
         obtain ⟨u3, s3⟩ := Option.isSome_iff_exists.1 s3
         have N4 := Lib.hid N
         clear N hown hgrow hblk)
      | (go_simp; go_wp2_with fail))
      all_goals
        go_wp2
        go_roundw
        case rel => exact ⟨j, D ++ [z], some ⟨g, 0, none⟩, cq, by omega, rfl, by show D ++ [z] = _; rw [hD.out]; exact HZ.out, Lib.hid (by simpa using N4.out)⟩
        case measure => simp [intOf]
end Go.Proofs.Ytlglijalhacmhaa
