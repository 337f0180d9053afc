/-
  Moments of blocks: the program.
-/
import Derived.Test.YtlglijalhacmhaaBkM
namespace Go.Proofs.Ytlglijalhacmhaa
open Go.ChangeShapes Go.WideShapes Go.ChangeAt Go.RowKit Go.Joins

theorem block_read4 {w : World} {n : Nat} {x y z u : Value} {t : TypeId} (h : w.heap[n]? = some (.cells #[x, y, z, u] t (0, 0))) : w.cell? ⟨n, 0, none⟩ = some x ∧ w.cell? ⟨n, 1, none⟩ = some y ∧ w.cell? ⟨n, 2, none⟩ = some z ∧ w.cell? ⟨n, 3, none⟩ = some u ∧ w.frozen? ⟨n, 0, none⟩ = false ∧ w.frozen? ⟨n, 1, none⟩ = false ∧ w.frozen? ⟨n, 2, none⟩ = false ∧ w.frozen? ⟨n, 3, none⟩ = false :=
  ⟨(cell_of_block h 0).trans rfl, (cell_of_block h 1).trans rfl, (cell_of_block h 2).trans rfl, (cell_of_block h 3).trans rfl, unfrozen_of_block h 0, unfrozen_of_block h 1, unfrozen_of_block h 2, unfrozen_of_block h 3⟩
theorem IRow.one (w : World) (z : Int) : IRow w.heap.size [z] (some ⟨w.heap.size, 0, none⟩) 1 (w.alloc (.cells #[.int .i64 z] 2)) :=
  ⟨rfl, .inr ⟨w.heap.size, 1, #[.int .i64 z], rfl, Nat.le_refl _, heap_alloc_new w _, Nat.le_refl _, by decide, rfl, rfl⟩⟩
set_option maxRecDepth 100000 in
set_option maxHeartbeats 6400000 in
theorem arch_impl (X : Bk) (a b c : Option Addr) (ca cb cc : Nat) (ok : okBk X = true) (w : World) (ha : BkArg w a b c X) :
    Calls Try.prog 54 #[.agg #[.slice a X.A.length ca, .slice b X.L.length cb, .slice c X.H.length cc]] w fun e w' => ∃ ao cp, e = .returned (.agg #[.slice a X.A.length ca, .slice b X.L.length cb, .slice c X.H.length cc, .slice ao (momsL X.A (X.A.length + 1)).length cp]) ∧ IntRes w.heap.size (momsL X.A (X.A.length + 1)) ao w' ∧ Below w.heap.size w w' := by
  have OK := Lib.hid ok
  obtain ⟨m, hm⟩ : ∃ m, X.A.length = m := ⟨_, rfl⟩
  have hm2 : 2 ≤ m ∧ m ≤ 10 := by have := (okBk_true.1 ok).1; omega
  obtain ⟨m2, m10⟩ := hm2
  have HM := Lib.hid hm
  have k0 := BkBox.new w X a b c ca cb cc 27
  obtain ⟨U, hU⟩ : ∃ U, World.alloc w (.cells #[.slice a X.A.length ca, .slice b X.L.length cb, .slice c X.H.length cc] 27) = U := ⟨_, rfl⟩
  have zU : U.heap.size = w.heap.size + 1 := by rw [← hU]; simp
  rw [hU] at k0
  have k0 := k0.later (balloc0 U (.cells #[.slice none 0 0, .slice none 0 0, .slice none 0 0, .slice none 0 0] 67))
  have ra := heap_alloc_new U (.cells #[.slice none 0 0, .slice none 0 0, .slice none 0 0, .slice none 0 0] 67)
  obtain ⟨U1, hU1⟩ : ∃ U1, World.alloc U (.cells #[.slice none 0 0, .slice none 0 0, .slice none 0 0, .slice none 0 0] 67) = U1 := ⟨_, rfl⟩
  have zU1 : U1.heap.size = w.heap.size + 2 := by rw [← hU1]; simp; omega
  rw [hU1] at k0 ra
  have E1 : Hid (Below w.heap.size w U1) := by
    show Below w.heap.size w U1
    rw [← hU1, ← hU]; exact balloc (balloc0 _ _) _
  have HA := Lib.hid (ha.later E1.out)
  have HU := Lib.hid hU
  have HU1 := Lib.hid hU1
  have KB := Lib.hid k0
  rw [zU] at ra
  have RA : Hid (U1.heap[w.heap.size + 1]? = some (.cells #[.slice none 0 0, .slice none 0 0, .slice none 0 0, .slice none 0 0] 67 (0, 0))) := ra
  clear hU hU1 ha ok k0 hm ra
  go_enter Try.func54, Try.ntmps54
  go_wp2_with fail
  rw [HU.out, HU1.out]
  obtain ⟨d0, d1, d2⟩ := KB.out
  rw [HM.out] at d0
  have d3 := World.block_lt_of_cell? _ _ d0
  go_wp2
  go_loopw [3, 4, 5, 13] (fun u v x i wr => ∃ (k : Nat) (ao : Option Addr) (cp : Nat) (D : List Int), k ≤ m ∧ u = .int .i64 (mom X.A k) ∧ v = .int .i64 (bef X.A k) ∧ x = .slice ao D.length cp ∧ i = .int .i64 (k : Int) ∧ Hid (D = momsL X.A (k + 1)) ∧ Hid (IRow U1.heap.size D ao cp wr) ∧ Hid (Below U1.heap.size U1 wr)) (fun _ _ _ i _ => m - (intOf i).toNat)
  case atStart => exact ⟨0, _, 1, [0], Nat.zero_le _, rfl, rfl, rfl, rfl, rfl, (by have h := IRow.one U1 0; rw [show U1.heap.size = w.heap.size + 1 + 1 by omega] at h ⊢; exact h), balloc0 _ _⟩
  case round =>
    obtain ⟨k, ao, cp, D, hk, rfl, rfl, rfl, rfl, hD, hO, hB⟩ := hrel
    obtain ⟨s0, s1⟩ := mom_range OK.out k (by omega)
    obtain ⟨b0, b1⟩ := bef_range OK.out k
    by_cases hlt : k < m
    · have hlt' : (k : Int) < (m : Int) := by omega
      have hk0 : (0 : Int) ≤ (k : Int) := by omega
      have hDk : D.length ≤ 40 := by rw [hD.out, momsL_length]; omega
      have c3 : Hid (D.length + 1 ≤ maxLen) := by show D.length + 1 ≤ maxLen; unfold maxLen; omega
      obtain ⟨i0, hi0, hz0, hz1, hz2⟩ := info_partsQ
      have hbase : U1.heap.size ≤ wr.heap.size := hB.out.size
      have hkA : k < X.A.length := by have := HM.out; omega
      obtain ⟨bb, oo, z, rfl, hz, hat⟩ := (HA.out.1.later hB.out).at hkA
      have c1 := hat k z hz
      have e1 := getD_of hz
      have hz' := okBk_load OK.out k
      rw [e1] at hz'
      obtain ⟨q0, q1⟩ := hz'
      have HS : Hid (mom X.A (k + 1) = mom X.A k + (2 * bef X.A k + z)) := by show mom X.A k + (2 * bef X.A k + X.A.getD k 0) = _; rw [e1]
      have HT : Hid (bef X.A (k + 1) = bef X.A k + z) := by show bef X.A k + X.A.getD k 0 = _; rw [e1]
      obtain ⟨t, ht⟩ : ∃ t, mom X.A k = t := ⟨_, rfl⟩
      obtain ⟨y, hy⟩ : ∃ t, bef X.A k = t := ⟨_, rfl⟩
      have HN : Hid (D ++ [t + (2 * y + z)] = momsL X.A (k + 1 + 1)) := by show _ = _; rw [momsL_succ, hD.out, HS.out, ht, hy]
      rw [ht] at s0 s1 HS
      rw [hy] at b0 b1 HS HT
      rw [ht, hy]
      clear hz hat e1 ht hy
      go_wp2_with (at_builtin; go_must ((refine wpList_append_own _ rfl _ _ 22 rfl U1.heap.size 2 i0 (.int .i64 0) 1 8 Try.underlying22 hi0 hz0 hz1 hz2 rfl (by decide) (.slice ao D.length cp) D.length (intVals D) rfl (IRow.later hO.out (balloc0 _ _)) ⟨wr.heap.size, 0, none⟩ 1 1 [.int .i64 (t + (2 * y + z))] rfl rfl ((lit8 U1.heap.size wr _ hbase).cells rfl) (by simp [Value.oneCell']) c3.out (by omega) (by simp; omega) ?_; intro v4 w4 hown4 hgrow4 _; have B4 := Lib.hid ((hB.out.alloc hbase _).grown hgrow4 (by simp; omega) (fun q hq => (World.ownsRow.lt hO.out q hq).1)); obtain ⟨g4, cp4, hv4, o4⟩ := IRow.snoc hown4; subst hv4; have O4 := Lib.hid o4; clear hown4 hgrow4 o4)))
      go_roundw
      case rel => exact ⟨k + 1, some ⟨g4, 0, none⟩, cp4, D ++ [t + (2 * y + z)], by omega, by rw [HS.out], by rw [HT.out], by simp, by go_num, HN.out, O4.out, B4.out⟩
      case measure => simp [intOf]; omega
    · have hge : ¬ (k : Int) < (m : Int) := by omega
      have hgeA : ¬ (k : Int) < (X.A.length : Int) := by rw [HM.out]; omega
      have hkn : k = m := by omega
      have HN : Hid (D = momsL X.A (m + 1)) := by show _ = _; rw [hD.out, hkn]
      clear hkn
      clear d0 d1 d2 d3
      obtain ⟨p0, p1, p2⟩ := KB.out.later hB.out
      have RB := (hB.out.block _ (by omega)).trans RA.out
      obtain ⟨r0, r1, r2, r3, f0, f1, f2, f3⟩ := block_read4 RB
      have d3 := World.block_lt_of_cell? _ _ p0
      have HR : Hid (IntRes U1.heap.size (momsL X.A (m + 1)) ao wr) := by show IntRes _ _ _ _; rw [← HN.out]; exact hO.out.res
      have zB := hB.out.size
      have BW := Lib.hid (bnext E1.out hB.out)
      go_wp2_with fail
      refine bodyPost_ret (v := .agg #[.slice a X.A.length ca, .slice b X.L.length cb, .slice c X.H.length cc, .slice ao D.length cp]) ?_ rfl ?_
      · simp [results, Try.results54, go_sem, r0, r1, r2, r3, f0, f1, f2, f3]
      refine ⟨ao, ⟨cp, by rw [HM.out, ← HN.out]⟩, ?_, ?_⟩
      · rw [HM.out]
        exact (HR.out.only ((((Only.refl (w.heap.size + 1) wr).set 0 _).set 1 _).set 2 _ |>.set 3 _) (by omega)).mono (by omega)
      · exact (((BW.out.setCell (p := ⟨w.heap.size + 1, 0, none⟩) (Nat.le_add_right _ _) _).setCell (p := ⟨w.heap.size + 1, 1, none⟩) (Nat.le_add_right _ _) _).setCell (p := ⟨w.heap.size + 1, 2, none⟩) (Nat.le_add_right _ _) _).setCell (p := ⟨w.heap.size + 1, 3, none⟩) (Nat.le_add_right _ _) _
set_option maxRecDepth 100000 in
set_option maxHeartbeats 6400000 in
theorem MomentsOf_impl (X : Bk) (a b c : Option Addr) (ca cb cc : Nat) (hl : BkLen X 1048576) (w : World) (ha : BkArg w a b c X) :
    Calls Try.prog 21 #[.agg #[.slice a X.A.length ca, .slice b X.L.length cb, .slice c X.H.length cc]] w fun e w' => ∃ ao cp, e = .returned (.tuple #[.slice ao (momV X).length cp, .int .i64 (bkC X)]) ∧ IntRes w.heap.size (momV X) ao w' ∧ Below w.heap.size w w' := by
  have k0 := BkBox.new w X a b c ca cb cc 27
  have E0 := Lib.hid (balloc0 w (.cells #[.slice a X.A.length ca, .slice b X.L.length cb, .slice c X.H.length cc] 27))
  obtain ⟨U, hU⟩ : ∃ U, World.alloc w (.cells #[.slice a X.A.length ca, .slice b X.L.length cb, .slice c X.H.length cc] 27) = U := ⟨_, rfl⟩
  rw [hU] at k0 E0
  have E0 : Hid (Below w.heap.size w U) := E0.out
  have HU := Lib.hid hU
  have C := Lib.hid (bk_impl X a b c ca cb cc hl U (ha.later E0.out))
  have KB := Lib.hid k0
  cases hok : okBk X
  · have hq : momV X = [] := by simp [momV, hok]
    have hc : bkC X = 1 := by simp [bkC, hok]
    rw [hok] at C
    rw [hq, hc]
    clear hU k0 ha hok hq hc
    go_enter Try.func21, Try.ntmps21
    go_wp2_with fail
    rw [HU.out]
    obtain ⟨p0, p1, p2⟩ := KB.out
    try go_wp2_with fail
    refine C.out.mono ?_
    rintro e w1 ⟨rfl, hb1⟩
    have B1 := Lib.hid (bnext E0.out hb1)
    clear hb1
    go_wp2
    go_ret2
    exact ⟨none, 0, rfl, .inl rfl, B1.out⟩
  · have hq : momV X = momsL X.A (X.A.length + 1) := by simp [momV, hok]
    have hc : bkC X = 0 := by simp [bkC, hok]
    have hsz : U.heap.size = w.heap.size + 1 := by rw [← hU]; simp
    have M := Lib.hid (fun wx (hx : Below U.heap.size U wx) => arch_impl X a b c ca cb cc hok wx ((ha.later E0.out).later hx))
    rw [hok] at C
    rw [hq, hc]
    clear hU k0 ha hok hq hc
    go_enter Try.func21, Try.ntmps21
    go_wp2_with fail
    rw [HU.out]
    obtain ⟨p0, p1, p2⟩ := KB.out
    try go_wp2_with fail
    refine C.out.mono ?_
    rintro e w1 ⟨rfl, hb1⟩
    have B1 := Lib.hid hb1
    have z1 := hb1.size
    clear p0 p1 p2
    obtain ⟨p0, p1, p2⟩ := KB.out.later hb1
    clear hb1
    go_wp2_with fail
    refine (M.out _ B1.out).mono ?_
    rintro e w2 ⟨ao, cp, rfl, o, hb2⟩
    have B2 := Lib.hid (bnext E0.out (bnext B1.out hb2))
    have O := Lib.hid (o.mono (by omega : w.heap.size ≤ w1.heap.size))
    have hf : (Instr.field 67 (.agg #[.slice a X.A.length ca, .slice b X.L.length cb, .slice c X.H.length cc, .slice ao (momsL X.A (X.A.length + 1)).length cp]) 1).run Try.prog w2 = .ok (.slice ao (momsL X.A (X.A.length + 1)).length cp) w2 := by kernel_rfl
    clear hb2 o p0 p1 p2
    go_wp2_with fail
    go_ret2
    exact ⟨ao, cp, rfl, O.out, B2.out⟩
end Go.Proofs.Ytlglijalhacmhaa
