/-
  Moments of blocks: the model.
-/
import Derived.Test.YtlglijalhacmhaaBkW
import Derived.Test.YtlglijalhacmhaaIRow
namespace Go.Proofs.Ytlglijalhacmhaa
open Go.ChangeShapes Go.WideShapes Go.ChangeAt Go.RowKit Go.Joins

set_option maxRecDepth 100000 in
set_option maxHeartbeats 6400000 in
theorem moms_spec (X : Bk) (a b c : Option Addr) (ca cb cc : Nat) (n : Nat) (ok : okBk X = true) (w : World) (ha : BkArg w a b c X) (hb : BkBox n X a b c ca cb cc w) :
    Calls Try.prog 53 #[.pointer (some ⟨n, 0, none⟩)] w fun e w' => ∃ ao cp, e = .returned (.slice ao (momsL X.A (X.A.length + 1)).length cp) ∧ IntRes w.heap.size (momsL X.A (X.A.length + 1)) ao w' ∧ Below w.heap.size w w' := by
  have HA := Lib.hid ha.1
  have HB := Lib.hid hb
  have OK := Lib.hid ok
  obtain ⟨m, hm⟩ : ∃ m, X.A.length = m := ⟨_, rfl⟩
  have hm2 : 2 ≤ m ∧ m ≤ 10 := by have := (okBk_true.1 ok).1; omega
  obtain ⟨m2, m10⟩ := hm2
  have HM := Lib.hid hm
  rw [hm]
  clear ha hb ok
  obtain ⟨d0, d1, d2⟩ := HB.out
  rw [hm] at d0
  clear hm
  have d3 := World.block_lt_of_cell? w _ d0
  go_enter Try.func53, Try.ntmps53
  go_wp2
  go_loopw [3, 4] (fun v i wr => ∃ (k : Nat) (ao : Option Addr) (cp : Nat) (D : List Int), k ≤ m + 1 ∧ v = .slice ao D.length cp ∧ i = .int .i64 (k : Int) ∧ Hid (D = momsL X.A k) ∧ Hid (IRow w.heap.size D ao cp wr) ∧ Hid (Below w.heap.size w wr)) (fun _ i _ => m + 1 - (intOf i).toNat)
  case atStart => exact ⟨0, _, 0, [], Nat.zero_le _, rfl, rfl, rfl, IRow.start w, balloc0 _ _⟩
  case round =>
    obtain ⟨k, ao, cp, D, hk, rfl, rfl, hD, hO, hB⟩ := hrel
    have e0 := (hB.out.cell d3).trans d0
    by_cases hlt : k < m + 1
    · have hlt' : (k : Int) ≤ (m : Int) := by omega
      have hDk : D.length ≤ 40 := by rw [hD.out, momsL_length]; omega
      have c3 : Hid (D.length + 1 ≤ maxLen) := by show D.length + 1 ≤ maxLen; unfold maxLen; omega
      obtain ⟨i0, hi0, hz0, hz1, hz2⟩ := info_partsQ
      have hbase : w.heap.size ≤ wr.heap.size := hB.out.size
      have HAr := Lib.hid (HA.out.later hB.out)
      obtain ⟨W0, hW0⟩ : ∃ W, wr = W := ⟨_, rfl⟩
      subst hW0
      go_wp2
      go_loop [5, 6] (fun u i => ∃ q : Nat, q ≤ k ∧ u = .int .i64 (psm X.A k q) ∧ i = .int .i64 (q : Int)) (fun _ i => k - (intOf i).toNat)
      case atStart => exact ⟨0, Nat.zero_le _, rfl, rfl⟩
      case round =>
        obtain ⟨q, hq, rfl, rfl⟩ := hrel
        obtain ⟨s0, s1⟩ := psm_range OK.out k (by omega) q hq
        by_cases hlq : q < k
        · have hlq' : (q : Int) < (k : Int) := by omega
          have hq0 : (0 : Int) ≤ (q : Int) := by omega
          have hqA : q < X.A.length := by have := HM.out; omega
          have hqm : (q : Int) < (m : Int) := by omega
          obtain ⟨b1, o1, z, rfl, hz, hat⟩ := HAr.out.at hqA
          have c1 := hat q z hz
          have e1 := getD_of hz
          have hz' := okBk_load OK.out q
          rw [e1] at hz'
          obtain ⟨z0, z1⟩ := hz'
          have HS : Hid (psm X.A k (q + 1) = psm X.A k q + z * (2 * (k : Int) - 2 * (q : Int) - 1)) := by show psm X.A k q + X.A.getD q 0 * (2 * (k : Int) - 2 * (q : Int) - 1) = _; rw [e1]
          have p0 : 0 ≤ z * (2 * (k : Int) - 2 * (q : Int) - 1) := Int.mul_nonneg z0 (by omega)
          have p1 : z * (2 * (k : Int) - 2 * (q : Int) - 1) ≤ 1000 * 20 := Int.mul_le_mul z1 (by omega) (by omega) (by omega)
          obtain ⟨t, ht⟩ : ∃ t, psm X.A k q = t := ⟨_, rfl⟩
          rw [ht] at s0 s1 HS
          rw [ht]
          clear hz hat e1 ht
          go_wp2
          go_round
          case rel => exact ⟨q + 1, by omega, by rw [HS.out], by go_num⟩
          case measure => simp [intOf]; omega
        · have hgq : ¬ (q : Int) < (k : Int) := by omega
          have hqk : q = k := by omega
          have HP : Hid (psm X.A k q = mom X.A k) := by show _ = _; rw [hqk, psm_mom]
          obtain ⟨t, ht⟩ : ∃ t, psm X.A k q = t := ⟨_, rfl⟩
          have HN : Hid (D ++ [t] = momsL X.A (k + 1)) := by show _ = _; rw [momsL_succ, hD.out, ← ht, HP.out]
          rw [ht] at s0 s1
          rw [ht]
          clear ht hqk
          go_wp2_with (at_builtin; go_must ((refine wpList_append_own _ rfl _ _ 22 rfl w.heap.size 2 i0 (.int .i64 0) 1 8 Try.underlying22 hi0 hz0 hz1 hz2 rfl (by decide) (.slice ao D.length cp) D.length (intVals D) rfl (IRow.later hO.out (balloc0 _ _)) ⟨wr.heap.size, 0, none⟩ 1 1 [.int .i64 t] rfl rfl ((lit8 w.heap.size wr _ hbase).cells rfl) (by simp [Value.oneCell']) c3.out (by omega) (by simp; omega) ?_; intro v4 w4 hown4 hgrow4 _; have B4 := Lib.hid ((hB.out.alloc hbase _).grown hgrow4 (by simp; omega) (fun q hq => (World.ownsRow.lt hO.out q hq).1)); obtain ⟨g4, cp4, hv4, o4⟩ := IRow.snoc hown4; subst hv4; have O4 := Lib.hid o4; clear hown4 hgrow4 o4)))
          go_roundw
          case rel => exact ⟨k + 1, some ⟨g4, 0, none⟩, cp4, D ++ [t], by omega, by simp, by go_num, HN.out, O4.out, B4.out⟩
          case measure => simp [intOf]; omega
    · have hge : ¬ (k : Int) ≤ (m : Int) := by omega
      have hkn : k = m + 1 := by omega
      have HN : Hid (D = momsL X.A (m + 1)) := by show _ = _; rw [hD.out, hkn]
      clear hkn
      go_wp2
      go_ret
      have HR : Hid (IntRes w.heap.size (momsL X.A (m + 1)) ao wr) := by show IntRes _ _ _ _; rw [← HN.out]; exact hO.out.res
      exact ⟨ao, ⟨cp, by rw [← HN.out]; rfl⟩, HR.out, hB.out⟩
theorem momV_len (X : Bk) : (momV X).length ≤ 1048576 := by
  unfold momV
  split
  · rename_i h
    have := (okBk_true.1 h).1
    rw [momsL_length]; omega
  · simp
set_option maxRecDepth 100000 in
set_option maxHeartbeats 6400000 in
theorem MomentsOf_spec (X : Bk) (a b c : Option Addr) (ca cb cc : Nat) (hl : BkLen X 1048576) (w : World) (ha : BkArg w a b c X) :
    Calls Try.prog 20 #[.agg #[.slice a X.A.length ca, .slice b X.L.length cb, .slice c X.H.length cc]] w fun e w' => ∃ ao cp, e = .returned (.tuple #[.slice ao (momV X).length cp, .int .i64 (bkC X)]) ∧ IntRes w.heap.size (momV X) ao w' ∧ Below w.heap.size w w' := by
  have k0 := BkBox.new w X a b c ca cb cc 27
  have E0 := Lib.hid (balloc0 w (.cells #[.slice a X.A.length ca, .slice b X.L.length cb, .slice c X.H.length cc] 27))
  obtain ⟨U, hU⟩ : ∃ U, World.alloc w (.cells #[.slice a X.A.length ca, .slice b X.L.length cb, .slice c X.H.length cc] 27) = U := ⟨_, rfl⟩
  rw [hU] at k0 E0
  have E0 : Hid (Below w.heap.size w U) := E0.out
  have HU := Lib.hid hU
  have C := Lib.hid (bk_spec X a b c ca cb cc w.heap.size hl U (ha.later E0.out) k0)
  cases hok : okBk X
  · have hq : momV X = [] := by simp [momV, hok]
    have hc : bkC X = 1 := by simp [bkC, hok]
    rw [hok] at C
    rw [hq, hc]
    clear hU k0 ha hok hq hc
    go_enter Try.func20, Try.ntmps20
    go_wp2_with fail
    rw [HU.out]
    refine C.out.mono ?_
    rintro e w1 ⟨rfl, hb1⟩
    have B1 := Lib.hid (bnext E0.out hb1)
    clear hb1
    go_wp2
    go_ret2
    exact ⟨none, 0, rfl, .inl rfl, B1.out⟩
  · have hq : momV X = momsL X.A (X.A.length + 1) := by simp [momV, hok]
    have hc : bkC X = 0 := by simp [bkC, hok]
    have hsz : U.heap.size = w.heap.size + 1 := by rw [← hU]; simp
    have M := Lib.hid (fun wx (hx : Below U.heap.size U wx) => moms_spec X a b c ca cb cc w.heap.size hok wx ((ha.later E0.out).later hx) (k0.later hx))
    rw [hok] at C
    rw [hq, hc]
    clear hU k0 ha hok hq hc
    go_enter Try.func20, Try.ntmps20
    go_wp2_with fail
    rw [HU.out]
    refine C.out.mono ?_
    rintro e w1 ⟨rfl, hb1⟩
    have B1 := Lib.hid hb1
    have z1 := hb1.size
    clear hb1
    go_wp2_with fail
    refine (M.out _ B1.out).mono ?_
    rintro e w2 ⟨ao, cp, rfl, o, hb2⟩
    have B2 := Lib.hid (bnext E0.out (bnext B1.out hb2))
    have O := Lib.hid (o.mono (by omega : w.heap.size ≤ w1.heap.size))
    clear hb2 o
    go_wp2
    go_ret2
    exact ⟨ao, cp, rfl, O.out, B2.out⟩
end Go.Proofs.Ytlglijalhacmhaa
