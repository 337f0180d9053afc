/-
  UseMould: the program's answer.
-/
import Derived.Test.YtgffgcobgjngnaaMoU
namespace Go.Proofs.Ytgffgcobgjngnaa
open Go.ChangeShapes Go.WideShapes Go.ChangeAt Go.RowKit Go.Joins

set_option maxRecDepth 100000 in
set_option maxHeartbeats 1600000 in
/-- A copy of moulds in a new row. -/
theorem clone_mo (L : List Mo) (b o cap : Nat) (h1 : 1 ≤ L.length) (hl : L.length ≤ 1048576) (w : World) (h : MoAt w b o L) :
    Calls Try.prog 50 #[.slice (some ⟨b, o, none⟩) L.length cap] w fun e w' => ∃ g cp, e = .returned (.slice (some ⟨g, 0, none⟩) L.length cp) ∧ MoOwn w.heap.size L g w' ∧ Below w.heap.size w w' := by
  have P0 := Lib.hid (mouldVals_cells (h.later (balloc0 w (.cells #[] 34))))
  have HS := Lib.hid (own_mouldStart w)
  have hcl := mouldVals_length L
  have hone := Lib.hid (mouldVals_one L)
  have m1 : Hid (0 + L.length ≤ maxLen) := by show 0 + L.length ≤ maxLen; unfold maxLen; omega
  obtain ⟨i0, hi, hz0, hz1, hz2⟩ := info_parts infoMould
  have hnil : ∀ (w : World) (p : Addr) (n c : Nat), (binOp .eql 25 (.slice (some p) n c) (.slice none 0 0)).run Try.prog w = .ok (.bool false) w := fun w p n c => Lib.run_eql_slice_nil (P := Try.prog) w 25 34 (some p) n c 0 0 Try.underlying25
  clear h
  go_enter Try.func50, Try.ntmps50
  go_wp2_with (at_builtin; (refine wpList_append_own _ rfl _ _ 25 rfl w.heap.size 34 i0 (.agg #[.int .i64 0, .int .i64 0, .int .i64 0, .int .i64 0]) 4 32 Try.underlying25 hi hz0 hz1 hz2 rfl (by decide) (.slice (some ⟨w.heap.size, 0, none⟩) 0 0) 0 [] rfl HS.out ⟨b, o, none⟩ L.length cap (mouldVals L) rfl hcl P0.out hone.out m1.out (by omega) (by simp) ?_); intro v1 w1 hown hgrow _)
  have hown1 : w1.ownsRow w.heap.size 34 4 v1 L.length (mouldVals L) := by simpa using hown
  obtain ⟨g, cp, hv, ho⟩ := own_moulds rfl (by omega) hown1
  subst hv
  go_ret
  have hB := (balloc0 w (.cells #[] 34)).grown hgrow (by simp) (fun k hk => by cases hk; exact Nat.le_refl _)
  first | exact ⟨g, ⟨cp, rfl⟩, ho, hB⟩ | exact ⟨g, cp, rfl, ho, hB⟩

set_option maxRecDepth 100000 in
set_option maxHeartbeats 3200000 in
theorem use_impl (L : List Mo) (a : Option Addr) (cap : Nat) (hl : L.length ≤ 1048576) (k t : Int) (w : World) (ha : MoArg w a L) : Calls Try.prog 27 #[.slice a L.length cap, .int .i64 k, .int .i64 t] w fun e w' => ∃ a cap, e = .returned (.tuple #[.slice a (umL L k t).length cap, .int .i64 (umC L k t)]) ∧ MoRes w.heap.size (umL L k t) a w' ∧ Below w.heap.size w w' := by
  cases h1 : okMos L
  · have E1 : Hid (umC L k t = 1) := by show umC L k t = 1; simp [umC, h1]
    have E2 := Lib.hid (um_bad E1.out (by omega))
    rw [E1.out, E2.out]
    have C := Lib.hid (valid_moimpl L a cap hl w ha)
    rw [h1] at C
    clear ha h1
    go_enter Try.func27, Try.ntmps27
    go_wp2_with fail
    refine C.out.mono ?_
    rintro e w1 ⟨rfl, hb1⟩
    go_wp2
    go_ret2
    first | exact ⟨none, ⟨0, rfl⟩, .inl rfl, hb1⟩ | exact ⟨none, 0, rfl, .inl rfl, hb1⟩
  have C := Lib.hid (valid_moimpl L a cap hl w ha)
  rw [h1] at C
  have hl20 := (okMos_all h1).1
  have I1 := Lib.hid (within_impl k 0 ((L.length : Int) - 1))
  have I2 := Lib.hid (within_impl t 1 100000)
  cases h2 : inB k 0 ((L.length : Int) - 1)
  · have E1 : Hid (umC L k t = 2) := by show umC L k t = 2; simp [umC, h1, h2]
    have E2 := Lib.hid (um_bad E1.out (by omega))
    rw [E1.out, E2.out]
    rw [h2] at I1
    clear ha h1 h2
    go_enter Try.func27, Try.ntmps27
    go_wp2_with fail
    refine C.out.mono ?_
    rintro e w1 ⟨rfl, hb1⟩
    go_wp2_with fail
    refine (I1.out _).mono ?_
    rintro e w2 ⟨rfl, rfl⟩
    go_wp2
    go_ret2
    first | exact ⟨none, ⟨0, rfl⟩, .inl rfl, hb1⟩ | exact ⟨none, 0, rfl, .inl rfl, hb1⟩
  cases h3 : inB t 1 100000
  · have E1 : Hid (umC L k t = 2) := by show umC L k t = 2; simp [umC, h1, h2, h3]
    have E2 := Lib.hid (um_bad E1.out (by omega))
    rw [E1.out, E2.out]
    rw [h2] at I1
    rw [h3] at I2
    clear ha h1 h2 h3
    go_enter Try.func27, Try.ntmps27
    go_wp2_with fail
    refine C.out.mono ?_
    rintro e w1 ⟨rfl, hb1⟩
    go_wp2_with fail
    refine (I1.out _).mono ?_
    rintro e w2 ⟨rfl, rfl⟩
    go_wp2_with fail
    refine (I2.out _).mono ?_
    rintro e w2 ⟨rfl, rfl⟩
    go_wp2
    go_ret2
    first | exact ⟨none, ⟨0, rfl⟩, .inl rfl, hb1⟩ | exact ⟨none, 0, rfl, .inl rfl, hb1⟩
  obtain ⟨k0, k1⟩ := inB_true.1 h2
  obtain ⟨t0, t1⟩ := inB_true.1 h3
  rw [h2] at I1
  rw [h3] at I2
  obtain ⟨n, rfl⟩ : ∃ n : Nat, k = (n : Int) := ⟨k.toNat, by omega⟩
  have hn : n < L.length := by omega
  obtain ⟨c, hc⟩ : ∃ c, L[n]? = some c := ⟨_, List.getElem?_eq_getElem hn⟩
  have hcok := (okMos_all h1).2 n c hc
  have hd : L.getD (n : Int).toNat default = c := by rw [Int.toNat_natCast, List.getD_eq_getElem?_getD, hc]; rfl
  have EC : Hid (umC L n t = if c.us + t ≤ 100000 then 0 else 5) := by show umC L n t = _; simp only [umC, h1, h2, h3, hd]; simp
  have EL : Hid (usedL L n t = L.set n { c with us := c.us + t }) := by show usedL L n t = _; rw [usedL, hd, Int.toNat_natCast]
  obtain ⟨⟨_, _⟩, ⟨_, _⟩, ⟨_, _⟩, ⟨u0, u1⟩⟩ := Mo.ok_facts hcok
  have EK : Hid (({ c with us := c.us + t } : Mo).ok = decide (c.us + t ≤ 100000)) := used_ok hcok (by omega)
  have HC := Lib.hid hc
  obtain ⟨b, o, c', rfl, hc', hat⟩ := ha.at hn
  have HA : Hid (∀ wx, Below w.heap.size w wx → MoAt wx b o L) := fun wx h => hat.later h
  clear ha hat hc' hc h1 h2 h3 hd hcok
  go_enter Try.func27, Try.ntmps27
  go_wp2_with fail
  refine C.out.mono ?_
  rintro e w1 ⟨rfl, hb1⟩
  have B1 := Lib.hid hb1
  clear hb1
  go_wp2_with fail
  refine (I1.out _).mono ?_
  rintro e w2 ⟨rfl, rfl⟩
  go_wp2_with fail
  refine (I2.out _).mono ?_
  rintro e w2 ⟨rfl, rfl⟩
  have CC := Lib.hid (clone_mo L b o cap (by omega) hl w1 (HA.out _ B1.out))
  go_wp2_with fail
  refine CC.out.mono ?_
  rintro e w2 ⟨g, cp, rfl, o2, hb2⟩
  have B2 := Lib.hid (B1.out.trans (hb2.mono B1.out.size))
  have O2 := Lib.hid o2
  have hc0 := o2.2.1.cells HC.out
  simp only [Nat.zero_add] at hc0
  obtain ⟨c0, c1, c2, c3⟩ := hc0
  have TP := o2.2.2.1
  obtain ⟨v3, g3, f3⟩ := there_at TP (k := n * 4 + 3) (by omega)
  have O3 := Lib.hid (O2.out.use HC.out (c.us + t))
  have B3 : Hid (Below w.heap.size w (w2.setCell ⟨g, n * 4 + 3, none⟩ (.int .i64 (c.us + t)))) := B2.out.setCell (Nat.le_trans B1.out.size o2.1) _
  have hc3 := O3.out.2.1.cells (List.getElem?_set_self hn)
  simp only [Nat.zero_add] at hc3
  clear hb2 o2 TP g3 c0 c1 c2
  obtain ⟨W3, hW3⟩ : ∃ W3, w2.setCell ⟨g, n * 4 + 3, none⟩ (.int .i64 (c.us + t)) = W3 := ⟨_, rfl⟩
  rw [hW3] at O3 B3 hc3
  obtain ⟨d0, d1, d2, d3⟩ := hc3
  go_wp2_with fail
  have D := Lib.hid (isMould_impl { c with us := c.us + t } W3)
  rw [EK.out] at D
  clear d0 d1 d2 d3
  by_cases h5 : c.us + t ≤ 100000
  · have hde : decide (c.us + t ≤ 100000) = true := by simp [h5]
    rw [hde] at D
    have E1 : Hid (umC L n t = 0) := by show umC L n t = 0; rw [EC.out, if_pos h5]
    have E2 : Hid (umL L n t = L.set n { c with us := c.us + t }) := by show umL L n t = _; rw [um_good E1.out, EL.out]
    refine D.out.mono ?_
    rintro e w4 ⟨rfl, hb4⟩
    have O4 := Lib.hid (O3.out.later hb4)
    have B4 := Lib.hid (bnext B3.out hb4)
    clear hb4
    go_wp2
    go_ret2
    rw [E1.out, E2.out]
    have HR : MoRes w.heap.size (L.set n { c with us := c.us + t }) (some ⟨g, 0, none⟩) w4 := .inr ⟨g, rfl, O4.out.down B1.out.size⟩
    have hll : (L.set n { c with us := c.us + t }).length = L.length := List.length_set
    rw [hll]
    first | exact ⟨_, ⟨_, rfl⟩, HR, B4.out⟩ | exact ⟨_, _, rfl, HR, B4.out⟩
  · have hde : decide (c.us + t ≤ 100000) = false := by simp [h5]
    rw [hde] at D
    have E1 : Hid (umC L n t = 5) := by show umC L n t = 5; rw [EC.out, if_neg h5]
    have E2 := Lib.hid (um_bad E1.out (by omega))
    refine D.out.mono ?_
    rintro e w4 ⟨rfl, hb4⟩
    have B4 := Lib.hid (bnext B3.out hb4)
    clear hb4
    go_wp2
    go_ret2
    rw [E1.out, E2.out]
    first | exact ⟨none, ⟨0, rfl⟩, .inl rfl, B4.out⟩ | exact ⟨none, 0, rfl, .inl rfl, B4.out⟩
end Go.Proofs.Ytgffgcobgjngnaa
