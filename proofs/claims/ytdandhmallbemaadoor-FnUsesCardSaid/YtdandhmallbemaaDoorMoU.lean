/-
  UseMould: what is handed back, and the model's answer.
-/
import Derived.Test.YtdandhmallbemaaDoorMoF
import Derived.Test.YtdandhmallbemaaDoorMoL
namespace Go.Proofs.YtdandhmallbemaaDoor
open Go.ChangeShapes Go.WideShapes Go.ChangeAt Go.RowKit Go.Joins

theorem um_bad {L : List Mo} {k t q : Int} (h : umC L k t = q) (hq : ¬ q = 0) : umL L k t = [] := by unfold umL; rw [if_neg (by rw [h]; exact hq)]
theorem um_good {L : List Mo} {k t : Int} (h : umC L k t = 0) : umL L k t = usedL L k t := by unfold umL; rw [if_pos h]
theorem used_ok {c : Mo} {t : Int} (h : c.ok = true) (ht : 0 ≤ t) : ({ c with us := c.us + t } : Mo).ok = decide (c.us + t ≤ 100000) := by
  obtain ⟨h0, h1, h2, h3⟩ := Mo.ok_facts h
  have e : inB (c.us + t) 0 100000 = decide (c.us + t ≤ 100000) := by
    by_cases hx : c.us + t ≤ 100000
    · rw [inB_true.2 ⟨by omega, hx⟩]; simp [hx]
    · rw [inB_false.2 (fun h => hx h.2)]; simp [hx]
  simp only [Mo.ok, inB_true.2 h0, inB_true.2 h1, inB_true.2 h2, e]
  simp
theorem MoOwn.use {B g k : Nat} {L : List Mo} {w : World} {c : Mo} (h : MoOwn B L g w) (hk : L[k]? = some c) (u : Int) : MoOwn B (L.set k { c with us := u }) g (w.setCell ⟨g, k * 4 + 3, none⟩ (.int .i64 u)) := by
  obtain ⟨h1, h2, h3, h4⟩ := h
  have hl : k < L.length := (List.getElem?_eq_some_iff.1 hk).1
  obtain ⟨t1, t2, t3⟩ := int_store h3 (show k * 4 + 3 < L.length * 4 by omega) (.int .i64 u)
  refine ⟨h1, fun j d hj i v hv => ?_, by rw [List.length_set]; exact t1, by simpa [World.setCell] using h4⟩
  have hi : i < 4 := (List.getElem?_eq_some_iff.1 hv).1
  rw [Nat.zero_add]
  by_cases e : j = k
  · subst e
    have hd : d = { c with us := u } := by rw [List.getElem?_set_self hl] at hj; exact (Option.some.inj hj).symm
    subst hd
    by_cases e3 : i = 3
    · subst e3
      have hv' : Value.int .i64 u = v := by simpa [Mo.vals] using hv
      rw [t2, hv']
    · have hv' : c.vals[i]? = some v := by
        match i, hi, e3, hv with
        | 0, _, _, hv => simpa [Mo.vals] using hv
        | 1, _, _, hv => simpa [Mo.vals] using hv
        | 2, _, _, hv => simpa [Mo.vals] using hv
        | 3, _, e3, _ => exact absurd rfl e3
      have h5 := h2 j c hk i v hv'
      rw [Nat.zero_add] at h5
      rw [t3 ⟨g, j * 4 + i, none⟩ (fun h => by have := congrArg Addr.off h; simp at this; omega)]
      exact h5
  · rw [List.getElem?_set_ne (fun h => e h.symm)] at hj
    have h5 := h2 j d hj i v hv
    rw [Nat.zero_add] at h5
    rw [t3 ⟨g, j * 4 + i, none⟩ (fun h => by have := congrArg Addr.off h; simp at this; omega)]
    exact h5
theorem MoOwn.put {B g k : Nat} {L : List Mo} {w : World} (h : MoOwn B L g w) (hl : k < L.length) (c : Mo) : MoOwn B (L.set k c) g (w.setCells g (k * 4) c.vals) := by
  obtain ⟨h1, h2, h3, h4⟩ := h
  refine ⟨h1, fun j d hj => ?_, by rw [List.length_set]; exact World.there_setCells h3 g (k * 4) c.vals, by rw [size_setCells]; exact h4⟩
  rw [Nat.zero_add]
  by_cases e : j = k
  · subst e
    have hd : d = c := by rw [List.getElem?_set_self hl] at hj; exact (Option.some.inj hj).symm
    subst hd
    exact World.rangeAt_setCells_same w g (j * 4) d.vals (there_part h3 hl)
  · rw [List.getElem?_set_ne (fun h => e h.symm)] at hj
    have h5 := h2 j d hj
    rw [Nat.zero_add] at h5
    refine World.rangeAt_setCells_apart h5 _ _ _ ?_
    by_cases e2 : j < k
    · exact .inr (.inl (by show j * 4 + 4 ≤ k * 4; omega))
    · exact .inr (.inr (by show k * 4 + 4 ≤ j * 4; omega))
theorem MoOwn.down {B B' : Nat} {L : List Mo} {g : Nat} {w : World} (h : MoOwn B L g w) (hb : B' ≤ B) : MoOwn B' L g w := ⟨Nat.le_trans hb h.1, h.2⟩

set_option maxRecDepth 100000 in
set_option maxHeartbeats 3200000 in
theorem use_spec (L : List Mo) (a : Option Addr) (cap : Nat) (hl : L.length ≤ 1048576) (k t : Int) (w : World) (ha : MoArg w a L) : Calls Tryd.prog 13 #[.slice a L.length cap, .int .i64 k, .int .i64 t] w fun e w' => ∃ a cap, e = .returned (.tuple #[.slice a (umL L k t).length cap, .int .i64 (umC L k t)]) ∧ MoRes w.heap.size (umL L k t) a w' ∧ Below w.heap.size w w' := by
  cases h1 : okMos L
  · have E1 : Hid (umC L k t = 1) := by show umC L k t = 1; simp [umC, h1]
    have E2 := Lib.hid (um_bad E1.out (by omega))
    rw [E1.out, E2.out]
    have C := Lib.hid (okM_spec L a cap hl w ha)
    rw [h1] at C
    clear ha h1
    go_enter Tryd.func13, Tryd.ntmps13
    go_wp2_with fail
    refine C.out.mono ?_
    rintro e w1 ⟨rfl, hb1⟩
    go_wp2
    go_ret2
    first | exact ⟨none, ⟨0, rfl⟩, .inl rfl, hb1⟩ | exact ⟨none, 0, rfl, .inl rfl, hb1⟩
  have C := Lib.hid (okM_spec L a cap hl w ha)
  rw [h1] at C
  have hl20 := (okMos_all h1).1
  have I1 := Lib.hid (in_any k 0 ((L.length : Int) - 1))
  have I2 := Lib.hid (in_any t 1 100000)
  cases h2 : inB k 0 ((L.length : Int) - 1)
  · have E1 : Hid (umC L k t = 2) := by show umC L k t = 2; simp [umC, h1, h2]
    have E2 := Lib.hid (um_bad E1.out (by omega))
    rw [E1.out, E2.out]
    rw [h2] at I1
    clear ha h1 h2
    go_enter Tryd.func13, Tryd.ntmps13
    go_wp2_with fail
    refine C.out.mono ?_
    rintro e w1 ⟨rfl, hb1⟩
    go_wp2_with fail
    refine (I1.out _).mono ?_
    rintro e w2 ⟨rfl, rfl⟩
    go_wp2
    go_ret2
    first | exact ⟨none, ⟨0, rfl⟩, .inl rfl, hb1⟩ | exact ⟨none, 0, rfl, .inl rfl, hb1⟩
  cases h3 : inB t 1 100000
  · have E1 : Hid (umC L k t = 2) := by show umC L k t = 2; simp [umC, h1, h2, h3]
    have E2 := Lib.hid (um_bad E1.out (by omega))
    rw [E1.out, E2.out]
    rw [h2] at I1
    rw [h3] at I2
    clear ha h1 h2 h3
    go_enter Tryd.func13, Tryd.ntmps13
    go_wp2_with fail
    refine C.out.mono ?_
    rintro e w1 ⟨rfl, hb1⟩
    go_wp2_with fail
    refine (I1.out _).mono ?_
    rintro e w2 ⟨rfl, rfl⟩
    go_wp2_with fail
    refine (I2.out _).mono ?_
    rintro e w2 ⟨rfl, rfl⟩
    go_wp2
    go_ret2
    first | exact ⟨none, ⟨0, rfl⟩, .inl rfl, hb1⟩ | exact ⟨none, 0, rfl, .inl rfl, hb1⟩
  obtain ⟨k0, k1⟩ := inB_true.1 h2
  obtain ⟨t0, t1⟩ := inB_true.1 h3
  rw [h2] at I1
  rw [h3] at I2
  obtain ⟨n, rfl⟩ : ∃ n : Nat, k = (n : Int) := ⟨k.toNat, by omega⟩
  have hn : n < L.length := by omega
  obtain ⟨c, hc⟩ : ∃ c, L[n]? = some c := ⟨_, List.getElem?_eq_getElem hn⟩
  have hcok := (okMos_all h1).2 n c hc
  have hd : L.getD (n : Int).toNat default = c := by rw [Int.toNat_natCast, List.getD_eq_getElem?_getD, hc]; rfl
  have EC : Hid (umC L n t = if c.us + t ≤ 100000 then 0 else 5) := by show umC L n t = _; simp only [umC, h1, h2, h3, hd]; simp
  have EL : Hid (usedL L n t = L.set n { c with us := c.us + t }) := by show usedL L n t = _; rw [usedL, hd, Int.toNat_natCast]
  obtain ⟨⟨_, _⟩, ⟨_, _⟩, ⟨_, _⟩, ⟨u0, u1⟩⟩ := Mo.ok_facts hcok
  have EK : Hid (({ c with us := c.us + t } : Mo).ok = decide (c.us + t ≤ 100000)) := used_ok hcok (by omega)
  have HC := Lib.hid hc
  obtain ⟨b, o, c', rfl, hc', hat⟩ := ha.at hn
  have HA : Hid (∀ wx, Below w.heap.size w wx → MoAt wx b o L) := fun wx h => hat.later h
  clear ha hat hc' hc h1 h2 h3 hd hcok
  go_enter Tryd.func13, Tryd.ntmps13
  go_wp2_with fail
  refine C.out.mono ?_
  rintro e w1 ⟨rfl, hb1⟩
  have B1 := Lib.hid hb1
  clear hb1
  go_wp2_with fail
  refine (I1.out _).mono ?_
  rintro e w2 ⟨rfl, rfl⟩
  go_wp2_with fail
  refine (I2.out _).mono ?_
  rintro e w2 ⟨rfl, rfl⟩
  obtain ⟨i0, hi, hz0, hz1, hz2⟩ := info_parts infoMould
  have hone := Lib.hid (mouldVals_one L)
  have hcl := mouldVals_length L
  have m1 : Hid (0 + L.length ≤ maxLen) := by show 0 + L.length ≤ maxLen; unfold maxLen; omega
  have P0 := Lib.hid (mouldVals_cells ((HA.out _ B1.out).later (balloc0 w1 (.cells #[] 47))))
  have HS := Lib.hid (own_mouldStart w1)
  go_wp2_with (at_builtin; go_must ((refine wpList_append_own _ rfl _ _ 24 rfl w1.heap.size 47 i0 (.agg #[.int .i64 0, .int .i64 0, .int .i64 0, .int .i64 0]) 4 32 Tryd.underlying24 hi hz0 hz1 hz2 rfl (by decide) (.slice (some ⟨w1.heap.size, 0, none⟩) 0 0) 0 [] rfl HS.out ⟨b, o, none⟩ L.length cap (mouldVals L) rfl hcl P0.out hone.out m1.out (by omega) (by simp) ?_; intro v1 w2 hown1 hgrow1 _; have hown2 : w2.ownsRow w1.heap.size 47 4 v1 L.length (mouldVals L) := (by simpa using hown1); obtain ⟨g, cp, hv, ho⟩ := own_moulds rfl (by omega) hown2; subst hv; have O2 := Lib.hid ho; have B2 : Hid (Below w1.heap.size w1 w2) := (balloc0 w1 (.cells #[] 47)).grown hgrow1 (by simp) (fun q hq => by cases hq; exact Nat.le_refl _); obtain ⟨c0, c1, c2, c3⟩ := (by have h := ho.2.1.cells HC.out; simp only [Nat.zero_add] at h; exact h); clear hown1 hown2 hgrow1 ho)))
  have X := Lib.hid (box_mo w2 { c with us := c.us + t })
  obtain ⟨k0, k1, k2, k3⟩ := X.out _ (Below.refl _ _)
  have D := Lib.hid (mo_one_spec { c with us := c.us + t } w2.heap.size 0 _ k0 k1 k2 k3)
  rw [EK.out] at D
  have HB : Hid (Below w.heap.size w (w2.alloc (.cells #[.int .i64 c.le, .int .i64 c.wi, .int .i64 c.he, .int .i64 (c.us + t)] 47))) := balloc (B1.out.trans (B2.out.mono B1.out.size)) _
  have O3 := Lib.hid (O2.out.later (balloc0 w2 (.cells #[.int .i64 c.le, .int .i64 c.wi, .int .i64 c.he, .int .i64 (c.us + t)] 47)))
  clear c0 c1 c2 c3
  by_cases h5 : c.us + t ≤ 100000
  · have hde : decide (c.us + t ≤ 100000) = true := by simp [h5]
    rw [hde] at D
    have E1 : Hid (umC L n t = 0) := by show umC L n t = 0; rw [EC.out, if_pos h5]
    have E2 : Hid (umL L n t = L.set n { c with us := c.us + t }) := by show umL L n t = _; rw [um_good E1.out, EL.out]
    refine D.out.mono ?_
    rintro e w3 ⟨rfl, rfl⟩
    obtain ⟨W3, hW3⟩ : ∃ W3, w2.alloc (.cells #[.int .i64 c.le, .int .i64 c.wi, .int .i64 c.he, .int .i64 (c.us + t)] 47) = W3 := ⟨_, rfl⟩
    have k0' := k0
    have k1' := k1
    have k2' := k2
    have k3' := k3
    rw [hW3] at O3 HB ⊢
    have HW3 := Lib.hid hW3
    simp only [hW3] at k0' k1' k2' k3'
    clear k0 k1 k2 k3 hW3
    have TP := Lib.hid (there_part O3.out.2.2.1 hn)
    have hone1 : (#[Value.int .i64 c.le, .int .i64 c.wi, .int .i64 c.he, .int .i64 (c.us + t)] : Array Value).all (·.oneCell') = true := by simp [Value.oneCell']
    have O4 := Lib.hid (O3.out.put hn { c with us := c.us + t })
    have B4 : Hid (Below w.heap.size w (W3.setCells g (n * 4) ({ c with us := c.us + t } : Mo).vals)) := below_setCells g (Nat.le_trans B1.out.size O3.out.1) _ _ _ HB.out
    obtain ⟨w4, hw4⟩ : ∃ w4, W3.setCells g (n * 4) ({ c with us := c.us + t } : Mo).vals = w4 := ⟨_, rfl⟩
    have hws : W3.setCells g (n * 4) (#[Value.int .i64 c.le, .int .i64 c.wi, .int .i64 c.he, .int .i64 (c.us + t)] : Array Value).toList = w4 := hw4
    rw [hw4] at O4 B4
    have HW4 := Lib.hid hws
    clear hw4 hws
    go_wp2_with (refine wpList_store_mid rfl 47 (.tmp 41) (.tmp 40) rfl g (n * 4) #[.int .i64 c.le, .int .i64 c.wi, .int .i64 c.he, .int .i64 (c.us + t)] rfl rfl TP.out sizeMould hone1 ?_; rw [HW4.out])
    go_ret2
    rw [E1.out, E2.out]
    have HR : MoRes w.heap.size (L.set n { c with us := c.us + t }) (some ⟨g, 0, none⟩) w4 := .inr ⟨g, rfl, O4.out.down B1.out.size⟩
    have hll : (L.set n { c with us := c.us + t }).length = L.length := List.length_set
    rw [hll]
    first | exact ⟨_, ⟨_, rfl⟩, HR, B4.out⟩ | exact ⟨_, _, rfl, HR, B4.out⟩
  · have hde : decide (c.us + t ≤ 100000) = false := by simp [h5]
    rw [hde] at D
    have E1 : Hid (umC L n t = 5) := by show umC L n t = 5; rw [EC.out, if_neg h5]
    have E2 := Lib.hid (um_bad E1.out (by omega))
    refine D.out.mono ?_
    rintro e w3 ⟨rfl, rfl⟩
    clear k0 k1 k2 k3
    go_wp2
    go_ret2
    rw [E1.out, E2.out]
    first | exact ⟨none, ⟨0, rfl⟩, .inl rfl, HB.out⟩ | exact ⟨none, 0, rfl, .inl rfl, HB.out⟩
end Go.Proofs.YtdandhmallbemaaDoor
