/-
  Steps between levels: the model's word and the program's.
-/
import Derived.Test.YtmbmbkagmkmhlaaSbP
import Derived.Test.YtmbmbkagmkmhlaaSbC
import Derived.Test.YtmbmbkagmkmhlaaGt
import Derived.Test.YtmbmbkagmkmhlaaIRowR
import Derived.Test.YtmbmbkagmkmhlaaApp
namespace Go.Proofs.Ytmbmbkagmkmhlaa
open Go.ChangeShapes Go.WideShapes Go.ChangeAt Go.RowKit Go.Joins

theorem IRow.ne {B : Nat} {D : List Int} {a : Option Addr} {cp b : Nat} {w : World} (h : IRow B D a cp w) (hb : b < B) : (Value.slice a D.length cp).ownBlock ≠ some b := fun e => by
  have := (World.ownsRow.lt h b e).1
  omega
theorem fieldQ2 (a b c d : Int) (w : World) : Sem.run Try.prog (Instr.field 35 (.agg #[.int .i64 a, .int .i64 b, .int .i64 c, .int .i64 d]) 2) w = .ok (.int .i64 c) w := by kernel_rfl
theorem stL_mem {cr p x : Int} {Q : List Int} {k : Nat} (h : x ∈ stL cr p (Q.take k)) : x ∈ stL cr p Q := by
  induction Q generalizing p k with
  | nil => simpa using h
  | cons z r ih =>
    cases k with
    | zero => simp [stL] at h
    | succ k =>
      rw [List.take_succ_cons] at h
      simp only [stL, List.mem_cons] at h ⊢
      rcases h with h | h
      · exact .inl h
      · exact .inr (ih h)
theorem IntAt.grown {b o : Nat} {P : List Int} {w w' : World} {r : Option Nat} (h : IntAt w b o P) (hg : w.grownBy w' r) (hne : r ≠ some b) : IntAt w' b o P := fun k z hk => hg.cell (h k z hk) (fun e => hne e.symm)
set_option maxRecDepth 100000 in
set_option maxHeartbeats 12800000 in
theorem steps_spec (l wd ht j H : Int) (L : List Int) (a : Option Addr) (cap : Nat) (hl : L.length ≤ 1048576) (w : World) (ha : IntSome w a L) :
    Calls Try.prog 37 #[.agg #[.int .i64 l, .int .i64 wd, .int .i64 ht, .int .i64 j], .int .i64 H, .slice a L.length cap] w fun e w' => ∃ ao cp, e = .returned (.tuple #[.slice ao (stR l wd ht j H L).length cp, .int .i64 (stC l wd ht j H L)]) ∧ IntRes w.heap.size (stR l wd ht j H L) ao w' ∧ Below w.heap.size w w' := by
  have F0 := FmBox.new w l wd ht j 35
  have HA := Lib.hid (ha.later (balloc0 w (.cells #[.int .i64 l, .int .i64 wd, .int .i64 ht, .int .i64 j] 35)))
  have E0 := Lib.hid (balloc0 w (.cells #[.int .i64 l, .int .i64 wd, .int .i64 ht, .int .i64 j] 35))
  obtain ⟨W0, hW⟩ : ∃ W0, w.alloc (.cells #[.int .i64 l, .int .i64 wd, .int .i64 ht, .int .i64 j] 35) = W0 := ⟨_, rfl⟩
  rw [hW] at F0 HA E0
  have K : Hid (∀ wx, Below W0.heap.size W0 wx → FmBox w.heap.size l wd ht j wx) := fun wx hx => F0.later hx
  have E0 : Hid (Below w.heap.size w W0) := E0.out
  have HW := Lib.hid hW
  clear ha hW F0
  obtain ⟨f0, f1, f2, f3⟩ := K.out _ (Below.refl _ _)
  by_cases hgo : ¬ (okB l wd ht j = true ∧ lvB L H = true)
  · rcases stC_cases l wd ht j H L with ⟨h1, hc⟩ | ⟨h1, h2, hc⟩ | ⟨h1, h2, h3, hc⟩ | ⟨h1, h2, h3, hc⟩
    · skip
      have hq : stR l wd ht j H L = [] := by simp [stR, hc]
      rw [hc, hq]
      clear hq
      go_enter Try.func37, Try.ntmps37
      go_wp2_with fail
      try rw [HW.out]
      try go_wp2_with fail
      refine (l02ok l wd ht j _).mono ?_
      rintro e w1 ⟨rfl, hb1⟩
      have B1 := Lib.hid hb1
      clear hb1 f0 f1 f2 f3
      go_wp2
      go_ret2
      exact ⟨none, 0, rfl, .inl rfl, bnext E0.out B1.out⟩
    · skip
      have hq : stR l wd ht j H L = [] := by simp [stR, hc]
      rw [hc, hq]
      clear hq
      go_enter Try.func37, Try.ntmps37
      go_wp2_with fail
      try rw [HW.out]
      try go_wp2_with fail
      refine (l02ok l wd ht j _).mono ?_
      rintro e w1 ⟨rfl, hb1⟩
      have B1 := Lib.hid hb1
      clear hb1 f0 f1 f2 f3
      go_wp2_with fail
      refine (levels_spec L H a cap hl _ (HA.out.later B1.out).arg).mono ?_
      rintro e w2 ⟨rfl, hb2⟩
      have B2 := Lib.hid (bnext B1.out hb2)
      clear hb2
      go_wp2
      go_ret2
      exact ⟨none, 0, rfl, .inl rfl, bnext E0.out B2.out⟩
    · exact absurd ⟨h1, h2⟩ hgo
    · exact absurd ⟨h1, h2⟩ hgo
  obtain ⟨h1, h2⟩ := Classical.not_not.1 hgo
  clear hgo
  obtain ⟨hri, ⟨H0, H1⟩, h20⟩ := upQs_rises h2
  obtain ⟨_, _, ⟨t1, t2⟩, ⟨j1, j2⟩, _⟩ := okB_true.1 h1
  obtain ⟨cr, hcr⟩ : ∃ cr, ht + j = cr := ⟨_, rfl⟩
  have hcz : ¬ cr = 0 := by omega
  have hc30 : 30 ≤ cr ∧ cr ≤ 200 := by omega
  have HR := Lib.hid (fun (k : Nat) (z : Int) (hk : (upQs L H)[k]? = some z) => rises_prev hri hk)
  have HQl := Lib.hid (upQs_length L H)
  have H6 : Hid ((0 : Int) ∈ stL cr 0 (upQs L H) → stC l wd ht j H L = 6 ∧ stR l wd ht j H L = []) := by
    intro h
    rw [← hcr] at h
    have e : stC l wd ht j H L = 6 := by simp only [stC, h1, h2, if_true]; rw [if_pos h]
    exact ⟨e, by simp [stR, e]⟩
  have HC : Hid (¬ (0 : Int) ∈ stL cr 0 (upQs L H) → stC l wd ht j H L = 0 ∧ stR l wd ht j H L = stL cr 0 (upQs L H)) := by
    intro h
    rw [← hcr] at h
    have e : stC l wd ht j H L = 0 := by simp only [stC, h1, h2, if_true]; rw [if_neg h]
    refine ⟨e, ?_⟩
    unfold stR
    rw [if_pos e, hcr]
  have hb1c : 100 ≤ l ∧ l ≤ 500 ∧ 50 ≤ wd ∧ wd ≤ 250 := by have := okB_true.1 h1; omega
  clear hri
  go_enter Try.func37, Try.ntmps37
  go_wp2_with fail
  try rw [HW.out]
  try go_wp2_with fail
  refine (l02ok l wd ht j _).mono ?_
  rintro e w1 ⟨rfl, hb1⟩
  have B1 := Lib.hid hb1
  clear hb1 f0 f1 f2 f3
  go_wp2_with fail
  refine (levels_spec L H a cap hl _ (HA.out.later B1.out).arg).mono ?_
  rintro e w2 ⟨rfl, hb2⟩
  have B2 := Lib.hid (bnext B1.out hb2)
  clear hb2
  obtain ⟨bL, rfl, atL⟩ := HA.out.later B2.out
  have AL := Lib.hid atL
  clear atL
  have CO := Lib.hid (ownQ_spec L bL cap (by omega))
  obtain ⟨i0, hi0, hz0, hz1, hz2⟩ := info_partsQ
  have R2 := Lib.hid ((IRow.start w2).mono (B2.out.size))
  have B2a := Lib.hid (balloc B2.out (.cells #[] 2))
  have AL2 := Lib.hid (AL.out.later (balloc0 w2 (.cells #[] 2)))
  have z2a : w2.heap.size < (w2.alloc (.cells #[] 2)).heap.size := by simp
  obtain ⟨V2, hV2⟩ : ∃ V2, w2.alloc (.cells #[] 2) = V2 := ⟨_, rfl⟩
  rw [hV2] at R2 B2a AL2 z2a
  have HV2 := Lib.hid hV2
  clear hV2
  go_wp2_with fail
  rw [HV2.out]
  refine (CO.out _ AL2.out).mono ?_
  rintro e w3 ⟨g3, cp3, rfl, o3, hb3⟩
  have B3 := Lib.hid (bnext B2a.out hb3)
  have R3 := Lib.hid (R2.out.later hb3)
  have O3 := Lib.hid o3
  have Q3 := Lib.hid (Below.refl V2.heap.size V2 |>.trans hb3)
  have hbase : V2.heap.size ≤ w3.heap.size := hb3.size
  clear hb3 o3
  have c3 : Hid (L.length + 1 ≤ maxLen) := by show L.length + 1 ≤ maxLen; unfold maxLen; omega
  obtain ⟨f0, f1, f2, f3⟩ := K.out _ B3.out
  have K4 := Lib.hid (fun wx (hx : Below W0.heap.size W0 wx) => K.out wx hx)
  go_wp2_with (at_builtin; go_must ((refine wpList_append_own _ rfl _ _ 22 rfl V2.heap.size 2 i0 (.int .i64 0) 1 8 Try.underlying22 hi0 hz0 hz1 hz2 rfl (by decide) (.slice (some ⟨g3, 0, none⟩) L.length cp3) L.length (intVals L) rfl (IRow.later O3.out (balloc0 _ _)) ⟨w3.heap.size, 0, none⟩ 1 1 [.int .i64 H] rfl rfl ((lit8 V2.heap.size w3 _ hbase).cells rfl) (by simp [Value.oneCell']) c3.out (by omega) (by simp; omega) ?_; intro v5 w5 hown5 hgrow5 _; have B5 := Lib.hid ((Q3.out.alloc hbase _).grown hgrow5 (by simp; omega) (fun q hq => (World.ownsRow.lt O3.out q hq).1)); obtain ⟨g5, cp5, hv5, o5⟩ := IRow.snoc hown5; subst hv5; have O5 := Lib.hid o5; clear hown5 hgrow5 o5; have B5w := Lib.hid (B2a.out.trans (B5.out.mono B2a.out.size)); obtain ⟨f0, f1, f2, f3⟩ := K.out _ B5w.out)))
  have hg5 : V2.heap.size ≤ g5 := own_base8 O5.out
  obtain ⟨g5', e5', A5'⟩ : ∃ g, some (⟨g5, 0, none⟩ : Addr) = some ⟨g, 0, none⟩ ∧ IntOwn V2.heap.size (L ++ [H]) g w5 := by
    rcases O5.out.res with h | h
    · simp at h
    · exact h
  obtain rfl : g5 = g5' := by cases e5'; rfl
  have A5 : Hid (IntAt w5 g5 0 (upQs L H)) := A5'.2.1
  have hg5l : g5 < w5.heap.size := A5'.2.2.2
  have R5 := Lib.hid (R2.out.later B5.out)
  obtain ⟨Q, hQ⟩ : ∃ Q, upQs L H = Q := ⟨_, rfl⟩
  rw [hQ] at A5 HR HQl H6 HC
  have hQn : Q.length = L.length + 1 := HQl.out
  have HQn := Lib.hid hQn
  clear f0 f1 f2 f3 e5' A5' hQ hQn AL2 hbase
  obtain ⟨n, hn⟩ : ∃ n, L.length + 1 = n := ⟨_, rfl⟩
  have hnn : ((L.length : Int) + 1) = (n : Int) := by omega
  have HN0 : Hid (Q.length = n) := by show _ = _; rw [HQn.out, hn]
  have hn21 : n ≤ 21 := by omega
  rw [hn]
  have HnE := Lib.hid hn
  clear hn hnn
  go_loopw [8, 9, 12] (fun v p i wr => ∃ (k : Nat) (ao : Option Addr) (cp : Nat) (D : List Int) (P : Int), k ≤ n ∧ v = .slice ao D.length cp ∧ p = .int .i64 P ∧ i = .int .i64 (k : Int) ∧ Hid (D = stL cr 0 (Q.take k)) ∧ Hid (P = (Q.take k).getLastD 0) ∧ Hid (¬ (0 : Int) ∈ D) ∧ Hid (IRow W0.heap.size D ao cp wr) ∧ Hid ((Value.slice ao D.length cp).ownBlock ≠ some g5) ∧ Hid (IntAt wr g5 0 Q) ∧ Hid (Below W0.heap.size W0 wr) ∧ g5 < wr.heap.size) (fun _ _ i _ => n - (intOf i).toNat)
  case atStart => exact ⟨0, _, 0, [], 0, Nat.zero_le _, rfl, rfl, rfl, rfl, rfl, by show ¬ _; simp, R5.out, by show ¬ _; simp [Value.ownBlock]; omega, A5.out, B5w.out, hg5l⟩
  case round =>
    obtain ⟨k, ao, cp, D, P, hk, rfl, rfl, rfl, hD, hP, hM, hO, hne, hAt, hB, hgl⟩ := hrel
    by_cases hlt : k < n
    · have hlt' : (k : Int) < (n : Int) := by omega
      have hk0 : (0 : Int) ≤ (k : Int) := by omega
      obtain ⟨z, hz⟩ : ∃ z, Q[k]? = some z := ⟨_, List.getElem?_eq_getElem (by have := HN0.out; omega)⟩
      have d0 := hAt.out k z hz
      rw [Nat.zero_add] at d0
      obtain ⟨p0, p1, z0, z1⟩ := HR.out k z hz
      rw [show (1 : Int) - 1 = 0 from rfl, ← hP.out] at p0 p1
      obtain ⟨q0, q1⟩ := stQ_range hc30 (p := P) (z := z) (by omega) (by omega) (by omega)
      have HDn : Hid (D ++ [stQ cr P z] = stL cr 0 (Q.take (k + 1))) := by show _ = _; rw [stL_take hz, hD.out, hP.out]
      have HPn : Hid (z = (Q.take (k + 1)).getLastD 0) := (last_take hz).symm
      obtain ⟨q, hq⟩ : ∃ q, stQ cr P z = q := ⟨_, rfl⟩
      have e3 : (2 * (z - P) + cr).tdiv (2 * cr) = q := by rw [← hq]; exact Int.tdiv_eq_ediv_of_nonneg (by omega)
      have e4 : (2 * (z - P) + cr) / (2 * cr) = q := hq
      rw [hq] at HDn q0 q1
      have e5 : ¬ 2 * cr = 0 := by omega
      have hDk : D.length ≤ 21 := by rw [hD.out, stL_length, List.length_take]; omega
      have c3 : Hid (D.length + 1 ≤ maxLen) := by show D.length + 1 ≤ maxLen; unfold maxLen; omega
      have hbase : W0.heap.size ≤ wr.heap.size := hB.out.size
      clear hq
      by_cases hq0 : q = 0
      · have EE := Lib.hid (H6.out (by have h : (0 : Int) ∈ D ++ [q] := by simp [hq0]
                                       rw [HDn.out] at h
                                       exact stL_mem h))
        subst hq0
        clear hz
        go_wp2
        go_ret2
        rw [EE.out.1, EE.out.2]
        exact ⟨none, 0, rfl, .inl rfl, bnext E0.out hB.out⟩
      · have HM : Hid (¬ (0 : Int) ∈ D ++ [q]) := by
          show ¬ _
          simp only [List.mem_append, List.mem_singleton]
          rintro (h | h)
          · exact hM.out h
          · exact hq0 h.symm
        go_wp2_with (at_builtin; go_must ((refine wpList_append_own2 _ rfl _ _ 22 rfl W0.heap.size 2 i0 (.int .i64 0) 1 8 Try.underlying22 hi0 hz0 hz1 hz2 rfl (by decide) (.slice ao D.length cp) D.length (intVals D) rfl (IRow.later hO.out (balloc0 _ _)) ⟨wr.heap.size, 0, none⟩ 1 1 [.int .i64 q] rfl rfl ((lit8 W0.heap.size wr _ hbase).cells rfl) (by simp [Value.oneCell']) c3.out (by omega) (by simp; omega) ?_; intro v6 w6 hown6 hgrow6 hblk6; have B6 := Lib.hid ((hB.out.alloc hbase _).grown hgrow6 (by simp; omega) (fun q hq => (World.ownsRow.lt hO.out q hq).1)); obtain ⟨g6, cp6, hv6, o6⟩ := IRow.snoc hown6; subst hv6; have O6 := Lib.hid o6; have HG6 := Lib.hid hgrow6; have HK6 := Lib.hid hblk6; clear hown6 hgrow6 o6 hblk6; have A6 := Lib.hid ((IntAt.later hAt.out (balloc0 _ _)).grown HG6.out hne.out); have s6 := HG6.out.size; simp at s6; have d6 := A6.out k z (by assumption); rw [Nat.zero_add] at d6)))
        go_roundw
        case rel =>
          refine ⟨k + 1, some ⟨g6, 0, none⟩, cp6, D ++ [q], z, by omega, by simp, rfl, by go_num, HDn.out, HPn.out, HM.out, O6.out, ?_, A6.out, B6.out, by omega⟩
          show ¬ _
          intro e
          rw [List.length_append] at e
          rcases HK6.out with h | h
          · exact hne.out (h.symm.trans e)
          · have := h.symm.trans e
            simp at this
            omega
        case measure => simp [intOf]; omega
    · have hge : ¬ (k : Int) < (n : Int) := by omega
      have HD : Hid (D = stL cr 0 Q) := by show D = _; rw [hD.out, List.take_of_length_le (by have := HN0.out; omega)]
      have EE := Lib.hid (HC.out (by rw [← HD.out]; exact hM.out))
      go_wp2
      go_ret2
      rw [EE.out.1, EE.out.2, ← HD.out]
      exact ⟨ao, ⟨cp, rfl⟩, (hO.out.mono E0.out.size).res, bnext E0.out hB.out⟩
set_option maxRecDepth 100000 in
set_option maxHeartbeats 12800000 in
theorem steps_impl (l wd ht j H : Int) (L : List Int) (a : Option Addr) (cap : Nat) (hl : L.length ≤ 1048576) (w : World) (ha : IntSome w a L) :
    Calls Try.prog 38 #[.agg #[.int .i64 l, .int .i64 wd, .int .i64 ht, .int .i64 j], .int .i64 H, .slice a L.length cap] w fun e w' => ∃ ao cp, e = .returned (.tuple #[.slice ao (stR l wd ht j H L).length cp, .int .i64 (stC l wd ht j H L)]) ∧ IntRes w.heap.size (stR l wd ht j H L) ao w' ∧ Below w.heap.size w w' := by
  have F0 := FmBox.new w l wd ht j 35
  have HA := Lib.hid (ha.later (balloc0 w (.cells #[.int .i64 l, .int .i64 wd, .int .i64 ht, .int .i64 j] 35)))
  have E0 := Lib.hid (balloc0 w (.cells #[.int .i64 l, .int .i64 wd, .int .i64 ht, .int .i64 j] 35))
  obtain ⟨W0, hW⟩ : ∃ W0, w.alloc (.cells #[.int .i64 l, .int .i64 wd, .int .i64 ht, .int .i64 j] 35) = W0 := ⟨_, rfl⟩
  rw [hW] at F0 HA E0
  have K : Hid (∀ wx, Below W0.heap.size W0 wx → FmBox w.heap.size l wd ht j wx) := fun wx hx => F0.later hx
  have E0 : Hid (Below w.heap.size w W0) := E0.out
  have HW := Lib.hid hW
  clear ha hW F0
  obtain ⟨f0, f1, f2, f3⟩ := K.out _ (Below.refl _ _)
  by_cases hgo : ¬ (okB l wd ht j = true ∧ lvB L H = true)
  · rcases stC_cases l wd ht j H L with ⟨h1, hc⟩ | ⟨h1, h2, hc⟩ | ⟨h1, h2, h3, hc⟩ | ⟨h1, h2, h3, hc⟩
    · skip
      have hq : stR l wd ht j H L = [] := by simp [stR, hc]
      rw [hc, hq]
      clear hq
      go_enter Try.func38, Try.ntmps38
      go_wp2_with fail
      try rw [HW.out]
      try go_wp2_with fail
      refine (vf_any l wd ht j _).mono ?_
      rintro e w1 ⟨rfl, hb1⟩
      have B1 := Lib.hid hb1
      clear hb1 f0 f1 f2 f3
      go_wp2
      go_ret2
      exact ⟨none, 0, rfl, .inl rfl, bnext E0.out B1.out⟩
    · skip
      have hq : stR l wd ht j H L = [] := by simp [stR, hc]
      rw [hc, hq]
      clear hq
      go_enter Try.func38, Try.ntmps38
      go_wp2_with fail
      try rw [HW.out]
      try go_wp2_with fail
      refine (vf_any l wd ht j _).mono ?_
      rintro e w1 ⟨rfl, hb1⟩
      have B1 := Lib.hid hb1
      clear hb1 f0 f1 f2 f3
      go_wp2_with fail
      refine (levels_impl L H a cap hl _ (HA.out.later B1.out).arg).mono ?_
      rintro e w2 ⟨rfl, hb2⟩
      have B2 := Lib.hid (bnext B1.out hb2)
      clear hb2
      go_wp2
      go_ret2
      exact ⟨none, 0, rfl, .inl rfl, bnext E0.out B2.out⟩
    · exact absurd ⟨h1, h2⟩ hgo
    · exact absurd ⟨h1, h2⟩ hgo
  obtain ⟨h1, h2⟩ := Classical.not_not.1 hgo
  clear hgo
  obtain ⟨hri, ⟨H0, H1⟩, h20⟩ := upQs_rises h2
  obtain ⟨_, _, ⟨t1, t2⟩, ⟨j1, j2⟩, _⟩ := okB_true.1 h1
  obtain ⟨cr, hcr⟩ : ∃ cr, ht + j = cr := ⟨_, rfl⟩
  have hcz : ¬ cr = 0 := by omega
  have hc30 : 30 ≤ cr ∧ cr ≤ 200 := by omega
  have HR := Lib.hid (fun (k : Nat) (z : Int) (hk : (upQs L H)[k]? = some z) => rises_prev hri hk)
  have HQl := Lib.hid (upQs_length L H)
  have H6 : Hid ((0 : Int) ∈ stL cr 0 (upQs L H) → stC l wd ht j H L = 6 ∧ stR l wd ht j H L = []) := by
    intro h
    rw [← hcr] at h
    have e : stC l wd ht j H L = 6 := by simp only [stC, h1, h2, if_true]; rw [if_pos h]
    exact ⟨e, by simp [stR, e]⟩
  have HC : Hid (¬ (0 : Int) ∈ stL cr 0 (upQs L H) → stC l wd ht j H L = 0 ∧ stR l wd ht j H L = stL cr 0 (upQs L H)) := by
    intro h
    rw [← hcr] at h
    have e : stC l wd ht j H L = 0 := by simp only [stC, h1, h2, if_true]; rw [if_neg h]
    refine ⟨e, ?_⟩
    unfold stR
    rw [if_pos e, hcr]
  have hb1c : 100 ≤ l ∧ l ≤ 500 ∧ 50 ≤ wd ∧ wd ≤ 250 := by have := okB_true.1 h1; omega
  clear hri
  go_enter Try.func38, Try.ntmps38
  go_wp2_with fail
  try rw [HW.out]
  try go_wp2_with fail
  refine (vf_any l wd ht j _).mono ?_
  rintro e w1 ⟨rfl, hb1⟩
  have B1 := Lib.hid hb1
  clear hb1 f0 f1 f2 f3
  go_wp2_with fail
  refine (levels_impl L H a cap hl _ (HA.out.later B1.out).arg).mono ?_
  rintro e w2 ⟨rfl, hb2⟩
  have B2 := Lib.hid (bnext B1.out hb2)
  clear hb2
  obtain ⟨bL, rfl, atL⟩ := HA.out.later B2.out
  have AL := Lib.hid atL
  clear atL
  have WJ := Lib.hid (with_joint l wd ht j (by omega) (by omega) (by omega) (by omega))
  rw [hcr] at WJ
  have x1 := balloc0 w2 (.cells #[.int .i64 0] 75)
  have x2 := balloc x1 (.cells #[.int .i64 H] 2)
  have x3 := balloc x2 (.cells #[.slice (some ⟨bL, 0, none⟩) L.length cap, .slice (some ⟨w2.heap.size + 1, 0, none⟩) 1 1] 22)
  have RN := (RunAt.new w2 0 75).later ((balloc0 _ (.cells #[.int .i64 H] 2)).trans ((balloc0 _ (.cells #[.slice (some ⟨bL, 0, none⟩) L.length cap, .slice (some ⟨w2.heap.size + 1, 0, none⟩) 1 1] 22)).mono (by simp)))
  have hH := (range_below (range_new (w2.alloc (.cells #[.int .i64 0] 75)) #[.int .i64 H] 2) (balloc0 _ (.cells #[.slice (some ⟨bL, 0, none⟩) L.length cap, .slice (some ⟨w2.heap.size + 1, 0, none⟩) 1 1] 22))) 0 _ rfl
  have hS := range_new ((w2.alloc (.cells #[.int .i64 0] 75)).alloc (.cells #[.int .i64 H] 2)) #[.slice (some ⟨bL, 0, none⟩) L.length cap, .slice (some ⟨w2.heap.size + 1, 0, none⟩) 1 1] 22
  have hS0 := hS 0 _ rfl
  have hS1 := hS 1 _ rfl
  rw [World.size_alloc] at hH
  rw [World.size_alloc, World.size_alloc] at hS0 hS1
  simp only [Nat.zero_add] at hH hS0 hS1
  have zV : (((w2.alloc (.cells #[.int .i64 0] 75)).alloc (.cells #[.int .i64 H] 2)).alloc (.cells #[.slice (some ⟨bL, 0, none⟩) L.length cap, .slice (some ⟨w2.heap.size + 1, 0, none⟩) 1 1] 22)).heap.size = w2.heap.size + 1 + 1 + 1 := by simp
  obtain ⟨V, hV⟩ : ∃ V, ((w2.alloc (.cells #[.int .i64 0] 75)).alloc (.cells #[.int .i64 H] 2)).alloc (.cells #[.slice (some ⟨bL, 0, none⟩) L.length cap, .slice (some ⟨w2.heap.size + 1, 0, none⟩) 1 1] 22) = V := ⟨_, rfl⟩
  rw [hV] at x3 RN hH hS0 hS1 zV
  have HV := Lib.hid hV
  have CQ := Lib.hid (concatQ_impl L H bL cap (w2.heap.size + 1) (w2.heap.size + 1 + 1) (by omega) V (AL.out.later x3) hH hS0 hS1)
  have BV := Lib.hid (bnext B2.out x3)
  have RNV := Lib.hid RN
  have sR : W0.heap.size ≤ w2.heap.size := B2.out.size
  clear x1 x2 x3 RN hH hS hS0 hS1 hV
  go_wp2_with fail
  try rw [HV.out]
  refine CQ.out.mono ?_
  rintro e W3 ⟨g5, cp5, rfl, o5, hb3⟩
  have B3 := Lib.hid (bnext BV.out hb3)
  have RN3 := Lib.hid (RNV.out.later hb3)
  have hg5 : V.heap.size ≤ g5 := own_base8 o5
  obtain ⟨g5', e5', A5'⟩ : ∃ g, some (⟨g5, 0, none⟩ : Addr) = some ⟨g, 0, none⟩ ∧ IntOwn V.heap.size (L ++ [H]) g W3 := by
    rcases o5.res with h | h
    · simp at h
    · exact h
  obtain rfl : g5 = g5' := by cases e5'; rfl
  have A5 : Hid (IntAt W3 g5 0 (upQs L H)) := A5'.2.1
  have hg5l : g5 < W3.heap.size := A5'.2.2.2
  obtain ⟨Q, hQ⟩ : ∃ Q, upQs L H = Q := ⟨_, rfl⟩
  rw [hQ] at A5 HR HQl H6 HC
  have HQn := HQl
  obtain ⟨bR, hbR⟩ : ∃ bR, w2.heap.size = bR := ⟨_, rfl⟩
  rw [hbR] at RN3 sR zV
  have sB : bR < W3.heap.size := RN3.out.lt
  have sW : W0.heap.size ≤ W3.heap.size := B3.out.size
  have hbg : bR < g5 := by omega
  clear e5' A5' hQ hb3 o5 zV
  obtain ⟨n, hn⟩ : ∃ n, L.length + 1 = n := ⟨_, rfl⟩
  have HN0 : Hid (Q.length = n) := by show _ = _; rw [HQn.out, hn]
  have hn21 : n ≤ 21 := by omega
  rw [hn]
  go_wp2
  try rw [hbR]
  clear hn hbR hg5
  go_loopw [8, 27] (fun v i wr => ∃ (k : Nat) (ao : Option Addr) (cp : Nat) (D : List Int) (P : Int), k ≤ n ∧ v = .slice ao D.length cp ∧ i = .int .i64 (k : Int) ∧ 0 ≤ P ∧ P ≤ 6000 ∧ Hid (D = stL cr 0 (Q.take k)) ∧ Hid (P = (Q.take k).getLastD 0) ∧ Hid (IRow W3.heap.size D ao cp wr) ∧ Hid (RunAt bR P wr) ∧ Hid (IntAt wr g5 0 Q) ∧ Hid (Below W0.heap.size W0 wr) ∧ W3.heap.size ≤ wr.heap.size) (fun _ i _ => n - (intOf i).toNat)
  case atStart => exact ⟨0, none, 0, [], 0, Nat.zero_le _, rfl, rfl, by omega, by omega, rfl, rfl, IRow.nil _ _, RN3.out, A5.out, B3.out, Nat.le_refl _⟩
  case round =>
    obtain ⟨k, ao, cp, D, P, hk, rfl, rfl, hP0, hP6, hD, hP, hO, hRn, hAt, hB, s3⟩ := hrel
    by_cases hlt : k < n
    · have hlt' : (k : Int) < (n : Int) := by omega
      have hk0 : (0 : Int) ≤ (k : Int) := by omega
      obtain ⟨z, hz⟩ : ∃ z, Q[k]? = some z := ⟨_, List.getElem?_eq_getElem (by have := HN0.out; omega)⟩
      have d0 := hAt.out k z hz
      rw [Nat.zero_add] at d0
      obtain ⟨p0, p1, z0, z1⟩ := HR.out k z hz
      rw [show (1 : Int) - 1 = 0 from rfl, ← hP.out] at p0 p1
      obtain ⟨q0, q1⟩ := stQ_range hc30 (p := P) (z := z) (by omega) (by omega) (by omega)
      have HDn : Hid (D ++ [stQ cr P z] = stL cr 0 (Q.take (k + 1))) := by show _ = _; rw [stL_take hz, hD.out, hP.out]
      have HPn : Hid (z = (Q.take (k + 1)).getLastD 0) := (last_take hz).symm
      have NE : Hid (∀ wx, Calls Try.prog 71 #[.int .i64 (z - P), .int .i64 cr] wx fun e w' => e = .returned (.int .i64 (stQ cr P z)) ∧ wx = w') := fun wx => near_impl (z - P) cr (by omega) (by omega) (by omega) (by omega) wx
      have GR := Lib.hid (growTo_impl bR z P (by omega) (by omega) (by omega) (by omega) wr.drew hRn.out)
      obtain ⟨q, hq⟩ : ∃ q, stQ cr P z = q := ⟨_, rfl⟩
      rw [hq] at HDn q0 q1 NE
      have hDk : D.length ≤ 21 := by rw [hD.out, stL_length, List.length_take]; omega
      have c3 : Hid (D.length + 1 ≤ maxLen) := by show D.length + 1 ≤ maxLen; unfold maxLen; omega
      obtain ⟨i0, hi0, hz0, hz1, hz2⟩ := info_partsQ
      clear hz hq
      go_wp2_with fail
      refine wp_region_held_drew (S := fun W => Below W0.heap.size W0 W) (by kernel_rfl) ?_ (fun hHeld => ?_)
      · exact hB.out.drew
      refine wpAnyH_take (i := 0) (v := .slice ao D.length cp) rfl (by kernel_rfl) (by kernel_rfl) (by kernel_rfl) (fun _ _ _ h => h) (Or.inl ⟨by kernel_rfl, ?_⟩) (by assumption) ?_
      · intro w hSw
        try dsimp only at hSw
        skip
        go_simp
      try simp only [Act.put, List.setIfInBounds_toArray, List.set_cons_zero, List.set_cons_succ, List.getElem_toArray, List.getElem_cons_zero]
      refine wpAnyH_take (i := 1) (v := .int .i64 z) rfl (by kernel_rfl) (by kernel_rfl) (by kernel_rfl) (fun _ _ _ h => h) (Or.inl ⟨by kernel_rfl, ?_⟩) (by assumption) ?_
      · intro w hSw
        try dsimp only at hSw
        skip
        go_simp
      try simp only [Act.put, List.setIfInBounds_toArray, List.set_cons_zero, List.set_cons_succ, List.getElem_toArray, List.getElem_cons_zero, List.getElem_cons_succ]
      refine wpAnyH_take (i := 3) (v := .agg #[.int .i64 l, .int .i64 wd, .int .i64 ht, .int .i64 j]) rfl (by kernel_rfl) (by kernel_rfl) (by kernel_rfl) (fun _ _ _ h => h) (Or.inl ⟨by kernel_rfl, ?_⟩) (by assumption) ?_
      · intro w hSw
        try dsimp only at hSw
        obtain ⟨f0, f1, f2, f3⟩ := K.out _ hSw
        go_simp
      try simp only [Act.put, List.setIfInBounds_toArray, List.set_cons_zero, List.set_cons_succ, List.getElem_toArray, List.getElem_cons_zero, List.getElem_cons_succ]
      refine wpAnyH_ready (rs := [2]) (by kernel_rfl) (by simp) ?_
      refine AllReadyH.cons rfl (fun K hK => ?_) AllReadyH.nil
      go_simp
      go_at_call 72
      refine (GR.out).mono ?_
      rintro e w6 ⟨rfl, r6, o6⟩
      refine hK.out _ _ ?_ (fun hHeld' => ?_)
      · exact hHeld.trans (o6.base sR hHeld.size)
      clear hK K hHeld
      have hHeld := hHeld'
      clear hHeld'
      have R6 := Lib.hid r6
      have O6 := Lib.hid (IRow.only (w := wr.drew) hO.out o6 sB)
      have A6 := Lib.hid (IntAt.grown (w := wr.drew) hAt.out o6 (by simp; omega))
      have s6 : wr.heap.size ≤ w6.heap.size := o6.size
      clear r6 o6
      try simp only [Act.put, List.setIfInBounds_toArray, List.set_cons_zero, List.set_cons_succ, List.getElem_toArray, List.getElem_cons_zero, List.getElem_cons_succ]
      refine wpAnyH_ready (rs := [4]) (by kernel_rfl) (by simp) ?_
      refine AllReadyH.cons rfl (fun K hK => ?_) AllReadyH.nil
      go_simp
      go_at_call 73
      refine (WJ.out _).mono ?_
      rintro e w7 ⟨rfl, hb7⟩
      refine hK.out _ _ ?_ (fun hHeld' => ?_)
      · exact bnext hHeld hb7
      clear hK K hHeld
      have hHeld := hHeld'
      clear hHeld'
      have R7 := Lib.hid (R6.out.later hb7)
      have O7 := Lib.hid (O6.out.later hb7)
      have A7 := Lib.hid (A6.out.later hb7)
      have s7 : wr.heap.size ≤ w7.heap.size := Nat.le_trans s6 hb7.size
      clear hb7
      try simp only [Act.put, List.setIfInBounds_toArray, List.set_cons_zero, List.set_cons_succ, List.getElem_toArray, List.getElem_cons_zero, List.getElem_cons_succ]
      refine wpAnyH_take (i := 5) (v := .int .i64 cr) rfl (by kernel_rfl) (by kernel_rfl) (by kernel_rfl) (fun _ _ _ h => h) (Or.inl ⟨by kernel_rfl, ?_⟩) (by assumption) ?_
      · intro w hSw
        try dsimp only at hSw
        skip
        go_simp
        all_goals first | rfl | exact fieldQ2 _ _ _ _ _
      try simp only [Act.put, List.setIfInBounds_toArray, List.set_cons_zero, List.set_cons_succ, List.getElem_toArray, List.getElem_cons_zero, List.getElem_cons_succ]
      refine wpAnyH_ready (rs := [6]) (by kernel_rfl) (by simp) ?_
      refine AllReadyH.cons rfl (fun K hK => ?_) AllReadyH.nil
      go_simp
      go_at_call 71
      refine (NE.out _).mono ?_
      rintro e w8 ⟨rfl, rfl⟩
      refine hK.out _ _ ?_ (fun hHeld' => ?_)
      · exact hHeld
      clear hK K hHeld
      have hHeld := hHeld'
      clear hHeld'
      try simp only [Act.put, List.setIfInBounds_toArray, List.set_cons_zero, List.set_cons_succ, List.getElem_toArray, List.getElem_cons_zero, List.getElem_cons_succ]
      refine wpAnyH_ready (rs := [7]) (by kernel_rfl) (by simp) ?_
      refine AllReadyH.cons rfl (fun K hK => ?_) AllReadyH.nil
      have hbase : W3.heap.size ≤ w7.heap.size := Nat.le_trans s3 s7
      go_simp
      refine hK.out _ _ ?_ (fun hHeld' => ?_)
      · exact balloc hHeld _
      clear hK K hHeld
      have hHeld := hHeld'
      clear hHeld'
      try simp only [Act.put, List.setIfInBounds_toArray, List.set_cons_zero, List.set_cons_succ, List.getElem_toArray, List.getElem_cons_zero, List.getElem_cons_succ]
      refine wpAnyH_ready (rs := [8]) (by kernel_rfl) (by simp) ?_
      refine AllReadyH.cons rfl (fun K hK => ?_) AllReadyH.nil
      rw [if_pos (by kernel_rfl)]
      obtain ⟨v9, w9, hr9, hown9, hG9, _, _⟩ := run_append_own_at (P := Try.prog) (w7.alloc (.cells #[.int .i64 q] 2)) W3.heap.size 22 22 2 i0 (.int .i64 0) 1 8 Try.underlying22 hi0 hz0 hz1 hz2 rfl (by decide) (.slice ao D.length cp) D.length (intVals D) (IRow.later O7.out (balloc0 _ _)) ⟨w7.heap.size, 0, none⟩ 1 1 [.int .i64 q] rfl ((lit8 W3.heap.size w7 _ hbase).cells rfl) (by simp [Value.oneCell']) c3.out (by omega) (by simp; omega)
      refine wp_append_anyQ (s := .tmp 31) (x := .tmp 38) (t := 22) rfl rfl rfl hr9 ?_
      refine hK.out _ _ ?_ (fun hHeld' => ?_)
      · exact hHeld.grown hG9 (by have := hHeld.size; simp at this ⊢; omega) (fun q hq => Nat.le_trans sW (World.ownsRow.lt O7.out q hq).1)
      clear hK K hHeld
      have hHeld := hHeld'
      clear hHeld'
      have R9 := Lib.hid ((R7.out.later (balloc0 _ _)).grown hG9 (IRow.ne O7.out sB))
      have A9 := Lib.hid ((A7.out.later (balloc0 _ _)).grown hG9 (IRow.ne O7.out (by omega)))
      have s9 := hG9.size
      simp at s9
      obtain ⟨g9, cp9, hv9, o9⟩ := IRow.snoc hown9
      rw [List.length_append] at hv9
      subst hv9
      have O9 := Lib.hid o9
      clear hr9 hown9 hG9 o9
      try simp only [Act.put, List.setIfInBounds_toArray, List.set_cons_zero, List.set_cons_succ, List.getElem_toArray, List.getElem_cons_zero, List.getElem_cons_succ]
      refine wpAnyH_take (i := 9) (v := .slice (some ⟨g9, 0, none⟩) (D.length + 1) cp9) rfl (by kernel_rfl) (by kernel_rfl) (by kernel_rfl) (fun _ _ _ h => h) (Or.inl ⟨by kernel_rfl, ?_⟩) (by assumption) ?_
      · intro w hSw
        try dsimp only at hSw
        skip
        go_simp
      try simp only [Act.put, List.setIfInBounds_toArray, List.set_cons_zero, List.set_cons_succ, List.getElem_toArray, List.getElem_cons_zero, List.getElem_cons_succ]
      refine wpAnyH_done (by kernel_rfl) ?_ _
      have B9 := Lib.hid hHeld
      clear hHeld
      go_wp2
      go_roundw
      case rel => exact ⟨k + 1, some ⟨g9, 0, none⟩, cp9, D ++ [q], z, by omega, by simp, by go_num, by omega, by omega, HDn.out, HPn.out, O9.out, R9.out, A9.out, B9.out, by omega⟩
      case measure => simp [intOf]; omega
    · have hge : ¬ (k : Int) < (n : Int) := by omega
      have HD : Hid (D = stL cr 0 Q) := by show D = _; rw [hD.out, List.take_of_length_le (by have := HN0.out; omega)]
      have hDl : D.length ≤ 21 := by rw [hD.out, stL_length, List.length_take]; omega
      have ZI := Lib.hid (zeroIn_impl D (by omega) ao cp wr hO.out.res.arg)
      have B3w := Lib.hid (bnext E0.out hB.out)
      by_cases hm : (0 : Int) ∈ D
      · have EE := Lib.hid (H6.out (by rw [← HD.out]; exact hm))
        rw [decide_eq_true hm] at ZI
        clear hm
        go_wp2_with fail
        refine ZI.out.mono ?_
        rintro e w4 ⟨rfl, hb4⟩
        go_wp2
        go_ret2
        rw [EE.out.1, EE.out.2]
        exact ⟨none, 0, rfl, .inl rfl, bnext B3w.out hb4⟩
      · have EE := Lib.hid (HC.out (by rw [← HD.out]; exact hm))
        rw [decide_eq_false hm] at ZI
        clear hm
        go_wp2_with fail
        refine ZI.out.mono ?_
        rintro e w4 ⟨rfl, hb4⟩
        have O4 := Lib.hid ((hO.out.later hb4).mono (Nat.le_trans E0.out.size sW))
        go_wp2
        go_ret2
        rw [EE.out.1, EE.out.2, ← HD.out]
        exact ⟨ao, cp, rfl, O4.out.res, bnext B3w.out hb4⟩
end Go.Proofs.Ytmbmbkagmkmhlaa
