/-
  ShareUses: the program's answer.
-/
import Derived.Test.YtdandhmallbemaaDoorSuR
import Derived.Test.YtdandhmallbemaaDoorHpH
import Derived.Test.YtdandhmallbemaaDoorMoF
namespace Go.Proofs.YtdandhmallbemaaDoor
open Go.ChangeShapes Go.WideShapes Go.ChangeAt Go.RowKit Go.Joins

theorem chk_su (L : List Mo) (t : Int) : suC L t = if chkM L t 0 2000 = 0 then (if L.length = 0 then 3 else 0) else chkM L t 0 2000 := by
  unfold suC chkM
  cases okMos L <;> cases inB t 0 2000 <;> simp
theorem q_new {B : Nat} {w : World} (hB : B ≤ w.heap.size) : QAt B w.heap.size [] (w.alloc (.cells #[.slice none 0 0] 56)) :=
  ⟨hB, _, heap_alloc_new w _, rfl, .inl ⟨rfl, rfl⟩⟩
theorem it_ne1 : 2 ≠ 60 := by decide
theorem it_ne2 : 2 ≠ 56 := by decide
theorem NuOwn.block {B g n : Nat} {O : List Int} {w : World} (h : NuOwn B g n O w) : ∃ cs, w.heap[g]? = some (.cells cs 2 (0, 0)) := by
  rcases h.2.2 with ⟨e, _⟩ | ⟨g', cap, cur, e, _, hg, _⟩
  · cases e
  · cases e; exact ⟨_, hg⟩
theorem NuOwn.keep {B g n : Nat} {O : List Int} {w w' : World} (h : NuOwn B g n O w) (hk : KeepT [56, 60] w w') : NuOwn B g n O w' :=
  ⟨h.1, own_keep2 h.2 hk (by simp [it_ne1, it_ne2])⟩
theorem QAt.blocks {B q s : Nat} {Q : List (Int × Int)} {w w' : World} (h : QAt B q Q w) {cs : Array Value} (hs : w.heap[s]? = some (.cells cs 2 (0, 0))) (hb : ∀ k, k < w.heap.size → k ≠ s → w'.heap[k]? = w.heap[k]?) : QAt B q Q w' := by
  obtain ⟨h0, v, h1, h2⟩ := h
  have hq : q ≠ s := fun e => by
    subst e
    rw [h1] at hs
    simp only [Option.some.injEq, Obj.cells.injEq] at hs
    exact it_ne2 hs.2.1.symm
  have hv := own_ne h2 hs it_ne1
  refine ⟨h0, v, (hb q (Array.getElem?_eq_some_iff.1 h1).1 hq).trans h1, h2.1, ?_⟩
  rcases h2.2 with hn | ⟨g, cap, cur, e, hB, hg, rest⟩
  · exact .inl hn
  · refine .inr ⟨g, cap, cur, e, hB, (hb g (Array.getElem?_eq_some_iff.1 hg).1 (fun e2 => hv ?_)).trans hg, rest⟩
    rw [e, e2]
    rfl
theorem own_set_at {w : World} {q o B e size n : Nat} {v u : Value} {xs : List Value} (h : w.ownsRow B e size v n xs) (hne : v.ownBlock ≠ some q) : (w.setCell ⟨q, o, none⟩ u).ownsRow B e size v n xs := by
  refine ⟨h.1, ?_⟩
  rcases h.2 with hn | ⟨g, cap, cur, hv, hB, hgg, rest⟩
  · exact .inl hn
  · refine .inr ⟨g, cap, cur, hv, hB, ?_, rest⟩
    have : g ≠ q := fun e => hne (by rw [hv, e]; rfl)
    exact (Below.heap_setCell _ _ _ _ this).trans hgg
/-- One use more: the share, and the turn in its box. -/
theorem shares_step {B q s n b : Nat} {O : List Int} {Q : List (Int × Int)} {w w2 : World} (hQ : QAt B q Q w2) (hN : NuOwn B s n O w2) (hb : b < n) (hB2 : B ≤ w2.heap.size) (hBl : Below B w w2) (u m x u' : Int) :
    let W3 := w2.alloc (.cells #[.int .i64 u, .int .i64 m] 60)
    let W4 := W3.setCell ⟨s, b, none⟩ (.int .i64 x)
    let W5 := W4.setCell ⟨w2.heap.size, 0, none⟩ (.int .i64 u')
    (W3.cell? ⟨w2.heap.size, 0, none⟩ = some (.int .i64 u) ∧ W3.cell? ⟨w2.heap.size, 1, none⟩ = some (.int .i64 m) ∧ W3.cell? ⟨s, b, none⟩ = some (.int .i64 (og O b)) ∧ W3.frozen? ⟨s, b, none⟩ = false) ∧
    (W4.cell? ⟨w2.heap.size, 0, none⟩ = some (.int .i64 u) ∧ W4.cell? ⟨w2.heap.size, 1, none⟩ = some (.int .i64 m) ∧ W4.frozen? ⟨w2.heap.size, 0, none⟩ = false) ∧
    (W5.cell? ⟨w2.heap.size, 0, none⟩ = some (.int .i64 u') ∧ W5.cell? ⟨w2.heap.size, 1, none⟩ = some (.int .i64 m)) ∧
    QAt B q Q W5 ∧ NuOwn B s n (O.set b x) W5 ∧ Below B w W5 := by
  intro W3 W4 W5
  have hr : W3.rangeAt w2.heap.size 0 [.int .i64 u, .int .i64 m] := range_new w2 #[.int .i64 u, .int .i64 m] 60
  have r0 : W3.cell? ⟨w2.heap.size, 0, none⟩ = some (.int .i64 u) := hr 0 _ rfl
  have r1 : W3.cell? ⟨w2.heap.size, 1, none⟩ = some (.int .i64 m) := hr 1 _ rfl
  have N3 : NuOwn B s n O W3 := hN.later (balloc0 _ _)
  have hne : w2.heap.size ≠ s := by have := hN.lt; omega
  have b3 : W3.heap[w2.heap.size]? = some (.cells #[.int .i64 u, .int .i64 m] 60 (0, 0)) := heap_alloc_new w2 _
  have b4 : W4.heap[w2.heap.size]? = some (.cells #[.int .i64 u, .int .i64 m] 60 (0, 0)) := (Below.heap_setCell _ _ _ _ hne).trans b3
  have b5 : W5.heap[w2.heap.size]? = some (.cells #[.int .i64 u', .int .i64 m] 60 (0, 0)) := by
    show (W4.setCell ⟨w2.heap.size, 0, none⟩ (.int .i64 u')).heap[w2.heap.size]? = _
    simp [World.setCell, Array.getElem?_modify, b4]
  have c4 : ∀ k, W4.cell? ⟨w2.heap.size, k, none⟩ = W3.cell? ⟨w2.heap.size, k, none⟩ := fun k => World.cell?_of_block (a := ⟨w2.heap.size, k, none⟩) (Below.heap_setCell _ _ _ _ hne)
  have N4 : NuOwn B s n (O.set b x) W4 := N3.put x
  have N5 : NuOwn B s n (O.set b x) W5 := ⟨N4.1, own_set_at N4.2 (fun e => by simp only [Value.ownBlock, Option.some.injEq] at e; exact hne e.symm)⟩
  obtain ⟨cs, hs⟩ := hN.block
  refine ⟨⟨r0, r1, N3.cell hb, N3.frozen⟩, ⟨(c4 0).trans r0, (c4 1).trans r1, ?_⟩, ⟨?_, ?_⟩, ?_, N5, ?_⟩
  · simp [World.frozen?, b4]
  · rw [cell_of_row _ _ _ _ _ (0, 0) b5]; rfl
  · rw [cell_of_row _ _ _ _ _ (0, 0) b5]; rfl
  · refine hQ.blocks hs (fun k hk hks => ?_)
    have e5 : W5.heap[k]? = W4.heap[k]? := Below.heap_setCell _ _ _ _ (by show k ≠ w2.heap.size; omega)
    have e4 : W4.heap[k]? = W3.heap[k]? := Below.heap_setCell _ _ _ _ hks
    exact e5.trans (e4.trans ((balloc0 w2 _).block k hk))
  · exact (((hBl.alloc hB2 _).setCell (p := ⟨s, b, none⟩) hN.base _).setCell (p := ⟨w2.heap.size, 0, none⟩) hB2 _)

theorem root_now {L : List Mo} {O : List Int} {Q : List (Int × Int)} (hpos : 0 < L.length) (hh : HeapN Q Q.length) (hQ : Q.Perm (turnsOf L O)) : tg Q 0 = (usA L (nextU L O) + og O (nextU L O), ((nextU L O : Nat) : Int)) ∧ nextU L O < L.length := by
  have hl : Q.length = L.length := by rw [hQ.length_eq, turnsOf_length]
  cases Q with
  | nil => simp at hl; omega
  | cons r M =>
    have e : tg (r :: M) 0 = r := rfl
    rw [e]
    exact root_next hpos hQ (heap_root hh e hQ)
set_option maxRecDepth 100000 in
set_option maxHeartbeats 12800000 in
theorem share_impl (L : List Mo) (a : Option Addr) (cap : Nat) (hl : L.length ≤ 1048576) (t : Int) (w : World) (ha : MoArg w a L) : Calls Tryd.prog 6 #[.slice a L.length cap, .int .i64 t] w fun e w' => ∃ a cap, e = .returned (.tuple #[.slice a (suL L t).length cap, .int .i64 (suC L t)]) ∧ IntRes w.heap.size (suL L t) a w' ∧ Below w.heap.size w w' := by
  have C := Lib.hid (chk_moimpl L a cap hl t 0 2000 w ha)
  have HC := Lib.hid (chk_su L t)
  by_cases h0 : chkM L t 0 2000 = 0
  case neg =>
    have E1 : Hid (suC L t = chkM L t 0 2000) := by show _ = _; rw [HC.out, if_neg h0]
    have E2 := Lib.hid (su_bad E1.out h0)
    rw [E1.out, E2.out]
    obtain ⟨q, hq⟩ : ∃ q, chkM L t 0 2000 = q := ⟨_, rfl⟩
    rw [hq] at h0 C ⊢
    clear hq ha HC
    go_enter Tryd.func6, Tryd.ntmps6
    go_wp2_with fail
    refine C.out.mono ?_
    rintro e w1 ⟨rfl, hb1⟩
    go_wp2
    go_ret2
    first | exact ⟨none, ⟨0, rfl⟩, .inl rfl, hb1⟩ | exact ⟨none, 0, rfl, .inl rfl, hb1⟩
  by_cases h4 : L.length = 0
  · have E1 : Hid (suC L t = 3) := by show _ = _; rw [HC.out, if_pos h0, if_pos h4]
    have E2 := Lib.hid (su_bad E1.out (by omega))
    rw [E1.out, E2.out]
    rw [h0] at C
    have h5 : (L.length : Int) = 0 := by omega
    have h6 : ((L.length : Int) == 0) = true := by rw [h5]; rfl
    clear ha h4 h0 HC
    go_enter Tryd.func6, Tryd.ntmps6
    go_wp2_with fail
    refine C.out.mono ?_
    rintro e w1 ⟨rfl, hb1⟩
    go_wp2
    go_ret2
    first | exact ⟨none, ⟨0, rfl⟩, .inl rfl, hb1⟩ | exact ⟨none, 0, rfl, .inl rfl, hb1⟩
  have E1 : Hid (suC L t = 0) := by show _ = _; rw [HC.out, if_pos h0, if_neg h4]
  have E2 := Lib.hid (su_good E1.out)
  rw [E1.out, E2.out]
  have hok : okMos L = true ∧ inB t 0 2000 = true := by
    unfold chkM at h0
    cases h1 : okMos L <;> cases h2 : inB t 0 2000 <;> simp [h1, h2] at h0 <;> exact ⟨rfl, rfl⟩
  obtain ⟨t0, t1⟩ := inB_true.1 hok.2
  obtain ⟨T, hT⟩ : ∃ T : Nat, t = (T : Int) := ⟨t.toNat, by omega⟩
  subst hT
  rw [show (T : Int).toNat = T by omega, shTo_length]
  have HUS : Hid (∀ k, k < L.length → 0 ≤ usA L k ∧ usA L k ≤ 100000) := fun k hk => uses_range hok.1 hk
  have hl20 := (okMos_all hok.1).1
  rw [h0] at C
  have h5 : ¬ (L.length : Int) = 0 := by omega
  have h6 : ((L.length : Int) == 0) = false := beq_eq_false_iff_ne.2 h5
  have hpos : 0 < L.length := by omega
  have HA : Hid (∀ wx, Below w.heap.size w wx → MoArg wx a L) := fun wx h => ha.later h
  have HI : Hid (Tryd.prog.info? 56 = Tryd.prog.info? 56) := rfl
  clear ha h4 h0 HC hok
  go_enter Tryd.func6, Tryd.ntmps6
  go_wp2_with fail
  refine C.out.mono ?_
  rintro e w1 ⟨rfl, hb1⟩
  have Q0 := Lib.hid (q_new (w := w1) hb1.size)
  have B0 := Lib.hid (balloc hb1 (.cells #[.slice none 0 0] 56))
  obtain ⟨q, hq⟩ : ∃ q, w1.heap.size = q := ⟨_, rfl⟩
  obtain ⟨W, hW⟩ : ∃ W, w1.alloc (.cells #[.slice none 0 0] 56) = W := ⟨_, rfl⟩
  rw [hq, hW] at Q0
  rw [hW] at B0
  have HW := Lib.hid (And.intro hW hq)
  clear hW hb1 hq
  go_wp2
  rw [HW.out.1, HW.out.2]
  clear HW
  go_loopw [23] (fun i wr => ∃ (k : Nat) (Q : List (Int × Int)), k ≤ L.length ∧ i = .int .i64 (k : Int) ∧ Hid (HeapN Q Q.length) ∧ Hid (Q.Perm (turnsTo L k)) ∧ Hid (QAt w.heap.size q Q wr) ∧ Hid (Below w.heap.size w wr)) (fun i _ => L.length - (intOf i).toNat)
  case atStart => exact ⟨0, [], by omega, rfl, fun k _ hk => absurd hk (by simp), List.Perm.refl _, Q0.out, B0.out⟩
  case round =>
    obtain ⟨k, Q, hk, rfl, hH, hP, hQ, hB⟩ := hrel
    have hlen : Q.length = k := by rw [hP.out.length_eq, turnsTo_length]
    by_cases hlt : k < L.length
    · have hlt' : (k : Int) < (L.length : Int) := by omega
      have hk0 : (0 : Int) ≤ (k : Int) := by omega
      obtain ⟨b, o, c, rfl, hc, hat⟩ := (HA.out wr hB.out).at hlt
      obtain ⟨c0, c1, c2, c3⟩ := hat.cells hc
      have HCC := Lib.hid hc
      have x3 : (wr.alloc (.cells #[.int .i64 c.le, .int .i64 c.wi, .int .i64 c.he, .int .i64 c.us] 47)).cell? ⟨wr.heap.size, 3, none⟩ = some (.int .i64 c.us) := by
        have hr : (wr.alloc (.cells #[.int .i64 c.le, .int .i64 c.wi, .int .i64 c.he, .int .i64 c.us] 47)).rangeAt wr.heap.size 0 [.int .i64 c.le, .int .i64 c.wi, .int .i64 c.he, .int .i64 c.us] := range_new wr #[.int .i64 c.le, .int .i64 c.wi, .int .i64 c.he, .int .i64 c.us] 47
        exact hr 3 _ rfl
      have PU := Lib.hid (hpush_impl w.heap.size q Q c.us k (by omega) hH.out (wr.alloc (.cells #[.int .i64 c.le, .int .i64 c.wi, .int .i64 c.he, .int .i64 c.us] 47)) (hQ.out.later (balloc0 _ _)) (by have := hB.out.size; simp; omega))
      have BA := Lib.hid (balloc hB.out (.cells #[.int .i64 c.le, .int .i64 c.wi, .int .i64 c.he, .int .i64 c.us] 47))
      clear hc hat hlen
      go_wp2_with fail
      refine PU.out.mono ?_
      rintro e w4 ⟨rfl, ⟨M, hM, hMh, hMp⟩, hb4, hk4⟩
      have H4 := Lib.hid (And.intro hM (And.intro hMh (turnsTo_step HCC.out hP.out hMp)))
      have B4 := Lib.hid (BA.out.trans hb4)
      clear hM hMh hMp hb4 hk4 x3 c0 c1 c2 c3
      go_wp2
      go_roundw
      case rel => exact ⟨k + 1, M, by omega, by go_num, H4.out.2.1, H4.out.2.2, H4.out.1, B4.out⟩
      case measure => simp [intOf]; omega
    · have hge : ¬ (k : Int) < (L.length : Int) := by omega
      have hkk : k = L.length := by omega
      have HP0 : Hid (Q.Perm (turnsOf L (shTo L 0))) := by show Q.Perm _; rw [← turnsTo_all, ← hkk]; exact hP.out
      have hmk := make_nums L.length hl wr
      have R1 := Lib.hid (NuOwn.new (B := w.heap.size) (n := L.length) hB.out.size hl)
      have Q1 := Lib.hid (hQ.out.later (balloc0 wr (.cells (madeCells #[.int .i64 0] L.length) 2)))
      have B1 := Lib.hid (balloc hB.out (.cells (madeCells #[.int .i64 0] L.length) 2))
      obtain ⟨s, hs⟩ : ∃ s, wr.heap.size = s := ⟨_, rfl⟩
      rw [hs] at hmk R1
      obtain ⟨W2, hW2⟩ : ∃ W2, wr.alloc (.cells (madeCells #[.int .i64 0] L.length) 2) = W2 := ⟨_, rfl⟩
      rw [hW2] at hmk R1 Q1 B1
      clear hW2 hs hkk hlen hk hlt
      go_wp2
      go_loopw [40] (fun v wx => ∃ (n : Nat) (Q : List (Int × Int)), n ≤ T ∧ v = .int .i64 (n : Int) ∧ Hid (HeapN Q Q.length) ∧ Hid (Q.Perm (turnsOf L (shTo L n))) ∧ Hid (QAt w.heap.size q Q wx) ∧ Hid (NuOwn w.heap.size s L.length (shTo L n) wx) ∧ Hid (Below w.heap.size w wx)) (fun v _ => T - (intOf v).toNat)
      case atStart => exact ⟨0, Q, by omega, rfl, hH.out, HP0.out, Q1.out, R1.out, B1.out⟩
      case round =>
        obtain ⟨n, Q2, hn, rfl, hH2, hP2, hQ2, hR2, hB2⟩ := hrel
        by_cases hnT : n < T
        · have hnT' : (n : Int) < (T : Int) := by omega
          have hlen : Q2.length = L.length := by rw [hP2.out.length_eq, turnsOf_length]
          obtain ⟨hroot, hbn⟩ := root_now hpos hH2.out hP2.out
          obtain ⟨m, hm⟩ : ∃ m, L.length = m + 1 := ⟨L.length - 1, by omega⟩
          have PO := Lib.hid (hpop_impl w.heap.size q m Q2 (by omega) (by omega) hH2.out wr hQ2.out hB2.out.size)
          rw [hroot] at PO
          have HNX : Hid (shTo L (n + 1) = (shTo L n).set (nextU L (shTo L n)) (og (shTo L n) (nextU L (shTo L n)) + 1)) := rfl
          have HOL := Lib.hid (shTo_length L n)
          have hor := shTo_range L n (nextU L (shTo L n))
          have hur := HUS.out _ hbn
          obtain ⟨O, hO⟩ : ∃ O, shTo L n = O := ⟨_, rfl⟩
          rw [hO] at PO HNX HOL hR2 hP2 hor hur hbn
          obtain ⟨b, hb⟩ : ∃ b, nextU L O = b := ⟨_, rfl⟩
          rw [hb] at PO HNX hor hur hbn
          have TN := Lib.hid (fun (M : List (Int × Int)) (h : ((usA L b + og O b, (b : Int)) :: M).Perm (turnsOf L O)) => turns_next HOL.out hbn h)
          obtain ⟨u, hu⟩ : ∃ u, usA L b + og O b = u := ⟨_, rfl⟩
          rw [hu] at PO TN
          have hu0 : 0 ≤ u ∧ u ≤ 200000 := by omega
          have hb0 : (0 : Int) ≤ (b : Int) := by omega
          have hb1 : (b : Int) < (L.length : Int) := by omega
          have e1 : IntKind.i64.wrap (u + 1) = u + 1 := IntWalk.i64_in _ (by omega)
          have e2 : IntKind.i64.wrap (og O b + 1) = og O b + 1 := IntWalk.i64_in _ (by omega)
          have ta := turnAssert u (b : Int)
          have HM := Lib.hid hm
          clear hroot hO hb hu hlen hm
          go_wp2_with fail
          refine PO.out.mono ?_
          rintro e w2 ⟨rfl, ⟨M, hM, hMh, hMl, hMp⟩, hb2, hk2⟩
          have hsz2 : w.heap.size ≤ w2.heap.size := Nat.le_trans hB2.out.size hb2.size
          obtain ⟨⟨s0, s1, s2, s3⟩, ⟨s4, s5, s6⟩, ⟨s7, s8⟩, hq5, hr5, hb5⟩ := shares_step hM (hR2.out.keep hk2) hbn hsz2 (hB2.out.trans hb2) u (b : Int) (og O b + 1) (u + 1)
          have PU := Lib.hid (hpush_impl w.heap.size q M (u + 1) b (by have := HM.out; omega) hMh _ hq5 hb5.size)
          have HR5 := Lib.hid hr5
          have HB5 := Lib.hid hb5
          have HPM := Lib.hid (TN.out M (hMp.trans hP2.out))
          obtain ⟨x, hx⟩ : ∃ x, og O b = x := ⟨_, rfl⟩
          rw [hx] at s2 s4 s5 s6 s7 s8 PU HR5 HB5 HPM HNX e2
          clear hx hq5 hr5 hb5 hM hMh hMl hMp hb2 hk2 hor hur
          go_wp2_with fail
          refine PU.out.mono ?_
          rintro e w6 ⟨rfl, ⟨N, hN, hNh, hNp⟩, hb6, hk6⟩
          have HF : Hid (HeapN N N.length ∧ N.Perm (turnsOf L (shTo L (n + 1))) ∧ QAt w.heap.size q N w6 ∧ NuOwn w.heap.size s L.length (shTo L (n + 1)) w6 ∧ Below w.heap.size w w6) := by
            refine ⟨hNh, ?_, hN, ?_, HB5.out.trans hb6⟩
            · rw [HNX.out]; exact hNp.trans HPM.out
            · rw [HNX.out]; exact HR5.out.keep hk6
          clear hN hNh hNp hb6 hk6 s0 s1 s2 s3 s4 s5 s6 s7 s8
          go_wp2
          go_roundw
          case rel => exact ⟨n + 1, N, by omega, by go_num, HF.out.1, HF.out.2.1, HF.out.2.2.1, HF.out.2.2.2.1, HF.out.2.2.2.2⟩
          case measure => simp [intOf]; omega
        · have hge2 : ¬ (n : Int) < (T : Int) := by omega
          have hnn : n = T := by omega
          subst hnn
          have HO : Hid (IntOwn w.heap.size (shTo L n) s wr) := hR2.out.own
          go_wp2
          go_ret2
          first | exact ⟨_, ⟨_, rfl⟩, .inr ⟨s, rfl, HO.out⟩, hB2.out⟩ | exact ⟨_, _, rfl, .inr ⟨s, rfl, HO.out⟩, hB2.out⟩
end Go.Proofs.YtdandhmallbemaaDoor
