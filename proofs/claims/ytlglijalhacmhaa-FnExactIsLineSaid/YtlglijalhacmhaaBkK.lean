/-
  Lines of thrust: the program.
-/
import Derived.Test.YtlglijalhacmhaaBkLp
import Derived.Test.YtlglijalhacmhaaBkN
namespace Go.Proofs.Ytlglijalhacmhaa
open Go.ChangeShapes Go.WideShapes Go.ChangeAt Go.RowKit Go.Joins

set_option maxRecDepth 100000 in
set_option maxHeartbeats 6400000 in
theorem bend_impl (P : List Int) (s : Option Addr) (t k : Nat) (h : k + 2 < P.length) (hB : ∀ (j : Nat) (z : Int), P[j]? = some z → -1000000000000 ≤ z ∧ z ≤ 1000000000000) (hl : P.length ≤ 1048576) (w : World) (hp : IntArg w s P) :
    Calls Try.prog 94 #[.slice s P.length t, .int .i64 ((k : Int) + 1)] w fun e w' => e = .returned (.int .i64 (bnd P k)) ∧ ∃ m, w' = w.drewN m := by
  obtain ⟨b, o, z0, rfl, hz0, hat⟩ := hp.at (show k < P.length by omega)
  have hz1 := List.getElem?_eq_getElem (show k + 1 < P.length by omega)
  have hz2 := List.getElem?_eq_getElem h
  obtain ⟨z1, e1⟩ : ∃ z, P[k + 1]'(by omega) = z := ⟨_, rfl⟩
  obtain ⟨z2, e2⟩ : ∃ z, P[k + 2] = z := ⟨_, rfl⟩
  rw [e1] at hz1
  rw [e2] at hz2
  clear e1 e2
  have c0 := hat k z0 hz0
  have c1 : w.cell? ⟨b, o + (k + 1), none⟩ = some (.int .i64 z1) := hat (k + 1) z1 hz1
  have c2 : w.cell? ⟨b, o + (k + 2), none⟩ = some (.int .i64 z2) := hat (k + 2) z2 hz2
  obtain ⟨x0, y0⟩ := hB k z0 hz0
  obtain ⟨x1, y1⟩ := hB (k + 1) z1 hz1
  obtain ⟨x2, y2⟩ := hB (k + 2) z2 hz2
  have HE : Hid (bnd P k = z0 - 2 * z1 + z2) := by show _ = _; unfold bnd; rw [getD_of hz0, getD_of hz1, getD_of hz2]
  have hk0 : (0 : Int) ≤ (k : Int) := by omega
  have hk1 : (k : Int) + 2 < (P.length : Int) := by omega
  have t0 : ((k : Int)).toNat = k := by omega
  have t1 : ((k : Int) + 1).toNat = k + 1 := by omega
  have t2 : ((k : Int) + 1 + 1).toNat = k + 2 := by omega
  clear hat hz0 hz1 hz2 hB hp
  go_enter Try.func94, Try.ntmps94
  go_wp2
  go_quiet (fail)
  go_wp2
  go_ret
  exact ⟨ret_int HE.out.symm, _, rfl⟩
/-- An arch in a box. -/
def ArBox (n : Nat) (X : Bk) (a b c : Option Addr) (ca cb cc : Nat) (sm : Option Addr) (M : List Int) (tm : Nat) (w : World) : Prop := BkBox n X a b c ca cb cc w ∧ w.cell? ⟨n, 3, none⟩ = some (.slice sm M.length tm)
theorem ArBox.new (w : World) (X : Bk) (a b c : Option Addr) (ca cb cc : Nat) (sm : Option Addr) (M : List Int) (tm : Nat) (t : TypeId) : ArBox w.heap.size X a b c ca cb cc sm M tm (w.alloc (.cells #[.slice a X.A.length ca, .slice b X.L.length cb, .slice c X.H.length cc, .slice sm M.length tm] t)) := by
  refine ⟨⟨?_, ?_, ?_⟩, ?_⟩ <;> (rw [cell_of_row _ _ _ _ t (0, 0) (heap_alloc_new w _)]; rfl)
theorem ArBox.later {n : Nat} {X : Bk} {a b c : Option Addr} {ca cb cc : Nat} {sm : Option Addr} {M : List Int} {tm : Nat} {w w' : World} (h : ArBox n X a b c ca cb cc sm M tm w) (hb : Below w.heap.size w w') : ArBox n X a b c ca cb cc sm M tm w' := ⟨h.1.later hb, (hb.cell h.1.lt).trans h.2⟩
set_option maxRecDepth 100000 in
set_option maxHeartbeats 6400000 in
theorem has_impl (X : Bk) (a b c : Option Addr) (ca cb cc : Nat) (sm : Option Addr) (M : List Int) (tm : Nat) (P : List Int) (s : Option Addr) (t : Nat) (d : Int) (ok : okBk X = true) (hP : P.length = X.L.length) (d0 : 1 ≤ d) (d1 : d ≤ 100000000) (w : World) (ha : BkArg w a b c X) (hp : IntArg w s P) :
    Calls Try.prog 69 #[.agg #[.slice a X.A.length ca, .slice b X.L.length cb, .slice c X.H.length cc, .slice sm M.length tm], .slice s P.length t, .int .i64 d] w fun e w' => e = .returned (.bool ((List.range P.length).all (witB X P d))) ∧ Below w.heap.size w w' := by
  have k0 := ArBox.new w X a b c ca cb cc sm M tm 67
  have E0 := Lib.hid (balloc0 w (.cells #[.slice a X.A.length ca, .slice b X.L.length cb, .slice c X.H.length cc, .slice sm M.length tm] 67))
  obtain ⟨U, hU⟩ : ∃ U, World.alloc w (.cells #[.slice a X.A.length ca, .slice b X.L.length cb, .slice c X.H.length cc, .slice sm M.length tm] 67) = U := ⟨_, rfl⟩
  rw [hU] at k0 E0
  have E0 : Hid (Below w.heap.size w U) := E0.out
  have KB := Lib.hid k0
  have HA := Lib.hid (ha.later E0.out)
  have HP := Lib.hid (hp.later E0.out)
  have OK := Lib.hid ok
  have HL := Lib.hid hP
  have HH : Hid (P.length = X.H.length) := by show _ = _; rw [hP, (okBk_true.1 ok).2.1, (okBk_true.1 ok).2.2.1]
  have HU := Lib.hid hU
  have IW := Lib.hid (fun z lo hi => within_impl z lo hi)
  have hP11 : P.length ≤ 11 := by have h1 := (okBk_true.1 ok).1; have h2 := (okBk_true.1 ok).2.1; omega
  clear hU k0 ha hp ok hP
  go_enter Try.func69, Try.ntmps69
  go_wp2_with fail
  rw [HU.out]
  go_loopw [11] (fun i wr => ∃ k : Nat, k ≤ P.length ∧ i = .int .i64 (k : Int) ∧ Hid (∀ j : Nat, j < k → witB X P d j = true) ∧ Hid (Below U.heap.size U wr)) (fun i _ => P.length - (intOf i).toNat)
  case atStart => exact ⟨0, Nat.zero_le _, rfl, fun j h => by omega, Below.refl _ _⟩
  case round =>
    obtain ⟨k, hk, rfl, hM, hB⟩ := hrel
    by_cases hlt : k < P.length
    · have hlt' : (k : Int) < (P.length : Int) := by omega
      have hk0 : (0 : Int) ≤ (k : Int) := by omega
      have hL1 : k < X.L.length := by have := HL.out; omega
      have hH1 : k < X.H.length := by have := HH.out; omega
      have hL' : (k : Int) < (X.L.length : Int) := by omega
      have hH' : (k : Int) < (X.H.length : Int) := by omega
      obtain ⟨b1, o1, z1, rfl, hz1, hat1⟩ := (HA.out.2.1.later hB.out).at hL1
      obtain ⟨b2, o2, z2, rfl, hz2, hat2⟩ := (HA.out.2.2.later hB.out).at hH1
      obtain ⟨b3, o3, z3, rfl, hz3, hat3⟩ := (HP.out.later hB.out).at hlt
      have c1 := hat1 k z1 hz1
      have c2 := hat2 k z2 hz2
      have c3 := hat3 k z3 hz3
      obtain ⟨⟨p0, p1, p2⟩, p3⟩ := KB.out.later hB.out
      have hr := okBk_at OK.out (k := k) (by have := (okBk_true.1 OK.out).2.1; omega)
      have g1 := getD_of hz1
      have g2 := getD_of hz2
      have g3 := getD_of hz3
      rw [g1, g2] at hr
      obtain ⟨q0, q1, q2⟩ := hr
      have m1 := mul_den q0 (by omega : z1 ≤ 1000) d0 d1
      have m2 := mul_den (by omega : -1000 ≤ z2) q2 d0 d1
      obtain ⟨m10, m11⟩ := m1
      obtain ⟨m20, m21⟩ := m2
      have HW : Hid (witB X P d k = inB z3 (z1 * d) (z2 * d)) := by show _ = _; unfold witB; rw [g1, g2, g3]
      clear hat1 hat2 hat3 hz1 hz2 hz3 g1 g2 g3
      have W1 := Lib.hid (IW.out z3 (z1 * d) (z2 * d))
      cases hin : inB z3 (z1 * d) (z2 * d)
      · rw [hin] at W1 HW
        clear hin
        have HR := Lib.hid (isLn_all hlt HW.out)
        go_wp2_with fail
        go_quiet (first | (go_at_call 51; exact Calls.quiet_of_same ((W1.out _).mono (fun _ _ h => ⟨h.1, h.2.symm⟩))))
        go_wp2
        go_ret
        exact ⟨ret_bool HR.out.symm, bnext E0.out (below_drewN hB.out nq)⟩
      · rw [hin] at W1 HW
        clear hin
        go_wp2_with fail
        go_quiet (first | (go_at_call 51; exact Calls.quiet_of_same ((W1.out _).mono (fun _ _ h => ⟨h.1, h.2.symm⟩))))
        go_wp2
        go_roundw
        case rel =>
          refine ⟨k + 1, by omega, by go_num, fun j hj => ?_, below_drewN hB.out nq⟩
          by_cases e : j = k
          · rw [e, HW.out]
          · exact hM.out j (by omega)
        case measure => simp [intOf]; omega
    · have hge : ¬ (k : Int) < (P.length : Int) := by omega
      have HR : Hid ((List.range P.length).all (witB X P d) = true) := by
        show _ = _
        rw [List.all_eq_true]
        intro j hj
        exact hM.out j (by have := List.mem_range.1 hj; omega)
      go_wp2
      go_ret
      exact ⟨ret_bool HR.out.symm, bnext E0.out hB.out⟩
set_option maxRecDepth 100000 in
set_option maxHeartbeats 6400000 in
theorem curve_impl (X : Bk) (a b c : Option Addr) (ca cb cc : Nat) (sm : Option Addr) (tm : Nat) (P : List Int) (s : Option Addr) (t : Nat) (ok : okBk X = true) (hP : P.length = X.L.length) (hPB : allB P (-100000000000) 100000000000 = true) (w : World) (hm : IntArg w sm (momsL X.A (X.A.length + 1))) (hp : IntArg w s P) :
    Calls Try.prog 70 #[.agg #[.slice a X.A.length ca, .slice b X.L.length cb, .slice c X.H.length cc, .slice sm (momsL X.A (X.A.length + 1)).length tm], .slice s P.length t] w fun e w' => e = .returned (.bool (decide (bnd P 0 < 0) && (List.range (X.A.length - 1)).all (curB X P))) ∧ Below w.heap.size w w' := by
  obtain ⟨M, hMe⟩ : ∃ M, momsL X.A (X.A.length + 1) = M := ⟨_, rfl⟩
  have hMl : M.length = X.A.length + 1 := by rw [← hMe, momsL_length]
  have hMB : ∀ (j : Nat) (z : Int), M[j]? = some z → -1000000000000 ≤ z ∧ z ≤ 1000000000000 := by
    intro j z hz
    rw [← hMe] at hz
    have hj : j < X.A.length + 1 := by have := (List.getElem?_eq_some_iff.1 hz).1; rwa [momsL_length] at this
    rw [momsL_at hj] at hz
    have := mom_range ok j (by have := (okBk_true.1 ok).1; omega)
    have := (okBk_true.1 ok).1
    cases hz
    omega
  have hMM : ∀ k, k + 2 < X.A.length + 1 → bnd M k = X.A.getD k 0 + X.A.getD (k + 1) 0 := fun k hk => by rw [← hMe]; exact bnd_mom _ _ _ hk
  have hPQ : ∀ (j : Nat) (z : Int), P[j]? = some z → -1000000000000 ≤ z ∧ z ≤ 1000000000000 := fun j z hz => by have := inB_true.1 (allB_true.1 hPB j z hz); omega
  have hn := (okBk_true.1 ok).1
  have hLl := (okBk_true.1 ok).2.1
  rw [hMe] at hm ⊢
  clear hMe
  have k0 := ArBox.new w X a b c ca cb cc sm M tm 67
  have E0 := Lib.hid (balloc0 w (.cells #[.slice a X.A.length ca, .slice b X.L.length cb, .slice c X.H.length cc, .slice sm M.length tm] 67))
  obtain ⟨U, hU⟩ : ∃ U, World.alloc w (.cells #[.slice a X.A.length ca, .slice b X.L.length cb, .slice c X.H.length cc, .slice sm M.length tm] 67) = U := ⟨_, rfl⟩
  rw [hU] at k0 E0
  have E0 : Hid (Below w.heap.size w U) := E0.out
  have KB := Lib.hid k0
  have HMA := Lib.hid (hm.later E0.out)
  have HP := Lib.hid (hp.later E0.out)
  have CP := Lib.hid (fun (k : Nat) (hk : k < X.A.length - 1) (i : Int) (hi : (k : Int) + 1 = i) wx (hx : IntArg wx s P) => show Calls Try.prog 94 #[.slice s P.length t, .int .i64 i] wx (fun e w' => e = .returned (.int .i64 (bnd P k)) ∧ ∃ m, w' = wx.drewN m) from by rw [← hi]; exact bend_impl P s t k (by omega) hPQ (by omega) wx hx)
  have CM := Lib.hid (fun (k : Nat) (hk : k < X.A.length - 1) (i : Int) (hi : (k : Int) + 1 = i) wx (hx : IntArg wx sm M) => show Calls Try.prog 94 #[.slice sm M.length tm, .int .i64 i] wx (fun e w' => e = .returned (.int .i64 (bnd M k)) ∧ ∃ m, w' = wx.drewN m) from by rw [← hi]; exact bend_impl M sm tm k (by omega) hMB (by omega) wx hx)
  have OK := Lib.hid ok
  have HPB := Lib.hid hPB
  have HMM := Lib.hid hMM
  have HPL : Hid (P.length = X.A.length + 1) := by show _ = _; rw [hP, hLl]
  have HU := Lib.hid hU
  obtain ⟨hn2, hn10⟩ := hn
  clear hU k0 hm hp ok hPB hMM hMB hPQ hP hMl hLl
  go_enter Try.func70, Try.ntmps70
  go_wp2_with fail
  rw [HU.out]
  go_wp2_with fail
  go_loopw [5] (fun i wr => ∃ k : Nat, k ≤ X.A.length - 1 ∧ i = .int .i64 ((k : Int) + 1) ∧ Hid (∀ j : Nat, j < k → curB X P j = true) ∧ Hid (0 < k → bnd P 0 < 0) ∧ Hid (Below U.heap.size U wr)) (fun i _ => X.A.length - (intOf i).toNat)
  case atStart => exact ⟨0, Nat.zero_le _, rfl, fun j h => by omega, fun h => by omega, Below.refl _ _⟩
  case round =>
    obtain ⟨k, hk, rfl, hM, hN, hB⟩ := hrel
    obtain ⟨⟨p0, p1, p2⟩, p3⟩ := KB.out.later hB.out
    by_cases hlt : k < X.A.length - 1
    · have hlt' : (k : Int) + 1 < (X.A.length : Int) := by omega
      have D1 := Lib.hid (fun i hi m => CP.out k hlt i hi (wr.drewN m) ((HP.out.later hB.out).later (below_drewN (Below.refl _ _) m)))
      have D0 := Lib.hid (fun m => CP.out 0 (by omega) 1 rfl (wr.drewN m) ((HP.out.later hB.out).later (below_drewN (Below.refl _ _) m)))
      have M1 := Lib.hid (fun i hi m => CM.out k hlt i hi (wr.drewN m) ((HMA.out.later hB.out).later (below_drewN (Below.refl _ _) m)))
      have M0 := Lib.hid (fun m => CM.out 0 (by omega) 1 rfl (wr.drewN m) ((HMA.out.later hB.out).later (below_drewN (Below.refl _ _) m)))
      have e0 := HMM.out 0 (by omega)
      have e1 := HMM.out k (by omega)
      have a0 := okBk_load1 OK.out (k := 0) (by omega)
      have a1 := okBk_load1 OK.out (k := 0 + 1) (by omega)
      have a2 := okBk_load1 OK.out (k := k) (by omega)
      have a3 := okBk_load1 OK.out (k := k + 1) (by omega)
      have HC : Hid (curB X P k = decide (bnd P k * bnd M 0 = bnd P 0 * bnd M k)) := by show _ = _; rw [e0, e1]; rfl
      have HG : Hid (bnd P 0 < 0 → curB X P k = true → bnd P k < 0) := fun h0 h => cur_neg OK.out h0 hlt h
      have r1 := bnd_range HPB.out (k := k) (by rw [HPL.out]; omega)
      have r0 := bnd_range HPB.out (k := 0) (by rw [HPL.out]; omega)
      obtain ⟨u, hu⟩ : ∃ u, bnd P k = u := ⟨_, rfl⟩
      obtain ⟨v, hv⟩ : ∃ v, bnd M k = v := ⟨_, rfl⟩
      obtain ⟨v0, hv0⟩ : ∃ v, bnd M 0 = v := ⟨_, rfl⟩
      have b0 : 0 ≤ v0 ∧ v0 ≤ 2000 := by rw [← hv0, e0]; omega
      have b1 : 0 ≤ v ∧ v ≤ 2000 := by rw [← hv, e1]; omega
      obtain ⟨u0, hu0⟩ : ∃ u, bnd P 0 = u := ⟨_, rfl⟩
      have HK0 : Hid (k = 0 → u = u0) := fun h => by rw [← hu, ← hu0, h]
      rw [hu] at HC HG D1 r1
      rw [hv] at HC M1
      rw [hv0] at HC M0
      rw [hu0] at HC HG D0 r0
      obtain ⟨x0, x1⟩ := mul_bend r1.1 r1.2 b0.1 b0.2
      obtain ⟨x2, x3⟩ := mul_bend r0.1 r0.2 b1.1 b1.2
      obtain ⟨i, hi⟩ : ∃ i : Int, (k : Int) + 1 = i := ⟨_, rfl⟩
      have HI := Lib.hid hi
      have hi0 : 0 ≤ i := by omega
      have hi1 : i ≤ 10 := by omega
      have D1 := Lib.hid (D1.out i hi)
      have M1 := Lib.hid (M1.out i hi)
      have HU0 := Lib.hid hu0
      rw [hi] at hlt' ⊢
      clear e0 e1 a0 a1 a2 a3 hu hv hv0 hi hu0
      by_cases hneg : u < 0
      case neg =>
        have hge : 0 ≤ u := by omega
        go_wp2_with fail
        go_quiet (first | (go_at_call_of 94 (Value.slice s P.length t); go_at_call_of 94 (Value.int .i64 i); exact Calls.quiet_of (D1.out _)) | (go_at_call_of 94 (Value.slice s P.length t); exact Calls.quiet_of (D0.out _)) | (go_at_call_of 94 (Value.int .i64 i); exact Calls.quiet_of (M1.out _)) | (exact Calls.quiet_of (M0.out _)))
        go_wp2
        go_ret
        refine ⟨ret_bool ?_, bnext E0.out (below_drewN hB.out nq)⟩
        cases h0 : (decide (bnd P 0 < 0) && (List.range (X.A.length - 1)).all (curB X P))
        · rfl
        · rw [Bool.and_eq_true, decide_eq_true_eq, List.all_eq_true] at h0
          have h1 := HG.out (by rw [← HU0.out]; exact h0.1) (h0.2 k (List.mem_range.2 hlt))
          omega
      by_cases heq : u * v0 = u0 * v
      case neg =>
        have hw1 : IntKind.i64.wrap (u * v0) = u * v0 := IntWalk.i64_in _ (by omega)
        have hw2 : IntKind.i64.wrap (u0 * v) = u0 * v := IntWalk.i64_in _ (by omega)
        have hne : (IntKind.i64.wrap (u * v0) != IntKind.i64.wrap (u0 * v)) = true := by rw [hw1, hw2]; simp [heq]
        clear hw1 hw2
        go_wp2_with fail
        go_quiet (first | (go_at_call_of 94 (Value.slice s P.length t); go_at_call_of 94 (Value.int .i64 i); exact Calls.quiet_of (D1.out _)) | (go_at_call_of 94 (Value.slice s P.length t); exact Calls.quiet_of (D0.out _)) | (go_at_call_of 94 (Value.int .i64 i); exact Calls.quiet_of (M1.out _)) | (exact Calls.quiet_of (M0.out _)))
        go_wp2
        go_ret
        refine ⟨ret_bool ?_, bnext E0.out (below_drewN hB.out nq)⟩
        have h1 : curB X P k = false := by rw [HC.out]; simp [heq]
        have h2 : (List.range (X.A.length - 1)).all (curB X P) = false := by
          rw [List.all_eq_false]
          exact ⟨k, List.mem_range.2 hlt, by rw [h1]; simp⟩
        rw [h2, Bool.and_false]
      · go_wp2_with fail
        go_quiet (first | (go_at_call_of 94 (Value.slice s P.length t); go_at_call_of 94 (Value.int .i64 i); exact Calls.quiet_of (D1.out _)) | (go_at_call_of 94 (Value.slice s P.length t); exact Calls.quiet_of (D0.out _)) | (go_at_call_of 94 (Value.int .i64 i); exact Calls.quiet_of (M1.out _)) | (exact Calls.quiet_of (M0.out _)))
        go_wp2
        go_roundw
        case rel =>
          refine ⟨k + 1, by omega, ?_, fun j hj => ?_, fun _ => ?_, below_drewN hB.out nq⟩
          · have := HI.out
            rw [show i + 1 = ((k + 1 : Nat) : Int) + 1 by omega]
          · by_cases e : j = k
            · rw [e, HC.out]; simp [heq]
            · exact hM.out j (by omega)
          · by_cases hk0 : k = 0
            · rw [HU0.out, ← HK0.out hk0]; exact hneg
            · exact hN.out (by omega)
        case measure => simp [intOf]; omega
    · have hge : ¬ (k : Int) + 1 < (X.A.length : Int) := by omega
      go_wp2
      go_ret
      refine ⟨ret_bool ?_, bnext E0.out hB.out⟩
      have h1 : bnd P 0 < 0 := hN.out (by omega)
      have h2 : (List.range (X.A.length - 1)).all (curB X P) = true := by
        rw [List.all_eq_true]
        intro j hj
        exact hM.out j (by have := List.mem_range.1 hj; omega)
      rw [h2]; simp [h1]
set_option maxRecDepth 100000 in
set_option maxHeartbeats 6400000 in
theorem IsLine_impl (X : Bk) (P : List Int) (d : Int) (a b c : Option Addr) (ca cb cc : Nat) (hl : BkLen X 1048576) (s : Option Addr) (t : Nat) (hlP : P.length ≤ 1048576) (w : World) (ha : BkArg w a b c X) (hp : IntArg w s P) :
    Calls Try.prog 37 #[.agg #[.slice a X.A.length ca, .slice b X.L.length cb, .slice c X.H.length cc], .slice s P.length t, .int .i64 d] w fun e w' => e = .returned (.tuple #[.bool (lnV X P d), .int .i64 (lnC X P d)]) ∧ Below w.heap.size w w' := by
  have k0 := BkBox.new w X a b c ca cb cc 27
  have E0 := Lib.hid (balloc0 w (.cells #[.slice a X.A.length ca, .slice b X.L.length cb, .slice c X.H.length cc] 27))
  obtain ⟨U, hU⟩ : ∃ U, World.alloc w (.cells #[.slice a X.A.length ca, .slice b X.L.length cb, .slice c X.H.length cc] 27) = U := ⟨_, rfl⟩
  rw [hU] at k0 E0
  have E0 : Hid (Below w.heap.size w U) := E0.out
  have HU := Lib.hid hU
  have C := Lib.hid (bk_impl X a b c ca cb cc hl U (ha.later E0.out))
  have CA := Lib.hid (fun wx (hx : Below U.heap.size U wx) => allin_impl P (-100000000000) 100000000000 s t hlP wx ((hp.later E0.out).later hx))
  have CI := Lib.hid (fun wx => within_impl d 1 100000000 wx)
  have KB := Lib.hid k0
  obtain ⟨l1, l2, l3⟩ := hl
  cases hok : okBk X
  · have HR := Lib.hid (ln_no1 (P := P) (d := d) hok)
    rw [hok] at C
    clear hU k0 ha hp hok
    go_enter Try.func37, Try.ntmps37
    go_wp2_with fail
    rw [HU.out]
    obtain ⟨p0, p1, p2⟩ := KB.out
    try go_wp2_with fail
    refine C.out.mono ?_
    rintro e w1 ⟨rfl, hb1⟩
    have B1 := Lib.hid (bnext E0.out hb1)
    clear hb1
    go_wp2
    go_ret2
    exact ⟨ret_bi HR.out.1.symm HR.out.2.symm, B1.out⟩
  have OK := Lib.hid hok
  have HM := Lib.hid (fun wx (hx : Below U.heap.size U wx) => arch_impl X a b c ca cb cc hok wx ((ha.later E0.out).later hx))
  have HH := Lib.hid (fun (h1 : P.length = X.L.length) (d0 : 1 ≤ d) (d1 : d ≤ 100000000) sm M tm wx (hx : Below U.heap.size U wx) => has_impl X a b c ca cb cc sm M tm P s t d hok h1 d0 d1 wx ((ha.later E0.out).later hx) ((hp.later E0.out).later hx))
  have HC := Lib.hid (fun (h1 : P.length = X.L.length) (h2 : allB P (-100000000000) 100000000000 = true) sm tm wx (hx : Below U.heap.size U wx) (hm : IntArg wx sm (momsL X.A (X.A.length + 1))) => curve_impl X a b c ca cb cc sm tm P s t hok h1 h2 wx hm ((hp.later E0.out).later hx))
  rw [hok] at C
  clear hU k0 ha hp hok
  by_cases h2 : (P.length : Int) = (X.L.length : Int)
  case neg =>
    have HR := Lib.hid (ln_no2 (P := P) (d := d) OK.out (fun h => h2 (by rw [h.1])))
    go_enter Try.func37, Try.ntmps37
    go_wp2_with fail
    rw [HU.out]
    obtain ⟨p0, p1, p2⟩ := KB.out
    try go_wp2_with fail
    refine C.out.mono ?_
    rintro e w1 ⟨rfl, hb1⟩
    have B1 := Lib.hid (bnext E0.out hb1)
    clear p0 p1 p2
    obtain ⟨p0, p1, p2⟩ := KB.out.later hb1
    clear hb1
    go_wp2
    go_ret2
    exact ⟨ret_bi HR.out.1.symm HR.out.2.symm, B1.out⟩
  have H2 : Hid (P.length = X.L.length) := by show _ = _; omega
  have h2b : ((P.length : Int) != (X.L.length : Int)) = false := by simp [h2]
  clear h2
  cases h3 : allB P (-100000000000) 100000000000
  · have HR := Lib.hid (ln_no2 (P := P) (d := d) OK.out (fun h => by rw [h3] at h; exact Bool.noConfusion h.2.1))
    rw [h3] at CA
    clear h3
    go_enter Try.func37, Try.ntmps37
    go_wp2_with fail
    rw [HU.out]
    obtain ⟨p0, p1, p2⟩ := KB.out
    try go_wp2_with fail
    refine C.out.mono ?_
    rintro e w1 ⟨rfl, hb1⟩
    have B0 := Lib.hid hb1
    have B1 := Lib.hid (bnext E0.out hb1)
    clear p0 p1 p2
    obtain ⟨p0, p1, p2⟩ := KB.out.later hb1
    clear hb1
    go_wp2_with (first | (go_at_call 52; refine (CA.out _ B0.out).mono ?_; rintro e w2 ⟨rfl, rfl⟩))
    go_ret2
    exact ⟨ret_bi HR.out.1.symm HR.out.2.symm, B1.out⟩
  have H3 := Lib.hid h3
  rw [h3] at CA
  clear h3
  cases h4 : inB d 1 100000000
  · have HR := Lib.hid (ln_no2 (P := P) (d := d) OK.out (fun h => by rw [h4] at h; exact Bool.noConfusion h.2.2))
    rw [h4] at CI
    clear h4
    go_enter Try.func37, Try.ntmps37
    go_wp2_with fail
    rw [HU.out]
    obtain ⟨p0, p1, p2⟩ := KB.out
    try go_wp2_with fail
    refine C.out.mono ?_
    rintro e w1 ⟨rfl, hb1⟩
    have B0 := Lib.hid hb1
    have B1 := Lib.hid (bnext E0.out hb1)
    clear p0 p1 p2
    obtain ⟨p0, p1, p2⟩ := KB.out.later hb1
    clear hb1
    go_wp2_with (first | (go_at_call 52; refine (CA.out _ B0.out).mono ?_; rintro e w2 ⟨rfl, rfl⟩) | (go_at_call 51; refine (CI.out _).mono ?_; rintro e w3 ⟨rfl, rfl⟩))
    go_ret2
    exact ⟨ret_bi HR.out.1.symm HR.out.2.symm, B1.out⟩
  have HR := Lib.hid (ln_yes (P := P) (d := d) OK.out ⟨H2.out, H3.out, h4⟩)
  obtain ⟨d0, d1⟩ := inB_true.1 h4
  have HH := Lib.hid (HH.out H2.out d0 d1)
  have HC := Lib.hid (HC.out H2.out H3.out)
  have HE : Hid (isLn X P d = ((List.range P.length).all (witB X P d) && (decide (bnd P 0 < 0) && (List.range (X.A.length - 1)).all (curB X P)))) := rfl
  rw [h4] at CI
  clear h4 d0 d1
  obtain ⟨v1, hv1⟩ : ∃ v, (List.range P.length).all (witB X P d) = v := ⟨_, rfl⟩
  obtain ⟨v2, hv2⟩ : ∃ v, (decide (bnd P 0 < 0) && (List.range (X.A.length - 1)).all (curB X P)) = v := ⟨_, rfl⟩
  rw [hv1] at HH HE
  rw [hv2] at HC HE
  clear hv1 hv2
  obtain ⟨M, hMe⟩ : ∃ M, momsL X.A (X.A.length + 1) = M := ⟨_, rfl⟩
  rw [hMe] at HM HC
  clear hMe
  cases v1
  all_goals
    go_enter Try.func37, Try.ntmps37
    go_wp2_with fail
    rw [HU.out]
    obtain ⟨p0, p1, p2⟩ := KB.out
    try go_wp2_with fail
    refine C.out.mono ?_
    rintro e w1 ⟨rfl, hb1⟩
    have B0 := Lib.hid hb1
    clear p0 p1 p2
    obtain ⟨p0, p1, p2⟩ := KB.out.later hb1
    clear hb1
    go_wp2_with (first | (go_at_call 52; refine (CA.out _ B0.out).mono ?_; rintro e w2 ⟨rfl, rfl⟩) | (go_at_call 51; refine (CI.out _).mono ?_; rintro e w3 ⟨rfl, rfl⟩) | (go_at_call 54; refine (HM.out _ B0.out).mono ?_; rintro e w4 ⟨ao, cp, rfl, o4, hb4⟩; have B4 := Lib.hid (bnext B0.out hb4); have O4 := Lib.hid o4.arg; have Q4 := Lib.hid (ArBox.new w4 X a b c ca cb cc ao M cp 67); have zz4 := hb4.size; clear hb4 o4 p0 p1 p2; obtain ⟨⟨q0, q1, q2⟩, q3⟩ := Q4.out) | (go_at_call 69; refine (HH.out _ _ _ _ (balloc B4.out _)).mono ?_; rintro e w5 ⟨rfl, hb5⟩; have B5 := Lib.hid (bnext (balloc B4.out _) hb5); have O5 := Lib.hid ((O4.out.later (balloc0 _ _)).later hb5); clear q0 q1 q2 q3; obtain ⟨⟨q0, q1, q2⟩, q3⟩ := Q4.out.later hb5; clear hb5) | (go_at_call 70; refine (HC.out _ _ _ B5.out O5.out).mono ?_; rintro e w6 ⟨rfl, hb6⟩; have B6 := Lib.hid (bnext B5.out hb6); clear hb6))
    go_ret2
    first
      | exact ⟨ret_bi (by rw [HR.out.1, HE.out]; rfl) HR.out.2.symm, bnext E0.out B6.out⟩
      | exact ⟨ret_bi (by rw [HR.out.1, HE.out]; rfl) HR.out.2.symm, bnext E0.out B5.out⟩
end Go.Proofs.Ytlglijalhacmhaa
