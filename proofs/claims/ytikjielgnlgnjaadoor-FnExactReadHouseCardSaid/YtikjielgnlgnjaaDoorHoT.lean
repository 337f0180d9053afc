/-
  Plans by the model: which one is right, its code, its sides in a course.
-/
import Derived.Test.YtikjielgnlgnjaaDoorHoS
namespace Go.Proofs.YtikjielgnlgnjaaDoor
open Go.ChangeShapes Go.WideShapes Go.ChangeAt Go.RowKit Go.Joins

theorem HoBox.new {a : Option Addr} {cap : Nat} {P : List Int} {T : ByteArray} (w : World) (t : TypeId) : HoBox w.heap.size a cap P T (w.alloc (.cells #[.slice a P.length cap, .string T] t)) := boxH w _ T t
set_option maxRecDepth 100000 in
set_option maxHeartbeats 6400000 in
theorem okH_spec (P : List Int) (T : ByteArray) (a : Option Addr) (cap : Nat) (hl : P.length ≤ 1048576) (_hs : T.size ≤ 1048576) (b : Nat) (w : World) (hb : HoBox b a cap P T w) (ha : IntArg w a P) :
    Calls Tryd.prog 51 #[.pointer (some ⟨b, 0, none⟩)] w fun e w' => e = .returned (.bool (okHo P T)) ∧ Below w.heap.size w w' := by
  have HO : Hid (okHo P T = (inB (P.length : Int) 4 12 && (decide (T.size = P.length) && (runsB P && (lrB T && (roundB T && backB P T)))))) := rfl
  have IW := Lib.hid (fun z => in_any z 8 200)
  have IL := Lib.hid (in_any (P.length : Int) 4 12)
  obtain ⟨d0, d1⟩ := hb
  have HA := Lib.hid ha
  have HBX := Lib.hid (show HoBox b a cap P T w from ⟨d0, d1⟩)
  clear ha
  cases h1 : inB (P.length : Int) 4 12
  · rw [h1] at IL HO
    go_enter Tryd.func51, Tryd.ntmps51
    go_wp2_with (go_at_call 69; refine (IL.out _).mono ?_; rintro e w1 ⟨rfl, rfl⟩)
    go_ret
    exact ⟨ret_bool (by rw [HO.out]; rfl), Below.refl _ _⟩
  have hn := inB_true.1 h1
  rw [h1] at IL HO
  by_cases h2 : T.size = P.length
  case neg =>
    have h2' : ¬ (T.size : Int) = (P.length : Int) := by omega
    rw [decide_eq_false h2] at HO
    clear h2
    go_enter Tryd.func51, Tryd.ntmps51
    go_wp2_with (go_at_call 69; refine (IL.out _).mono ?_; rintro e w1 ⟨rfl, rfl⟩)
    go_ret
    exact ⟨ret_bool (by rw [HO.out]; simp), Below.refl _ _⟩
  have h2' : (T.size : Int) = (P.length : Int) := by omega
  rw [decide_eq_true h2] at HO
  have PT : Hid (runsB P = true → lrB T = true → ∀ wx, Below w.heap.size w wx → Calls Tryd.prog 63 #[.pointer (some ⟨b, 0, none⟩)] wx fun e w' => ∃ v bs, e = .returned v ∧ PrRow wx.heap.size v (ptsC P T (P.length + 1)) bs w' ∧ Below wx.heap.size wx w') := fun hr _ wx hx =>
    points_spec P T a cap hr (by omega) h2 b wx (HBX.out.later hx) (HA.out.later hx)
  have H2 := Lib.hid h2
  clear h1
  go_enter Tryd.func51, Tryd.ntmps51
  go_wp2_with (go_at_call 69; refine (IL.out _).mono ?_; rintro e w1 ⟨rfl, rfl⟩)
  go_loop [4, 5] (fun t i => ∃ (k : Nat) (q : Int), k ≤ P.length ∧ t = .int .i64 q ∧ i = .int .i64 (k : Int) ∧ -(k : Int) ≤ q ∧ q ≤ (k : Int) ∧ Hid (q = (nTurn T 76 k : Int) - (nTurn T 82 k : Int)) ∧ Hid (∀ (j : Nat) (z : Int), j < k → P[j]? = some z → inB z 8 200 = true) ∧ Hid (∀ (j : Nat) (hj : j < T.size), j < k → isLR (T[j]'hj) = true)) (fun _ i => P.length - (intOf i).toNat)
  case atStart => exact ⟨0, 0, Nat.zero_le _, rfl, rfl, by simp, by simp, by show (0 : Int) = _; rw [nTurn_zero, nTurn_zero]; rfl, fun j z h => by omega, fun j hj h => by omega⟩
  case round =>
    obtain ⟨k, q, hk, rfl, rfl, hq0, hq1, hQ, hM, hN⟩ := hrel
    by_cases hlt : k < P.length
    · have hlt' : (k : Int) < (P.length : Int) := by omega
      have hk0 : (0 : Int) ≤ (k : Int) := by omega
      have hkT : k < T.size := by have := H2.out; omega
      have hkT' : (k : Int) < (T.size : Int) := by omega
      obtain ⟨bb, o, z, rfl, hz, hat⟩ := HA.out.at hlt
      have c0 := hat k z hz
      have HZ := Lib.hid hz
      have W0 := Lib.hid (IW.out z)
      clear hat hz
      cases hin : inB z 8 200
      · have HR : Hid (runsB P = false) := by
          show _ = _
          unfold runsB
          rw [List.all_eq_false]
          exact ⟨z, List.mem_of_getElem? HZ.out, by rw [hin]; simp⟩
        rw [hin] at W0
        go_wp2_with (go_at_call 69; refine (W0.out _).mono ?_; rintro e w1 ⟨rfl, rfl⟩)
        go_ret
        exact ⟨ret_bool (by rw [HO.out, HR.out]; simp), Below.refl _ _⟩
      · rw [hin] at W0
        have HI := Lib.hid hin
        clear hin
        have M1 : Hid (∀ (j : Nat) (z : Int), j < k + 1 → P[j]? = some z → inB z 8 200 = true) := fun j y hj hy => by
          by_cases e : j = k
          · subst e
            rw [HZ.out] at hy
            cases hy
            exact HI.out
          · exact hM.out j y (by omega) hy
        have S1 := Lib.hid (nTurn_succ (T := T) 76 hkT)
        have S2 := Lib.hid (nTurn_succ (T := T) 82 hkT)
        by_cases hL : ((T[k]'hkT).toNat : Int) = 76
        · have e1 : T[k]'hkT = 76 := (u8_eqH _ 76 (by omega)).2 hL
          have N1 : Hid (∀ (j : Nat) (hj : j < T.size), j < k + 1 → isLR (T[j]'hj) = true) := fun j hj h => by
            by_cases e : j = k
            · subst e; rw [e1]; rfl
            · exact hN.out j hj (by omega)
          have Q1 : Hid (q + 1 = (nTurn T 76 (k + 1) : Int) - (nTurn T 82 (k + 1) : Int)) := by
            show _ = _
            rw [S1.out, S2.out, hQ.out, e1]
            simp
            omega
          clear e1
          go_wp2_with (go_at_call 69; refine (W0.out _).mono ?_; rintro e w1 ⟨rfl, rfl⟩)
          go_round
          case rel => exact ⟨k + 1, q + 1, by omega, by first | rfl | go_num, by go_num, by omega, by omega, Q1.out, M1.out, N1.out⟩
          case measure => simp [intOf]; omega
        by_cases hR : ((T[k]'hkT).toNat : Int) = 82
        · have e1 : T[k]'hkT = 82 := (u8_eqH _ 82 (by omega)).2 hR
          have N1 : Hid (∀ (j : Nat) (hj : j < T.size), j < k + 1 → isLR (T[j]'hj) = true) := fun j hj h => by
            by_cases e : j = k
            · subst e; rw [e1]; rfl
            · exact hN.out j hj (by omega)
          have Q1 : Hid (q - 1 = (nTurn T 76 (k + 1) : Int) - (nTurn T 82 (k + 1) : Int)) := by
            show _ = _
            rw [S1.out, S2.out, hQ.out, e1]
            simp
            omega
          clear e1
          go_wp2_with (go_at_call 69; refine (W0.out _).mono ?_; rintro e w1 ⟨rfl, rfl⟩)
          go_round
          case rel => exact ⟨k + 1, q - 1, by omega, by first | rfl | go_num, by go_num, by omega, by omega, Q1.out, M1.out, N1.out⟩
          case measure => simp [intOf]; omega
        · have HL : Hid (lrB T = false) := by
            show _ = _
            unfold lrB
            rw [List.all_eq_false]
            have hk2 : k < T.data.toList.length := by simpa using hkT
            refine ⟨T.data.toList[k]'hk2, List.getElem_mem hk2, ?_⟩
            have n1 : ¬ T[k]'hkT = 76 := fun e => hL ((u8_eqH _ 76 (by omega)).1 e)
            have n2 : ¬ T[k]'hkT = 82 := fun e => hR ((u8_eqH _ 82 (by omega)).1 e)
            have : T.data.toList[k]'hk2 = T[k]'hkT := rfl
            rw [this]
            simp [isLR, n1, n2]
          go_wp2_with (go_at_call 69; refine (W0.out _).mono ?_; rintro e w1 ⟨rfl, rfl⟩)
          go_ret
          exact ⟨ret_bool (by rw [HO.out, HL.out]; simp), Below.refl _ _⟩
    · have hge : ¬ (k : Int) < (P.length : Int) := by omega
      have hkn : k = P.length := by omega
      have HR : runsB P = true := by
        unfold runsB
        rw [List.all_eq_true]
        intro z hz
        obtain ⟨j, hj, he⟩ := List.mem_iff_getElem.1 hz
        exact hM.out j z (by omega) (by rw [List.getElem?_eq_getElem hj, he])
      have HL : lrB T = true := by
        unfold lrB
        rw [List.all_eq_true]
        intro x hx
        obtain ⟨j, hj, he⟩ := List.mem_iff_getElem.1 hx
        have hj2 : j < T.size := by simpa using hj
        have := hN.out j hj2 (by have := H2.out; omega)
        rw [← he]
        exact this
      have HRd : Hid (roundB T = decide (q = 4)) := by
        show _ = _
        have := hQ.out
        rw [hkn, ← H2.out] at this
        unfold roundB
        rw [decide_eq_decide, this]
        omega
      rw [HR, HL] at HO
      have PT := Lib.hid (PT.out HR HL)
      have HBk : Hid (backB P T = (decide ((spot P T P.length).x = 0) && decide ((spot P T P.length).y = 0))) := rfl
      have LAST := Lib.hid (ptsC_at (P := P) (T := T) (m := P.length + 1) (k := P.length) (by omega))
      have LEN := Lib.hid (ptsC_length P T (P.length + 1))
      obtain ⟨Q, hQe⟩ : ∃ Q, ptsC P T (P.length + 1) = Q := ⟨_, rfl⟩
      rw [hQe] at LAST LEN PT
      obtain ⟨x, hx⟩ : ∃ x, (spot P T P.length).x = x := ⟨_, rfl⟩
      obtain ⟨y, hy⟩ : ∃ y, (spot P T P.length).y = y := ⟨_, rfl⟩
      rw [hx, hy] at LAST HBk
      clear HR HL hQe hx hy hM hN hQ
      subst hkn
      go_wp2_with fail
      refine (PT.out _ (Below.refl _ _)).mono ?_
      rintro e w1 ⟨v, bs, rfl, hP, hb1⟩
      have B1 := Lib.hid hb1
      obtain ⟨g, cp, bq, rfl, g0, i0⟩ := hP.lies.2 P.length _ LAST.out
      have g1 := i0 0 _ rfl
      have g2 := i0 1 _ rfl
      have hlen : (P.length : Int) < (Q.length : Int) := by have := LEN.out; omega
      have hlen0 : (0 : Int) ≤ (P.length : Int) := by omega
      clear hb1 hP i0
      simp only [Nat.zero_add] at g1 g2
      by_cases e0 : q = 4
      · by_cases e1 : x = 0
        · by_cases e2 : y = 0
          · go_wp2
            go_ret
            exact ⟨ret_bool (by rw [HO.out, HRd.out, HBk.out]; simp [e0, e1, e2]), B1.out⟩
          · go_wp2
            go_ret
            exact ⟨ret_bool (by rw [HO.out, HRd.out, HBk.out]; simp [e0, e1, e2]), B1.out⟩
        · go_wp2
          go_ret
          exact ⟨ret_bool (by rw [HO.out, HRd.out, HBk.out]; simp [e0, e1]), B1.out⟩
      · go_wp2
        go_ret
        exact ⟨ret_bool (by rw [HO.out, HRd.out]; simp [e0]), B1.out⟩
theorem validHouse_spec (P : List Int) (T : ByteArray) (a : Option Addr) (cap : Nat) (hl : P.length ≤ 1048576) (hs : T.size ≤ 1048576) (w : World) (ha : IntArg w a P) :
    Calls Tryd.prog 16 #[.agg #[.slice a P.length cap, .string T]] w fun e w' => e = .returned (.bool (okHo P T)) ∧ Below w.heap.size w w' := by
  obtain ⟨W0, hW⟩ : ∃ W0, w.alloc (.cells #[.slice a P.length cap, .string T] 27) = W0 := ⟨_, rfl⟩
  have E0 : Hid (Below w.heap.size w W0) := by show Below w.heap.size w W0; rw [← hW]; exact balloc0 _ _
  have C := Lib.hid (okH_spec P T a cap hl hs w.heap.size W0 (by rw [← hW]; exact HoBox.new w _) (ha.later E0.out))
  have HW := Lib.hid hW
  clear hW ha
  go_enter Tryd.func16, Tryd.ntmps16
  go_wp2_with fail
  rw [HW.out]
  refine C.out.mono ?_
  rintro e w1 ⟨rfl, hb1⟩
  have B1 := Lib.hid (bnext E0.out hb1)
  clear hb1
  go_wp2
  go_ret
  exact ⟨rfl, B1.out⟩
end Go.Proofs.YtikjielgnlgnjaaDoor
