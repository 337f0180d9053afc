/-
  LayWall: the program.
-/
import Derived.Test.YtbhjdhkabhafmaaDoorLw
import Derived.Test.YtbhjdhkabhafmaaDoorWaY
namespace Go.Proofs.YtbhjdhkabhafmaaDoor
open Go.ChangeShapes Go.WideShapes Go.ChangeAt Go.RowKit Go.Joins

theorem bCode_k {nm : ByteArray} {L : List Co} {t : Int} (h : bCode nm L 0 t = 0) (k : Nat) (hk : k ≤ 1000) : bCode nm L (k : Int) t = 0 := by
  obtain ⟨h1, _, h3⟩ := bCode_facts h
  unfold bCode
  rw [if_pos h1, if_pos]
  simp only [Bool.and_eq_true, inB_true]
  omega
set_option maxRecDepth 100000 in
set_option maxHeartbeats 6400000 in
theorem layWall_impl (nm : ByteArray) (L : List Co) (a : Option Addr) (cap : Nat) (hl : L.length ≤ 1048576) (hs : CosLe 1048576 L) (til n : Int) (w : World) (ha : CoArg w a L) (hfa : FilAt w) :
    Calls Tryd.prog 34 #[.agg #[.string nm, .slice a L.length cap], .int .i64 til, .int .i64 n] w (LwAns w nm L til n) := by
  obtain ⟨d0, d1⟩ := boxB w nm (.slice a L.length cap) 39
  obtain ⟨W0, hW⟩ : ∃ W0, w.alloc (.cells #[.string nm, .slice a L.length cap] 39) = W0 := ⟨_, rfl⟩
  have E0 : Hid (Below w.heap.size w W0) := by show Below w.heap.size w W0; rw [← hW]; exact balloc0 _ _
  rw [hW] at d0 d1
  have K : Hid (∀ wx, Below W0.heap.size W0 wx → wx.cell? ⟨w.heap.size, 0, none⟩ = some (.string nm) ∧ wx.cell? ⟨w.heap.size, 1, none⟩ = some (.slice a L.length cap)) := fun wx hx =>
    ⟨(hx.cell (p := ⟨w.heap.size, 0, none⟩) (World.block_lt_of_cell? W0 _ d0)).trans d0, (hx.cell (p := ⟨w.heap.size, 1, none⟩) (World.block_lt_of_cell? W0 _ d1)).trans d1⟩
  have HW := Lib.hid hW
  have HA := Lib.hid (ha.later E0.out)
  have HFA := Lib.hid (hfa.later E0.out)
  have C : Hid (Calls Tryd.prog 67 #[.agg #[.string nm, .slice a L.length cap], .int .i64 til, .slice none 0 0] W0 fun e w' => e = .returned (.int .i64 (bCodeL nm L [] til)) ∧ Below W0.heap.size W0 w') :=
    checkBond_impl nm L a cap hl hs [] none 0 (by simp) til _ HA.out (.inl rfl)
  rw [bCodeL_nil] at C
  by_cases hc : bCode nm L 0 til = 0
  case neg =>
    obtain ⟨e1, e2⟩ := lw_bad (n := n) hc
    unfold LwAns
    rw [e1, e2]
    obtain ⟨q, hq⟩ : ∃ q, bCode nm L 0 til = q := ⟨_, rfl⟩
    rw [hq] at C hc ⊢
    clear hW hq ha e1 e2 hfa
    go_enter Tryd.func34, Tryd.ntmps34
    go_wp2_with fail
    rw [HW.out]
    refine C.out.mono ?_
    rintro e w1 ⟨rfl, hb1⟩
    have B1 := Lib.hid (bnext E0.out hb1)
    clear hb1
    go_wp2_with fail
    go_ret2
    exact ⟨none, 0, rfl, .inl rfl, B1.out⟩
  obtain ⟨hok, _, u0, u1⟩ := bCode_facts hc
  have HC := Lib.hid hc
  rw [hc] at C
  cases hin : inB n 1 40
  · obtain ⟨e1, e2⟩ := lw_range hc hin
    unfold LwAns
    rw [e1, e2]
    clear hW ha e1 e2 hc hfa
    have IN : Hid (∀ wx, Calls Tryd.prog 52 #[.int .i64 n, .int .i64 1, .int .i64 40] wx fun e w' => e = .returned (.bool false) ∧ wx = w') := fun wx => by rw [← hin]; exact wa_impl n 1 40 wx
    clear hin
    go_enter Tryd.func34, Tryd.ntmps34
    go_wp2_with fail
    rw [HW.out]
    refine C.out.mono ?_
    rintro e w1 ⟨rfl, hb1⟩
    have B1 := Lib.hid (bnext E0.out hb1)
    clear hb1
    go_wp2_with fail
    refine (IN.out _).mono ?_
    rintro e w2 ⟨rfl, rfl⟩
    go_wp2_with fail
    go_ret2
    exact ⟨none, 0, rfl, .inl rfl, B1.out⟩
  have hn := inB_true.1 hin
  obtain ⟨m, rfl⟩ := Int.eq_ofNat_of_zero_le (show 0 ≤ n by omega)
  obtain ⟨u, rfl⟩ := Int.eq_ofNat_of_zero_le (show 0 ≤ til by omega)
  have IN : Hid (∀ wx, Calls Tryd.prog 52 #[.int .i64 (m : Int), .int .i64 1, .int .i64 40] wx fun e w' => e = .returned (.bool true) ∧ wx = w') := fun wx => by rw [← hin]; exact wa_impl _ 1 40 wx
  have A1 := Lib.hid (fun (k : Nat) (_ : k ≤ 1000) wx (hx : Below W0.heap.size W0 wx) => layCourse_impl nm L a cap hl hs (k : Int) (u : Int) wx (HA.out.later hx) (HFA.out.later hx))
  have HCK := Lib.hid (fun (k : Nat) (hk : k ≤ 1000) => bCode_k HC.out k hk)
  have HIN := Lib.hid hin
  have HFUL : Hid (∀ k, k < m → ¬ (layL (crs L k) u).length ≤ 60 → lwC nm L (u : Int) (m : Int) = 5 ∧ lwV nm L (u : Int) (m : Int) = []) := fun k hk h => lw_full HC.out HIN.out (by simpa using lwF_bad hk h)
  have HGOO : Hid (lwF L u m = true → lwC nm L (u : Int) (m : Int) = 0 ∧ lwV nm L (u : Int) (m : Int) = lwTo L u m) := fun h => by have := lw_good HC.out HIN.out (by simpa using h); simpa using this
  clear hW ha hc hin hfa hs
  go_enter Tryd.func34, Tryd.ntmps34
  go_wp2_with fail
  rw [HW.out]
  refine C.out.mono ?_
  rintro e w1 ⟨rfl, hb1⟩
  have B1 := Lib.hid hb1
  clear hb1
  go_wp2_with fail
  refine (IN.out _).mono ?_
  rintro e w2 ⟨rfl, rfl⟩
  go_wp2
  have S0 : w1.ownsRow w1.heap.size 9 1 (.slice none 0 0) 0 (strVals []) := World.ownsRow_nil _ _ _ _
  have SB : Below w1.heap.size w1 w1 := Below.refl _ _
  go_loopw [9, 23] (fun v i wr => ∃ (k : Nat) (P : List ByteArray) (ao : Option Addr) (cp : Nat), v = .slice ao k cp ∧ i = .int .i64 (k : Int) ∧ k ≤ m ∧ Hid (wr.ownsRow w1.heap.size 9 1 (.slice ao k cp) k (strVals P)) ∧ Hid (P = lwTo L u k) ∧ Hid (lwF L u k = true) ∧ Hid (Below w1.heap.size w1 wr)) (fun _ i _ => m - (intOf i).toNat)
  case atStart => exact ⟨0, [], _, _, rfl, rfl, Nat.zero_le _, S0, rfl, rfl, SB⟩
  case round =>
    obtain ⟨k, P, ao, cp, rfl, rfl, hk, hO, hP, hF, hB⟩ := hrel
    by_cases hlt : k < m
    · have hlt' : (k : Int) < (m : Int) := by omega
      have hk0 : (0 : Int) ≤ (k : Int) := by omega
      obtain ⟨i0, hi, hz0, hz1, hz2⟩ := info_parts infoStrB
      have c3 : Hid (k + 1 ≤ maxLen) := by show k + 1 ≤ maxLen; unfold maxLen; omega
      by_cases h60 : (layL (crs L k) u).length ≤ 60
      · have HN : Hid (lwF L u (k + 1) = true) := by show lwF L u (k + 1) = true; rw [lwF_succ, hF.out]; simp [h60]
        have HBk : Hid (lwB L u k = ⟨(layL (crs L k) u).toArray⟩) := rfl
        have LA := Lib.hid (A1.out k (by omega) wr (bnext B1.out hB.out))
        have e1 := ly_good (HCK.out k (by omega)) (by rw [lyL_nat]; exact h60)
        rw [e1.1, e1.2, lyL_nat] at LA
        obtain ⟨VB, hVB⟩ : ∃ VB : ByteArray, ⟨(layL (crs L k) u).toArray⟩ = VB := ⟨_, rfl⟩
        rw [hVB] at LA HBk
        obtain ⟨y0, y1⟩ := K.out _ (bnext B1.out hB.out)
        clear e1 hVB h60
        go_wp2_with fail
        refine LA.out.mono ?_
        rintro e w3 ⟨rfl, hb3⟩
        have O3 := Lib.hid (own_later hO.out hb3)
        have B3 := Lib.hid (bnext hB.out hb3)
        have z3 : w1.heap.size ≤ w3.heap.size := B3.out.size
        clear hb3
        go_wp2_with (at_builtin; go_must ((refine wpList_append_own _ rfl _ _ 43 rfl w1.heap.size 9 i0 (.string ⟨#[]⟩) 1 16 Tryd.underlying43 hi hz0 hz1 hz2 rfl (by decide) (.slice ao k cp) k (strVals P) rfl (O3.out.alloc _) ⟨w3.heap.size, 0, none⟩ 1 1 [.string VB] rfl rfl ((litS w1.heap.size w3 VB z3).cells rfl) (by simp [Value.oneCell']) c3.out (by omega) (by simp; omega) ?_; intro v5 w5 hown5 hgrow5 _; obtain ⟨g5, cp5, hv5⟩ := own_form8S hown5 (Nat.succ_ne_zero k); subst hv5; have O5 := Lib.hid hown5; have B5 : Hid (Below w1.heap.size w1 w5) := (B3.out.alloc z3 _).grown hgrow5 (by simp; omega) (fun q hq => (O3.out.lt q hq).1); clear hown5 hgrow5)))
        go_roundw
        case rel => exact ⟨k + 1, P ++ [VB], _, _, rfl, by go_num, by omega, by have := O5.out; rw [strVals_snoc] at this; exact this, by show P ++ [VB] = _; rw [lwTo_succ, hP.out, HBk.out], HN.out, B5.out⟩
        case measure => simp [intOf]; omega
      · have HFX := Lib.hid (HFUL.out k hlt h60)
        have LA := Lib.hid (A1.out k (by omega) wr (bnext B1.out hB.out))
        have e1 := ly_full (HCK.out k (by omega)) (by rw [lyL_nat]; exact h60)
        rw [e1.1, e1.2] at LA
        obtain ⟨y0, y1⟩ := K.out _ (bnext B1.out hB.out)
        clear e1 h60
        go_wp2_with fail
        refine LA.out.mono ?_
        rintro e w3 ⟨rfl, hb3⟩
        have B3 := Lib.hid (bnext hB.out hb3)
        clear hb3
        go_wp2_with fail
        go_ret2
        exact ⟨none, 0, by rw [HFX.out.1, HFX.out.2]; rfl, by rw [HFX.out.2]; exact .inl rfl, bnext E0.out <| bnext B1.out <| B3.out⟩
    · have hge : ¬ (k : Int) < (m : Int) := by omega
      have hkn : k = m := by omega
      subst hkn
      have HG := Lib.hid (HGOO.out hF.out)
      have hpl : P.length = k := by rw [hP.out, lwTo_length]
      obtain ⟨a2, cap2, hv, hr⟩ := str_res (P := P) (by rw [hpl]; exact hO.out)
      rw [hpl] at hv
      cases hv
      have HR : Hid (StrRes w.heap.size P ao wr) := hr.mono (bnext E0.out <| bnext B1.out <| (Below.refl _ _)).size
      have HPL : Hid ((lwTo L u k).length = k) := lwTo_length _ _ _
      clear hpl hr
      go_wp2_with fail
      go_ret2
      exact ⟨ao, cp, by rw [HG.out.1, HG.out.2, HPL.out]; rfl, by rw [HG.out.2, ← hP.out]; exact HR.out, bnext E0.out <| bnext B1.out <| hB.out⟩
end Go.Proofs.YtbhjdhkabhafmaaDoor
