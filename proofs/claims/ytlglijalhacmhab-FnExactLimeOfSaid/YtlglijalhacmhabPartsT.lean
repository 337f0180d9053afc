/-
  Values of a blend and codes: the model's.
-/
import Derived.Test.YtlglijalhacmhabPartsS
import Derived.Deep.QuietTactic
namespace Go.Proofs.Ytlglijalhacmhab
open Go.ChangeShapes Go.WideShapes Go.ChangeAt Go.RowKit Go.Joins

theorem specSum_range (P : List Int) (hl : P.length ≤ 1048576) : -1 ≤ specSum P ∧ specSum P ≤ 1048576000 := by
  unfold specSum
  split
  · rename_i h
    have := sumTo_range h
    unfold sumP
    omega
  · omega
theorem specSum_neg (P : List Int) (h : okParts P = false) : specSum P = -1 := by simp [specSum, h]
theorem specSum_pos (P : List Int) (h : okParts P = true) : specSum P = sumP P ∧ 0 ≤ sumP P := by
  have := sumTo_range h
  exact ⟨by simp [specSum, h], this.1⟩

set_option maxRecDepth 100000 in
set_option maxHeartbeats 1600000 in
theorem code3_spec (L : List Cl) (a : Option Addr) (cap : Nat) (hl : L.length ≤ 1048576) (P : List Int) (a' : Option Addr) (cap' : Nat) (hl' : P.length ≤ 1048576) (w : World) (ha : ClArg w a L) (ha' : IntArg w a' P) :
    Calls Try.prog 54 #[.slice a L.length cap, .slice a' P.length cap'] w fun e w' => e = .returned (.int .i64 (codeP L P true)) ∧ Below w.heap.size w w' := by
  have C := Lib.hid (okC_spec L a cap hl w ha)
  have HP := Lib.hid (fun wx (h : Below w.heap.size w wx) => sum_spec P a' cap' hl' wx (ha'.later h))
  clear ha ha'
  cases h1 : okCls L
  · rw [h1] at C
    go_enter Try.func54, Try.ntmps54
    go_wp2_with fail
    refine C.out.mono ?_
    rintro e w1 ⟨rfl, hb1⟩
    go_wp2
    go_ret
    exact ⟨ret_int (by simp [codeP, h1]), hb1⟩
  rw [h1] at C
  by_cases h2 : P.length = L.length
  case neg =>
    have h2' : ¬ (P.length : Int) = (L.length : Int) := by omega
    go_enter Try.func54, Try.ntmps54
    go_wp2_with fail
    refine C.out.mono ?_
    rintro e w1 ⟨rfl, hb1⟩
    go_wp2
    go_ret
    exact ⟨ret_int (by simp [codeP, h1, h2]), hb1⟩
  have E2 := Lib.hid h2
  have h2' : (L.length : Int) = (P.length : Int) := by omega
  clear h2
  cases h3 : okParts P
  · rw [specSum_neg P h3] at HP
    go_enter Try.func54, Try.ntmps54
    go_wp2_with fail
    refine C.out.mono ?_
    rintro e w1 ⟨rfl, hb1⟩
    have B1 := Lib.hid hb1
    clear hb1
    go_wp2_with fail
    refine (HP.out _ B1.out).mono ?_
    rintro e w2 ⟨rfl, hb2⟩
    have B2 := Lib.hid (bnext B1.out hb2)
    clear hb2
    go_wp2
    go_ret
    exact ⟨ret_int (by simp [codeP, h1, h3]), B2.out⟩
  obtain ⟨s1, s2⟩ := specSum_pos P h3
  rw [s1] at HP
  clear s1
  by_cases h4 : sumP P = 0
  all_goals
    have E4 := Lib.hid h4
    obtain ⟨q, hq⟩ : ∃ q, sumP P = q := ⟨_, rfl⟩
    have HQ := Lib.hid hq
    rw [hq] at HP s2 h4
    clear hq
    have h4' : q = 0 ∨ ¬ q = 0 := by omega
    go_enter Try.func54, Try.ntmps54
    go_wp2_with fail
    refine C.out.mono ?_
    rintro e w1 ⟨rfl, hb1⟩
    have B1 := Lib.hid hb1
    clear hb1
    go_wp2_with fail
    refine (HP.out _ B1.out).mono ?_
    rintro e w2 ⟨rfl, hb2⟩
    have B2 := Lib.hid (bnext B1.out hb2)
    clear hb2
    go_wp2_with fail
    refine (HP.out _ B2.out).mono ?_
    rintro e w3 ⟨rfl, hb3⟩
    have B3 := Lib.hid (bnext B2.out hb3)
    clear hb3
    go_wp2
    go_ret
    exact ⟨ret_int (by simp [codeP, h1, h3, E2.out, E4.out]), B3.out⟩

theorem of_spec (c : Cl) (b o : Nat) (k : Nat) (w : World) (c1 : w.cell? ⟨b, o + 1, none⟩ = some (.int .i64 c.sh)) (c2 : w.cell? ⟨b, o + 2, none⟩ = some (.int .i64 c.li)) (c3 : w.cell? ⟨b, o + 3, none⟩ = some (.int .i64 c.sa)) (c4 : w.cell? ⟨b, o + 4, none⟩ = some (.int .i64 c.pr)) (hk : k ≤ 3) :
    Calls Try.prog 139 #[.pointer (some ⟨b, o, none⟩), .int .i64 k] w fun e w' => e = .returned (.int .i64 ((match k with | 0 => Cl.sh | 1 => Cl.li | 2 => Cl.sa | _ => Cl.pr) c)) ∧ w = w' := by
  match k, hk with
  | 0, _ =>
    go_enter Try.func139, Try.ntmps139
    go_wp2
    go_ret
    exact ⟨rfl, rfl⟩
  | 1, _ =>
    go_enter Try.func139, Try.ntmps139
    go_wp2
    go_ret
    exact ⟨rfl, rfl⟩
  | 2, _ =>
    go_enter Try.func139, Try.ntmps139
    go_wp2
    go_ret
    exact ⟨rfl, rfl⟩
  | 3, _ =>
    go_enter Try.func139, Try.ntmps139
    go_wp2
    go_ret
    exact ⟨rfl, rfl⟩
/-- The value of a kind. -/
def kindF (k : Nat) : Cl → Int := match k with | 0 => Cl.sh | 1 => Cl.li | 2 => Cl.sa | _ => Cl.pr
theorem small_kind (k : Nat) : Small (kindF k) := by
  unfold kindF
  split
  · exact small_sh
  · exact small_li
  · exact small_sa
  · exact small_pr

set_option maxRecDepth 100000 in
set_option maxHeartbeats 1600000 in
theorem total_spec (L : List Cl) (a : Option Addr) (cap : Nat) (P : List Int) (a' : Option Addr) (cap' : Nat) (kd : Nat) (hk : kd ≤ 3) (hL : okCls L = true) (hP : okParts P = true) (hPL : P.length = L.length) (w : World) (ha : ClArg w a L) (ha' : IntArg w a' P) :
    Calls Try.prog 95 #[.slice a L.length cap, .slice a' P.length cap', .int .i64 kd] w fun e w' => e = .returned (.int .i64 (total (kindF kd) L P)) ∧ Below w.heap.size w w' := by
  have HA := Lib.hid ha
  have HA' := Lib.hid ha'
  have HF := Lib.hid (small_kind kd)
  have H6 := (okCls_all hL).1
  have HL := Lib.hid hL
  have HP := Lib.hid hP
  have HPL := Lib.hid hPL
  clear ha ha' hL hP hPL
  go_enter Try.func95, Try.ntmps95
  go_wp2
  go_loopw [7, 8] (fun s i wr => ∃ k : Nat, k ≤ L.length ∧ s = .int .i64 (wsum (kindF kd) L P k) ∧ i = .int .i64 k ∧ Hid (Below w.heap.size w wr)) (fun _ i _ => L.length - (intOf i).toNat)
  case atStart => exact ⟨0, Nat.zero_le _, rfl, rfl, Below.refl _ _⟩
  case round =>
    obtain ⟨k, hk, rfl, rfl, hB⟩ := hrel
    by_cases hlt : k < L.length
    · have hlt' : (k : Int) < (L.length : Int) := by omega
      have hk0 : (0 : Int) ≤ (k : Int) := by omega
      have hltP : (k : Int) < (P.length : Int) := by have := HPL.out; omega
      obtain ⟨b, o, c, rfl, hc, hat⟩ := (HA.out.later hB.out).at hlt
      obtain ⟨b', o', z, rfl, hz, hat'⟩ := (HA'.out.later hB.out).at (k := k) (by have := HPL.out; omega)
      obtain ⟨_, c1, c2, c3, c4⟩ := hat.cells hc
      have d0 := hat' k z hz
      obtain ⟨s0, s1⟩ := wsum_range HF.out HL.out HP.out k
      have v1 := HF.out c ((okCls_all HL.out).2 k c hc).1
      have v2 := okParts_at HP.out hz
      obtain ⟨p0, p1⟩ := mul_range v1 v2
      have HS := Lib.hid (wsum_step (f := kindF kd) hc hz)
      have C := Lib.hid (fun n => of_spec c b (o + k * 5) kd (wr.drewN n) (by simpa using c1) (by simpa using c2) (by simpa using c3) (by simpa using c4) (by omega))
      obtain ⟨q, hq⟩ : ∃ q, wsum (kindF kd) L P k = q := ⟨_, rfl⟩
      rw [hq] at s0 s1 HS
      rw [hq]
      obtain ⟨v, hv⟩ : ∃ v, kindF kd c = v := ⟨_, rfl⟩
      have C' : Hid (∀ n, Calls Try.prog 139 #[.pointer (some ⟨b, o + k * 5, none⟩), .int .i64 kd] (wr.drewN n) fun e w'' => e = .returned (.int .i64 v) ∧ ∃ m, w'' = wr.drewN m) := fun n => (C.out n).mono (fun e w'' h => ⟨by rw [← hv]; exact h.1, n, h.2.symm⟩)
      rw [hv] at v1 p0 p1 HS
      clear hq hv hc hz hat hat' C
      go_wp2_with fail
      go_quiet (first | (go_at_call 139; exact C'.out _))
      go_wp2
      trace_state
      go_roundw
      case rel =>
        refine ⟨k + 1, by omega, ?_, by go_num, below_drewN hB.out _⟩
        rw [HS.out]
      case measure => simp [intOf]; omega
    · have hge : ¬ (k : Int) < (L.length : Int) := by omega
      have hkn : k = L.length := by omega
      subst hkn
      go_wp2
      go_ret
      exact ⟨rfl, hB.out⟩
end Go.Proofs.Ytlglijalhacmhab
