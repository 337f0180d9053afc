/-
  The first limit that a blend does not keep: the model's answer.
-/
import Derived.Test.YtlglijalhacmhabMean
import Derived.Deep.QuietTactic
namespace Go.Proofs.Ytlglijalhacmhab
open Go.ChangeShapes Go.WideShapes Go.ChangeAt Go.RowKit Go.Joins

/-- The first fault, as a text, out of the sums of shrinkage, lime, sand and parts. -/
def fv (S I A Y : Int) (x : Li) : ByteArray :=
  if S < x.lo * Y then ⟨#[108, 105, 116, 116, 108, 101]⟩ else if x.hi * Y < S then ⟨#[109, 117, 99, 104]⟩ else if x.ml * Y < I then ⟨#[108, 105, 109, 101]⟩ else if x.ms * Y < A then ⟨#[115, 97, 110, 100]⟩ else ⟨#[110, 111, 110, 101]⟩
def faultV (L : List Cl) (P : List Int) (x : Li) : ByteArray := fv (total Cl.sh L P) (total Cl.li L P) (total Cl.sa L P) (sumP P) x

set_option maxRecDepth 100000 in
set_option maxHeartbeats 1600000 in
theorem sum_still (P : List Int) (hP : okParts P = true) (a : Option Addr) (cap : Nat) (hl : P.length ≤ 1048576) (w : World) (ha : IntArg w a P) :
    Calls Try.prog 96 #[.slice a P.length cap] w fun e w' => e = .returned (.int .i64 (sumP P)) ∧ w = w' := by
  have HA := Lib.hid ha
  have HP := Lib.hid hP
  clear ha hP
  go_enter Try.func96, Try.ntmps96
  go_wp2
  go_loop [3, 4] (fun s i => ∃ k : Nat, k ≤ P.length ∧ s = .int .i64 (sumTo P k) ∧ i = .int .i64 k) (fun _ i => P.length - (intOf i).toNat)
  case atStart => exact ⟨0, Nat.zero_le _, rfl, rfl⟩
  case round =>
    obtain ⟨k, hk, rfl, rfl⟩ := hrel
    obtain ⟨s0, s1⟩ := sumTo_range (partsTo_mono hk HP.out)
    by_cases hlt : k < P.length
    · have hlt' : (k : Int) < (P.length : Int) := by omega
      have hk0 : (0 : Int) ≤ (k : Int) := by omega
      obtain ⟨b, o, z, rfl, hz, hat⟩ := HA.out.at hlt
      have c0 := hat k z hz
      have HZ := Lib.hid (sumTo_step hz)
      obtain ⟨z0, z1⟩ := okParts_at HP.out hz
      have hi : inB z 0 1000 = true := inB_true.2 ⟨z0, z1⟩
      clear hz hat
      obtain ⟨q, hq⟩ : ∃ q, sumTo P k = q := ⟨_, rfl⟩
      rw [hq] at s0 s1 HZ
      rw [hq]
      clear hq
      go_wp2_with (go_at_call 71; refine (in_any _ _ _ _).mono ?_; rintro e w' ⟨rfl, rfl⟩)
      go_round
      case rel => exact ⟨k + 1, by omega, by rw [HZ.out], by go_num⟩
      case measure => simp [intOf]; omega
    · have hge : ¬ (k : Int) < (P.length : Int) := by omega
      have hkn : k = P.length := by omega
      subst hkn
      go_wp2
      go_ret
      exact ⟨rfl, rfl⟩

theorem drewN_two (w : World) (n m : Nat) : ∃ k, (w.drewN n).drewN m = w.drewN k := by
  refine ⟨n + m, ?_⟩
  induction m with
  | zero => rfl
  | succ m ih => show ((w.drewN n).drewN m).drew = (w.drewN (n + m)).drew; rw [ih]

set_option maxRecDepth 100000 in
set_option maxHeartbeats 1600000 in
theorem total_quiet (L : List Cl) (a : Option Addr) (cap : Nat) (P : List Int) (a' : Option Addr) (cap' : Nat) (kd : Nat) (hk : kd ≤ 3) (hL : okCls L = true) (hP : okParts P = true) (hPL : P.length = L.length) (w : World) (ha : ClArg w a L) (ha' : IntArg w a' P) :
    Calls Try.prog 95 #[.slice a L.length cap, .slice a' P.length cap', .int .i64 kd] w fun e w' => e = .returned (.int .i64 (total (kindF kd) L P)) ∧ ∃ n, w' = w.drewN n := by
  have HA := Lib.hid ha
  have HA' := Lib.hid ha'
  have HF := Lib.hid (small_kind kd)
  have H6 := (okCls_all hL).1
  have HL := Lib.hid hL
  have HP := Lib.hid hP
  have HPL := Lib.hid hPL
  clear ha ha' hL hP hPL
  go_enter Try.func95, Try.ntmps95
  go_wp2
  go_loopw [7, 8] (fun s i wr => ∃ k n : Nat, wr = w.drewN n ∧ k ≤ L.length ∧ s = .int .i64 (wsum (kindF kd) L P k) ∧ i = .int .i64 k) (fun _ i _ => L.length - (intOf i).toNat)
  case atStart => exact ⟨0, 0, rfl, Nat.zero_le _, rfl, rfl⟩
  case round =>
    obtain ⟨k, n0, hn, hk, rfl, rfl⟩ := hrel
    have HN := Lib.hid hn
    have HAr : Hid (ClArg wr a L) := by show ClArg wr a L; rw [hn]; exact HA.out
    have HAr' : Hid (IntArg wr a' P) := by show IntArg wr a' P; rw [hn]; exact HA'.out
    clear hn
    by_cases hlt : k < L.length
    · have hlt' : (k : Int) < (L.length : Int) := by omega
      have hk0 : (0 : Int) ≤ (k : Int) := by omega
      have hltP : (k : Int) < (P.length : Int) := by have := HPL.out; omega
      obtain ⟨b, o, c, rfl, hc, hat⟩ := HAr.out.at hlt
      obtain ⟨b', o', z, rfl, hz, hat'⟩ := HAr'.out.at (k := k) (by have := HPL.out; omega)
      obtain ⟨_, c1, c2, c3, c4⟩ := hat.cells hc
      have d0 := hat' k z hz
      obtain ⟨s0, s1⟩ := wsum_range HF.out HL.out HP.out k
      have v1 := HF.out c ((okCls_all HL.out).2 k c hc).1
      have v2 := okParts_at HP.out hz
      obtain ⟨p0, p1⟩ := mul_range v1 v2
      have HS := Lib.hid (wsum_step (f := kindF kd) hc hz)
      have C := Lib.hid (fun n => of_spec c b (o + k * 5) kd (wr.drewN n) (by simpa using c1) (by simpa using c2) (by simpa using c3) (by simpa using c4) (by omega))
      obtain ⟨q, hq⟩ : ∃ q, wsum (kindF kd) L P k = q := ⟨_, rfl⟩
      rw [hq] at s0 s1 HS
      rw [hq]
      obtain ⟨v, hv⟩ : ∃ v, kindF kd c = v := ⟨_, rfl⟩
      have C' : Hid (∀ n, Calls Try.prog 139 #[.pointer (some ⟨b, o + k * 5, none⟩), .int .i64 kd] (wr.drewN n) fun e w'' => e = .returned (.int .i64 v) ∧ ∃ m, w'' = wr.drewN m) := fun n => (C.out n).mono (fun e w'' h => ⟨by rw [← hv]; exact h.1, n, h.2.symm⟩)
      rw [hv] at v1 p0 p1 HS
      clear hq hv hc hz hat hat' C
      go_wp2_with fail
      go_quiet (first | (go_at_call 139; exact C'.out _))
      go_wp2
      go_roundw
      case rel =>
        obtain ⟨m, hm⟩ := drewN_two w n0 nq
        exact ⟨k + 1, m, by rw [HN.out]; exact hm, by omega, by rw [HS.out], by go_num⟩
      case measure => simp [intOf]; omega
    · have hge : ¬ (k : Int) < (L.length : Int) := by omega
      have hkn : k = L.length := by omega
      subst hkn
      go_wp2
      go_ret
      exact ⟨rfl, n0, HN.out⟩
end Go.Proofs.Ytlglijalhacmhab
