/-
  LeastParts: the model's answer.
-/
import Derived.Test.YtlglijalhacmhabLeast
namespace Go.Proofs.Ytlglijalhacmhab
open Go.ChangeShapes Go.WideShapes Go.ChangeAt Go.RowKit Go.Joins

theorem take_leastL {P : List Int} {k : Nat} {z : Int} (h : P[k]? = some z) : (leastL P).take (k + 1) = (leastL P).take k ++ [z / (gcdP P : Int)] := by
  rw [List.take_add_one, leastL_at h]
  rfl

set_option maxRecDepth 100000 in
set_option maxHeartbeats 3200000 in
theorem least_spec (L : List Cl) (a : Option Addr) (cap : Nat) (hl : L.length ≤ 1048576) (P : List Int) (a' : Option Addr) (cap' : Nat) (hl' : P.length ≤ 1048576) (w : World) (ha : ClArg w a L) (ha' : IntArg w a' P) :
    Calls Try.prog 26 #[.slice a L.length cap, .slice a' P.length cap'] w fun e w' => LeastOut w L P e w' := by
  have C := Lib.hid (code3_spec L a cap hl P a' cap' hl' w ha ha')
  by_cases h1 : codeP L P true = 0
  case neg =>
    obtain ⟨q, hq⟩ : ∃ q, codeP L P true = q := ⟨_, rfl⟩
    rw [hq] at C h1
    have HQ := Lib.hid hq
    clear ha ha' hq
    go_enter Try.func26, Try.ntmps26
    go_wp2_with fail
    refine C.out.mono ?_
    rintro e w1 ⟨rfl, hb1⟩
    go_wp2
    refine bodyPost_ret (v := .tuple #[.slice none 0 0, .int .i64 q]) (by simp [results, Try.results26, go_sem]) rfl (LeastOut.bad HQ.out h1 hb1)
  have hP := (codeP_facts h1).2.2.1
  have HG12 := Lib.hid (gcdP_pos h1)
  have HA' := Lib.hid ha'
  have HP := Lib.hid hP
  have H1 := Lib.hid h1
  rw [h1] at C
  clear ha ha' hP h1
  go_enter Try.func26, Try.ntmps26
  go_wp2_with fail
  refine C.out.mono ?_
  rintro e w1 ⟨rfl, hb1⟩
  have B1 := Lib.hid hb1
  clear hb1
  go_wp2
  go_loopw [7, 8] (fun g i wr => ∃ k : Nat, k ≤ P.length ∧ g = .int .i64 (gcdTo P k : Nat) ∧ i = .int .i64 k ∧ Hid (Below w.heap.size w wr)) (fun _ i _ => P.length - (intOf i).toNat)
  case atStart => exact ⟨0, Nat.zero_le _, rfl, rfl, B1.out⟩
  case round =>
    obtain ⟨k, hk, rfl, rfl, hB⟩ := hrel
    have hg := gcdTo_le HP.out hk
    by_cases hlt : k < P.length
    · have hlt' : (k : Int) < (P.length : Int) := by omega
      have hk0 : (0 : Int) ≤ (k : Int) := by omega
      obtain ⟨b, o, z, rfl, hz, hat⟩ := (HA'.out.later hB.out).at hlt
      have c0 := hat k z hz
      obtain ⟨z0, z1⟩ := okParts_at HP.out hz
      have HS := Lib.hid (gcdTo_step hz)
      have C3 := Lib.hid (gcd_specZ z (gcdTo P k : Nat) (by omega) (by omega) (by omega) (by omega))
      rw [Int.gcd_comm, ← HS.out] at C3
      clear hz hat
      go_wp2_with fail
      refine (C3.out _).mono ?_
      rintro e w2 ⟨rfl, rfl⟩
      go_wp2
      go_roundw
      case rel => exact ⟨k + 1, by omega, rfl, by go_num, hB.out⟩
      case measure => simp [intOf]; omega
    · have hge : ¬ (k : Int) < (P.length : Int) := by omega
      have hkn : k = P.length := by omega
      subst hkn
      obtain ⟨G, hG⟩ : ∃ G : Int, ((gcdTo P P.length : Nat) : Int) = G := ⟨_, rfl⟩
      have HG : Hid ((gcdP P : Int) = G) := hG
      have g1 : 1 ≤ G := by have := HG12.out.1; rw [← hG]; unfold gcdP at this; omega
      have g2 : G ≤ 1000 := by rw [← hG]; omega
      have hnz : ¬ G = 0 := by omega
      rw [hG]
      clear hG hg hlt
      obtain ⟨wa, hwa⟩ : ∃ wa, wa = wr := ⟨_, rfl⟩
      subst hwa
      go_wp2
      go_loopw [9, 10] (fun v i wr => ∃ (m g cap : Nat) (ps : List Int), m ≤ P.length ∧ v = .slice (some ⟨g, 0, none⟩) ps.length cap ∧ i = .int .i64 m ∧ ps.length = m ∧ Hid (ps = (leastL P).take m) ∧ Hid (NumsAt wa ps g cap wr)) (fun _ i _ => P.length - (intOf i).toNat)
      case atStart => exact ⟨0, wa.heap.size, 0, [], Nat.zero_le _, rfl, rfl, rfl, rfl, nums_start wa⟩
      case round =>
        obtain ⟨m, g, cap, ps, hm, rfl, rfl, hps, hT, hD⟩ := hrel
        by_cases hlt : m < P.length
        · have hlt' : (m : Int) < (P.length : Int) := by omega
          have hm0 : (0 : Int) ≤ (m : Int) := by omega
          obtain ⟨b, o, z, rfl, hz, hat⟩ := ((HA'.out.later hB.out).later hD.out.2.1).at hlt
          have c0 := hat m z hz
          obtain ⟨z0, z1⟩ := okParts_at HP.out hz
          have HT : Hid (ps ++ [z / G] = (leastL P).take (m + 1)) := by
            show ps ++ [z / G] = _
            rw [take_leastL hz, hT.out, HG.out]
          have hbase : wa.heap.size ≤ wr.heap.size := by have := hD.out.2.2; omega
          have c3 : Hid (ps.length + 1 ≤ maxLen) := by show ps.length + 1 ≤ maxLen; unfold maxLen; omega
          clear hz hat
          obtain ⟨i0, hi, hz0, hz1, hz2⟩ := info_parts infoInt
          go_wp2_with (at_builtin; go_must ((refine wpList_append_own _ rfl _ _ 23 rfl wa.heap.size 2 i0 (.int .i64 0) 1 8 Try.underlying23 hi hz0 hz1 hz2 rfl (by decide) (.slice (some ⟨g, 0, none⟩) ps.length cap) ps.length (intVals ps) rfl (hD.out.1.alloc _) ⟨wr.heap.size, 0, none⟩ 1 1 [.int .i64 (z / G)] rfl rfl ((lit8 wa.heap.size wr _ hbase).cells rfl) (by simp [Value.oneCell']) c3.out (by omega) (by simp; omega) ?_; intro v1 w2 hown1 hgrow1 _)))
          obtain ⟨g', cap', hv, hD'⟩ := nums_step hD.out hown1 hgrow1
          subst hv
          go_roundw
          case rel => exact ⟨m + 1, g', cap', ps ++ [z / G], by omega, rfl, by go_num, by simp; omega, HT, hD'⟩
          case measure => simp [intOf]; omega
        · have hge2 : ¬ (m : Int) < (P.length : Int) := by omega
          have hmn : m = P.length := by omega
          have HO : Hid (IntOwn wa.heap.size (leastL P) g wr) := by
            have h1 : ps = leastL P := by rw [hT.out, hmn, ← leastL_length P, List.take_length]
            have h2 := hD.out.own
            rw [h1] at h2
            exact h2
          have HB : Hid (Below w.heap.size w wr) := hB.out.trans (hD.out.2.1.mono hB.out.size)
          have HOw : Hid (IntOwn w.heap.size (leastL P) g wr) := ⟨Nat.le_trans hB.out.size HO.out.1, HO.out.2⟩
          have hpl : ps.length = P.length := by omega
          clear hps hmn
          go_wp2
          refine bodyPost_ret (v := .tuple #[.slice (some ⟨g, 0, none⟩) P.length cap, .int .i64 0]) (by simp [results, Try.results26, go_sem]) rfl (LeastOut.good H1.out HOw.out HB.out)
end Go.Proofs.Ytlglijalhacmhab
