/-
  LeastParts: the program's answer.
-/
import Derived.Test.YtlglijalhacmhabLeastS
namespace Go.Proofs.Ytlglijalhacmhab
open Go.ChangeShapes Go.WideShapes Go.ChangeAt Go.RowKit Go.Joins

set_option maxRecDepth 100000 in
set_option maxHeartbeats 3200000 in
theorem least_impl (L : List Cl) (a : Option Addr) (cap : Nat) (hl : L.length ≤ 1048576) (P : List Int) (a' : Option Addr) (cap' : Nat) (hl' : P.length ≤ 1048576) (w : World) (ha : ClArg w a L) (ha' : IntArg w a' P) :
    Calls Try.prog 27 #[.slice a L.length cap, .slice a' P.length cap'] w fun e w' => LeastOut w L P e w' := by
  have C := Lib.hid (check_impl L a cap hl P a' cap' hl' ⟨0, 0, 0, 0⟩ w ha ha')
  have hx : (⟨0, 0, 0, 0⟩ : Li).ok = true := by decide
  rw [hx] at C
  clear hx
  by_cases h1 : codeP L P true = 0
  case neg =>
    obtain ⟨q, hq⟩ : ∃ q, codeP L P true = q := ⟨_, rfl⟩
    rw [hq] at C h1
    have HQ := Lib.hid hq
    clear ha ha' hq
    go_enter Try.func27, Try.ntmps27
    go_wp2_with fail
    refine C.out.mono ?_
    rintro e w1 ⟨rfl, hb1⟩
    go_wp2
    refine bodyPost_ret (v := .tuple #[.slice none 0 0, .int .i64 q]) (by simp [results, Try.results27, go_sem]) rfl (LeastOut.bad HQ.out h1 hb1)
  have hP := (codeP_facts h1).2.2.1
  have HG12 := Lib.hid (gcdP_pos h1)
  have HA' := Lib.hid ha'
  have HP := Lib.hid hP
  have H1 := Lib.hid h1
  rw [h1] at C
  clear ha ha' hP h1
  go_enter Try.func27, Try.ntmps27
  go_wp2_with fail
  refine C.out.mono ?_
  rintro e w1 ⟨rfl, hb1⟩
  have B1 := Lib.hid hb1
  clear hb1
  go_wp2
  go_loopw [7, 22] (fun g i wr => ∃ k : Nat, k ≤ P.length ∧ g = .int .i64 (gcdTo P k : Nat) ∧ i = .int .i64 k ∧ Hid (Below w.heap.size w wr)) (fun _ i _ => P.length - (intOf i).toNat)
  case atStart => exact ⟨0, Nat.zero_le _, rfl, rfl, B1.out⟩
  case round =>
    obtain ⟨k, hk, rfl, rfl, hB⟩ := hrel
    have hg := gcdTo_le HP.out hk
    by_cases hlt : k < P.length
    · have hlt' : (k : Int) < (P.length : Int) := by omega
      have hk0 : (0 : Int) ≤ (k : Int) := by omega
      obtain ⟨b, o, z, rfl, hz, hat⟩ := (HA'.out.later hB.out).at hlt
      have c0 := hat k z hz
      obtain ⟨z0, z1⟩ := okParts_at HP.out hz
      have HS := Lib.hid (gcdTo_step hz)
      have C3 := Lib.hid (gcd_implZ (gcdTo P k : Nat) z (by omega) (by omega) (by omega) (by omega))
      rw [← HS.out] at C3
      clear hz hat
      go_wp2_with fail
      refine (C3.out _).mono ?_
      rintro e w2 ⟨rfl, hb2⟩
      have B2 := Lib.hid (bnext hB.out hb2)
      clear hb2
      go_wp2
      go_roundw
      case rel => exact ⟨k + 1, by omega, rfl, by go_num, B2.out⟩
      case measure => simp [intOf]; omega
    · have hge : ¬ (k : Int) < (P.length : Int) := by omega
      have hkn : k = P.length := by omega
      subst hkn
      obtain ⟨G, hG⟩ : ∃ G : Int, ((gcdTo P P.length : Nat) : Int) = G := ⟨_, rfl⟩
      have HG : Hid ((gcdP P : Int) = G) := hG
      have g1 : 1 ≤ G := by have := HG12.out.1; rw [← hG]; unfold gcdP at this; omega
      have g2 : G ≤ 1000 := by rw [← hG]; omega
      have hnz : ¬ G = 0 := by omega
      rw [hG]
      clear hG hg hlt
      obtain ⟨wa, hwa⟩ : ∃ wa, wa = wr := ⟨_, rfl⟩
      subst hwa
      have hmk := make_ints P.length hl' wa
      obtain ⟨M, hM⟩ : ∃ M, madeCells #[.int .i64 0] P.length = M := ⟨_, rfl⟩
      have hMs : M.size = P.length := by rw [← hM, size_madeCells]
      rw [hM] at hmk
      have TN := Lib.hid (there_new wa M 2 P.length hMs)
      have hbw := Lib.hid hB.out.size
      clear hM hMs
      go_wp2
      go_loopw [35] (fun i wr => ∃ (k : Nat), k ≤ P.length ∧ i = .int .i64 k ∧ Hid (∀ (j : Nat) (z : Int), j < k → (leastL P)[j]? = some z → wr.cell? ⟨wa.heap.size, j, none⟩ = some (.int .i64 z)) ∧ Hid (wr.there wa.heap.size 0 P.length) ∧ Hid (Below wa.heap.size wa wr) ∧ wa.heap.size < wr.heap.size) (fun i _ => P.length - (intOf i).toNat)
      case atStart => exact ⟨0, Nat.zero_le _, rfl, fun j c hj => by omega, TN.out, balloc0 _ _, by simp⟩
      case round =>
        obtain ⟨m, hm, rfl, hR, hT, hW, hsz⟩ := hrel
        by_cases hlt : m < P.length
        · have hlt' : (m : Int) < (P.length : Int) := by omega
          have hm0 : (0 : Int) ≤ (m : Int) := by omega
          obtain ⟨b, o, z, rfl, hz, hat⟩ := ((HA'.out.later hB.out).later hW.out).at hlt
          have c0 := hat m z hz
          obtain ⟨z0, z1⟩ := okParts_at HP.out hz
          have HZ : Hid ((leastL P)[m]? = some (z / G)) := by show (leastL P)[m]? = _; rw [leastL_at hz, HG.out]
          obtain ⟨u, v0, v1⟩ := there_at hT.out hlt
          have IS := Lib.hid (int_store hT.out hlt (.int .i64 (z / G)))
          have BS : Hid (Below wa.heap.size wa (wr.setCell ⟨wa.heap.size, m, none⟩ (.int .i64 (z / G)))) := hW.out.setCell (p := ⟨wa.heap.size, m, none⟩) (Nat.le_refl _) _
          clear hz hat
          go_wp2
          go_roundw
          case rel =>
            refine ⟨m + 1, by omega, by go_num, fun j d hj hd => ?_, IS.out.1, BS.out, by simpa [World.setCell] using hsz⟩
            by_cases e : j = m
            · subst e
              rw [HZ.out] at hd
              cases hd
              exact IS.out.2.1
            · rw [IS.out.2.2 _ (fun h => e (by cases h; rfl))]
              exact hR.out j d (by omega) hd
          case measure => simp [intOf]; omega
        · have hge2 : ¬ (m : Int) < (P.length : Int) := by omega
          have hmn : m = P.length := by omega
          subst hmn
          have HO : Hid (IntOwn w.heap.size (leastL P) wa.heap.size wr) := by
            refine ⟨hbw.out, fun j z hj => ?_, ?_, hsz⟩
            · rw [Nat.zero_add]
              exact hR.out j z (by have := (List.getElem?_eq_some_iff.1 hj).1; rwa [leastL_length] at this) hj
            · rw [leastL_length]
              exact hT.out
          have HB : Hid (Below w.heap.size w wr) := hB.out.trans (hW.out.mono hbw.out)
          go_wp2
          refine bodyPost_ret (v := .tuple #[.slice (some ⟨wa.heap.size, 0, none⟩) P.length P.length, .int .i64 0]) (by simp [results, Try.results27, go_sem]) rfl (LeastOut.good H1.out HO.out HB.out)
end Go.Proofs.Ytlglijalhacmhab
