/-
  IsSimple: what its answer is, and the model's word.
-/
import Derived.Test.YtikjielgnlgnjaaDoorSm
namespace Go.Proofs.YtikjielgnlgnjaaDoor
open Go.ChangeShapes Go.WideShapes Go.ChangeAt Go.RowKit Go.Joins

/-- Two sides that don't follow one another have a place in common. -/
def hitS (P : List Int) (T : ByteArray) (i k : Nat) : Bool := !(decide (i = 0) && decide (k + 1 = P.length)) && mtS (spot P T i) (spot P T (i + 1)) (spot P T k) (spot P T (k + 1))
/-- What is told of the answer. -/
structure SiVal (P : List Int) (T : ByteArray) (b : Bool) : Prop where
  no : okHo P T = false → b = false
  yes : okHo P T = true → (∀ i k, i + 2 ≤ k → k < P.length → hitS P T i k = false) → b = true
  hit : ∀ i k, okHo P T = true → i + 2 ≤ k → k < P.length → hitS P T i k = true → b = false
theorem siVal (P : List Int) (T : ByteArray) : ∃ b, SiVal P T b := by
  by_cases h : okHo P T = true ∧ ∀ i k, i + 2 ≤ k → k < P.length → hitS P T i k = false
  · refine ⟨true, ⟨fun h2 => ?_, fun _ _ => rfl, fun i k _ h2 h3 h4 => ?_⟩⟩
    · rw [h.1] at h2; cases h2
    · rw [h.2 i k h2 h3] at h4; cases h4
  · exact ⟨false, ⟨fun _ => rfl, fun h1 h2 => absurd ⟨h1, h2⟩ h, fun _ _ _ _ _ _ => rfl⟩⟩
def SiAns (w : World) (b : Bool) (P : List Int) (T : ByteArray) (e : Ending) (w' : World) : Prop := e = .returned (.tuple #[.bool b, .int .i64 (hoC P T)]) ∧ Below w.heap.size w w'
theorem hoC_bad {P : List Int} {T : ByteArray} (h : okHo P T = false) : hoC P T = 1 := by simp [hoC, h]
theorem hoC_good {P : List Int} {T : ByteArray} (h : okHo P T = true) : hoC P T = 0 := by simp [hoC, h]
set_option maxRecDepth 100000 in
set_option maxHeartbeats 6400000 in
theorem isSimple_spec (P : List Int) (T : ByteArray) (a : Option Addr) (cap : Nat) (hl : P.length ≤ 1048576) (hs : T.size ≤ 1048576) (b : Bool) (hV : SiVal P T b) (w : World) (ha : IntArg w a P) :
    Calls Tryd.prog 48 #[.agg #[.slice a P.length cap, .string T]] w (SiAns w b P T) := by
  obtain ⟨W0, hW⟩ : ∃ W0, w.alloc (.cells #[.slice a P.length cap, .string T] 27) = W0 := ⟨_, rfl⟩
  have E0 : Hid (Below w.heap.size w W0) := by show Below w.heap.size w W0; rw [← hW]; exact balloc0 _ _
  have HB : Hid (HoBox w.heap.size a cap P T W0) := by show HoBox _ _ _ _ _ _; rw [← hW]; exact HoBox.new w _
  have C := Lib.hid (okH_spec P T a cap hl hs w.heap.size W0 HB.out (ha.later E0.out))
  have HW := Lib.hid hW
  have HA := Lib.hid (ha.later E0.out)
  have HVAL := Lib.hid hV
  clear hW ha hV
  unfold SiAns
  cases h : okHo P T
  · have HE := Lib.hid (HVAL.out.no h)
    rw [hoC_bad h]
    rw [h] at C
    clear h
    go_enter Tryd.func48, Tryd.ntmps48
    go_wp2_with fail
    rw [HW.out]
    refine C.out.mono ?_
    rintro e w1 ⟨rfl, hb1⟩
    have B1 := Lib.hid (bnext E0.out hb1)
    clear hb1
    go_wp2
    refine bodyPost_ret (v := .tuple #[.bool false, .int .i64 1]) (by simp [results, Tryd.results48, go_sem]) rfl ⟨by rw [HE.out], B1.out⟩
  · rw [hoC_good h]
    rw [h] at C
    have HOK := Lib.hid h
    obtain ⟨h4, h12, hT, hr⟩ := okHo_size h
    have PT := Lib.hid (fun wx hb hx => points_spec P T a cap hr h12 hT w.heap.size wx hb hx)
    have LEN := Lib.hid (ptsC_length P T (P.length + 1))
    obtain ⟨Q, hQ⟩ : ∃ Q, ptsC P T (P.length + 1) = Q := ⟨_, rfl⟩
    rw [hQ] at PT LEN
    have AT : Hid (∀ k, k < P.length + 1 → Q[k]? = some ((spot P T k).x, (spot P T k).y)) := fun k hk => by rw [← hQ]; exact ptsC_at hk
    clear h hr hQ hT
    go_enter Tryd.func48, Tryd.ntmps48
    go_wp2_with fail
    rw [HW.out]
    refine C.out.mono ?_
    rintro e w1 ⟨rfl, hb1⟩
    have B1 := Lib.hid (bnext E0.out hb1)
    have HB1 := Lib.hid (HB.out.later hb1)
    have HA1 := Lib.hid (HA.out.later hb1)
    clear hb1
    go_wp2_with fail
    refine (PT.out _ HB1.out HA1.out).mono ?_
    rintro e w2 ⟨v, bs, rfl, hP, hb2⟩
    have B2 := Lib.hid (bnext B1.out hb2)
    have HB2 := Lib.hid (HB1.out.later hb2)
    have hlq := LEN.out
    obtain ⟨g, cp, rfl⟩ := hP.form.2 (by omega)
    have PL := Lib.hid hP.lies
    obtain ⟨d0, d1⟩ := HB2.out
    clear hb2 hP
    go_wp2
    clear d0 d1
    go_loopw [6] (fun i wr => ∃ (k : Nat), k ≤ P.length ∧ i = .int .i64 (k : Int) ∧ Hid (∀ i' k', i' < k → i' + 2 ≤ k' → k' < P.length → hitS P T i' k' = false) ∧ Hid (Below w2.heap.size w2 wr)) (fun i _ => P.length - (intOf i).toNat)
    case atStart => exact ⟨0, Nat.zero_le _, rfl, fun i' k' h => by omega, Below.refl _ _⟩
    case round =>
      obtain ⟨k, hk, rfl, hN, hB⟩ := hrel
      by_cases hlt : k < P.length
      · have hlt' : (k : Int) < (P.length : Int) := by omega
        go_wp2
        go_loopw [7] (fun j wq => ∃ (m : Nat), k + 2 ≤ m ∧ m ≤ P.length + 1 ∧ j = .int .i64 (m : Int) ∧ Hid (∀ k', k + 2 ≤ k' → k' < m → k' < P.length → hitS P T k k' = false) ∧ Hid (Below w2.heap.size w2 wq)) (fun j _ => P.length - (intOf j).toNat)
        case atStart => exact ⟨k + 2, Nat.le_refl _, by omega, by go_num, fun k' h1 h2 => by omega, hB.out⟩
        case round =>
          clear hB
          obtain ⟨m, hm1, hm2, rfl, hM, hB⟩ := hrel
          by_cases hmt : m < P.length
          · have hmt' : (m : Int) < (P.length : Int) := by omega
            by_cases hsk : k = 0 ∧ m + 1 = P.length
            · have hk0 : (k : Int) = 0 := by omega
              have hm0 : (m : Int) = (P.length : Int) - 1 := by omega
              have hne : hitS P T k m = false := by simp [hitS, hsk.1, hsk.2]
              have HM2 : Hid (∀ k', k + 2 ≤ k' → k' < m + 1 → k' < P.length → hitS P T k k' = false) := fun k' h1 h2 h3 => by
                by_cases e : k' = m
                · rw [e]; exact hne
                · exact hM.out k' h1 (by omega) h3
              clear hne hsk
              go_wp2
              go_roundw
              case rel => exact ⟨m + 1, by omega, by omega, by go_num, HM2.out, hB.out⟩
              case measure => simp [intOf]; omega
            · have hk0 : (0 : Int) ≤ (k : Int) := by omega
              have hm0 : (0 : Int) ≤ (m : Int) := by omega
              have hk1 : (k : Int) < (Q.length : Int) := by omega
              have hk2 : (k : Int) + 1 < (Q.length : Int) := by omega
              have hj1 : (m : Int) < (Q.length : Int) := by omega
              have hj2 : (m : Int) + 1 < (Q.length : Int) := by omega
              obtain ⟨g1, c1, b1, e1, p1, i1⟩ := (PL.out.later hB.out).2 k _ (AT.out k (by omega))
              obtain ⟨g2, c2, b2, e2, p2, i2⟩ := (PL.out.later hB.out).2 (k + 1) _ (AT.out (k + 1) (by omega))
              obtain ⟨g3, c3, b3, e3, p3, i3⟩ := (PL.out.later hB.out).2 m _ (AT.out m (by omega))
              obtain ⟨g4, c4, b4, e4, p4, i4⟩ := (PL.out.later hB.out).2 (m + 1) _ (AT.out (m + 1) (by omega))
              simp only [Value.slice.injEq, Option.some.injEq, Addr.mk.injEq] at e1 e2 e3 e4
              obtain ⟨⟨rfl, -⟩, -, rfl⟩ := e1
              obtain ⟨⟨rfl, -⟩, -, rfl⟩ := e2
              obtain ⟨⟨rfl, -⟩, -, rfl⟩ := e3
              obtain ⟨⟨rfl, -⟩, -, rfl⟩ := e4
              have x1 := i1 0 _ rfl
              have y1 := i1 1 _ rfl
              have x2 := i2 0 _ rfl
              have y2 := i2 1 _ rfl
              have x3 := i3 0 _ rfl
              have y3 := i3 1 _ rfl
              have x4 := i4 0 _ rfl
              have y4 := i4 1 _ rfl
              simp only [Nat.zero_add] at x1 y1 x2 y2 x3 y3 x4 y4
              have MEET : Hid (∀ nq, Calls Tryd.prog 79 #[.slice (some ⟨b1, 0, none⟩) 2 2, .slice (some ⟨b2, 0, none⟩) 2 2, .slice (some ⟨b3, 0, none⟩) 2 2, .slice (some ⟨b4, 0, none⟩) 2 2] (wr.drewN nq) fun e w' => e = .returned (.bool (mtS (spot P T k) (spot P T (k + 1)) (spot P T m) (spot P T (m + 1)))) ∧ ∃ mq, w' = (wr.drewN nq).drewN mq) := fun nq =>
                meet_spec b1 b2 b3 b4 2 2 2 2 _ _ _ _ _ _ _ _ (wr.drewN nq) (by simpa using x1) (by simpa using y1) (by simpa using x2) (by simpa using y2) (by simpa using x3) (by simpa using y3) (by simpa using x4) (by simpa using y4)
              have HIT : hitS P T k m = mtS (spot P T k) (spot P T (k + 1)) (spot P T m) (spot P T (m + 1)) := by
                have e : (decide (k = 0) && decide (m + 1 = P.length)) = false := by simpa using hsk
                simp [hitS, e]
              obtain ⟨M, hMM⟩ : ∃ M, mtS (spot P T k) (spot P T (k + 1)) (spot P T m) (spot P T (m + 1)) = M := ⟨_, rfl⟩
              rw [hMM] at MEET HIT
              clear hMM x1 x2 x3 x4 y1 y2 y3 y4 i1 i2 i3 i4
              have HB3 := Lib.hid hB.out
              cases M
              case true =>
                have HE := Lib.hid (HVAL.out.hit k m HOK.out hm1 hmt HIT)
                have hzk : ((k : Int) + 1).toNat = k + 1 := by omega
                have hzm : ((m : Int) + 1).toNat = m + 1 := by omega
                by_cases hk00 : (k : Int) = 0
                case' pos => have hmn : ¬ (m : Int) = (P.length : Int) - 1 := by omega
                all_goals
                  clear hsk HIT hm1 hm2 hk hlt hmt hM hN
                  go_wp2_with fail
                  clear hk00
                  go_quiet ((go_at_call 79; exact Calls.quiet_of (MEET.out _)))
                  go_wp2
                  refine bodyPost_ret (v := .tuple #[.bool false, .int .i64 0]) (by simp [results, Tryd.results48, go_sem]) rfl ⟨by rw [HE.out], below_drewN (bnext B2.out HB3.out) _⟩
              case false =>
                have HM2 : Hid (∀ k', k + 2 ≤ k' → k' < m + 1 → k' < P.length → hitS P T k k' = false) := fun k' h1 h2 h3 => by
                  by_cases e : k' = m
                  · rw [e]; exact HIT
                  · exact hM.out k' h1 (by omega) h3
                have hzk : ((k : Int) + 1).toNat = k + 1 := by omega
                have hzm : ((m : Int) + 1).toNat = m + 1 := by omega
                by_cases hk00 : (k : Int) = 0
                case' pos => have hmn : ¬ (m : Int) = (P.length : Int) - 1 := by omega
                all_goals
                  clear hsk HIT hM
                  go_wp2_with fail
                  clear hk00
                  go_quiet ((go_at_call 79; exact Calls.quiet_of (MEET.out _)))
                  clear hzk hzm
                  go_wp2
                  go_roundw
                  case rel => exact ⟨m + 1, by omega, by omega, by go_num, HM2.out, below_drewN HB3.out _⟩
                  case measure => simp [intOf]; omega
          · have hmt' : ¬ (m : Int) < (P.length : Int) := by omega
            have HN2 : Hid (∀ i' k', i' < k + 1 → i' + 2 ≤ k' → k' < P.length → hitS P T i' k' = false) := fun i' k' h1 h2 h3 => by
              by_cases e : i' = k
              · rw [e] at h2 ⊢; exact hM.out k' h2 (by omega) h3
              · exact hN.out i' k' (by omega) h2 h3
            go_wp2
            go_roundw
            case rel => exact ⟨k + 1, by omega, by go_num, HN2.out, hB.out⟩
            case measure => simp [intOf]; omega
      · have hge : ¬ (k : Int) < (P.length : Int) := by omega
        obtain rfl : k = P.length := by omega
        have HE := Lib.hid (HVAL.out.yes HOK.out (fun i' k' h1 h2 => hN.out i' k' (by omega) h1 h2))
        have HF := Lib.hid (bnext B2.out hB.out)
        go_wp2
        refine bodyPost_ret (v := .tuple #[.bool true, .int .i64 0]) (by simp [results, Tryd.results48, go_sem]) rfl ⟨by rw [HE.out], HF.out⟩
end Go.Proofs.YtikjielgnlgnjaaDoor
