/-
  CheapestBlend: the program's answer.
-/
import Derived.Test.YtpmklnldgafkjaaCheapI
namespace Go.Proofs.Ytpmklnldgafkjaa
open Go.ChangeShapes Go.WideShapes Go.ChangeAt Go.RowKit Go.Joins

/-- The best row so far. -/
def BestV (B : Nat) (f : List Int → Int) (K : List (List Int)) (b : Value) (w : World) : Prop :=
  match bestOf f K with
  | none => b = .slice none 0 0
  | some P => ∃ h ch, b = .slice (some ⟨h, 0, none⟩) P.length ch ∧ IntOwn B P h w

set_option maxRecDepth 100000 in
set_option maxHeartbeats 3200000 in
theorem cheap_impl (L : List Cl) (a : Option Addr) (cap : Nat) (hl : L.length ≤ 1048576) (t : Int) (x : Li) (w : World) (ha : ClArg w a L) :
    Calls Try.prog 43 #[.slice a L.length cap, .int .i64 t, .agg #[.int .i64 x.lo, .int .i64 x.hi, .int .i64 x.ml, .int .i64 x.ms]] w fun e w' => CheapOut w L t x e w' := by
  have HX := Lib.hid (fun wx (h : Below (w.alloc (.cells #[.int .i64 x.lo, .int .i64 x.hi, .int .i64 x.ml, .int .i64 x.ms] 52)).heap.size (w.alloc (.cells #[.int .i64 x.lo, .int .i64 x.hi, .int .i64 x.ml, .int .i64 x.ms] 52)) wx) => range_below (range_new w #[.int .i64 x.lo, .int .i64 x.hi, .int .i64 x.ml, .int .i64 x.ms] 52) h)
  have B0 : Hid (Below w.heap.size w (w.alloc (.cells #[.int .i64 x.lo, .int .i64 x.hi, .int .i64 x.ml, .int .i64 x.ms] 52))) := balloc0 _ _
  obtain ⟨W0, hW⟩ : ∃ W0, (w.alloc (.cells #[.int .i64 x.lo, .int .i64 x.hi, .int .i64 x.ml, .int .i64 x.ms] 52)) = W0 := ⟨_, rfl⟩
  rw [hW] at HX B0
  have HW := Lib.hid hW
  have R0 := HX.out _ (Below.refl _ _)
  have c0 : W0.cell? ⟨w.heap.size, 0, none⟩ = some (.int .i64 x.lo) := R0 0 _ rfl
  have c1 : W0.cell? ⟨w.heap.size, 1, none⟩ = some (.int .i64 x.hi) := R0 1 _ rfl
  have c2 : W0.cell? ⟨w.heap.size, 2, none⟩ = some (.int .i64 x.ml) := R0 2 _ rfl
  have c3 : W0.cell? ⟨w.heap.size, 3, none⟩ = some (.int .i64 x.ms) := R0 3 _ rfl
  have C := Lib.hid (checkT_impl L a cap hl t x W0 (ha.later B0.out))
  have HA := Lib.hid ha
  clear hW ha R0
  by_cases h0 : codeT L t x = 0
  case neg =>
    obtain ⟨q, hq⟩ : ∃ q, codeT L t x = q := ⟨_, rfl⟩
    have HO := Lib.hid (cheap_code hq (by rw [← hq]; exact h0))
    have HQ := Lib.hid hq
    rw [hq] at h0 C
    clear hq
    go_enter Try.func43, Try.ntmps43
    go_wp2_with fail
    rw [HW.out]
    go_wp2_with fail
    refine C.out.mono ?_
    rintro e w1 ⟨rfl, hb1⟩
    have B1 := Lib.hid (B0.out.trans (hb1.mono B0.out.size))
    clear hb1 c0 c1 c2 c3
    go_wp2
    refine bodyPost_ret (v := .tuple #[.slice none 0 0, .int .i64 q]) (by simp [results, Try.results43, go_sem]) rfl (CheapOut.bad HO.out.1 HO.out.2.1 B1.out)
  obtain ⟨h1, ⟨t0, t1⟩, h3⟩ := codeT_facts h0
  have hmem := fun P => keptK_mem (P := P) h0
  have hsort := kp_sorted (okK L x) [] L.length t.toNat
  have hk : keptK L t x = kp (okK L x) [] L.length t.toNat := rfl
  have HF := keptK_few h0
  obtain ⟨T, rfl⟩ : ∃ T : Nat, t = (T : Int) := ⟨t.toNat, by omega⟩
  have W := Lib.hid (fun wx (h : Below w.heap.size w wx) => kept_impl L a cap T x (by omega) (by omega) h1 h3 wx (HA.out.later h))
  rw [Int.toNat_natCast] at hk
  rw [← hk] at W
  rw [Int.toNat_natCast, ← hk] at hsort
  obtain ⟨K, hK⟩ : ∃ K, keptK L (T : Int) x = K := ⟨_, rfl⟩
  rw [hK] at W HF hmem hsort
  have HM := Lib.hid hmem
  have HS := Lib.hid hsort
  have HK := Lib.hid hK
  have H1 := Lib.hid h1
  have HQ := Lib.hid h0
  rw [h0] at C
  clear hk hK h0 h1 h3 hmem hsort
  go_enter Try.func43, Try.ntmps43
  go_wp2_with fail
  rw [HW.out]
  go_wp2_with fail
  refine C.out.mono ?_
  rintro e w1 ⟨rfl, hb1⟩
  have B1 := Lib.hid (B0.out.trans (hb1.mono B0.out.size))
  have R1 := HX.out _ hb1
  clear c0 c1 c2 c3
  have c0 : w1.cell? ⟨w.heap.size, 0, none⟩ = some (.int .i64 x.lo) := R1 0 _ rfl
  have c1 : w1.cell? ⟨w.heap.size, 1, none⟩ = some (.int .i64 x.hi) := R1 1 _ rfl
  have c2 : w1.cell? ⟨w.heap.size, 2, none⟩ = some (.int .i64 x.ml) := R1 2 _ rfl
  have c3 : w1.cell? ⟨w.heap.size, 3, none⟩ = some (.int .i64 x.ms) := R1 3 _ rfl
  clear hb1 R1
  go_wp2_with fail
  refine (W.out _ B1.out).mono ?_
  rintro e w2 ⟨vk, rfl, hR, hb2⟩
  have B2 := Lib.hid (bnext B1.out hb2)
  obtain ⟨rows, k1, k2⟩ := hR
  have hb2z := hb2.size
  have HB1z := Lib.hid B1.out.size
  clear hb2 c0 c1 c2 c3
  have hnil : ∀ (w : World) (p : Addr) (n c : Nat), (binOp .eql 39 (.slice (some p) n c) (.slice none 0 0)).run Try.prog w = .ok (.bool false) w := fun w p n c => Lib.run_eql_slice_nil (P := Try.prog) w 39 2 (some p) n c 0 0 Try.underlying39
  have hnil2 : ∀ (w : World), (binOp .eql 39 (.slice none 0 0) (.slice none 0 0)).run Try.prog w = .ok (.bool true) w := fun w => Lib.run_eql_slice_nil (P := Try.prog) w 39 2 none 0 0 0 0 Try.underlying39
  rcases k1.2 with ⟨rfl, hn⟩ | ⟨g, c, cur, hv, -⟩
  · have HO := Lib.hid (cheap_none HQ.out (by rw [HK.out]; exact hn))
    clear hn k1 k2
    go_wp2
    go_loopw [9, 24] (fun b i wr => b = .slice none 0 0 ∧ i = .int .i64 0 ∧ w2 = wr) (fun _ _ _ => 0)
    case atStart => exact ⟨rfl, rfl, rfl⟩
    case round =>
      obtain ⟨rfl, rfl, rfl⟩ := hrel
      go_wp2
      refine bodyPost_ret (v := .tuple #[.slice none 0 0, .int .i64 3]) (by simp [results, Try.results43, go_sem]) rfl (CheapOut.bad HO.out.1 HO.out.2 B2.out)
  · subst hv
    have HR : Hid (RowsAt w1.heap.size K (.slice (some ⟨g, 0, none⟩) K.length c) w2) := ⟨rows, k1, k2⟩
    clear k1 k2
    go_wp2
    go_loopw [9, 24] (fun b i wr => ∃ k : Nat, k ≤ K.length ∧ BestV w.heap.size (total Cl.pr L) (K.take k) b wr ∧ i = .int .i64 k ∧ Hid (Below w2.heap.size w2 wr)) (fun _ i _ => K.length - (intOf i).toNat)
    case atStart => exact ⟨0, Nat.zero_le _, rfl, rfl, Below.refl _ _⟩
    case round =>
      obtain ⟨k, hk, hbest, rfl, hB⟩ := hrel
      unfold BestV at hbest
      by_cases hlt : k < K.length
      · have hlt' : (k : Int) < (K.length : Int) := by omega
        have hk0 : (0 : Int) ≤ (k : Int) := by omega
        obtain ⟨P, hP⟩ : ∃ P, K[k]? = some P := ⟨_, List.getElem?_eq_getElem hlt⟩
        obtain ⟨rows', q1, q2⟩ := HR.out.later hB.out
        obtain ⟨h, ch, e1, e2⟩ := q2 k P hP
        have c0 : wr.cell? ⟨g, k, none⟩ = some (.slice (some ⟨h, 0, none⟩) P.length ch) := by rw [World.ownsRow.cellAt q1 k (by omega)]; exact e1
        obtain ⟨m1, m2⟩ := HM.out P (List.mem_of_getElem? hP)
        have OP := Lib.hid (e2.mono' HB1z.out)
        have HT := Lib.hid (take_one hP)
        cases hb : bestOf (total Cl.pr L) (K.take k) with
        | none =>
          rw [hb] at hbest
          simp only at hbest
          subst hbest
          have HBT := Lib.hid hb
          clear q1 q2 e1 e2 hP m1 m2 hb
          go_wp2
          go_roundw
          case rel =>
            refine ⟨k + 1, by omega, ?_, by go_num, hB⟩
            unfold BestV
            rw [HT.out, bestOf_snoc, HBT.out]
            exact ⟨h, ch, rfl, OP.out⟩
          case measure => simp [intOf]; omega
        | some M =>
          rw [hb] at hbest
          simp only at hbest
          obtain ⟨hm, chm, rfl, oM⟩ := hbest
          have hMm := bestOf_mem hb
          have hlex := sorted_at HS.out hP hMm
          obtain ⟨n1, n2⟩ := HM.out M (List.mem_of_mem_take hMm)
          have HBT := Lib.hid hb
          have OM := Lib.hid oM
          have HBw : Hid (Below w.heap.size w wr) := bnext B2.out hB.out
          have C4 := Lib.hid (comp_impl L a cap P M (some ⟨h, 0, none⟩) (some ⟨hm, 0, none⟩) ch chm H1.out m2 n2 m1 n1 hlex wr (HA.out.later HBw.out) OP.out.arg OM.out.arg)
          by_cases hpr : total Cl.pr L P < total Cl.pr L M
          · have hq : priceR (total Cl.pr L) P M = -1 := by unfold priceR; rw [if_pos hpr]
            have HP2 := Lib.hid hpr
            rw [hq] at C4
            clear q1 q2 e1 e2 hP m1 m2 hb hMm hlex n1 n2 oM hpr hq
            go_wp2_with fail
            refine C4.out.mono ?_
            rintro e w4 ⟨rfl, hb4⟩
            have H4 := Lib.hid hb4
            clear hb4 c0
            go_wp2
            go_roundw
            case rel =>
              refine ⟨k + 1, by omega, ?_, by go_num, bnext hB.out H4.out⟩
              unfold BestV
              rw [HT.out, bestOf_snoc, HBT.out]
              simp only [better, if_pos HP2.out]
              exact ⟨h, ch, rfl, OP.out.later H4.out⟩
            case measure => simp [intOf]; omega
          · have hq : priceR (total Cl.pr L) P M = 1 := by unfold priceR; rw [if_neg hpr]
            have HP2 := Lib.hid hpr
            rw [hq] at C4
            clear q1 q2 e1 e2 hP m1 m2 hb hMm hlex n1 n2 oM hpr hq
            go_wp2_with fail
            refine C4.out.mono ?_
            rintro e w4 ⟨rfl, hb4⟩
            have H4 := Lib.hid hb4
            clear hb4 c0
            go_wp2
            go_roundw
            case rel =>
              refine ⟨k + 1, by omega, ?_, by go_num, bnext hB.out H4.out⟩
              unfold BestV
              rw [HT.out, bestOf_snoc, HBT.out]
              simp only [better]
              rw [if_neg (by have := HP2.out; omega)]
              exact ⟨hm, chm, rfl, OM.out.later H4.out⟩
            case measure => simp [intOf]; omega
      · have hge : ¬ (k : Int) < (K.length : Int) := by omega
        have hkn : k = K.length := by omega
        subst hkn
        have HBw : Hid (Below w.heap.size w wr) := bnext B2.out hB.out
        rw [List.take_length] at hbest
        cases hb : bestOf (total Cl.pr L) K with
        | none =>
          rw [hb] at hbest
          simp only at hbest
          subst hbest
          have HO := Lib.hid (cheap_none HQ.out (by rw [HK.out, bestOf_none hb]; rfl))
          clear hb
          go_wp2
          refine bodyPost_ret (v := .tuple #[.slice none 0 0, .int .i64 3]) (by simp [results, Try.results43, go_sem]) rfl (CheapOut.bad HO.out.1 HO.out.2 HBw.out)
        | some M =>
          rw [hb] at hbest
          simp only at hbest
          obtain ⟨hm, chm, rfl, oM⟩ := hbest
          have OM := Lib.hid oM
          have hK0 : ¬ (keptK L (T : Int) x).length = 0 := by
            rw [HK.out]
            have := List.length_pos_of_mem (bestOf_mem hb)
            omega
          obtain ⟨r1, P', r2, r3⟩ := cheap_some HQ.out hK0
          rw [HK.out, hb] at r2
          cases r2
          have HO := Lib.hid (And.intro r1 r3)
          clear hb hK0 r1 r3 oM
          go_wp2
          refine bodyPost_ret (v := .tuple #[.slice (some ⟨hm, 0, none⟩) M.length chm, .int .i64 0]) (by simp [results, Try.results43, go_sem]) rfl (CheapOut.good HO.out.1 HO.out.2 OM.out HBw.out)
end Go.Proofs.Ytpmklnldgafkjaa
