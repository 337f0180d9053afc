/-
  FrontLines: the model's word.
-/
import Derived.Test.YtplggghhhgmebaaFtP
import Derived.Test.YtplggghhhgmebaaPqS
import Derived.Test.YtplggghhhgmebaaFvW
import Derived.Test.YtplggghhhgmebaaBy
import Derived.Test.YtplggghhhgmebaaStR
namespace Go.Proofs.Ytplggghhhgmebaa
open Go.ChangeShapes Go.WideShapes Go.ChangeAt Go.RowKit Go.Joins

/-- Lines and a code are handed back. -/
def FtAns (w : World) (F C : Int) (L : List Og) (e : Ending) (w' : World) : Prop := ∃ a cap, e = .returned (.tuple #[.slice a (flL F C L).length cap, .int .i64 (flK F C L)]) ∧ StrRes w.heap.size (flL F C L) a w' ∧ Below w.heap.size w w'
set_option maxRecDepth 100000 in
set_option maxHeartbeats 40000000 in
theorem frontLines_spec (F C : Int) (L : List Og) (a : Option Addr) (cap : Nat) (hl : L.length ≤ 1048576) (w : World) (ha : OgArg w a L) :
    Calls Try.prog 41 #[.agg #[.int .i64 F, .int .i64 C, .slice a L.length cap]] w (FtAns w F C L) := by
  have FB' := FrBox.new w F C a cap L 29
  have E0' := Lib.hid (balloc0 w (.cells #[.int .i64 F, .int .i64 C, .slice a L.length cap] 29))
  have z0 : (w.alloc (.cells #[.int .i64 F, .int .i64 C, .slice a L.length cap] 29)).heap.size = w.heap.size + 1 := by simp
  obtain ⟨W0, hW⟩ : ∃ W0, w.alloc (.cells #[.int .i64 F, .int .i64 C, .slice a L.length cap] 29) = W0 := ⟨_, rfl⟩
  rw [hW] at FB' E0' z0
  have FB := Lib.hid FB'
  have E0 := Lib.hid E0'.out
  have HA := Lib.hid (ha.later E0.out)
  have HW := Lib.hid hW
  clear hW E0' FB' ha
  have X := Lib.hid (okF_spec F C L a cap hl w.heap.size W0 FB.out HA.out)
  unfold FtAns
  cases hok : okFr F C L
  · have e1 : flK F C L = 1 := by simp [flK, hok]
    have e2 : flL F C L = [] := by simp [flL, hok]
    rw [e1, e2]
    rw [hok] at X
    clear e1 e2 hok
    go_enter Try.func41, Try.ntmps41
    go_wp2_with fail
    rw [HW.out]
    refine X.out.mono ?_
    rintro e w1 ⟨rfl, hb1⟩
    have B1 := Lib.hid hb1
    clear hb1
    go_wp2
    go_ret2
    exact ⟨none, 0, rfl, .inl rfl, bnext E0.out B1.out⟩
  have HO := Lib.hid (okFr_true.1 hok)
  have e1 : flK F C L = 0 := by simp [flK, hok]
  have e2 : flL F C L = flU F C L C.toNat := by simp [flL, hok]
  rw [e1, e2]
  rw [hok] at X
  have hC1 : 1 ≤ C := HO.out.fc.1
  have hC2 : C ≤ 40 := HO.out.fc.2
  have hF1 : 1 ≤ F := HO.out.fl.1
  have hF2 : F ≤ 200 := HO.out.fl.2
  obtain ⟨m, rfl⟩ := Int.eq_ofNat_of_zero_le (show 0 ≤ C by omega)
  obtain ⟨q, rfl⟩ := Int.eq_ofNat_of_zero_le (show 0 ≤ F by omega)
  have OC := Lib.hid (fun x c wx (hx : Below W0.heap.size W0 wx) => open_spec (q : Int) (m : Int) L a cap HO.out w.heap.size x c wx (FB.out.later hx) (HA.out.later hx))
  rw [Int.toNat_natCast]
  clear e1 e2 hok
  go_enter Try.func41, Try.ntmps41
  go_wp2_with fail
  rw [HW.out]
  refine X.out.mono ?_
  rintro e w1 ⟨rfl, hb1⟩
  have B1 := Lib.hid hb1
  clear hb1
  have S0 := strs_start w1
  have SB := balloc0 w1 (.cells #[] 9)
  obtain ⟨p0, p1, p2⟩ := FB.out.later (bnext B1.out SB)
  have hm64 : (m : Int) ≤ 40 := hC2
  go_wp2_with fail
  clear p0 p1 p2
  go_loopw [4, 5] (fun v i wr => ∃ (k : Nat) (P : List ByteArray) (ao : Option Addr) (cp : Nat), v = .slice ao k cp ∧ i = .int .i64 ((m : Int) - 1 - (k : Int)) ∧ k ≤ m ∧ Hid (wr.ownsRow w1.heap.size 9 1 (.slice ao k cp) k (strVals P)) ∧ Hid (P = flU q m L k) ∧ Hid (Below w1.heap.size w1 wr)) (fun _ i _ => (intOf i + 1).toNat)
  case atStart => exact ⟨0, [], _, _, rfl, by simp, Nat.zero_le _, S0, rfl, SB⟩
  case round =>
    obtain ⟨k, P, ao, cp, rfl, rfl, hk, hO, hP, hB0⟩ := hrel
    obtain ⟨wo, ho⟩ : ∃ wo, wo = wr := ⟨_, rfl⟩
    subst ho
    have hB : Hid (Below W0.heap.size W0 wo) := bnext B1.out hB0.out
    by_cases hlt : k < m
    · have hlt' : (0 : Int) ≤ (m : Int) - 1 - (k : Int) := by omega
      obtain ⟨c, hc⟩ : ∃ c, (m : Int) - 1 - (k : Int) = c := ⟨_, rfl⟩
      have HC := Lib.hid hc
      rw [hc] at hlt' ⊢
      have hc40 : c ≤ 40 := by omega
      clear hc
      go_wp2_with fail
      go_loopw [6, 7] (fun v i wr => ∃ (n : Nat) (ds : List UInt8) (g cap : Nat), v = .slice (some ⟨g, 0, none⟩) ds.length cap ∧ i = .int .i64 (n : Int) ∧ n ≤ q ∧ Hid (ds = lnL L c n) ∧ Hid (BytesAt wo ds g cap wr)) (fun _ i _ => q - (intOf i).toNat)
      case atStart => exact ⟨0, [], _, _, rfl, rfl, Nat.zero_le _, rfl, bytes_start wo⟩
      case round =>
        obtain ⟨n, ds, g, cap, rfl, rfl, hn, hDS, hD⟩ := hrel
        have HDS := Lib.hid hDS.out
        have hbase : wo.heap.size ≤ wr.heap.size := hD.out.2.1.size
        have HLn : ds.length = n := by rw [hDS.out, lnL_length]
        have HL := Lib.hid HLn
        have hds : ds.length ≤ 200 := by omega
        clear HLn hDS
        obtain ⟨q0, q1, q2⟩ := FB.out.later (bnext hB.out hD.out.2.1)
        by_cases hnq : n < q
        · have hnq' : (n : Int) < (q : Int) := by omega
          obtain ⟨i0, hi, hz0, hz1, hz2⟩ := info_parts infoByteY
          have c3 : Hid (ds.length + 1 ≤ maxLen) := by show ds.length + 1 ≤ maxLen; unfold maxLen; omega
          cases hop : openB L (n : Int) c
          · have HE : Hid (chB L (n : Int) c = 35) := by show _ = _; simp [chB, hop]
            have OX := Lib.hid (show _ from by have h := fun wx hx => OC.out (n : Int) c wx hx; rw [hop] at h; exact h)
            clear hop
            go_wp2_with (first | (go_at_call 75; refine (OX.out _ (bnext hB.out hD.out.2.1)).mono ?_; rintro e w3 ⟨rfl, hb3⟩; have D3 := Lib.hid (bytes_on hD.out hb3); have z3 : wo.heap.size ≤ w3.heap.size := Nat.le_trans hbase hb3.size; clear hb3) | (at_builtin; go_must ((refine wpList_append_own _ rfl _ _ 92 rfl wo.heap.size 5 i0 (.int .u8 0) 1 1 Try.underlying92 hi hz0 hz1 hz2 rfl (by decide) (.slice (some ⟨g, 0, none⟩) ds.length cap) ds.length (byteVals ds) rfl (D3.out.1.alloc _) ⟨w3.heap.size, 0, none⟩ 1 1 [.int .u8 35] rfl rfl ((lit8B wo.heap.size w3 _ z3).cells rfl) (by simp [Value.oneCell']) c3.out (by omega) (by simp; omega) ?_; intro v1 w5 hown1 hgrow1 _; obtain ⟨g', cap', hv, hD'⟩ := bytes_stepN 35 (by decide) D3.out hown1 hgrow1; subst hv; have D5 := Lib.hid hD'; clear hD' hown1 hgrow1))))
            go_roundw
            case rel => exact ⟨n + 1, ds ++ [35], g', cap', by simp [HL.out], by go_num, by omega, by show ds ++ [35] = _; rw [lnL_succ, HE.out, HDS.out], D5.out⟩
            case measure => simp [intOf]; omega
          · have HE : Hid (chB L (n : Int) c = 46) := by show _ = _; simp [chB, hop]
            have OX := Lib.hid (show _ from by have h := fun wx hx => OC.out (n : Int) c wx hx; rw [hop] at h; exact h)
            clear hop
            go_wp2_with (first | (go_at_call 75; refine (OX.out _ (bnext hB.out hD.out.2.1)).mono ?_; rintro e w3 ⟨rfl, hb3⟩; have D3 := Lib.hid (bytes_on hD.out hb3); have z3 : wo.heap.size ≤ w3.heap.size := Nat.le_trans hbase hb3.size; clear hb3) | (at_builtin; go_must ((refine wpList_append_own _ rfl _ _ 92 rfl wo.heap.size 5 i0 (.int .u8 0) 1 1 Try.underlying92 hi hz0 hz1 hz2 rfl (by decide) (.slice (some ⟨g, 0, none⟩) ds.length cap) ds.length (byteVals ds) rfl (D3.out.1.alloc _) ⟨w3.heap.size, 0, none⟩ 1 1 [.int .u8 46] rfl rfl ((lit8B wo.heap.size w3 _ z3).cells rfl) (by simp [Value.oneCell']) c3.out (by omega) (by simp; omega) ?_; intro v1 w5 hown1 hgrow1 _; obtain ⟨g', cap', hv, hD'⟩ := bytes_stepN 46 (by decide) D3.out hown1 hgrow1; subst hv; have D5 := Lib.hid hD'; clear hD' hown1 hgrow1))))
            go_roundw
            case rel => exact ⟨n + 1, ds ++ [46], g', cap', by simp [HL.out], by go_num, by omega, by show ds ++ [46] = _; rw [lnL_succ, HE.out, HDS.out], D5.out⟩
            case measure => simp [intOf]; omega
        · have hge : ¬ (n : Int) < (q : Int) := by omega
          have hnq0 : n = q := by omega
          subst hnq0
          obtain ⟨T, HT, hcv⟩ : ∃ T : ByteArray, Hid (T = ⟨ds.toArray⟩) ∧ (convert 92 9 (.slice (some ⟨g, 0, none⟩) ds.length cap)).run Try.prog wr = .ok (.string T) wr := ⟨_, rfl, bytes_string hD.out⟩
          have O3 := Lib.hid (own_later hO.out hD.out.2.1)
          have B3 := Lib.hid (bnext hB0.out hD.out.2.1)
          have z3 : w1.heap.size ≤ wr.heap.size := B3.out.size
          have HTL : Hid (T = lnB (n : Int) L c) := by show _ = _; rw [HT.out, HDS.out]; simp [lnB]
          obtain ⟨i0, hi, hz0, hz1, hz2⟩ := info_parts infoStrB
          have c3 : Hid (k + 1 ≤ maxLen) := by show k + 1 ≤ maxLen; unfold maxLen; omega
          clear HT
          go_wp2_with (at_builtin; go_must ((refine wpList_append_own _ rfl _ _ 59 rfl w1.heap.size 9 i0 (.string ⟨#[]⟩) 1 16 Try.underlying59 hi hz0 hz1 hz2 rfl (by decide) (.slice ao k cp) k (strVals P) rfl (O3.out.alloc _) ⟨wr.heap.size, 0, none⟩ 1 1 [.string T] rfl rfl ((litS w1.heap.size wr T z3).cells rfl) (by simp [Value.oneCell']) c3.out (by omega) (by simp; omega) ?_; intro v5 w5 hown5 hgrow5 _; obtain ⟨g5, cp5, hv5⟩ := own_form8S hown5 (Nat.succ_ne_zero k); subst hv5; have O5 := Lib.hid hown5; have B5 : Hid (Below w1.heap.size w1 w5) := (B3.out.alloc z3 _).grown hgrow5 (by simp; omega) (fun q hq => (O3.out.lt q hq).1); clear hown5 hgrow5)))
          go_roundw
          case rel => exact ⟨k + 1, P ++ [T], _, _, rfl, by rw [← HC.out]; go_num, by omega, by have := O5.out; rw [strVals_snoc] at this; exact this, by show P ++ [T] = _; rw [flU_succ, ← hP.out, HTL.out, HC.out], B5.out⟩
          case measure => simp [intOf]; omega
    · have hge : ¬ (0 : Int) ≤ (m : Int) - 1 - (k : Int) := by omega
      have hkn : k = m := by omega
      subst hkn
      have hpl : P.length = k := by rw [hP.out, flU_length]
      obtain ⟨a2, cap2, hv, hr⟩ := str_res (P := P) (by rw [hpl]; exact hO.out)
      rw [hpl] at hv
      cases hv
      have HR : Hid (StrRes w.heap.size P ao wo) := hr.mono (bnext E0.out B1.out).size
      have HPL : Hid ((flU q k L k).length = k) := flU_length _ _ _ _
      clear hpl hr
      go_wp2_with fail
      go_ret2
      first | exact ⟨ao, ⟨cp, by rw [HPL.out]; rfl⟩, by rw [← hP.out]; exact HR.out, bnext E0.out <| bnext B1.out <| hB0.out⟩ | exact ⟨ao, cp, by rw [HPL.out]; rfl, by rw [← hP.out]; exact HR.out, bnext E0.out <| bnext B1.out <| hB0.out⟩
end Go.Proofs.Ytplggghhhgmebaa
