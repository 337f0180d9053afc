/-
  A course that is laid: what it is, and the model's word.
-/
import Derived.Test.YtbhjdhkabhafmaaDoorPerpU
import Derived.Test.YtbhjdhkabhafmaaDoorWaS
import Derived.Test.YtbhjdhkabhafmaaDoorBy
namespace Go.Proofs.YtbhjdhkabhafmaaDoor
open Go.ChangeShapes Go.WideShapes Go.ChangeAt Go.RowKit Go.Joins

/-- What fills up a course. -/
def fillL (k : Nat) : List UInt8 := if k = 1 then [67] else if k = 2 then [66] else if k = 3 then [84] else []
/-- How many whole pieces a course has, and its pieces. -/
def layM (c : Co) (u : Nat) : Nat := perpM c (u + 1)
def layL (c : Co) (u : Nat) : List UInt8 := pieceL c (layM c u) ++ fillL (u - ends c (layM c u))
theorem lay_is {c : Co} (h : c.ok = true) (u : Nat) : PerpIs c (u + 1) (layM c u) := perp_some h (by omega)
theorem lay_eq {c : Co} (h : c.ok = true) {u m : Nat} (hm : PerpIs c (u + 1) m) : layM c u = m := perpM_eq h hm
theorem lay_left {c : Co} (h : c.ok = true) {u m : Nat} (hm : PerpIs c (u + 1) m) : ends c m ≤ u ∧ u - ends c m ≤ 3 := by
  obtain ⟨h1, h2⟩ := hm
  have := (ends_step h m).2
  omega
theorem fillL_length (k : Nat) : (fillL k).length ≤ 1 := by
  unfold fillL
  repeat' split
  all_goals simp
theorem layL_length {c : Co} (h : c.ok = true) (u : Nat) : (layL c u).length ≤ u + 2 := by
  have h1 := perp_le h (lay_is h u)
  have h2 := fillL_length (u - ends c (layM c u))
  unfold layL
  rw [List.length_append, pieceL_length]
  omega
theorem qsum_pieceL (c : Co) : ∀ m, qsum (pieceL c m) = ends c m
  | 0 => rfl
  | m + 1 => by rw [pieceL_succ, qsum_append, qsum_pieceL c m]; simp [qsum, ends]

set_option maxRecDepth 100000 in
set_option maxHeartbeats 6400000 in
theorem lay_spec {nm : ByteArray} {L : List Co} (hok : okBond nm L = true) (a : Option Addr) (cap b k u : Nat) (hk : k ≤ 2000) (hu2 : u ≤ 200) (w : World) (h : BdAt w b nm L a cap) :
    Calls Tryd.prog 65 #[.pointer (some ⟨b, 0, none⟩), .int .i64 (k : Int), .int .i64 (u : Int)] w fun e w' => e = .returned (.string ⟨(layL (crs L k) u).toArray⟩) ∧ Below w.heap.size w w' := by
  obtain ⟨_, h1, h8, _⟩ := okBond_facts hok
  have A1 := Lib.hid (at_spec nm L a cap h1 h8 b k hk w h)
  have HO := Lib.hid (crs_ok hok k)
  obtain ⟨c, hce⟩ : ∃ c, crs L k = c := ⟨_, rfl⟩
  rw [hce] at A1 HO ⊢
  clear hce h h1 h8
  obtain ⟨V, hV⟩ : ∃ V, layL c u = V := ⟨_, rfl⟩
  rw [hV]
  have HV := Lib.hid hV
  clear hV
  go_enter Tryd.func65, Tryd.ntmps65
  go_wp2_with fail
  refine A1.out.mono ?_
  rintro e w2 ⟨rfl, hb2⟩
  have B2 := Lib.hid (bnext (Below.refl _ _) hb2)
  clear hb2
  obtain ⟨W0, hW⟩ : ∃ W0, w2.alloc (.cells #[.string c.lead, .string c.cyc] 98) = W0 := ⟨_, rfl⟩
  have E0 : Hid (Below w.heap.size w W0) := by show Below _ _ _; rw [← hW]; exact B2.out.alloc B2.out.size _
  have Z0 : Hid (w2.heap.size + 1 = W0.heap.size) := by show _ = _; rw [← hW]; simp
  have KB : Hid (∀ wx, Below W0.heap.size W0 wx → wx.cell? ⟨w2.heap.size, 0, none⟩ = some (.string c.lead) ∧ wx.cell? ⟨w2.heap.size, 1, none⟩ = some (.string c.cyc)) := by
    rw [← hW]
    exact fun wx hx => ⟨(hx.cell (p := ⟨w2.heap.size, 0, none⟩) (by simp)).trans (box2c w2 c.lead c.cyc _).1, (hx.cell (p := ⟨w2.heap.size, 1, none⟩) (by simp)).trans (box2c w2 c.lead c.cyc _).2⟩
  have HW := Lib.hid hW
  clear hW
  go_wp2
  rw [HW.out]
  go_loopw [8, 9, 10] (fun v t i wr => ∃ (j g cap : Nat) (ds : List UInt8), v = .slice (some ⟨g, 0, none⟩) ds.length cap ∧ t = .int .i64 ((ends c j : Nat) : Int) ∧ i = .int .i64 (j : Int) ∧ j ≤ 200 ∧ Hid (ds = pieceL c j) ∧ ends c j ≤ u ∧ Hid (BytesAt W0 ds g cap wr)) (fun _ _ i _ => 300 - (intOf i).toNat)
  case atStart => exact ⟨0, W0.heap.size, 0, [], by rw [Z0.out]; rfl, rfl, rfl, by omega, rfl, Nat.zero_le _, bytes_start W0⟩
  case round =>
    obtain ⟨j, g, cap, ds, rfl, rfl, rfl, hj, hP, hU, hD⟩ := hrel
    have hge := ends_ge HO.out j
    have hge2 := ends_ge HO.out (j + 1)
    have CL := Lib.hid (letter_spec c HO.out j (by omega))
    have CQ := Lib.hid (quarters_spec ((letterAt c j).toNat : Int))
    rw [← qtr_eq] at CQ
    have HS : Hid (ends c (j + 1) = ends c j + qtr (letterAt c j)) := rfl
    have HS2 := HS.out
    have hq4 := qtr_le (letterAt c j)
    obtain ⟨k0, k1⟩ := KB.out _ hD.out.2.1
    have hpl : ds.length = j := by rw [hP.out, pieceL_length]
    have HPL := Lib.hid hpl
    clear hpl
    by_cases hlt : ends c (j + 1) ≤ u
    · have hj1 : j + 1 ≤ 200 := by omega
      obtain ⟨E, hE⟩ : ∃ E, ends c j = E := ⟨_, rfl⟩
      obtain ⟨q, hq⟩ : ∃ q, qtr (letterAt c j) = q := ⟨_, rfl⟩
      have hX : Hid (pieceL c (j + 1) = pieceL c j ++ [letterAt c j]) := pieceL_succ c j
      obtain ⟨x, hx⟩ : ∃ x, letterAt c j = x := ⟨_, rfl⟩
      rw [hx] at CL CQ HS hX hq HS2 hq4
      rw [hq] at CQ HS HS2 hq4
      rw [hE] at HS HS2 hge hU ⊢
      have hle : ¬ (u : Int) < (E : Int) + (q : Int) := by omega
      clear hE hq hx hge2 HS2
      have hbase : W0.heap.size ≤ wr.heap.size := by have := hD.out.2.2; omega
      have c3 : Hid (ds.length + 1 ≤ maxLen) := by show ds.length + 1 ≤ maxLen; have := HPL.out; unfold maxLen; omega
      have c4 : ds.length ≤ 250 := by have := HPL.out; omega
      obtain ⟨i0, hi, hz0, hz1, hz2⟩ := info_parts infoByteY
      go_wp2_with (first | (go_at_call 92; refine (CL.out _).mono ?_; rintro e w3 ⟨rfl, hb3⟩; have D3 := Lib.hid (bytes_on hD.out hb3); have z3 : W0.heap.size ≤ w3.heap.size := Nat.le_trans hbase hb3.size; clear hb3) | (go_at_call 85; refine (CQ.out _).mono ?_; rintro e w4 ⟨rfl, rfl⟩) | (at_builtin; go_must ((refine wpList_append_own _ rfl _ _ 69 rfl W0.heap.size 5 i0 (.int .u8 0) 1 1 Tryd.underlying69 hi hz0 hz1 hz2 rfl (by decide) (.slice (some ⟨g, 0, none⟩) ds.length cap) ds.length (byteVals ds) rfl (D3.out.1.alloc _) ⟨w3.heap.size, 0, none⟩ 1 1 [.int .u8 (x.toNat : Int)] rfl rfl ((lit8B W0.heap.size w3 _ z3).cells rfl) (by simp [Value.oneCell']) c3.out (by omega) (by simp; omega) ?_; intro v1 w5 hown1 hgrow1 _; obtain ⟨g', cap', hv, hD'⟩ := bytes_step D3.out hown1 hgrow1; subst hv; have D5 := Lib.hid hD'; clear hD' hown1 hgrow1))))
      go_roundw
      case rel => exact ⟨j + 1, g', cap', ds ++ [x], by simp, by rw [HS.out]; simp, by go_num, hj1, by show ds ++ [x] = _; rw [hX.out, hP.out], by rw [HS.out]; omega, D5.out⟩
      case measure => simp [intOf]; omega
    · have HM : Hid (PerpIs c (u + 1) j) := ⟨by omega, by omega⟩
      have hlf := lay_left HO.out HM.out
      have HX : Hid (V = ds ++ fillL (u - ends c j)) := by show V = _; rw [← HV.out, layL, lay_eq HO.out HM.out, hP.out]
      obtain ⟨E, hE⟩ : ∃ E, ends c j = E := ⟨_, rfl⟩
      obtain ⟨q, hq⟩ : ∃ q, qtr (letterAt c j) = q := ⟨_, rfl⟩
      obtain ⟨x, hx⟩ : ∃ x, letterAt c j = x := ⟨_, rfl⟩
      rw [hx] at CL CQ HS hq HS2 hq4
      rw [hq] at CQ HS HS2 hq4
      rw [hE] at HS HS2 hge hU HX hlf ⊢
      have hle : (u : Int) < (E : Int) + (q : Int) := by omega
      clear hE hq hx hge2 HS2
      have hbase : W0.heap.size ≤ wr.heap.size := by have := hD.out.2.2; omega
      have c3 : Hid (ds.length + 1 ≤ maxLen) := by show ds.length + 1 ≤ maxLen; have := HPL.out; unfold maxLen; omega
      have c4 : ds.length ≤ 250 := by have := HPL.out; omega
      obtain ⟨i0, hi, hz0, hz1, hz2⟩ := info_parts infoByteY
      obtain ⟨f, hf⟩ : ∃ f, u - E = f := ⟨_, rfl⟩
      have huE : (u : Int) = (E : Int) + (f : Int) := by omega
      rw [hf] at HX hlf
      have HU := Lib.hid huE
      clear hf
      rcases (show f = 0 ∨ f = 1 ∨ f = 2 ∨ f = 3 by omega) with rfl | rfl | rfl | rfl
      · have e1 : ¬ (u : Int) - (E : Int) = 1 := by omega
        have e2 : ¬ (u : Int) - (E : Int) = 2 := by omega
        have e3 : ¬ (u : Int) - (E : Int) = 3 := by omega
        clear huE
        go_wp2_with (first | (go_at_call 92; refine (CL.out _).mono ?_; rintro e w3 ⟨rfl, hb3⟩; have D3 := Lib.hid (bytes_on hD.out hb3); have z3 : W0.heap.size ≤ w3.heap.size := Nat.le_trans hbase hb3.size; have hcv := bytes_string D3.out; clear hb3) | (go_at_call 85; refine (CQ.out _).mono ?_; rintro e w4 ⟨rfl, rfl⟩))
        go_ret
        exact ⟨by rw [HX.out]; simp [fillL], E0.out.trans (D3.out.2.1.mono E0.out.size)⟩
      · skip
        have e1 : (u : Int) - (E : Int) = 1 := by omega
        have e2 : ¬ (u : Int) - (E : Int) = 2 := by omega
        have e3 : ¬ (u : Int) - (E : Int) = 3 := by omega
        have hf : fillL 1 = [67] := by decide
        rw [hf] at HX
        clear huE hf
        go_wp2_with (first | (go_at_call 92; refine (CL.out _).mono ?_; rintro e w3 ⟨rfl, hb3⟩; have D3 := Lib.hid (bytes_on hD.out hb3); have z3 : W0.heap.size ≤ w3.heap.size := Nat.le_trans hbase hb3.size; clear hb3) | (go_at_call 85; refine (CQ.out _).mono ?_; rintro e w4 ⟨rfl, rfl⟩) | (at_builtin; go_must ((refine wpList_append_own _ rfl _ _ 69 rfl W0.heap.size 5 i0 (.int .u8 0) 1 1 Tryd.underlying69 hi hz0 hz1 hz2 rfl (by decide) (.slice (some ⟨g, 0, none⟩) ds.length cap) ds.length (byteVals ds) rfl (D3.out.1.alloc _) ⟨w3.heap.size, 0, none⟩ 1 1 [.int .u8 67] rfl rfl ((lit8B W0.heap.size w3 _ z3).cells rfl) (by simp [Value.oneCell']) c3.out (by omega) (by simp; omega) ?_; intro v1 w5 hown1 hgrow1 _; obtain ⟨g', cap', hv, hD'⟩ := bytes_stepN 67 (by decide) D3.out hown1 hgrow1; subst hv; have D5 := Lib.hid hD'; obtain ⟨T, HT, hcv⟩ := bytes_string1 D5.out; clear hD' hown1 hgrow1))))
        go_ret
        exact ⟨by rw [HX.out, ← HT.out]; rfl, E0.out.trans (D5.out.2.1.mono E0.out.size)⟩
      · skip
        have e1 : ¬ (u : Int) - (E : Int) = 1 := by omega
        have e2 : (u : Int) - (E : Int) = 2 := by omega
        have e3 : ¬ (u : Int) - (E : Int) = 3 := by omega
        have hf : fillL 2 = [66] := by decide
        rw [hf] at HX
        clear huE hf
        go_wp2_with (first | (go_at_call 92; refine (CL.out _).mono ?_; rintro e w3 ⟨rfl, hb3⟩; have D3 := Lib.hid (bytes_on hD.out hb3); have z3 : W0.heap.size ≤ w3.heap.size := Nat.le_trans hbase hb3.size; clear hb3) | (go_at_call 85; refine (CQ.out _).mono ?_; rintro e w4 ⟨rfl, rfl⟩) | (at_builtin; go_must ((refine wpList_append_own _ rfl _ _ 69 rfl W0.heap.size 5 i0 (.int .u8 0) 1 1 Tryd.underlying69 hi hz0 hz1 hz2 rfl (by decide) (.slice (some ⟨g, 0, none⟩) ds.length cap) ds.length (byteVals ds) rfl (D3.out.1.alloc _) ⟨w3.heap.size, 0, none⟩ 1 1 [.int .u8 66] rfl rfl ((lit8B W0.heap.size w3 _ z3).cells rfl) (by simp [Value.oneCell']) c3.out (by omega) (by simp; omega) ?_; intro v1 w5 hown1 hgrow1 _; obtain ⟨g', cap', hv, hD'⟩ := bytes_stepN 66 (by decide) D3.out hown1 hgrow1; subst hv; have D5 := Lib.hid hD'; obtain ⟨T, HT, hcv⟩ := bytes_string1 D5.out; clear hD' hown1 hgrow1))))
        go_ret
        exact ⟨by rw [HX.out, ← HT.out]; rfl, E0.out.trans (D5.out.2.1.mono E0.out.size)⟩
      · skip
        have e1 : ¬ (u : Int) - (E : Int) = 1 := by omega
        have e2 : ¬ (u : Int) - (E : Int) = 2 := by omega
        have e3 : (u : Int) - (E : Int) = 3 := by omega
        have hf : fillL 3 = [84] := by decide
        rw [hf] at HX
        clear huE hf
        go_wp2_with (first | (go_at_call 92; refine (CL.out _).mono ?_; rintro e w3 ⟨rfl, hb3⟩; have D3 := Lib.hid (bytes_on hD.out hb3); have z3 : W0.heap.size ≤ w3.heap.size := Nat.le_trans hbase hb3.size; clear hb3) | (go_at_call 85; refine (CQ.out _).mono ?_; rintro e w4 ⟨rfl, rfl⟩) | (at_builtin; go_must ((refine wpList_append_own _ rfl _ _ 69 rfl W0.heap.size 5 i0 (.int .u8 0) 1 1 Tryd.underlying69 hi hz0 hz1 hz2 rfl (by decide) (.slice (some ⟨g, 0, none⟩) ds.length cap) ds.length (byteVals ds) rfl (D3.out.1.alloc _) ⟨w3.heap.size, 0, none⟩ 1 1 [.int .u8 84] rfl rfl ((lit8B W0.heap.size w3 _ z3).cells rfl) (by simp [Value.oneCell']) c3.out (by omega) (by simp; omega) ?_; intro v1 w5 hown1 hgrow1 _; obtain ⟨g', cap', hv, hD'⟩ := bytes_stepN 84 (by decide) D3.out hown1 hgrow1; subst hv; have D5 := Lib.hid hD'; obtain ⟨T, HT, hcv⟩ := bytes_string1 D5.out; clear hD' hown1 hgrow1))))
        go_ret
        exact ⟨by rw [HX.out, ← HT.out]; rfl, E0.out.trans (D5.out.2.1.mono E0.out.size)⟩
end Go.Proofs.YtbhjdhkabhafmaaDoor
