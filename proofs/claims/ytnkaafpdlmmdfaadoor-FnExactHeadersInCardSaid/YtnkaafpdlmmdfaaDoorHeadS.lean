/-
  HeadersIn: the model's answer.
-/
import Derived.Test.YtnkaafpdlmmdfaaDoorHeadI
namespace Go.Proofs.YtnkaafpdlmmdfaaDoor
open Go.ChangeShapes Go.WideShapes Go.ChangeAt Go.RowKit Go.Joins

set_option maxRecDepth 100000 in
set_option maxHeartbeats 3200000 in
theorem headersIn_spec (nm : ByteArray) (L : List Co) (a : Option Addr) (cap : Nat) (hl : L.length ≤ 1048576) (hs : CosLe 1048576 L) (course til : Int) (w : World) (ha : CoArg w a L) :
    Calls Tryd.prog 29 #[.agg #[.string nm, .slice a L.length cap], .int .i64 course, .int .i64 til] w fun e w' => e = .returned (.tuple #[.int .i64 (headV nm L course til), .int .i64 (bCode nm L course til)]) ∧ Below w.heap.size w w' := by
  have hbd := bd_new w nm L a cap 29 ha
  obtain ⟨W0, hW⟩ : ∃ W0, w.alloc (.cells #[.string nm, .slice a L.length cap] 29) = W0 := ⟨_, rfl⟩
  have E0 : Hid (Below w.heap.size w W0) := by show Below w.heap.size w W0; rw [← hW]; exact balloc0 _ _
  rw [hW] at hbd
  have HW := Lib.hid hW
  have C := Lib.hid (code_spec nm L a cap hl hs w.heap.size course til W0 hbd)
  by_cases hc : bCode nm L course til = 0
  case neg =>
    obtain ⟨q, hq⟩ : ∃ q, bCode nm L course til = q := ⟨_, rfl⟩
    have HP : Hid (headV nm L course til = 0) := by show headV nm L course til = 0; simp [headV, hc]
    rw [hq] at C hc
    rw [HP.out, hq]
    clear hW hbd hq ha
    go_enter Tryd.func29, Tryd.ntmps29
    go_wp2_with fail
    rw [HW.out]
    refine C.out.mono ?_
    rintro e w1 ⟨rfl, hb1⟩
    have B1 := Lib.hid (bnext E0.out hb1)
    clear hb1
    go_wp2_with fail
    go_ret2
    exact ⟨rfl, B1.out⟩
  obtain ⟨hok, ⟨k0, k1⟩, u0, u1⟩ := bCode_facts hc
  obtain ⟨_, h1, h8, _⟩ := okBond_facts hok
  obtain ⟨k, rfl⟩ := Int.eq_ofNat_of_zero_le k0
  obtain ⟨u, rfl⟩ := Int.eq_ofNat_of_zero_le (show 0 ≤ til by omega)
  have A1 := Lib.hid (fun wx (hx : Below W0.heap.size W0 wx) => at_spec nm L a cap h1 h8 w.heap.size k (by omega) wx (hbd.later hx))
  have HV := Lib.hid (fun m (hm : PerpIs (crs L k) (u + 1) m) => headV_eq hc hm)
  have HO := Lib.hid (crs_ok hok k)
  rw [hc] at C ⊢
  obtain ⟨V, hVe⟩ : ∃ V, headV nm L (k : Int) (u : Int) = V := ⟨_, rfl⟩
  rw [hVe] at HV ⊢
  obtain ⟨c, hce⟩ : ∃ c, crs L k = c := ⟨_, rfl⟩
  rw [hce] at A1 HV HO
  have hu1 : 1 ≤ u := by omega
  clear hW hbd ha hc hVe hce
  go_enter Tryd.func29, Tryd.ntmps29
  go_wp2_with fail
  rw [HW.out]
  refine C.out.mono ?_
  rintro e w1 ⟨rfl, hb1⟩
  have B1 := Lib.hid hb1
  clear hb1
  go_wp2_with fail
  refine (A1.out _ B1.out).mono ?_
  rintro e w2 ⟨rfl, hb2⟩
  have B2 := Lib.hid (bnext B1.out hb2)
  clear hb2
  have KB : Hid (∀ wx, Below (w2.heap.size + 1) (w2.alloc (.cells #[.string c.lead, .string c.cyc] 69)) wx → wx.cell? ⟨w2.heap.size, 0, none⟩ = some (.string c.lead) ∧ wx.cell? ⟨w2.heap.size, 1, none⟩ = some (.string c.cyc)) := fun wx hx =>
    ⟨(hx.cell (p := ⟨w2.heap.size, 0, none⟩) (Nat.lt_succ_self _)).trans (box2c w2 c.lead c.cyc _).1, (hx.cell (p := ⟨w2.heap.size, 1, none⟩) (Nat.lt_succ_self _)).trans (box2c w2 c.lead c.cyc _).2⟩
  go_wp2
  go_loopw [10, 11, 12] (fun t n i wr => ∃ (j N : Nat), t = .int .i64 ((ends c j : Nat) : Int) ∧ n = .int .i64 (N : Int) ∧ i = .int .i64 (j : Int) ∧ j ≤ 201 ∧ N ≤ j ∧ Hid (1 ≤ j → ends c (j - 1) < u) ∧ Hid (N = if ends c j ≤ u then headsN c j else headsN c (j - 1)) ∧ Hid (Below (w2.heap.size + 1) (w2.alloc (.cells #[.string c.lead, .string c.cyc] 69)) wr) ∧ w2.heap.size + 1 ≤ wr.heap.size) (fun _ _ i _ => 300 - (intOf i).toNat)
  case atStart => exact ⟨0, 0, rfl, rfl, rfl, by omega, by omega, fun h => by omega, by show 0 = _; simp [ends, headsN], Below.refl _ _, by simp⟩
  case round =>
    obtain ⟨j, N, rfl, rfl, rfl, hj, hN, hU, hH, hB, hsz⟩ := hrel
    have hge := ends_ge HO.out j
    by_cases hlt : ends c j < u
    · have hlt' : ((ends c j : Nat) : Int) < (u : Int) := by omega
      have CL := Lib.hid (letter_spec c HO.out j (by omega))
      have CQ := Lib.hid (quarters_spec ((letterAt c j).toNat : Int))
      rw [← qtr_eq] at CQ
      have HS : Hid (ends c (j + 1) = ends c j + qtr (letterAt c j)) := rfl
      have HN : Hid (N = headsN c j) := by show N = _; rw [hH.out, if_pos (by omega)]
      have HNS : Hid (headsN c (j + 1) = headsN c j + if letterAt c j = 72 then 1 else 0) := rfl
      have h72 : letterAt c j = 72 ↔ ((letterAt c j).toNat : Int) = 72 := u8_eq (letterAt c j) 72 (by omega)
      have hq4 := qtr_le (letterAt c j)
      obtain ⟨E, hE⟩ : ∃ E, ends c j = E := ⟨_, rfl⟩
      obtain ⟨q, hq⟩ : ∃ q, qtr (letterAt c j) = q := ⟨_, rfl⟩
      obtain ⟨x, hx⟩ : ∃ x : Int, ((letterAt c j).toNat : Int) = x := ⟨_, rfl⟩
      rw [hE] at hlt hlt' HS hge ⊢
      rw [hq] at CQ HS hq4
      rw [hx] at CL CQ h72
      have HE := Lib.hid hE
      have H72 := Lib.hid h72
      obtain ⟨k0, k1⟩ := KB.out _ hB.out
      have hU1 : Hid (ends c (j + 1 - 1) < u) := by show ends c (j + 1 - 1) < u; rw [Nat.add_sub_cancel, HE.out]; exact hlt
      clear hE hq hx h72
      by_cases hx72 : x = 72
      · have HL72 := Lib.hid (H72.out.2 hx72)
        subst hx72
        by_cases hle : E + q ≤ u
        · have hle' : (E : Int) + (q : Int) ≤ (u : Int) := by omega
          go_wp2_with (first | (go_at_call 66; refine (CL.out _).mono ?_; rintro e w3 ⟨rfl, hb3⟩; have B3 : Hid (Below (w2.heap.size + 1) (w2.alloc (.cells #[.string c.lead, .string c.cyc] 69)) w3) := hB.out.trans (hb3.mono hsz); have z3 : w2.heap.size + 1 ≤ w3.heap.size := Nat.le_trans hsz hb3.size; clear hb3) | (go_at_call 67; refine (CQ.out _).mono ?_; rintro e w4 ⟨rfl, rfl⟩))
          go_roundw
          case rel => exact ⟨j + 1, N + 1, by rw [HS.out]; simp, by simp, by simp, by omega, by omega, fun _ => hU1.out, by show N + 1 = _; rw [HS.out, if_pos hle, HNS.out, if_pos HL72.out, HN.out], B3.out, z3⟩
          case measure => simp [intOf]; omega
        · have hle' : ¬ (E : Int) + (q : Int) ≤ (u : Int) := by omega
          go_wp2_with (first | (go_at_call 66; refine (CL.out _).mono ?_; rintro e w3 ⟨rfl, hb3⟩; have B3 : Hid (Below (w2.heap.size + 1) (w2.alloc (.cells #[.string c.lead, .string c.cyc] 69)) w3) := hB.out.trans (hb3.mono hsz); have z3 : w2.heap.size + 1 ≤ w3.heap.size := Nat.le_trans hsz hb3.size; clear hb3) | (go_at_call 67; refine (CQ.out _).mono ?_; rintro e w4 ⟨rfl, rfl⟩))
          go_roundw
          case rel => exact ⟨j + 1, N, by rw [HS.out]; simp, rfl, by simp, by omega, by omega, fun _ => hU1.out, by show N = _; rw [HS.out, if_neg hle, Nat.add_sub_cancel]; exact HN.out, B3.out, z3⟩
          case measure => simp [intOf]; omega
      · go_wp2_with (first | (go_at_call 66; refine (CL.out _).mono ?_; rintro e w3 ⟨rfl, hb3⟩; have B3 : Hid (Below (w2.heap.size + 1) (w2.alloc (.cells #[.string c.lead, .string c.cyc] 69)) w3) := hB.out.trans (hb3.mono hsz); have z3 : w2.heap.size + 1 ≤ w3.heap.size := Nat.le_trans hsz hb3.size; clear hb3) | (go_at_call 67; refine (CQ.out _).mono ?_; rintro e w4 ⟨rfl, rfl⟩))
        go_roundw
        case rel => exact ⟨j + 1, N, by rw [HS.out]; simp, rfl, by simp, by omega, by omega, fun _ => hU1.out, by
          show N = _
          rw [HNS.out, if_neg (fun h => hx72 (H72.out.1 h)), Nat.add_sub_cancel, ← HN.out]
          simp, B3.out, z3⟩
        case measure => simp [intOf]; omega
    · have hge' : ¬ ((ends c j : Nat) : Int) < (u : Int) := by omega
      have hj1 : 1 ≤ j := by
        apply Decidable.byContradiction
        intro h
        have : j = 0 := by omega
        subst this
        exact hlt hu1
      have HVN : Hid (V = (N : Int)) := by
        show V = (N : Int)
        by_cases he : ends c j ≤ u
        · rw [HV.out j ⟨by omega, by have := (ends_step HO.out j).1; omega⟩, hH.out, if_pos he]
        · rw [HV.out (j - 1) ⟨by have := hU.out hj1; omega, by rw [Nat.sub_add_cancel hj1]; omega⟩, hH.out, if_neg he]
      have HB : Hid (Below w.heap.size w wr) := bnext E0.out (B2.out.trans (((balloc0 w2 _).trans (hB.out.mono (Nat.le_succ _))).mono B2.out.size))
      clear hge hlt
      go_wp2
      go_ret2
      exact ⟨by rw [HVN.out]; rfl, HB.out⟩
end Go.Proofs.YtnkaafpdlmmdfaaDoor
