/-
  A line of a front, by the program.
-/
import Derived.Test.YtplggghhhgmebaaFtQ
import Derived.Test.YtplggghhhgmebaaPqJ
import Derived.Test.YtplggghhhgmebaaShelfB
import Derived.Lib.Repeat
import Derived.Deep.RegionHeld3
namespace Go.Proofs.Ytplggghhhgmebaa
open Go.ChangeShapes Go.WideShapes Go.ChangeAt Go.RowKit Go.Joins

theorem repeat_one (c : UInt8) : ∀ m, Lib.repeatL [c] m = List.replicate m c
  | 0 => rfl
  | m + 1 => by rw [Lib.repeatL, repeat_one c m, List.replicate_succ]; rfl
theorem rep_impl (c : UInt8) (n : Int) (h0 : 0 ≤ n) (h1 : n ≤ 1000) (w : World) : Calls Try.prog 90 #[.string ⟨#[c]⟩, .int .i64 n] w fun e w' => e = .returned (.string ⟨(List.replicate n.toNat c).toArray⟩) ∧ Below w.heap.size w w' := by
  obtain ⟨m, rfl⟩ := Int.eq_ofNat_of_zero_le h0
  have h := Try.strings_Repeat ⟨#[c]⟩ m w (by omega) (by rw [show (⟨#[c]⟩ : ByteArray).size = 1 from rfl]; omega)
  rw [show (⟨#[c]⟩ : ByteArray).data.toList = [c] from rfl, repeat_one] at h
  exact h
set_option maxRecDepth 100000 in
set_option maxHeartbeats 40000000 in
theorem line_impl (F C : Int) (L : List Og) (a : Option Addr) (cap : Nat) (hok : FrOk F C L) (c : Int) (w : World) (ha : OgArg w a L) :
    Calls Try.prog 76 #[.agg #[.int .i64 F, .int .i64 C, .slice a L.length cap], .int .i64 c] w fun e w' => e = .returned (.string (lnB F L c)) ∧ Below w.heap.size w w' := by
  have FB' := FrBox.new w F C a cap L 29
  have E0' := Lib.hid (balloc0 w (.cells #[.int .i64 F, .int .i64 C, .slice a L.length cap] 29))
  obtain ⟨W0, hW⟩ : ∃ W0, w.alloc (.cells #[.int .i64 F, .int .i64 C, .slice a L.length cap] 29) = W0 := ⟨_, rfl⟩
  rw [hW] at FB' E0'
  have FB := Lib.hid FB'
  have E0 := Lib.hid E0'.out
  have HA := Lib.hid (ha.later E0.out)
  have HW := Lib.hid hW
  clear hW E0' FB' ha
  have hF1 : 1 ≤ F := hok.fl.1
  have hF2 : F ≤ 200 := hok.fl.2
  obtain ⟨q, hq⟩ := Int.eq_ofNat_of_zero_le (show 0 ≤ F by omega)
  have HALL := Lib.hid (pdr_all hok c hq)
  have HBD := Lib.hid (show ∀ (k : Nat) (p : Pt), (partsF F L c)[k]? = some p → (0 : Int) ≤ p.fr ∧ p.fr < p.tt ∧ p.tt ≤ F from fun k p h => ptsF_bounds (hok.ch c) p (List.mem_of_getElem? h))
  have HST := Lib.hid (show ∀ (j : Nat) (p : Pt), (partsF F L c)[j]? = some p → (pdrB (partsF F L c) q j).extract 0 p.fr.toNat ++ ⟨(List.replicate (p.tt - p.fr).toNat 35).toArray⟩ ++ (pdrB (partsF F L c) q j).extract p.tt.toNat (pdrB (partsF F L c) q j).size = pdrB (partsF F L c) q (j + 1) from fun j p h => by
    have hb := ptsF_bounds (hok.ch c) p (List.mem_of_getElem? h)
    exact pdr_step h hb.1 (by omega) (by omega))
  have HSZ := Lib.hid (fun j => pdrB_size (partsF F L c) q j)
  have R46 : Hid (∀ wx, Calls Try.prog 90 #[.string ⟨#[46]⟩, .int .i64 F] wx fun e w' => e = .returned (.string (pdrB (partsF F L c) q 0)) ∧ Below wx.heap.size wx w') := fun wx => by
    have h := rep_impl 46 F (by omega) (by omega) wx
    rw [pdrB_zero, show q = F.toNat by omega]
    exact h
  have PI := Lib.hid (fun wx (hx : Below W0.heap.size W0 wx) => parts_impl F C L a cap hok c wx (HA.out.later hx))
  have hn9 : (partsF F L c).length ≤ 9 := by
    have h1 := ptsF_length F 0 (cutL L c)
    have h2 := cutL_length L c
    have h3 := hok.len
    unfold partsF
    omega
  have HQ := Lib.hid hq
  obtain ⟨P, hP⟩ : ∃ P, partsF F L c = P := ⟨_, rfl⟩
  rw [hP] at HALL HBD HST HSZ R46 PI hn9
  clear hq hP
  obtain ⟨q0, q1, q2⟩ := FB.out
  go_enter Try.func76, Try.ntmps76
  go_wp2_with fail
  rw [HW.out]
  go_wp2_with fail
  refine (R46.out _).mono ?_
  rintro e w1 ⟨rfl, hb1⟩
  have B1 := Lib.hid hb1
  clear hb1 q0 q1 q2
  obtain ⟨q0, q1, q2⟩ := FB.out.later B1.out
  go_wp2_with fail
  refine (PI.out _ B1.out).mono ?_
  rintro e w2 ⟨v, rfl, hv, hb2⟩
  obtain ⟨a1, cp1, rfl, hr⟩ := own_ptform hv
  have A2 := Lib.hid hr.arg
  have B2 := Lib.hid (bnext B1.out hb2)
  clear hv hr hb2 q0 q1 q2
  go_wp2_with fail
  go_loopw [5, 15] (fun t i wr => ∃ (j : Nat), j ≤ P.length ∧ t = .string (pdrB P q j) ∧ i = .int .i64 (j : Int) ∧ Hid (Below w2.heap.size w2 wr)) (fun _ i _ => P.length - (intOf i).toNat)
  case atStart => exact ⟨0, Nat.zero_le _, rfl, rfl, Below.refl _ _⟩
  case round =>
    obtain ⟨j, hj, rfl, rfl, hB⟩ := hrel
    by_cases hjl : j < P.length
    · have hjl' : (j : Int) < (P.length : Int) := by omega
      have hj0 : (0 : Int) ≤ (j : Int) := by omega
      obtain ⟨b, o, p, rfl, hp, hat⟩ := (A2.out.later hB.out).at hjl
      obtain ⟨c0, c1⟩ := hat.cells hp
      obtain ⟨hp0, hp1, hp2⟩ := HBD.out j p hp
      have HS := Lib.hid (HST.out j p hp)
      have hTs := HSZ.out j
      obtain ⟨T, hT⟩ : ∃ T, pdrB P q j = T := ⟨_, rfl⟩
      rw [hT] at HS hTs
      have hT1 : p.fr ≤ (T.size : Int) := by have := HQ.out; omega
      have hT2 : p.tt ≤ (T.size : Int) := by have := HQ.out; omega
      have hp3 : 0 ≤ p.tt := by omega
      have PLn := Lib.hid (fun wx => partLen_impl p.fr p.tt (by omega) (by omega) wx)
      have R35 := Lib.hid (fun wx => rep_impl 35 (p.tt - p.fr) (by omega) (by omega) wx)
      obtain ⟨RR, hRR⟩ : ∃ RR : ByteArray, ⟨(List.replicate (p.tt - p.fr).toNat 35).toArray⟩ = RR := ⟨_, rfl⟩
      have hRs : RR.size ≤ 1000 := by rw [← hRR]; simp [ByteArray.size]; omega
      have hq200 : q ≤ 200 := by have := HQ.out; omega
      rw [hRR] at HS R35
      have BX' := box_pt wr p
      have BV' := balloc0 wr (.cells #[.int .i64 p.fr, .int .i64 p.tt] 51)
      rw [hT]
      clear hp hat hT hRR
      go_wp2_with fail
      obtain ⟨V, hV⟩ : ∃ V, wr.alloc (.cells #[.int .i64 p.fr, .int .i64 p.tt] 51) = V := ⟨_, rfl⟩
      rw [hV] at BX' BV'
      rw [hV]
      have BX := Lib.hid BX'
      have BV := Lib.hid (bnext hB.out BV')
      clear hV BX' BV' c0 c1
      refine wp_region_held_drew (S := fun W => Below V.heap.size V W) (by kernel_rfl) ?_ (fun hHeld => ?_)
      · exact (Below.refl _ _).drew
      refine wpAnyH_take (i := 0) (v := .string T) rfl (by kernel_rfl) (by kernel_rfl) (by kernel_rfl) (fun _ _ _ h => h) (Or.inl ⟨by kernel_rfl, ?_⟩) (by assumption) ?_
      · intro w hSw
        try dsimp only at hSw
        skip
        go_simp
      try simp only [Act.put, List.setIfInBounds_toArray, List.set_cons_zero, List.set_cons_succ, List.getElem_toArray, List.getElem_cons_zero]
      refine wpAnyH_take (i := 1) (v := .pointer (some ⟨wr.heap.size, 0, none⟩)) rfl (by kernel_rfl) (by kernel_rfl) (by kernel_rfl) (fun _ _ _ h => h) (Or.inl ⟨by kernel_rfl, ?_⟩) (by assumption) ?_
      · intro w hSw
        try dsimp only at hSw
        skip
        go_simp
      try simp only [Act.put, List.setIfInBounds_toArray, List.set_cons_zero, List.set_cons_succ, List.getElem_toArray, List.getElem_cons_zero, List.getElem_cons_succ]
      refine wpAnyH_take (i := 2) (v := .int .i64 p.fr) rfl (by kernel_rfl) (by kernel_rfl) (by kernel_rfl) (fun _ _ _ h => h) (Or.inl ⟨by kernel_rfl, ?_⟩) (by assumption) ?_
      · intro w hSw
        try dsimp only at hSw
        obtain ⟨b0, b1⟩ := BX.out _ hSw
        go_simp
      try simp only [Act.put, List.setIfInBounds_toArray, List.set_cons_zero, List.set_cons_succ, List.getElem_toArray, List.getElem_cons_zero, List.getElem_cons_succ]
      refine wpAnyH_take (i := 3) (v := .string (T.extract 0 p.fr.toNat)) rfl (by kernel_rfl) (by kernel_rfl) (by kernel_rfl) (fun _ _ _ h => h) (Or.inl ⟨by kernel_rfl, ?_⟩) (by assumption) ?_
      · intro w hSw
        try dsimp only at hSw
        skip
        go_simp
        all_goals first | omega | exact IntWalk.i64_in _ (by omega)
      try simp only [Act.put, List.setIfInBounds_toArray, List.set_cons_zero, List.set_cons_succ, List.getElem_toArray, List.getElem_cons_zero, List.getElem_cons_succ]
      refine wpAnyH_take (i := 4) (v := .agg #[.int .i64 p.fr, .int .i64 p.tt]) rfl (by kernel_rfl) (by kernel_rfl) (by kernel_rfl) (fun _ _ _ h => h) (Or.inl ⟨by kernel_rfl, ?_⟩) (by assumption) ?_
      · intro w hSw
        try dsimp only at hSw
        obtain ⟨b0, b1⟩ := BX.out _ hSw
        go_simp
      try simp only [Act.put, List.setIfInBounds_toArray, List.set_cons_zero, List.set_cons_succ, List.getElem_toArray, List.getElem_cons_zero, List.getElem_cons_succ]
      refine wpAnyH_take (i := 8) (v := .string T) rfl (by kernel_rfl) (by kernel_rfl) (by kernel_rfl) (fun _ _ _ h => h) (Or.inl ⟨by kernel_rfl, ?_⟩) (by assumption) ?_
      · intro w hSw
        try dsimp only at hSw
        skip
        go_simp
      try simp only [Act.put, List.setIfInBounds_toArray, List.set_cons_zero, List.set_cons_succ, List.getElem_toArray, List.getElem_cons_zero, List.getElem_cons_succ]
      refine wpAnyH_take (i := 9) (v := .pointer (some ⟨wr.heap.size, 1, none⟩)) rfl (by kernel_rfl) (by kernel_rfl) (by kernel_rfl) (fun _ _ _ h => h) (Or.inl ⟨by kernel_rfl, ?_⟩) (by assumption) ?_
      · intro w hSw
        try dsimp only at hSw
        skip
        go_simp
      try simp only [Act.put, List.setIfInBounds_toArray, List.set_cons_zero, List.set_cons_succ, List.getElem_toArray, List.getElem_cons_zero, List.getElem_cons_succ]
      refine wpAnyH_take (i := 10) (v := .int .i64 p.tt) rfl (by kernel_rfl) (by kernel_rfl) (by kernel_rfl) (fun _ _ _ h => h) (Or.inl ⟨by kernel_rfl, ?_⟩) (by assumption) ?_
      · intro w hSw
        try dsimp only at hSw
        obtain ⟨b0, b1⟩ := BX.out _ hSw
        go_simp
      try simp only [Act.put, List.setIfInBounds_toArray, List.set_cons_zero, List.set_cons_succ, List.getElem_toArray, List.getElem_cons_zero, List.getElem_cons_succ]
      refine wpAnyH_take (i := 11) (v := .string (T.extract p.tt.toNat T.size)) rfl (by kernel_rfl) (by kernel_rfl) (by kernel_rfl) (fun _ _ _ h => h) (Or.inl ⟨by kernel_rfl, ?_⟩) (by assumption) ?_
      · intro w hSw
        try dsimp only at hSw
        skip
        go_simp
        all_goals first | omega | exact IntWalk.i64_in _ (by omega)
      try simp only [Act.put, List.setIfInBounds_toArray, List.set_cons_zero, List.set_cons_succ, List.getElem_toArray, List.getElem_cons_zero, List.getElem_cons_succ]
      refine wpAnyH_ready (rs := [5]) (by kernel_rfl) (by simp) ?_
      refine AllReadyH.cons rfl (fun K hK => ?_) AllReadyH.nil
      go_simp
      go_at_call 88
      refine (PLn.out _).mono ?_
      rintro e w3 ⟨rfl, hb3⟩
      refine hK.out _ _ ?_ (fun hHeld' => ?_)
      · exact bnext hHeld hb3
      clear hK K hHeld
      have hHeld := hHeld'
      clear hHeld'
      clear hb3
      try simp only [Act.put, List.setIfInBounds_toArray, List.set_cons_zero, List.set_cons_succ, List.getElem_toArray, List.getElem_cons_zero, List.getElem_cons_succ]
      refine wpAnyH_ready (rs := [6]) (by kernel_rfl) (by simp) ?_
      refine AllReadyH.cons rfl (fun K hK => ?_) AllReadyH.nil
      go_simp
      go_at_call 90
      refine (R35.out _).mono ?_
      rintro e w4 ⟨rfl, hb4⟩
      refine hK.out _ _ ?_ (fun hHeld' => ?_)
      · exact bnext hHeld hb4
      clear hK K hHeld
      have hHeld := hHeld'
      clear hHeld'
      clear hb4
      try simp only [Act.put, List.setIfInBounds_toArray, List.set_cons_zero, List.set_cons_succ, List.getElem_toArray, List.getElem_cons_zero, List.getElem_cons_succ]
      refine wpAnyH_take (i := 7) (v := .string (T.extract 0 p.fr.toNat ++ RR)) rfl (by kernel_rfl) (by kernel_rfl) (by kernel_rfl) (fun _ _ _ h => h) (Or.inl ⟨by kernel_rfl, ?_⟩) (by assumption) ?_
      · intro w hSw
        try dsimp only at hSw
        skip
        go_simp
        all_goals first | omega | exact IntWalk.i64_in _ (by omega)
      try simp only [Act.put, List.setIfInBounds_toArray, List.set_cons_zero, List.set_cons_succ, List.getElem_toArray, List.getElem_cons_zero, List.getElem_cons_succ]
      refine wpAnyH_take (i := 12) (v := .string (T.extract 0 p.fr.toNat ++ RR ++ T.extract p.tt.toNat T.size)) rfl (by kernel_rfl) (by kernel_rfl) (by kernel_rfl) (fun _ _ _ h => h) (Or.inl ⟨by kernel_rfl, ?_⟩) (by assumption) ?_
      · intro w hSw
        try dsimp only at hSw
        skip
        go_simp
        all_goals first | omega | exact IntWalk.i64_in _ (by omega)
      try simp only [Act.put, List.setIfInBounds_toArray, List.set_cons_zero, List.set_cons_succ, List.getElem_toArray, List.getElem_cons_zero, List.getElem_cons_succ]
      refine wpAnyH_take (i := 13) (v := .string (T.extract 0 p.fr.toNat ++ RR ++ T.extract p.tt.toNat T.size)) rfl (by kernel_rfl) (by kernel_rfl) (by kernel_rfl) (fun _ _ _ h => h) (Or.inl ⟨by kernel_rfl, ?_⟩) (by assumption) ?_
      · intro w hSw
        try dsimp only at hSw
        skip
        go_simp
      try simp only [Act.put, List.setIfInBounds_toArray, List.set_cons_zero, List.set_cons_succ, List.getElem_toArray, List.getElem_cons_zero, List.getElem_cons_succ]
      refine wpAnyH_done (by kernel_rfl) ?_ _
      have B5 := Lib.hid (bnext BV.out hHeld)
      clear hHeld
      go_wp2
      go_roundw
      case rel => exact ⟨j + 1, by omega, by rw [← HS.out], by go_num, B5.out⟩
      case measure => simp [intOf]; omega
    · have hge : ¬ (j : Int) < (P.length : Int) := by omega
      have hjn : j = P.length := by omega
      subst hjn
      have HE := Lib.hid HALL.out
      go_wp2
      go_ret
      exact ⟨by rw [← HE.out]; rfl, bnext E0.out <| bnext B2.out hB.out⟩
end Go.Proofs.Ytplggghhhgmebaa
