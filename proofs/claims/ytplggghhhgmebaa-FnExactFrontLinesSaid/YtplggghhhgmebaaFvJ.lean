/-
  Which fronts are valid: the program's word.
-/
import Derived.Test.YtplggghhhgmebaaFvI
import Derived.Deep.RegionHeld3
namespace Go.Proofs.Ytplggghhhgmebaa
open Go.ChangeShapes Go.WideShapes Go.ChangeAt Go.RowKit Go.Joins

theorem okFr_rises {F C : Int} {L : List Og} (hF : 1 ≤ F ∧ F ≤ 200) (hC : 1 ≤ C ∧ C ≤ 40) (h8 : L.length ≤ 8) (hf : ∀ (j : Nat) (c : Og), j < L.length → L[j]? = some c → c.fit F C = true) (ha : ∀ (i j : Nat) (c d : Og), i < j → j < L.length → L[i]? = some c → L[j]? = some d → c.ovl d = false) : okFr F C L = risesB L := by
  cases e : risesB L
  · cases k : okFr F C L
    · rfl
    · have h := okFr_true.1 k
      have : risesB L = true := risesB_true.2 fun k c d hd hc => Og.bef_asymm (h.inc k d c hd hc)
      rw [e] at this
      cases this
  · have hr := risesB_true.1 e
    exact okFr_true.2 ⟨hF, hC, h8, fun k c hk => hf k c (List.getElem?_eq_some_iff.1 hk).1 hk, fun j k c d hjk hj hk => ha j k c d hjk (List.getElem?_eq_some_iff.1 hk).1 hj hk, fun k c d hc hd => by
      have hd' := (List.getElem?_eq_some_iff.1 hd).1
      exact Og.bef_of (hf k c (by omega) hc) (hf (k + 1) d hd' hd) (ha k (k + 1) c d (by omega) hd' hc hd) (hr k d c hc hd)⟩
set_option maxRecDepth 100000 in
set_option maxHeartbeats 6400000 in
theorem validFront_impl (F C : Int) (L : List Og) (a : Option Addr) (cap : Nat) (hl : L.length ≤ 1048576) (hcap : L.length ≤ cap) (w : World) (ha : OgArg w a L) :
    Calls Try.prog 16 #[.agg #[.int .i64 F, .int .i64 C, .slice a L.length cap]] w fun e w' => e = .returned (.bool (okFr F C L)) ∧ Below w.heap.size w w' := by
  have FB' := FrBox.new w F C a cap L 29
  have E0' := Lib.hid (balloc0 w (.cells #[.int .i64 F, .int .i64 C, .slice a L.length cap] 29))
  obtain ⟨W0, hW⟩ : ∃ W0, w.alloc (.cells #[.int .i64 F, .int .i64 C, .slice a L.length cap] 29) = W0 := ⟨_, rfl⟩
  rw [hW] at FB' E0'
  have FB := Lib.hid FB'
  have E0 := Lib.hid E0'.out
  have HA := Lib.hid (ha.later E0.out)
  have HW := Lib.hid hW
  obtain ⟨f0, f1, f2⟩ := FB'
  have I1 := Lib.hid (within_impl F 1 200)
  have I2 := Lib.hid (within_impl C 1 40)
  clear ha hW E0'
  by_cases hF : 1 ≤ F ∧ F ≤ 200
  case neg =>
    have hin : inB F 1 200 = false := inB_false.2 hF
    rw [hin] at I1
    have E := okFr_flen (C := C) (L := L) hF
    rw [E]
    clear hF E
    go_enter Try.func16, Try.ntmps16
    go_wp2_with fail
    rw [HW.out]
    go_wp2_with (go_at_call 49; refine (I1.out _).mono ?_; rintro e w1 ⟨rfl, rfl⟩)
    go_ret
    exact ⟨rfl, E0.out⟩
  by_cases hC : 1 ≤ C ∧ C ≤ 40
  case neg =>
    have hin : inB F 1 200 = true := inB_true.2 hF
    have hic : inB C 1 40 = false := inB_false.2 hC
    rw [hin] at I1
    rw [hic] at I2
    have E := okFr_cour (F := F) (L := L) hC
    rw [E]
    clear hF hC E
    go_enter Try.func16, Try.ntmps16
    go_wp2_with fail
    rw [HW.out]
    go_wp2_with (first | (go_at_call_of 49 (Value.int .i64 F); refine (I1.out _).mono ?_; rintro e w1 ⟨rfl, rfl⟩) | (go_at_call_of 49 (Value.int .i64 C); refine (I2.out _).mono ?_; rintro e w1 ⟨rfl, rfl⟩))
    go_ret
    exact ⟨rfl, E0.out⟩
  have hin : inB F 1 200 = true := inB_true.2 hF
  have hic : inB C 1 40 = true := inB_true.2 hC
  rw [hin] at I1
  rw [hic] at I2
  have HFC := Lib.hid (And.intro hF hC)
  clear hF hC hin hic
  by_cases h8 : L.length ≤ 8
  case neg =>
    have h8' : (8 : Int) < (L.length : Int) := by omega
    have E := okFr_long (F := F) (C := C) h8
    rw [E]
    clear E h8
    go_enter Try.func16, Try.ntmps16
    go_wp2_with fail
    rw [HW.out]
    go_wp2_with (first | (go_at_call_of 49 (Value.int .i64 F); refine (I1.out _).mono ?_; rintro e w1 ⟨rfl, rfl⟩) | (go_at_call_of 49 (Value.int .i64 C); refine (I2.out _).mono ?_; rintro e w1 ⟨rfl, rfl⟩))
    go_ret
    exact ⟨rfl, E0.out⟩
  have h8' : ¬ (8 : Int) < (L.length : Int) := by omega
  have H8 := Lib.hid h8
  clear h8
  go_enter Try.func16, Try.ntmps16
  go_wp2_with fail
  rw [HW.out]
  go_wp2_with (first | (go_at_call_of 49 (Value.int .i64 F); refine (I1.out _).mono ?_; rintro e w1 ⟨rfl, rfl⟩) | (go_at_call_of 49 (Value.int .i64 C); refine (I2.out _).mono ?_; rintro e w1 ⟨rfl, rfl⟩))
  clear f0 f1 f2
  go_loopw [24] (fun i wr => ∃ (k : Nat), k ≤ L.length ∧ i = .int .i64 (k : Int) ∧ Hid (∀ (j : Nat) (c : Og), j < k → L[j]? = some c → c.fit F C = true) ∧ Hid (∀ (i j : Nat) (c d : Og), i < j → j < k → L[i]? = some c → L[j]? = some d → c.ovl d = false) ∧ Hid (Below W0.heap.size W0 wr)) (fun i _ => L.length - (intOf i).toNat)
  case atStart => exact ⟨0, Nat.zero_le _, rfl, fun j c h => by omega, fun i j c d h1 h2 => by omega, Below.refl _ _⟩
  case round =>
    obtain ⟨k, hk, rfl, hT, hO, hB⟩ := hrel
    by_cases hlt : k < L.length
    · have hlt' : (k : Int) < (L.length : Int) := by omega
      have hk0 : (0 : Int) ≤ (k : Int) := by omega
      have hkc : (k : Int) ≤ (cap : Int) := by omega
      obtain ⟨b, o, c, rfl, hc, hat⟩ := (HA.out.later hB.out).at hlt
      obtain ⟨c0, c1, c2, c3⟩ := hat.cells hc
      have HC := Lib.hid hc
      have OX' := box_og wr c
      have FX' : ∀ wx, Below (wr.alloc (.cells #[.int .i64 c.fr, .int .i64 c.tt, .int .i64 c.lo, .int .i64 c.hi] 38)).heap.size (wr.alloc (.cells #[.int .i64 c.fr, .int .i64 c.tt, .int .i64 c.lo, .int .i64 c.hi] 38)) wx → FrBox w.heap.size F C (some ⟨b, o, none⟩) cap L wx := fun wx hx => ((FB.out.later hB.out).later (balloc0 _ _)).later hx
      have LX' : ∀ wx, Below (wr.alloc (.cells #[.int .i64 c.fr, .int .i64 c.tt, .int .i64 c.lo, .int .i64 c.hi] 38)).heap.size (wr.alloc (.cells #[.int .i64 c.fr, .int .i64 c.tt, .int .i64 c.lo, .int .i64 c.hi] 38)) wx → OgAt wx b o L := fun wx hx => (hat.later (balloc0 wr (.cells #[.int .i64 c.fr, .int .i64 c.tt, .int .i64 c.lo, .int .i64 c.hi] 38))).later hx
      have BV' : Below W0.heap.size W0 (wr.alloc (.cells #[.int .i64 c.fr, .int .i64 c.tt, .int .i64 c.lo, .int .i64 c.hi] 38)) := balloc hB.out _
      obtain ⟨V, hV⟩ : ∃ V, wr.alloc (.cells #[.int .i64 c.fr, .int .i64 c.tt, .int .i64 c.lo, .int .i64 c.hi] 38) = V := ⟨_, rfl⟩
      rw [hV] at OX' FX' LX' BV'
      have OX := Lib.hid OX'
      have FX := Lib.hid FX'
      have LX := Lib.hid LX'
      have BV := Lib.hid BV'
      have HV := Lib.hid hV
      clear hc hat hV OX' FX' LX' BV'
      cases hfit : c.fit F C
      · have HF := Lib.hid hfit
        clear hfit
        go_wp2_with fail
        rw [HV.out]
        refine wp_region_held_drew (S := fun W => Below V.heap.size V W) (by kernel_rfl) ?_ (fun hHeld => ?_)
        · exact (Below.refl _ _).drew
        refine wpAnyH_take (i := 0) (v := .agg #[.int .i64 F, .int .i64 C, .slice (some ⟨b, o, none⟩) L.length cap]) rfl (by kernel_rfl) (by kernel_rfl) (by kernel_rfl) (fun _ _ _ h => h) (Or.inl ⟨by kernel_rfl, ?_⟩) (by assumption) ?_
        · intro w hSw
          try dsimp only at hSw
          obtain ⟨q0, q1, q2⟩ := FX.out _ hSw
          obtain ⟨c0, c1, c2, c3⟩ := OX.out _ hSw
          go_simp
        try simp only [Act.put, List.setIfInBounds_toArray, List.set_cons_zero, List.set_cons_succ, List.getElem_toArray, List.getElem_cons_zero]
        refine wpAnyH_take (i := 1) (v := .agg #[.int .i64 c.fr, .int .i64 c.tt, .int .i64 c.lo, .int .i64 c.hi]) rfl (by kernel_rfl) (by kernel_rfl) (by kernel_rfl) (fun _ _ _ h => h) (Or.inl ⟨by kernel_rfl, ?_⟩) (by assumption) ?_
        · intro w hSw
          try dsimp only at hSw
          obtain ⟨q0, q1, q2⟩ := FX.out _ hSw
          obtain ⟨c0, c1, c2, c3⟩ := OX.out _ hSw
          go_simp
        try simp only [Act.put, List.setIfInBounds_toArray, List.set_cons_zero, List.set_cons_succ, List.getElem_toArray, List.getElem_cons_zero, List.getElem_cons_succ]
        refine wpAnyH_ready (rs := [2]) (by kernel_rfl) (by simp) ?_
        refine AllReadyH.cons rfl (fun K hK => ?_) AllReadyH.nil
        go_simp
        go_at_call 50
        refine (hasPlace_impl F C L _ cap c _).mono ?_
        rintro e w2 ⟨rfl, hb⟩
        refine hK.out _ _ ?_ (fun hHeld' => ?_)
        · exact bnext hHeld hb
        clear hK K hHeld
        have hHeld := hHeld'
        clear hHeld'
        rw [HF.out]
        try simp only [Act.put, List.setIfInBounds_toArray, List.set_cons_zero, List.set_cons_succ, List.getElem_toArray, List.getElem_cons_zero, List.getElem_cons_succ]
        refine wpAnyH_take (i := 3) (v := .bool true) rfl (by kernel_rfl) (by kernel_rfl) (by kernel_rfl) (fun _ _ _ h => h) (Or.inl ⟨by kernel_rfl, ?_⟩) (by assumption) ?_
        · intro w hSw
          try dsimp only at hSw
          skip
          go_simp
        try simp only [Act.put, List.setIfInBounds_toArray, List.set_cons_zero, List.set_cons_succ, List.getElem_toArray, List.getElem_cons_zero, List.getElem_cons_succ]
        refine wpAnyH_take (i := 4) (v := .bool true) rfl (by kernel_rfl) (by kernel_rfl) (by kernel_rfl) (fun _ _ _ h => h) (Or.inl ⟨by kernel_rfl, ?_⟩) (by assumption) ?_
        · intro w hSw
          try dsimp only at hSw
          skip
          go_simp
        try simp only [Act.put, List.setIfInBounds_toArray, List.set_cons_zero, List.set_cons_succ, List.getElem_toArray, List.getElem_cons_zero, List.getElem_cons_succ]
        refine wpAnyH_take (i := 5) (v := undef) rfl (by kernel_rfl) (by kernel_rfl) (by kernel_rfl) (fun _ _ _ h => h) (Or.inr ⟨by kernel_rfl, rfl⟩) (by assumption) ?_
        try simp only [Act.put, List.setIfInBounds_toArray, List.set_cons_zero, List.set_cons_succ, List.getElem_toArray, List.getElem_cons_zero, List.getElem_cons_succ]
        refine wpAnyH_take (i := 6) (v := undef) rfl (by kernel_rfl) (by kernel_rfl) (by kernel_rfl) (fun _ _ _ h => h) (Or.inr ⟨by kernel_rfl, rfl⟩) (by assumption) ?_
        try simp only [Act.put, List.setIfInBounds_toArray, List.set_cons_zero, List.set_cons_succ, List.getElem_toArray, List.getElem_cons_zero, List.getElem_cons_succ]
        refine wpAnyH_take (i := 7) (v := undef) rfl (by kernel_rfl) (by kernel_rfl) (by kernel_rfl) (fun _ _ _ h => h) (Or.inr ⟨by kernel_rfl, rfl⟩) (by assumption) ?_
        try simp only [Act.put, List.setIfInBounds_toArray, List.set_cons_zero, List.set_cons_succ, List.getElem_toArray, List.getElem_cons_zero, List.getElem_cons_succ]
        refine wpAnyH_take (i := 8) (v := undef) rfl (by kernel_rfl) (by kernel_rfl) (by kernel_rfl) (fun _ _ _ h => h) (Or.inr ⟨by kernel_rfl, rfl⟩) (by assumption) ?_
        try simp only [Act.put, List.setIfInBounds_toArray, List.set_cons_zero, List.set_cons_succ, List.getElem_toArray, List.getElem_cons_zero, List.getElem_cons_succ]
        refine wpAnyH_take (i := 9) (v := undef) rfl (by kernel_rfl) (by kernel_rfl) (by kernel_rfl) (fun _ _ _ h => h) (Or.inr ⟨by kernel_rfl, rfl⟩) (by assumption) ?_
        try simp only [Act.put, List.setIfInBounds_toArray, List.set_cons_zero, List.set_cons_succ, List.getElem_toArray, List.getElem_cons_zero, List.getElem_cons_succ]
        refine wpAnyH_take (i := 10) (v := undef) rfl (by kernel_rfl) (by kernel_rfl) (by kernel_rfl) (fun _ _ _ h => h) (Or.inr ⟨by kernel_rfl, rfl⟩) (by assumption) ?_
        try simp only [Act.put, List.setIfInBounds_toArray, List.set_cons_zero, List.set_cons_succ, List.getElem_toArray, List.getElem_cons_zero, List.getElem_cons_succ]
        refine wpAnyH_take (i := 11) (v := undef) rfl (by kernel_rfl) (by kernel_rfl) (by kernel_rfl) (fun _ _ _ h => h) (Or.inr ⟨by kernel_rfl, rfl⟩) (by assumption) ?_
        try simp only [Act.put, List.setIfInBounds_toArray, List.set_cons_zero, List.set_cons_succ, List.getElem_toArray, List.getElem_cons_zero, List.getElem_cons_succ]
        refine wpAnyH_take (i := 12) (v := .bool true) rfl (by kernel_rfl) (by kernel_rfl) (by kernel_rfl) (fun _ _ _ h => h) (Or.inl ⟨by kernel_rfl, ?_⟩) (by assumption) ?_
        · intro w hSw
          try dsimp only at hSw
          skip
          go_simp
        try simp only [Act.put, List.setIfInBounds_toArray, List.set_cons_zero, List.set_cons_succ, List.getElem_toArray, List.getElem_cons_zero, List.getElem_cons_succ]
        refine wpAnyH_done (by kernel_rfl) ?_ _
        go_wp2
        go_ret
        exact ⟨ret_bool (okFr_fit HC.out HF.out).symm, E0.out.trans ((BV.out.trans (Below.mono hHeld BV.out.size)).mono E0.out.size)⟩
      have HF := Lib.hid hfit
      have hsm : c.small := Og.small_of hfit HFC.out.1.2
      have hsL : ∀ d ∈ L.take k, d.small := fun d hd => by
        obtain ⟨j, hj⟩ := List.getElem?_of_mem hd
        rw [List.getElem?_take] at hj
        split at hj
        · rename_i hjk
          exact Og.small_of (hT.out j d hjk hj) HFC.out.1.2
        · cases hj
      have CX : Hid (∀ wx, Below V.heap.size V wx → Calls Try.prog 51 #[.slice (some ⟨b, o, none⟩) k cap, .func (.func 52) #[.agg #[.int .i64 c.fr, .int .i64 c.tt, .int .i64 c.lo, .int .i64 c.hi]] #[]] wx fun e w' => e = .returned (.bool (anyOvl c (L.take k))) ∧ Below wx.heap.size wx w') := fun wx hx => by
        have hk2 : (L.take k).length = k := by rw [List.length_take]; omega
        have h := containsOg_impl (L.take k) c hsm hsL (some ⟨b, o, none⟩) cap (by omega) wx (.inr ⟨b, o, rfl, fun j d hj => by
          rw [List.getElem?_take] at hj
          split at hj
          · exact LX.out wx hx j d hj
          · cases hj⟩)
        rw [hk2] at h
        exact h
      clear hfit hsm hsL
      cases hany : anyOvl c (L.take k)
      · have HY := Lib.hid hany
        clear hany
        go_wp2_with fail
        rw [HV.out]
        refine wp_region_held_drew (S := fun W => Below V.heap.size V W) (by kernel_rfl) ?_ (fun hHeld => ?_)
        · exact (Below.refl _ _).drew
        refine wpAnyH_take (i := 0) (v := .agg #[.int .i64 F, .int .i64 C, .slice (some ⟨b, o, none⟩) L.length cap]) rfl (by kernel_rfl) (by kernel_rfl) (by kernel_rfl) (fun _ _ _ h => h) (Or.inl ⟨by kernel_rfl, ?_⟩) (by assumption) ?_
        · intro w hSw
          try dsimp only at hSw
          obtain ⟨q0, q1, q2⟩ := FX.out _ hSw
          obtain ⟨c0, c1, c2, c3⟩ := OX.out _ hSw
          go_simp
        try simp only [Act.put, List.setIfInBounds_toArray, List.set_cons_zero, List.set_cons_succ, List.getElem_toArray, List.getElem_cons_zero]
        refine wpAnyH_take (i := 1) (v := .agg #[.int .i64 c.fr, .int .i64 c.tt, .int .i64 c.lo, .int .i64 c.hi]) rfl (by kernel_rfl) (by kernel_rfl) (by kernel_rfl) (fun _ _ _ h => h) (Or.inl ⟨by kernel_rfl, ?_⟩) (by assumption) ?_
        · intro w hSw
          try dsimp only at hSw
          obtain ⟨q0, q1, q2⟩ := FX.out _ hSw
          obtain ⟨c0, c1, c2, c3⟩ := OX.out _ hSw
          go_simp
        try simp only [Act.put, List.setIfInBounds_toArray, List.set_cons_zero, List.set_cons_succ, List.getElem_toArray, List.getElem_cons_zero, List.getElem_cons_succ]
        refine wpAnyH_ready (rs := [2]) (by kernel_rfl) (by simp) ?_
        refine AllReadyH.cons rfl (fun K hK => ?_) AllReadyH.nil
        go_simp
        go_at_call 50
        refine (hasPlace_impl F C L _ cap c _).mono ?_
        rintro e w2 ⟨rfl, hb⟩
        refine hK.out _ _ ?_ (fun hHeld' => ?_)
        · exact bnext hHeld hb
        clear hK K hHeld
        have hHeld := hHeld'
        clear hHeld'
        rw [HF.out]
        try simp only [Act.put, List.setIfInBounds_toArray, List.set_cons_zero, List.set_cons_succ, List.getElem_toArray, List.getElem_cons_zero, List.getElem_cons_succ]
        refine wpAnyH_take (i := 3) (v := .bool false) rfl (by kernel_rfl) (by kernel_rfl) (by kernel_rfl) (fun _ _ _ h => h) (Or.inl ⟨by kernel_rfl, ?_⟩) (by assumption) ?_
        · intro w hSw
          try dsimp only at hSw
          skip
          go_simp
        try simp only [Act.put, List.setIfInBounds_toArray, List.set_cons_zero, List.set_cons_succ, List.getElem_toArray, List.getElem_cons_zero, List.getElem_cons_succ]
        refine wpAnyH_take (i := 4) (v := .bool false) rfl (by kernel_rfl) (by kernel_rfl) (by kernel_rfl) (fun _ _ _ h => h) (Or.inl ⟨by kernel_rfl, ?_⟩) (by assumption) ?_
        · intro w hSw
          try dsimp only at hSw
          skip
          go_simp
        try simp only [Act.put, List.setIfInBounds_toArray, List.set_cons_zero, List.set_cons_succ, List.getElem_toArray, List.getElem_cons_zero, List.getElem_cons_succ]
        refine wpAnyH_take (i := 5) (v := .pointer (some ⟨w.heap.size, 2, none⟩)) rfl (by kernel_rfl) (by kernel_rfl) (by kernel_rfl) (fun _ _ _ h => h) (Or.inl ⟨by kernel_rfl, ?_⟩) (by assumption) ?_
        · intro w hSw
          try dsimp only at hSw
          skip
          go_simp
        try simp only [Act.put, List.setIfInBounds_toArray, List.set_cons_zero, List.set_cons_succ, List.getElem_toArray, List.getElem_cons_zero, List.getElem_cons_succ]
        refine wpAnyH_take (i := 6) (v := .slice (some ⟨b, o, none⟩) L.length cap) rfl (by kernel_rfl) (by kernel_rfl) (by kernel_rfl) (fun _ _ _ h => h) (Or.inl ⟨by kernel_rfl, ?_⟩) (by assumption) ?_
        · intro w hSw
          try dsimp only at hSw
          obtain ⟨q0, q1, q2⟩ := FX.out _ hSw
          obtain ⟨c0, c1, c2, c3⟩ := OX.out _ hSw
          go_simp
        try simp only [Act.put, List.setIfInBounds_toArray, List.set_cons_zero, List.set_cons_succ, List.getElem_toArray, List.getElem_cons_zero, List.getElem_cons_succ]
        refine wpAnyH_take (i := 7) (v := .int .i64 (k : Int)) rfl (by kernel_rfl) (by kernel_rfl) (by kernel_rfl) (fun _ _ _ h => h) (Or.inl ⟨by kernel_rfl, ?_⟩) (by assumption) ?_
        · intro w hSw
          try dsimp only at hSw
          skip
          go_simp
        try simp only [Act.put, List.setIfInBounds_toArray, List.set_cons_zero, List.set_cons_succ, List.getElem_toArray, List.getElem_cons_zero, List.getElem_cons_succ]
        refine wpAnyH_take (i := 8) (v := .slice (some ⟨b, o, none⟩) k cap) rfl (by kernel_rfl) (by kernel_rfl) (by kernel_rfl) (fun _ _ _ h => h) (Or.inl ⟨by kernel_rfl, ?_⟩) (by assumption) ?_
        · intro w hSw
          try dsimp only at hSw
          skip
          go_simp
          all_goals first | omega | exact IntWalk.i64_in _ (by omega)
        try simp only [Act.put, List.setIfInBounds_toArray, List.set_cons_zero, List.set_cons_succ, List.getElem_toArray, List.getElem_cons_zero, List.getElem_cons_succ]
        refine wpAnyH_take (i := 9) (v := .agg #[.int .i64 c.fr, .int .i64 c.tt, .int .i64 c.lo, .int .i64 c.hi]) rfl (by kernel_rfl) (by kernel_rfl) (by kernel_rfl) (fun _ _ _ h => h) (Or.inl ⟨by kernel_rfl, ?_⟩) (by assumption) ?_
        · intro w hSw
          try dsimp only at hSw
          obtain ⟨q0, q1, q2⟩ := FX.out _ hSw
          obtain ⟨c0, c1, c2, c3⟩ := OX.out _ hSw
          go_simp
        try simp only [Act.put, List.setIfInBounds_toArray, List.set_cons_zero, List.set_cons_succ, List.getElem_toArray, List.getElem_cons_zero, List.getElem_cons_succ]
        refine wpAnyH_take (i := 10) (v := .func (.func 52) #[.agg #[.int .i64 c.fr, .int .i64 c.tt, .int .i64 c.lo, .int .i64 c.hi]] #[]) rfl (by kernel_rfl) (by kernel_rfl) (by kernel_rfl) (fun _ _ _ h => h) (Or.inl ⟨by kernel_rfl, ?_⟩) (by assumption) ?_
        · intro w hSw
          try dsimp only at hSw
          skip
          go_simp
        try simp only [Act.put, List.setIfInBounds_toArray, List.set_cons_zero, List.set_cons_succ, List.getElem_toArray, List.getElem_cons_zero, List.getElem_cons_succ]
        refine wpAnyH_ready (rs := [11]) (by kernel_rfl) (by simp) ?_
        refine AllReadyH.cons rfl (fun K hK => ?_) AllReadyH.nil
        go_simp
        go_at_call 51
        refine (CX.out _ hHeld).mono ?_
        rintro e w2 ⟨rfl, hb⟩
        refine hK.out _ _ ?_ (fun hHeld' => ?_)
        · exact bnext hHeld hb
        clear hK K hHeld
        have hHeld := hHeld'
        clear hHeld'
        rw [HY.out]
        try simp only [Act.put, List.setIfInBounds_toArray, List.set_cons_zero, List.set_cons_succ, List.getElem_toArray, List.getElem_cons_zero, List.getElem_cons_succ]
        refine wpAnyH_take (i := 12) (v := .bool false) rfl (by kernel_rfl) (by kernel_rfl) (by kernel_rfl) (fun _ _ _ h => h) (Or.inl ⟨by kernel_rfl, ?_⟩) (by assumption) ?_
        · intro w hSw
          try dsimp only at hSw
          skip
          go_simp
        try simp only [Act.put, List.setIfInBounds_toArray, List.set_cons_zero, List.set_cons_succ, List.getElem_toArray, List.getElem_cons_zero, List.getElem_cons_succ]
        refine wpAnyH_done (by kernel_rfl) ?_ _
        go_wp2
        go_roundw
        case rel =>
          refine ⟨k + 1, by omega, by go_num, fun j d hj hd => ?_, fun i j d e hij hj hd he => ?_, BV.out.trans (Below.mono hHeld BV.out.size)⟩
          · by_cases e1 : j = k
            · subst e1; have := HC.out; rw [hd] at this; cases this; exact HF.out
            · exact hT.out j d (by omega) hd
          · by_cases e1 : j = k
            · subst e1
              have := HC.out
              rw [he] at this
              cases this
              rw [Og.ovl_comm]
              cases e2 : c.ovl d
              · rfl
              · exfalso
                have h3 := anyOvl_at (o := c) (L := L.take j) (k := i) (by rw [List.getElem?_take_of_lt hij]; exact hd) e2
                rw [HY.out] at h3
                cases h3
            · exact hO.out i j d e hij (by omega) hd he
        case measure => simp [intOf]; omega
      · have HY := Lib.hid hany
        clear hany
        go_wp2_with fail
        rw [HV.out]
        refine wp_region_held_drew (S := fun W => Below V.heap.size V W) (by kernel_rfl) ?_ (fun hHeld => ?_)
        · exact (Below.refl _ _).drew
        refine wpAnyH_take (i := 0) (v := .agg #[.int .i64 F, .int .i64 C, .slice (some ⟨b, o, none⟩) L.length cap]) rfl (by kernel_rfl) (by kernel_rfl) (by kernel_rfl) (fun _ _ _ h => h) (Or.inl ⟨by kernel_rfl, ?_⟩) (by assumption) ?_
        · intro w hSw
          try dsimp only at hSw
          obtain ⟨q0, q1, q2⟩ := FX.out _ hSw
          obtain ⟨c0, c1, c2, c3⟩ := OX.out _ hSw
          go_simp
        try simp only [Act.put, List.setIfInBounds_toArray, List.set_cons_zero, List.set_cons_succ, List.getElem_toArray, List.getElem_cons_zero]
        refine wpAnyH_take (i := 1) (v := .agg #[.int .i64 c.fr, .int .i64 c.tt, .int .i64 c.lo, .int .i64 c.hi]) rfl (by kernel_rfl) (by kernel_rfl) (by kernel_rfl) (fun _ _ _ h => h) (Or.inl ⟨by kernel_rfl, ?_⟩) (by assumption) ?_
        · intro w hSw
          try dsimp only at hSw
          obtain ⟨q0, q1, q2⟩ := FX.out _ hSw
          obtain ⟨c0, c1, c2, c3⟩ := OX.out _ hSw
          go_simp
        try simp only [Act.put, List.setIfInBounds_toArray, List.set_cons_zero, List.set_cons_succ, List.getElem_toArray, List.getElem_cons_zero, List.getElem_cons_succ]
        refine wpAnyH_ready (rs := [2]) (by kernel_rfl) (by simp) ?_
        refine AllReadyH.cons rfl (fun K hK => ?_) AllReadyH.nil
        go_simp
        go_at_call 50
        refine (hasPlace_impl F C L _ cap c _).mono ?_
        rintro e w2 ⟨rfl, hb⟩
        refine hK.out _ _ ?_ (fun hHeld' => ?_)
        · exact bnext hHeld hb
        clear hK K hHeld
        have hHeld := hHeld'
        clear hHeld'
        rw [HF.out]
        try simp only [Act.put, List.setIfInBounds_toArray, List.set_cons_zero, List.set_cons_succ, List.getElem_toArray, List.getElem_cons_zero, List.getElem_cons_succ]
        refine wpAnyH_take (i := 3) (v := .bool false) rfl (by kernel_rfl) (by kernel_rfl) (by kernel_rfl) (fun _ _ _ h => h) (Or.inl ⟨by kernel_rfl, ?_⟩) (by assumption) ?_
        · intro w hSw
          try dsimp only at hSw
          skip
          go_simp
        try simp only [Act.put, List.setIfInBounds_toArray, List.set_cons_zero, List.set_cons_succ, List.getElem_toArray, List.getElem_cons_zero, List.getElem_cons_succ]
        refine wpAnyH_take (i := 4) (v := .bool false) rfl (by kernel_rfl) (by kernel_rfl) (by kernel_rfl) (fun _ _ _ h => h) (Or.inl ⟨by kernel_rfl, ?_⟩) (by assumption) ?_
        · intro w hSw
          try dsimp only at hSw
          skip
          go_simp
        try simp only [Act.put, List.setIfInBounds_toArray, List.set_cons_zero, List.set_cons_succ, List.getElem_toArray, List.getElem_cons_zero, List.getElem_cons_succ]
        refine wpAnyH_take (i := 5) (v := .pointer (some ⟨w.heap.size, 2, none⟩)) rfl (by kernel_rfl) (by kernel_rfl) (by kernel_rfl) (fun _ _ _ h => h) (Or.inl ⟨by kernel_rfl, ?_⟩) (by assumption) ?_
        · intro w hSw
          try dsimp only at hSw
          skip
          go_simp
        try simp only [Act.put, List.setIfInBounds_toArray, List.set_cons_zero, List.set_cons_succ, List.getElem_toArray, List.getElem_cons_zero, List.getElem_cons_succ]
        refine wpAnyH_take (i := 6) (v := .slice (some ⟨b, o, none⟩) L.length cap) rfl (by kernel_rfl) (by kernel_rfl) (by kernel_rfl) (fun _ _ _ h => h) (Or.inl ⟨by kernel_rfl, ?_⟩) (by assumption) ?_
        · intro w hSw
          try dsimp only at hSw
          obtain ⟨q0, q1, q2⟩ := FX.out _ hSw
          obtain ⟨c0, c1, c2, c3⟩ := OX.out _ hSw
          go_simp
        try simp only [Act.put, List.setIfInBounds_toArray, List.set_cons_zero, List.set_cons_succ, List.getElem_toArray, List.getElem_cons_zero, List.getElem_cons_succ]
        refine wpAnyH_take (i := 7) (v := .int .i64 (k : Int)) rfl (by kernel_rfl) (by kernel_rfl) (by kernel_rfl) (fun _ _ _ h => h) (Or.inl ⟨by kernel_rfl, ?_⟩) (by assumption) ?_
        · intro w hSw
          try dsimp only at hSw
          skip
          go_simp
        try simp only [Act.put, List.setIfInBounds_toArray, List.set_cons_zero, List.set_cons_succ, List.getElem_toArray, List.getElem_cons_zero, List.getElem_cons_succ]
        refine wpAnyH_take (i := 8) (v := .slice (some ⟨b, o, none⟩) k cap) rfl (by kernel_rfl) (by kernel_rfl) (by kernel_rfl) (fun _ _ _ h => h) (Or.inl ⟨by kernel_rfl, ?_⟩) (by assumption) ?_
        · intro w hSw
          try dsimp only at hSw
          skip
          go_simp
          all_goals first | omega | exact IntWalk.i64_in _ (by omega)
        try simp only [Act.put, List.setIfInBounds_toArray, List.set_cons_zero, List.set_cons_succ, List.getElem_toArray, List.getElem_cons_zero, List.getElem_cons_succ]
        refine wpAnyH_take (i := 9) (v := .agg #[.int .i64 c.fr, .int .i64 c.tt, .int .i64 c.lo, .int .i64 c.hi]) rfl (by kernel_rfl) (by kernel_rfl) (by kernel_rfl) (fun _ _ _ h => h) (Or.inl ⟨by kernel_rfl, ?_⟩) (by assumption) ?_
        · intro w hSw
          try dsimp only at hSw
          obtain ⟨q0, q1, q2⟩ := FX.out _ hSw
          obtain ⟨c0, c1, c2, c3⟩ := OX.out _ hSw
          go_simp
        try simp only [Act.put, List.setIfInBounds_toArray, List.set_cons_zero, List.set_cons_succ, List.getElem_toArray, List.getElem_cons_zero, List.getElem_cons_succ]
        refine wpAnyH_take (i := 10) (v := .func (.func 52) #[.agg #[.int .i64 c.fr, .int .i64 c.tt, .int .i64 c.lo, .int .i64 c.hi]] #[]) rfl (by kernel_rfl) (by kernel_rfl) (by kernel_rfl) (fun _ _ _ h => h) (Or.inl ⟨by kernel_rfl, ?_⟩) (by assumption) ?_
        · intro w hSw
          try dsimp only at hSw
          skip
          go_simp
        try simp only [Act.put, List.setIfInBounds_toArray, List.set_cons_zero, List.set_cons_succ, List.getElem_toArray, List.getElem_cons_zero, List.getElem_cons_succ]
        refine wpAnyH_ready (rs := [11]) (by kernel_rfl) (by simp) ?_
        refine AllReadyH.cons rfl (fun K hK => ?_) AllReadyH.nil
        go_simp
        go_at_call 51
        refine (CX.out _ hHeld).mono ?_
        rintro e w2 ⟨rfl, hb⟩
        refine hK.out _ _ ?_ (fun hHeld' => ?_)
        · exact bnext hHeld hb
        clear hK K hHeld
        have hHeld := hHeld'
        clear hHeld'
        rw [HY.out]
        try simp only [Act.put, List.setIfInBounds_toArray, List.set_cons_zero, List.set_cons_succ, List.getElem_toArray, List.getElem_cons_zero, List.getElem_cons_succ]
        refine wpAnyH_take (i := 12) (v := .bool true) rfl (by kernel_rfl) (by kernel_rfl) (by kernel_rfl) (fun _ _ _ h => h) (Or.inl ⟨by kernel_rfl, ?_⟩) (by assumption) ?_
        · intro w hSw
          try dsimp only at hSw
          skip
          go_simp
        try simp only [Act.put, List.setIfInBounds_toArray, List.set_cons_zero, List.set_cons_succ, List.getElem_toArray, List.getElem_cons_zero, List.getElem_cons_succ]
        refine wpAnyH_done (by kernel_rfl) ?_ _
        go_wp2
        go_ret
        refine ⟨ret_bool ?_, E0.out.trans ((BV.out.trans (Below.mono hHeld BV.out.size)).mono E0.out.size)⟩
        obtain ⟨d, hd, ho⟩ := List.any_eq_true.1 HY.out
        obtain ⟨j, hj⟩ := List.getElem?_of_mem hd
        rw [List.getElem?_take] at hj
        split at hj
        · rename_i hjk
          exact (okFr_ovl hjk hj HC.out (by rw [Og.ovl_comm]; exact ho)).symm
        · cases hj
    · have hge : ¬ (k : Int) < (L.length : Int) := by omega
      have hkn : k = L.length := by omega
      subst hkn
      have HX := Lib.hid (okFr_rises HFC.out.1 HFC.out.2 H8.out hT.out hO.out)
      have SX := Lib.hid (sortedOg_impl L a cap hl wr (HA.out.later hB.out))
      obtain ⟨q0, q1, q2⟩ := FB.out.later hB.out
      go_wp2_with (go_at_call 53; refine SX.out.mono ?_; rintro e w1 ⟨rfl, hb1⟩; have B1 := Lib.hid (bnext hB.out hb1); clear hb1)
      go_ret
      exact ⟨ret_bool (by rw [HX.out]), bnext E0.out B1.out⟩
end Go.Proofs.Ytplggghhhgmebaa
