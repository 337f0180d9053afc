/-
  How far levels are off their nearest marks: the model's word and the program's.
-/
import Derived.Test.YtlglijalhacmhabGqR
import Derived.Test.YtlglijalhacmhabGn
import Derived.Test.YtlglijalhacmhabGm
import Derived.Test.YtlglijalhacmhabIRowR
namespace Go.Proofs.Ytlglijalhacmhab
open Go.ChangeShapes Go.WideShapes Go.ChangeAt Go.RowKit Go.Joins


theorem siz_range {a : Int} (h0 : -1000000 ≤ a) (h1 : a ≤ 1000000) : 0 ≤ siz a ∧ siz a ≤ 1000000 := by
  by_cases h : a < 0
  · rw [siz_neg h]; omega
  · rw [siz_pos h]; omega
theorem offQ_range {H : Int} {n : Nat} {lv : Int} (h : gB H n = true) (l0 : 0 ≤ lv) (l1 : lv ≤ 6000) : 0 ≤ offQ H n lv ∧ offQ H n lv ≤ 1000000 := by
  obtain ⟨-, c0, c1⟩ := gB_true.1 h
  have hb := nearN_le H n lv n
  have := mkQ_range (k := ((nearN H n lv n : Nat) : Int)) h (by omega) (by omega)
  exact siz_range (by simp; omega) (by simp; omega)
theorem distQ_impl (x y : Int) (h0 : -500000 ≤ x) (h1 : x ≤ 500000) (g0 : -500000 ≤ y) (g1 : y ≤ 500000) (w : World) : Calls Try.prog 119 #[.int .i64 x, .int .i64 y] w fun e w' => e = .returned (.int .i64 (siz (y - x))) ∧ w = w' := by
  by_cases h : y - x < 0
  · rw [siz_neg h]
    go_enter Try.func119, Try.ntmps119
    go_wp2
    all_goals
      go_ret
      exact ⟨ret_int (by omega), rfl⟩
  · rw [siz_pos h]
    go_enter Try.func119, Try.ntmps119
    go_wp2
    all_goals
      go_ret
      exact ⟨ret_int (by omega), rfl⟩
set_option maxRecDepth 100000 in
set_option maxHeartbeats 6400000 in
theorem off_spec (H : Int) (n : Nat) (lv : Int) (h : gB H n = true) (l0 : 0 ≤ lv) (l1 : lv ≤ 6000) (w : World) : Calls Try.prog 65 #[.int .i64 H, .int .i64 (n : Int), .int .i64 lv] w fun e w' => e = .returned (.int .i64 (offQ H n lv)) ∧ Below w.heap.size w w' := by
  obtain ⟨-, c0, c1⟩ := gB_true.1 h
  have N := Lib.hid (fun wx => nearest_spec H n lv h l0 l1 wx)
  have hb := nearN_le H n lv n
  have e : offQ H n lv = siz (mkQ H n (nearN H n lv n : Nat) - lv) := by simp [offQ]
  obtain ⟨m, hm⟩ : ∃ m : Nat, nearN H n lv n = m := ⟨_, rfl⟩
  rw [hm] at N hb e
  have M := Lib.hid (fun wx => mark_spec H n (m : Int) h (by omega) (by omega) wx)
  obtain ⟨b0, b1⟩ := mkQ_range (k := (m : Int)) h (by omega) (by omega)
  obtain ⟨y, hy⟩ : ∃ y, mkQ H n (m : Int) = y := ⟨_, rfl⟩
  rw [hy] at M b0 b1 e
  have S := Lib.hid (fun wx => sizQ_spec (y - lv) (by omega) (by omega) wx)
  rw [e]
  clear hm hy e h
  go_enter Try.func65, Try.ntmps65
  go_wp2_with fail
  refine (N.out _).mono ?_
  rintro e w1 ⟨rfl, hb1⟩
  go_wp2_with fail
  refine (M.out _).mono ?_
  rintro e w2 ⟨rfl, rfl⟩
  go_wp2_with fail
  refine (S.out _).mono ?_
  rintro e w2 ⟨rfl, rfl⟩
  go_wp2
  go_ret
  exact ⟨rfl, hb1⟩
def offL (H c : Int) (L : List Int) : List Int := L.map (offQ H c)
theorem offL_length (H c : Int) (L : List Int) : (offL H c L).length = L.length := by simp [offL]
theorem offL_take {H c : Int} {L : List Int} {k : Nat} {z : Int} (h : L[k]? = some z) : offL H c (L.take (k + 1)) = offL H c (L.take k) ++ [offQ H c z] := by
  unfold offL
  rw [List.take_add_one, h]
  simp
def loB (H c : Int) (L : List Int) : Bool := gB H c && lvB L H
def loC (H c : Int) (L : List Int) : Int := if loB H c L = true then 0 else 2
def loL (H c : Int) (L : List Int) : List Int := if loB H c L = true then offL H c L else []
theorem lvB_all {L : List Int} {H : Int} (h : lvB L H = true) : (100 ≤ H ∧ H ≤ 6000) ∧ L.length ≤ 20 ∧ ∀ (k : Nat) (z : Int), L[k]? = some z → 1 ≤ z ∧ z ≤ H - 1 := by
  simp only [lvB, Bool.and_eq_true, decide_eq_true_eq] at h
  exact ⟨inB_true.1 h.1, h.2.1, fun k z hk => rises_all h.2.2 z (List.mem_of_getElem? hk)⟩
theorem loL_len (H c : Int) (L : List Int) : (loL H c L).length ≤ 1048576 := by
  unfold loL
  split
  · rename_i h
    simp only [loB, Bool.and_eq_true] at h
    have := (lvB_all h.2).2.1
    rw [offL_length]; omega
  · simp
set_option maxRecDepth 100000 in
set_option maxHeartbeats 6400000 in
theorem levelsOff_impl (H : Int) (n : Nat) (L : List Int) (h : gB H n = true) (hL : lvB L H = true) (a : Option Addr) (cap : Nat) (w : World) (ha : IntArg w a L) :
    Calls Try.prog 69 #[.agg #[.int .i64 H, .int .i64 (n : Int)], .slice a L.length cap] w fun e w' => ∃ ao cp, e = .returned (.slice ao (offL H n L).length cp) ∧ IRow w.heap.size (offL H n L) ao cp w' ∧ Below w.heap.size w w' := by
  have T0 := TwBox.new w H n 96
  have E0 := Lib.hid (balloc0 w (.cells #[.int .i64 H, .int .i64 (n : Int)] 96))
  have HA := Lib.hid (ha.later (balloc0 w (.cells #[.int .i64 H, .int .i64 (n : Int)] 96)))
  obtain ⟨W0, hW⟩ : ∃ W0, w.alloc (.cells #[.int .i64 H, .int .i64 (n : Int)] 96) = W0 := ⟨_, rfl⟩
  rw [hW] at T0 E0 HA
  have K : Hid (∀ wx, Below W0.heap.size W0 wx → TwBox w.heap.size H n wx) := fun wx hx => T0.later hx
  have E0 : Hid (Below w.heap.size w W0) := E0.out
  have HW := Lib.hid hW
  obtain ⟨⟨H0, H1⟩, h20, hLz⟩ := lvB_all hL
  have HL := Lib.hid hLz
  have HG := Lib.hid h
  obtain ⟨-, c0, c1⟩ := gB_true.1 h
  clear h hW T0 ha hL hLz
  go_enter Try.func69, Try.ntmps69
  go_wp2_with fail
  try rw [HW.out]
  try go_wp2
  go_loopw [5, 10] (fun v i wr => ∃ (k : Nat) (ao : Option Addr) (cp : Nat) (D : List Int), k ≤ L.length ∧ v = .slice ao D.length cp ∧ i = .int .i64 (k : Int) ∧ Hid (D = offL H n (L.take k)) ∧ Hid (IRow W0.heap.size D ao cp wr) ∧ Hid (Below W0.heap.size W0 wr)) (fun _ i _ => L.length - (intOf i).toNat)
  case atStart => exact ⟨0, none, 0, [], Nat.zero_le _, rfl, rfl, rfl, IRow.nil _ _, Below.refl _ _⟩
  case round =>
    obtain ⟨k, ao, cp, D, hk, rfl, rfl, hD, hO, hB⟩ := hrel
    by_cases hlt : k < L.length
    · have hlt' : (k : Int) < (L.length : Int) := by omega
      have hk0 : (0 : Int) ≤ (k : Int) := by omega
      obtain ⟨b, o, z, rfl, hz, hat⟩ := (HA.out.later hB.out).at hlt
      have d0 := hat k z hz
      obtain ⟨z0, z1⟩ := HL.out k z hz
      have N := Lib.hid (fun wx => nearest_impl H n z HG.out (by omega) (by omega) wx)
      have hbn := nearN_le H n z n
      have HN : Hid (D ++ [offQ H n z] = offL H n (L.take (k + 1))) := by show _ = _; rw [offL_take hz, hD.out]
      have e : offQ H n z = siz (mkQ H n (nearN H n z n : Nat) - z) := by simp [offQ]
      obtain ⟨m, hm⟩ : ∃ m : Nat, nearN H n z n = m := ⟨_, rfl⟩
      rw [hm] at N hbn e
      have M := Lib.hid (fun wx => mark_impl H n (m : Int) HG.out (by omega) (by omega) wx)
      obtain ⟨b0, b1⟩ := mkQ_range (k := (m : Int)) HG.out (by omega) (by omega)
      obtain ⟨y, hy⟩ : ∃ y, mkQ H n (m : Int) = y := ⟨_, rfl⟩
      rw [hy] at M b0 b1 e
      have DI := Lib.hid (fun wx => distQ_impl z y (by omega) (by omega) (by omega) (by omega) wx)
      rw [← e] at DI
      obtain ⟨q, hq⟩ : ∃ q, offQ H n z = q := ⟨_, rfl⟩
      rw [hq] at DI HN
      have hDk : D.length ≤ 20 := by rw [hD.out, offL_length, List.length_take]; omega
      have c3 : Hid (D.length + 1 ≤ maxLen) := by show D.length + 1 ≤ maxLen; unfold maxLen; omega
      obtain ⟨i0, hi0, hz0, hz1, hz2⟩ := info_partsQ
      clear hz hat hm hy hq e
      go_wp2_with fail
      refine wp_region_held_drew (S := fun W => Below W0.heap.size W0 W) (by kernel_rfl) ?_ (fun hHeld => ?_)
      · exact hB.out.drew
      refine wpAnyH_take (i := 0) (v := .slice ao D.length cp) rfl (by kernel_rfl) (by kernel_rfl) (by kernel_rfl) (fun _ _ _ h => h) (Or.inl ⟨by kernel_rfl, ?_⟩) (by assumption) ?_
      · intro w hSw
        try dsimp only at hSw
        skip
        go_simp
      try simp only [Act.put, List.setIfInBounds_toArray, List.set_cons_zero, List.set_cons_succ, List.getElem_toArray, List.getElem_cons_zero]
      refine wpAnyH_take (i := 1) (v := .int .i64 z) rfl (by kernel_rfl) (by kernel_rfl) (by kernel_rfl) (fun _ _ _ h => h) (Or.inl ⟨by kernel_rfl, ?_⟩) (by assumption) ?_
      · intro w hSw
        try dsimp only at hSw
        skip
        go_simp
      try simp only [Act.put, List.setIfInBounds_toArray, List.set_cons_zero, List.set_cons_succ, List.getElem_toArray, List.getElem_cons_zero, List.getElem_cons_succ]
      refine wpAnyH_take (i := 2) (v := .agg #[.int .i64 H, .int .i64 (n : Int)]) rfl (by kernel_rfl) (by kernel_rfl) (by kernel_rfl) (fun _ _ _ h => h) (Or.inl ⟨by kernel_rfl, ?_⟩) (by assumption) ?_
      · intro w hSw
        try dsimp only at hSw
        obtain ⟨k0, k1⟩ := K.out _ hSw
        go_simp
      try simp only [Act.put, List.setIfInBounds_toArray, List.set_cons_zero, List.set_cons_succ, List.getElem_toArray, List.getElem_cons_zero, List.getElem_cons_succ]
      refine wpAnyH_take (i := 3) (v := .agg #[.int .i64 H, .int .i64 (n : Int)]) rfl (by kernel_rfl) (by kernel_rfl) (by kernel_rfl) (fun _ _ _ h => h) (Or.inl ⟨by kernel_rfl, ?_⟩) (by assumption) ?_
      · intro w hSw
        try dsimp only at hSw
        obtain ⟨k0, k1⟩ := K.out _ hSw
        go_simp
      try simp only [Act.put, List.setIfInBounds_toArray, List.set_cons_zero, List.set_cons_succ, List.getElem_toArray, List.getElem_cons_zero, List.getElem_cons_succ]
      refine wpAnyH_take (i := 4) (v := .int .i64 z) rfl (by kernel_rfl) (by kernel_rfl) (by kernel_rfl) (fun _ _ _ h => h) (Or.inl ⟨by kernel_rfl, ?_⟩) (by assumption) ?_
      · intro w hSw
        try dsimp only at hSw
        skip
        go_simp
      try simp only [Act.put, List.setIfInBounds_toArray, List.set_cons_zero, List.set_cons_succ, List.getElem_toArray, List.getElem_cons_zero, List.getElem_cons_succ]
      refine wpAnyH_ready (rs := [5]) (by kernel_rfl) (by simp) ?_
      refine AllReadyH.cons rfl (fun K hK => ?_) AllReadyH.nil
      go_simp
      go_at_call 121
      refine (N.out _).mono ?_
      rintro e w1 ⟨rfl, hb1⟩
      refine hK.out _ _ ?_ (fun hHeld' => ?_)
      · exact bnext hHeld hb1
      clear hK K hHeld
      have hHeld := hHeld'
      clear hHeld'
      have O1 := Lib.hid (IRow.later (w := wr.drew) hO.out hb1)
      clear hb1
      try simp only [Act.put, List.setIfInBounds_toArray, List.set_cons_zero, List.set_cons_succ, List.getElem_toArray, List.getElem_cons_zero, List.getElem_cons_succ]
      refine wpAnyH_ready (rs := [6]) (by kernel_rfl) (by simp) ?_
      refine AllReadyH.cons rfl (fun K hK => ?_) AllReadyH.nil
      go_simp
      go_at_call 120
      refine (M.out _).mono ?_
      rintro e w2 ⟨rfl, hb2⟩
      refine hK.out _ _ ?_ (fun hHeld' => ?_)
      · exact bnext hHeld hb2
      clear hK K hHeld
      have hHeld := hHeld'
      clear hHeld'
      have O2 := Lib.hid (O1.out.later hb2)
      clear hb2
      try simp only [Act.put, List.setIfInBounds_toArray, List.set_cons_zero, List.set_cons_succ, List.getElem_toArray, List.getElem_cons_zero, List.getElem_cons_succ]
      refine wpAnyH_ready (rs := [7]) (by kernel_rfl) (by simp) ?_
      refine AllReadyH.cons rfl (fun K hK => ?_) AllReadyH.nil
      go_simp
      go_at_call 119
      refine (DI.out _).mono ?_
      rintro e w3 ⟨rfl, rfl⟩
      refine hK.out _ _ ?_ (fun hHeld' => ?_)
      · exact hHeld
      clear hK K hHeld
      have hHeld := hHeld'
      clear hHeld'
      try simp only [Act.put, List.setIfInBounds_toArray, List.set_cons_zero, List.set_cons_succ, List.getElem_toArray, List.getElem_cons_zero, List.getElem_cons_succ]
      refine wpAnyH_ready (rs := [8]) (by kernel_rfl) (by simp) ?_
      refine AllReadyH.cons rfl (fun K hK => ?_) AllReadyH.nil
      have hbase := hHeld.size
      go_simp
      refine hK.out _ _ ?_ (fun hHeld' => ?_)
      · exact balloc hHeld _
      clear hK K hHeld
      have hHeld := hHeld'
      clear hHeld'
      try simp only [Act.put, List.setIfInBounds_toArray, List.set_cons_zero, List.set_cons_succ, List.getElem_toArray, List.getElem_cons_zero, List.getElem_cons_succ]
      refine wpAnyH_ready (rs := [9]) (by kernel_rfl) (by simp) ?_
      refine AllReadyH.cons rfl (fun K hK => ?_) AllReadyH.nil
      rw [if_pos (by kernel_rfl)]
      obtain ⟨v4, w4, hr4, hown4, hG4, _, _⟩ := run_append_own_at (P := Try.prog) (w2.alloc (.cells #[.int .i64 q] 2)) W0.heap.size 23 23 2 i0 (.int .i64 0) 1 8 Try.underlying23 hi0 hz0 hz1 hz2 rfl (by decide) (.slice ao D.length cp) D.length (intVals D) (IRow.later O2.out (balloc0 _ _)) ⟨w2.heap.size, 0, none⟩ 1 1 [.int .i64 q] rfl ((lit8 W0.heap.size w2 _ hbase).cells rfl) (by simp [Value.oneCell']) c3.out (by omega) (by simp; omega)
      refine wp_append_anyQ (s := .tmp 14) (x := .tmp 22) (t := 23) rfl rfl rfl hr4 ?_
      refine hK.out _ _ ?_ (fun hHeld' => ?_)
      · exact hHeld.grown hG4 (by simp; omega) (fun q hq => (World.ownsRow.lt O2.out q hq).1)
      clear hK K hHeld
      have hHeld := hHeld'
      clear hHeld'
      obtain ⟨g4, cp4, hv4, o4⟩ := IRow.snoc hown4
      rw [List.length_append] at hv4
      subst hv4
      have O4 := Lib.hid o4
      clear hr4 hown4 hG4 o4
      try simp only [Act.put, List.setIfInBounds_toArray, List.set_cons_zero, List.set_cons_succ, List.getElem_toArray, List.getElem_cons_zero, List.getElem_cons_succ]
      refine wpAnyH_take (i := 10) (v := .slice (some ⟨g4, 0, none⟩) (D.length + 1) cp4) rfl (by kernel_rfl) (by kernel_rfl) (by kernel_rfl) (fun _ _ _ h => h) (Or.inl ⟨by kernel_rfl, ?_⟩) (by assumption) ?_
      · intro w hSw
        try dsimp only at hSw
        skip
        go_simp
      try simp only [Act.put, List.setIfInBounds_toArray, List.set_cons_zero, List.set_cons_succ, List.getElem_toArray, List.getElem_cons_zero, List.getElem_cons_succ]
      refine wpAnyH_done (by kernel_rfl) ?_ _
      have B4 := Lib.hid hHeld
      clear hHeld
      go_wp2
      go_roundw
      case rel => exact ⟨k + 1, some ⟨g4, 0, none⟩, cp4, D ++ [q], by omega, by simp, by go_num, HN.out, O4.out, B4.out⟩
      case measure => simp [intOf]; omega
    · have hge : ¬ (k : Int) < (L.length : Int) := by omega
      have HN : Hid (D = offL H n L) := by show _ = _; rw [hD.out, List.take_of_length_le (by omega)]
      go_wp2
      go_ret
      refine ⟨ao, cp, by rw [← HN.out]; rfl, ?_, bnext E0.out hB.out⟩
      rw [← HN.out]
      exact hO.out.mono E0.out.size
end Go.Proofs.Ytlglijalhacmhab
