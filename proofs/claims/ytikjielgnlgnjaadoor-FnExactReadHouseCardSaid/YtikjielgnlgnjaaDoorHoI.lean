/-
  Plans by the program: which one is right.
-/
import Derived.Test.YtikjielgnlgnjaaDoorHoW
import Derived.Test.YtikjielgnlgnjaaDoorCoI
import Derived.Test.YtikjielgnlgnjaaDoorWi
import Derived.Test.YtikjielgnlgnjaaDoorShelfB
namespace Go.Proofs.YtikjielgnlgnjaaDoor
open Go.ChangeShapes Go.WideShapes Go.ChangeAt Go.RowKit Go.Joins Go.Shelf

attribute [local go_sem] Oper.semAt_some

theorem lr_trim (s : ByteArray) : lrB s = (Lib.trimS s.data.toList [76, 82]).isEmpty := by
  rw [Bool.eq_iff_iff, List.isEmpty_iff, trimS_nil, lrB, List.all_eq_true, List.all_eq_true]
  refine forall_congr' fun x => forall_congr' fun _ => ?_
  simp [isLR, List.contains_eq_mem]
theorem count_turns (T : ByteArray) (x : UInt8) : (Lib.countByte T.data.toList x : Int) = (nTurn T x T.size : Int) := by
  unfold nTurn
  rw [List.take_of_length_le (by simp)]
  rfl
set_option maxHeartbeats 1600000 in
theorem areRuns_impl (P : List Int) (a : Option Addr) (cap : Nat) (hl : P.length ≤ 1048576) (w : World) (ha : IntArg w a P) : Calls Tryd.prog 53 #[.slice a P.length cap] w fun e w' => e = .returned (.bool (runsB P && inB (P.length : Int) 4 12)) ∧ w = w' := by
  have C := Lib.hid (allin_impl P 8 200 a cap hl w ha)
  have IL := Lib.hid (wa_impl (P.length : Int) 4 12)
  rw [show allB P 8 200 = runsB P from rfl] at C
  obtain ⟨v, hv⟩ : ∃ v, runsB P = v := ⟨_, rfl⟩
  rw [hv] at C
  rw [hv]
  clear ha hv
  cases hin : inB (P.length : Int) 4 12
  all_goals
    rw [hin] at IL
    have HI := Lib.hid hin
    clear hin
    go_enter Tryd.func53, Tryd.ntmps53
    go_wp2_with (first | (go_at_call 82; refine (IL.out _).mono ?_; rintro e w1 ⟨rfl, rfl⟩) | (go_at_call 83; refine C.out.mono ?_; rintro e w1 ⟨rfl, rfl⟩))
    go_ret
    exact ⟨ret_bool (by simp), rfl⟩
set_option maxHeartbeats 1600000 in
theorem areTurns_impl (T : ByteArray) (hs : T.size ≤ 1048576) (w : World) : Calls Tryd.prog 54 #[.string T] w fun e w' => e = .returned (.bool (lrB T && roundB T)) ∧ Below w.heap.size w w' := by
  have C : Hid (∀ w, Calls Tryd.prog 84 #[.string T, .string ⟨#[76, 82]⟩] w fun e w' => e = .returned (.bool (lrB T)) ∧ Below w.heap.size w w') := fun w => by
    rw [lr_trim]; exact consists_impl T ⟨#[76, 82]⟩ hs (by decide) (by decide) w
  have N1 : Hid (∀ wx, Calls Tryd.prog 85 #[.string T, .string ⟨#[76]⟩] wx fun e w' => e = .returned (.int .i64 (nTurn T 76 T.size : Int)) ∧ w' = wx) := fun wx => by rw [← count_turns]; exact Tryd.strings_Count_one T 76 wx
  have N2 : Hid (∀ wx, Calls Tryd.prog 85 #[.string T, .string ⟨#[82]⟩] wx fun e w' => e = .returned (.int .i64 (nTurn T 82 T.size : Int)) ∧ w' = wx) := fun wx => by rw [← count_turns]; exact Tryd.strings_Count_one T 82 wx
  have l1 := nTurn_le T 76 T.size
  have l2 := nTurn_le T 82 T.size
  have HB : Hid (roundB T = decide (nTurn T 76 T.size = nTurn T 82 T.size + 4)) := rfl
  obtain ⟨x, hx⟩ : ∃ x, nTurn T 76 T.size = x := ⟨_, rfl⟩
  obtain ⟨y, hy⟩ : ∃ y, nTurn T 82 T.size = y := ⟨_, rfl⟩
  rw [hx] at N1 HB l1
  rw [hy] at N2 HB l2
  clear hx hy
  cases hb : lrB T
  · rw [hb] at C
    go_enter Tryd.func54, Tryd.ntmps54
    go_wp2_with (go_at_call 84; refine (C.out _).mono ?_; rintro e w2 ⟨rfl, hb2⟩; have B2 := Lib.hid hb2; clear hb2)
    go_ret
    exact ⟨rfl, B2.out⟩
  · rw [hb] at C
    clear hb
    go_enter Tryd.func54, Tryd.ntmps54
    go_wp2_with (first | (go_at_call 84; refine (C.out _).mono ?_; rintro e w2 ⟨rfl, hb2⟩; have B2 := Lib.hid hb2; clear hb2) | (go_at_call_of 85 (Value.string ⟨#[76]⟩); refine (N1.out _).mono ?_; rintro e w3 ⟨rfl, rfl⟩) | (go_at_call_of 85 (Value.string ⟨#[82]⟩); refine (N2.out _).mono ?_; rintro e w3 ⟨rfl, rfl⟩))
    go_ret
    exact ⟨ret_bool (by rw [HB.out, Bool.eq_iff_iff]; simp; omega), B2.out⟩
/-- Where one is behind some sides. -/
def lastS (l : List (Spot × Spot)) : Spot := (l.getLast?.map (·.2)).getD ⟨0, 0, 0⟩
theorem lastS_snoc (l : List (Spot × Spot)) (x : Spot × Spot) : lastS (l ++ [x]) = x.2 := by simp [lastS]
theorem lastS_legs (P : List Int) (T : ByteArray) (n : Nat) : lastS (legs P T n) = spot P T n := by
  cases n with
  | zero => rfl
  | succ n => rw [legs_succ, lastS_snoc]
theorem FrAt.put {c : Nat} {s : Spot} {W : World} {l : Nat} {o : Obj} (h : FrAt c s W) (o' : Obj) (hl : W.heap[l]? = some o) (ho : o.isCells = false) : FrAt c s (W.putObj l o') :=
  (World.putObj_heap_other (fun e => by subst e; unfold FrAt at h; rw [hl] at h; cases h; cases ho)).trans h
theorem FrAt.grown {c : Nat} {s : Spot} {W W' : World} {row : Option Nat} (h : FrAt c s W) (hg : W.grownBy W' row) (hr : some c ≠ row) : FrAt c s W' := (hg.block c h.lt hr).trans h
theorem below_row {n : Nat} {w W W' : World} {row : Option Nat} (h : Below n w W) (hn : n ≤ W.heap.size) (hg : W.grownBy W' row) (hr : ∀ r, row = some r → n ≤ r) : Below n w W' := h.grown hg hn hr
set_option maxRecDepth 100000 in
set_option maxHeartbeats 4000000 in
theorem comesBack_impl (P : List Int) (T : ByteArray) (a : Option Addr) (cap : Nat) (hok : okHo' P T) (w : World) (ha : IntArg w a P) (hd : DirAt w) :
    Calls Tryd.prog 55 #[.agg #[.slice a P.length cap, .string T]] w fun e w' => e = .returned (.bool (backB P T)) ∧ Below w.heap.size w w' := by
  have HI := Lib.hid (fun wx => walk_in (.slice a P.length cap) T wx)
  have HL := Lib.hid (lastS_legs P T P.length)
  have HG := Lib.hid (IntDeep.of ha)
  have HD := Lib.hid hd
  clear ha hd
  refine (callsIn_wide (n := 6)).1 ?_
  refine callsIn_of_wp_marks Tryd.func55 rfl trivial ?_ rfl
  simp only [Tryd.ntmps55, List.size_toArray, List.length_cons, List.length_nil, Nat.reduceAdd, Nat.reduceSub, Array.replicate_succ, Array.replicate_zero, List.push_toArray, List.append_toArray, List.nil_append, List.cons_append]
  gi_wp2_with (refine ⟨trivial, ?_⟩; gi_at_call 64; refine (callsIn_wide.2 (callsIn_wide.1 (HI.out _))).mono ?_; rintro e w' ⟨rfl, rfl⟩)
  obtain ⟨W0, hW⟩ : ∃ W0, (((w.alloc (.cells #[.slice a P.length cap, .string T] 27)).alloc (.cells #[.int .i64 0, .int .i64 0] 72)).alloc (.cells #[.slice a P.length cap, .string T] 27)) = W0 := ⟨_, rfl⟩
  have z0 : W0.heap.size = w.heap.size + 3 := by rw [← hW]; simp
  have hB0 : Below w.heap.size w W0 := by rw [← hW]; exact balloc (balloc (balloc0 _ _) _) _
  have hE0 : FrAt (w.heap.size + 1) ⟨0, 0, 0⟩ W0 := by
    rw [← hW]
    refine (Below.heap_alloc _ _ _ (by simp)).trans ?_
    have := heap_alloc_new (w.alloc (.cells #[.slice a P.length cap, .string T] 27)) (.cells #[.int .i64 0, .int .i64 0] 72)
    simpa using this
  have hH0 : HoR w.heap.size (w.heap.size + 1 + 1) a cap P T W0 := by
    refine ⟨HG.out.below hB0 (Nat.le_refl _), HD.out.below hB0 HD.out.lt, HD.out.lt, ?_⟩
    rw [← hW]
    have := heap_alloc_new ((w.alloc (.cells #[.slice a P.length cap, .string T] 27)).alloc (.cells #[.int .i64 0, .int .i64 0] 72)) (.cells #[.slice a P.length cap, .string T] 27)
    simpa using this
  rw [hW]
  clear hW
  refine range_all rfl (by omega) (gf := 86) (lb := #[.pointer (some ⟨w.heap.size + 1 + 1, 0, none⟩)]) rfl trivial (enters_of Tryd.func86 (by kernel_rfl) rfl)
    (walk_goes _ (by omega) w.heap.size (w.heap.size + 1 + 1) P T a cap hok (W0.heap.size + 2) W0 (by omega) (by omega) hH0) KpH.t (KpH.put (by omega)) (Below.refl _ _) (fun _ => rfl)
    (fun pre W => FrAt (w.heap.size + 1) (lastS pre) W ∧ Below w.heap.size w W)
    (fun s W W' row hs hg hr => ⟨hs.1.grown hg (fun e => by rcases hr _ e.symm with h | ⟨h, _⟩ <;> omega), below_row hs.2 hs.2.size hg (fun r e => by rcases hr r e with h | ⟨h, _⟩ <;> omega)⟩)
    ⟨hE0, hB0⟩
    (fun pre x a' W => (∃ tb, a' = { tmps := #[.agg #[.slice a P.length cap, .string T], .pointer (some ⟨w.heap.size, 0, none⟩), .bool false, .pointer (some ⟨w.heap.size + 1, 0, none⟩), undef, .pointer (some ⟨tb, 0, none⟩), .agg #[.int .i64 0, .int .i64 0], .agg #[.slice a P.length cap, .string T], .func (.func 86) #[] #[.pointer (some ⟨w.heap.size + 1 + 1, 0, none⟩)], plc x.1, plc x.2, undef, undef, undef, undef], defers := [] } ∧ FrAt tb x.2 W) ∧ FrAt (w.heap.size + 1) (lastS pre) W ∧ Below w.heap.size w W)
    (fun pre x a' W l o o' hl ho hc h => by
      obtain ⟨⟨tb, h1, h2⟩, h3, h4⟩ := h
      exact ⟨⟨tb, h1, h2.put o' ho hc⟩, h3.put o' ho hc, h4.trans ⟨rfl, rfl, rfl, by simp, fun k hk => World.putObj_heap_other (by omega)⟩⟩)
    ?assign ?body ?done
  case assign =>
    rintro l pre ⟨⟨x, y, d⟩, ⟨x', y', d'⟩⟩ W hpx hsz ⟨hF, hB⟩
    simp only [encL, plc]
    gi_wp2
    refine ⟨?_, ?_, ⟨_, rfl, heap_alloc_new _ _⟩, hF.below (balloc0 _ _) hF.lt, balloc hB _⟩
    · exact ⟨by simp, fun k o hk _ => (Below.heap_alloc _ _ _ (Array.getElem?_eq_some_iff.1 hk).1).trans hk⟩
    · exact KpH.below (balloc0 _ _) hB.size (by omega) (Nat.le_refl _)
  case body =>
    rintro l pre x a' W hpx hsz ⟨⟨tb, rfl, hT⟩, hF, hB⟩
    obtain ⟨⟨c0, c1⟩, _, _⟩ := hT.cells
    obtain ⟨⟨d0, d1⟩, f0, f1⟩ := hF.cells
    gi_wp2
    refine ⟨KeepsOthers.trans (KeepsOthers.setCell _ _ _) (KeepsOthers.setCell _ _ _), KpH.t (KpH.set (by show w.heap.size ≤ w.heap.size + 1; omega) (by show w.heap.size + 1 ≠ _; omega) (by show w.heap.size + 1 < _; omega)) (KpH.set (by show w.heap.size ≤ w.heap.size + 1; omega) (by show w.heap.size + 1 ≠ _; omega) (by show w.heap.size + 1 < _; omega)), ?_, ?_⟩
    · rw [lastS_snoc]
      exact hF.set _ _ _
    · exact (hB.setCell (p := ⟨w.heap.size + 1, 0, none⟩) (Nat.le_succ _) _).setCell (p := ⟨w.heap.size + 1, 1, none⟩) (Nat.le_succ _) _
  case done =>
    rintro D W hD ⟨hF, hB⟩ hK
    rw [HL.out] at hF
    obtain ⟨⟨c0, c1⟩, _, _⟩ := hF.cells
    have HB : Hid (backB P T = (decide ((spot P T P.length).x = 0) && decide ((spot P T P.length).y = 0))) := rfl
    obtain ⟨x, hx⟩ : ∃ x, (spot P T P.length).x = x := ⟨_, rfl⟩
    obtain ⟨y, hy⟩ : ∃ y, (spot P T P.length).y = y := ⟨_, rfl⟩
    rw [hx] at c0 HB
    rw [hy] at c1 HB
    have HF := Lib.hid hF
    clear hx hy hF
    by_cases hx0 : x = 0
    · by_cases hy0 : y = 0
      · skip
        gi_wp2
        refine ⟨by simp, .inl ⟨_, _, rfl, run_takeDeferred hK, ?_⟩⟩
        exact ⟨.bool true, by simp [results, Tryd.results55, go_sem], ret_bool (by rw [HB.out]; simp [hx0, hy0]), hB.trans (belowK_b (w := w) (Nat.le_refl _) W D _ _ (by omega) hK rfl rfl)⟩
      · skip
        gi_wp2
        refine ⟨by simp, .inl ⟨_, _, rfl, run_takeDeferred hK, ?_⟩⟩
        exact ⟨.bool false, by simp [results, Tryd.results55, go_sem], ret_bool (by rw [HB.out]; simp [hy0]), hB.trans (belowK_b (w := w) (Nat.le_refl _) W D _ _ (by omega) hK rfl rfl)⟩
    · skip
      gi_wp2
      refine ⟨by simp, .inl ⟨_, _, rfl, run_takeDeferred hK, ?_⟩⟩
      exact ⟨.bool false, by simp [results, Tryd.results55, go_sem], ret_bool (by rw [HB.out]; simp [hx0]), hB.trans (belowK_b (w := w) (Nat.le_refl _) W D _ _ (by omega) hK rfl rfl)⟩
/-- The plan in its box. -/
theorem house_new (w : World) (v : Value) (T : ByteArray) (t : TypeId) : Hid (∀ wx, Below (w.alloc (.cells #[v, .string T] t)).heap.size (w.alloc (.cells #[v, .string T] t)) wx → wx.cell? ⟨w.heap.size, 0, none⟩ = some v ∧ wx.cell? ⟨w.heap.size, 1, none⟩ = some (.string T)) := fun wx hx => by
  obtain ⟨d0, d1⟩ := boxH w v T t
  exact ⟨(hx.cell (p := ⟨w.heap.size, 0, none⟩) (by simp)).trans d0, (hx.cell (p := ⟨w.heap.size, 1, none⟩) (by simp)).trans d1⟩
set_option maxRecDepth 100000 in
set_option maxHeartbeats 4000000 in
theorem validHouse_impl (P : List Int) (T : ByteArray) (a : Option Addr) (cap : Nat) (hl : P.length ≤ 1048576) (hs : T.size ≤ 1048576) (w : World) (ha : IntArg w a P) (hd : DirAt w) :
    Calls Tryd.prog 18 #[.agg #[.slice a P.length cap, .string T]] w fun e w' => e = .returned (.bool (okHo P T)) ∧ Below w.heap.size w w' := by
  have K := house_new w (.slice a P.length cap) T 27
  obtain ⟨W0, hW⟩ : ∃ W0, w.alloc (.cells #[.slice a P.length cap, .string T] 27) = W0 := ⟨_, rfl⟩
  have E0 : Hid (Below w.heap.size w W0) := by show Below w.heap.size w W0; rw [← hW]; exact balloc0 _ _
  rw [hW] at K
  have HW := Lib.hid hW
  have HA := Lib.hid (ha.later E0.out)
  have HD := Lib.hid (hd.later E0.out)
  clear hW ha hd
  have R := Lib.hid (fun wx h => areRuns_impl P a cap hl wx h)
  have A := Lib.hid (areTurns_impl T hs)
  have HO : Hid (okHo P T = (inB (P.length : Int) 4 12 && (decide (T.size = P.length) && (runsB P && (lrB T && (roundB T && backB P T)))))) := rfl
  have C : Hid ((runsB P && inB (P.length : Int) 4 12) = true → (lrB T && roundB T) = true → T.size = P.length → ∀ wx, Below W0.heap.size W0 wx → Calls Tryd.prog 55 #[.agg #[.slice a P.length cap, .string T]] wx fun e w' => e = .returned (.bool (backB P T)) ∧ Below wx.heap.size wx w') := fun h1 h2 h3 wx hx => by
    simp only [Bool.and_eq_true, inB_true] at h1 h2
    exact comesBack_impl P T a cap ⟨h1.1, h2.1, by omega, h3⟩ wx (HA.out.later hx) (HD.out.later hx)
  obtain ⟨d0, d1⟩ := K.out _ (Below.refl _ _)
  cases h1 : (runsB P && inB (P.length : Int) 4 12)
  · rw [h1] at R
    have HE : Hid (okHo P T = false) := by
      show _ = _
      rw [HO.out]
      cases hr : runsB P <;> cases hi : inB (P.length : Int) 4 12 <;> simp_all
    clear h1 C
    go_enter Tryd.func18, Tryd.ntmps18
    go_wp2_with fail
    rw [HW.out]
    go_wp2_with (go_at_call 53; refine (R.out _ HA.out).mono ?_; rintro e w1 ⟨rfl, rfl⟩)
    go_ret
    exact ⟨ret_bool HE.out.symm, E0.out⟩
  cases h2 : (lrB T && roundB T)
  · rw [h1] at R
    rw [h2] at A
    have HE : Hid (okHo P T = false) := by
      show _ = _
      rw [HO.out]
      cases hr : lrB T <;> cases hi : roundB T <;> simp_all
    clear h1 h2 C
    go_enter Tryd.func18, Tryd.ntmps18
    go_wp2_with fail
    rw [HW.out]
    go_wp2_with (first | (go_at_call 53; refine (R.out _ HA.out).mono ?_; rintro e w1 ⟨rfl, rfl⟩) | (go_at_call 54; refine (A.out _).mono ?_; rintro e w2 ⟨rfl, hb2⟩; have B2 := Lib.hid hb2; clear hb2; clear d0 d1; obtain ⟨d0, d1⟩ := K.out _ B2.out))
    go_ret
    exact ⟨ret_bool HE.out.symm, bnext E0.out B2.out⟩
  by_cases h3 : T.size = P.length
  case neg =>
    have h3' : ¬ (T.size : Int) = (P.length : Int) := by omega
    rw [h1] at R
    rw [h2] at A
    have HE : Hid (okHo P T = false) := by
      show _ = _
      rw [HO.out, decide_eq_false h3]
      simp
    clear h1 h2 C h3
    go_enter Tryd.func18, Tryd.ntmps18
    go_wp2_with fail
    rw [HW.out]
    go_wp2_with (first | (go_at_call 53; refine (R.out _ HA.out).mono ?_; rintro e w1 ⟨rfl, rfl⟩) | (go_at_call 54; refine (A.out _).mono ?_; rintro e w2 ⟨rfl, hb2⟩; have B2 := Lib.hid hb2; clear hb2; clear d0 d1; obtain ⟨d0, d1⟩ := K.out _ B2.out))
    go_ret
    exact ⟨ret_bool HE.out.symm, bnext E0.out B2.out⟩
  · have h3' : (T.size : Int) = (P.length : Int) := by omega
    have C := Lib.hid (C.out h1 h2 h3)
    rw [h1] at R
    rw [h2] at A
    have HE : Hid (okHo P T = backB P T) := by
      show _ = _
      rw [HO.out, decide_eq_true h3]
      simp only [Bool.and_eq_true] at h1 h2
      rw [h1.1, h1.2, h2.1, h2.2]
      simp
    obtain ⟨bk, hbk⟩ : ∃ bk, backB P T = bk := ⟨_, rfl⟩
    rw [hbk] at C HE
    clear h1 h2 h3 hbk
    go_enter Tryd.func18, Tryd.ntmps18
    go_wp2_with fail
    rw [HW.out]
    go_wp2_with (first | (go_at_call 53; refine (R.out _ HA.out).mono ?_; rintro e w1 ⟨rfl, rfl⟩) | (go_at_call 54; refine (A.out _).mono ?_; rintro e w2 ⟨rfl, hb2⟩; have B2 := Lib.hid hb2; clear hb2; clear d0 d1; obtain ⟨d0, d1⟩ := K.out _ B2.out) | (go_at_call 55; refine (C.out _ B2.out).mono ?_; rintro e w3 ⟨rfl, hb3⟩; have B3 := Lib.hid (bnext B2.out hb3); clear hb3))
    go_ret
    exact ⟨ret_bool HE.out.symm, bnext E0.out B3.out⟩
end Go.Proofs.YtikjielgnlgnjaaDoor
