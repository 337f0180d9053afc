/-
  CoursePerpends by the program: the ends of pieces are collected.
-/
import Derived.Test.YtbhjdhkabhafmaaDoorWaVc
import Derived.Test.YtbhjdhkabhafmaaDoorWaC
import Derived.Test.YtbhjdhkabhafmaaDoorPerpJ
import Derived.Maps.AppendAt
namespace Go.Proofs.YtbhjdhkabhafmaaDoor
open Go.ChangeShapes Go.WideShapes Go.ChangeAt Go.RowKit Go.Joins Go.Shelf

attribute [local go_sem] Oper.semAt_some

def plcVals (l : List Plc) : List Value := l.map fun x => .int .i64 x.1
theorem plcVals_end {s : ByteArray} (hs : s.size ≤ 250) : plcVals (endP s s.size) = intVals (prpC s s.size) := by
  unfold plcVals endP intVals prpC
  rw [List.map_map, List.map_map]
  refine List.map_congr_left fun i hi => ?_
  have hi' : i < s.size := by simpa using hi
  have := qto_le s (i + 1)
  show Value.int .i64 (mkP (qto s (i + 1))).1 = _
  rw [mkP_val (by omega)]
  rfl
set_option maxRecDepth 100000 in
set_option maxHeartbeats 4000000 in
theorem appendSeq_impl (s : ByteArray) (hs : s.size ≤ 250) (Bn : Nat) (w : World) (hBn : Boxed w Bn 9 (.string s)) :
    Calls Tryd.prog 86 #[.slice none 0 0, .func (.func 111) #[] #[.pointer (some ⟨Bn, 0, none⟩)]] w fun e w' => ∃ v, e = .returned v ∧ w'.ownsRow w.heap.size 2 1 v s.size (intVals (prpC s s.size)) ∧ Below w.heap.size w w' := by
  have HV := Lib.hid (plcVals_end hs)
  have hBlt := hBn.lt
  obtain ⟨i0, hi, hz0, hz1, hz2⟩ := info_parts infoInt
  refine (callsIn_wide (n := 4)).1 ?_
  refine callsIn_of_wp_marks Tryd.func86 rfl trivial ?_ rfl
  simp only [Tryd.ntmps86, List.size_toArray, List.length_cons, List.length_nil, Nat.reduceAdd, Nat.reduceSub, Array.replicate_succ, Array.replicate_zero, List.push_toArray, List.append_toArray, List.nil_append, List.cons_append]
  gi_wp2
  have bO := Boxed.new w 25 (.slice none 0 0)
  have hB0 : Below w.heap.size w (w.alloc (.cells #[.slice none 0 0] 25)) := (Below.refl _ w).alloc (Nat.le_refl _) _
  refine wpIn_rangeFunc_ownG rfl (by omega) (gf := 111) (lb := #[.pointer (some ⟨Bn, 0, none⟩)]) rfl trivial (enters_of Tryd.func111 (by kernel_rfl) rfl)
    (ends_stops _ (by omega) Bn s hs _ (hBn.alloc _)) KpB.t KpB.b (Below.refl _ _) (fun _ => rfl)
    (fun pre W => (∃ v, Boxed W w.heap.size 25 v ∧ W.ownsRow w.heap.size 2 1 v pre.length (plcVals pre) ∧ True) ∧ Below w.heap.size w W)
    (fun _ _ _ => False)
    (OwnFrom.and (Own.from (holdsRow_own w.heap.size w.heap.size 25 2 1 (fun pre : List Plc => pre.length) (fun pre => plcVals pre) (fun _ _ => True)) _) (ownFrom_below (Nat.le_refl _) (by simp)))
    (fun _ _ _ _ _ hs _ _ => hs)
    ⟨⟨_, bO, World.ownsRow_nil _ _ _ _, trivial⟩, hB0⟩
    (fun x => { tmps := #[.slice none 0 0, .func (.func 111) #[] #[.pointer (some ⟨Bn, 0, none⟩)], .pointer (some ⟨w.heap.size, 0, none⟩), undef, .slice none 0 0, .int .i64 x.1, .func (.func 111) #[] #[.pointer (some ⟨Bn, 0, none⟩)], .int .i64 x.1, undef, undef, undef, undef, undef], defers := [] }) ?assign ?body ?done ?stop
  case assign =>
    intro l x W K hK
    simp only [encP]
    gi_wp2
    exact hK
  case body =>
    rintro l pre x W ⟨⟨v, hv, hrow, _⟩, hB⟩ hlt
    have hc := hv.cell
    gi_wp2_with (gi_at_builtin; refine wpListIn_append_own _ rfl _ _ 25 rfl w.heap.size 2 i0 (.int .i64 0) 1 8 Tryd.underlying25 hi hz0 hz1 hz2 rfl (by decide) _ _ _ rfl (hrow.alloc _) ⟨W.heap.size, 0, none⟩ 1 1 [.int .i64 x.1] rfl rfl (cell_one_new _ _ _) (by simp [Value.oneCell']) (by unfold maxLen; omega) (by omega) (by have := hB.size; simp; omega) ?_; intro v' w1 hown' hgrow _; obtain ⟨g', cap', rfl⟩ := ownsRow_succ hown'; obtain ⟨hv1, hv2, hr2, hk2, hb2⟩ := hv.appended (by decide) hrow hB.size (Nat.le_refl _) hown' hgrow; have hc1 := hv1.cell; have hf1 := hv1.frozen)
    exact ⟨hk2.from _, KpB.below hb2 hBlt, ⟨_, hv2, by simpa [plcVals] using hr2, trivial⟩, hB.trans hb2⟩
  case done =>
    rintro D ys W hD rfl ⟨⟨v, hv, hrow, _⟩, hB⟩ hK
    rw [endP_length, HV.out] at hrow
    have hc := hv.cell
    gi_wp2
    refine ⟨by simp, .inl ⟨_, _, rfl, run_takeDeferred hK, ?_⟩⟩
    exact ⟨_, results_tmp rfl _ _ _, v, rfl, ownsRow_putObj hrow _ hK rfl, hB.trans (belowK_b (w := w) (Nat.le_refl _) W D _ _ (by simp at hD; omega) hK rfl rfl)⟩
  case stop =>
    rintro D c pre W _ _ h _
    exact h.elim
/-- Ends are collected. -/
def ColOut (w : World) (s : ByteArray) (e : Ending) (w' : World) : Prop := ∃ a cap, e = .returned (.slice a s.size cap) ∧ IntRes w.heap.size (prpC s s.size) a w' ∧ Below w.heap.size w w'
theorem collect_impl (s : ByteArray) (hs : s.size ≤ 250) (Bn : Nat) (w : World) (hBn : Boxed w Bn 9 (.string s)) :
    Calls Tryd.prog 57 #[.func (.func 111) #[] #[.pointer (some ⟨Bn, 0, none⟩)]] w (ColOut w s) := by
  have C := Lib.hid (appendSeq_impl s hs Bn w hBn)
  clear hBn
  go_enter Tryd.func57, Tryd.ntmps57
  go_wp2_with fail
  refine C.out.mono ?_
  rintro e w1 ⟨v, rfl, ho, hb⟩
  obtain ⟨a, cap, rfl, hr⟩ := row_res (P := prpC s s.size) (by rw [prpC_length]; exact ho)
  rw [prpC_length]
  have HR := Lib.hid hr
  have HB := Lib.hid hb
  clear hr hb ho
  go_wp2
  go_ret
  exact ⟨a, cap, rfl, HR.out, HB.out⟩
/-- A course without its last piece. -/
def lessB (s : ByteArray) : ByteArray := s.extract 0 (s.size - 1)
theorem lessB_size (s : ByteArray) : (lessB s).size = s.size - 1 := by simp [lessB]
theorem lessB_list (s : ByteArray) : (lessB s).data.toList = s.data.toList.take (s.size - 1) := by
  have h : s.data.toList.dropLast = s.data.toList.take (s.data.toList.length - 1) := List.dropLast_eq_take
  simpa [lessB] using h
theorem lessB_qto (s : ByteArray) {k : Nat} (h : k ≤ s.size - 1) : qto (lessB s) k = qto s k := by
  unfold qto
  rw [lessB_list, List.take_take, Nat.min_eq_left h]
theorem lessB_perps (s : ByteArray) : prpC (lessB s) (lessB s).size = perpsC s := by
  rw [lessB_size]
  unfold perpsC prpC
  refine List.map_congr_left fun i hi => ?_
  rw [lessB_qto s (by simp at hi; omega)]
theorem perpendsIn_impl (s : ByteArray) (h1 : 1 ≤ s.size) (hs : s.size ≤ 1048576) (w : World) : Calls Tryd.prog 58 #[.string s] w fun e w' => e = .returned (.func (.func 111) #[] #[.pointer (some ⟨w.heap.size, 0, none⟩)]) ∧ w' = w.alloc (.cells #[.string (lessB s)] 9) := by
  have C := Lib.hid (fun wx => callsIn_wide.1 (ends_in (lessB s) wx))
  have hn : (s.size : Int) - 1 = ((s.size - 1 : Nat) : Int) := by omega
  have h0 : (0 : Int) ≤ (s.size : Int) - 1 := by omega
  have h2 : (s.size : Int) - 1 ≤ (s.size : Int) := by omega
  go_enter Tryd.func58, Tryd.ntmps58
  go_wp2_with fail
  refine (C.out _).mono ?_
  rintro e w' ⟨rfl, rfl⟩
  go_wp2
  go_ret
  exact ⟨rfl, rfl⟩
set_option maxHeartbeats 1600000 in
theorem coursePerpends_impl (s : ByteArray) (hs : s.size ≤ 1048576) (w : World) : Calls Tryd.prog 20 #[.string s] w (CpAns w s) := by
  have C := Lib.hid (validCourse_impl s hs)
  unfold CpAns
  cases h : okCr s
  · rw [h] at C
    have E1 : pC s = [] := by simp [pC, h]
    have E2 : cC s = 1 := by simp [cC, h]
    rw [E1, E2]
    clear E1 E2
    go_enter Tryd.func20, Tryd.ntmps20
    go_wp2_with fail
    refine (C.out _).mono ?_
    rintro e w' ⟨rfl, hb1⟩
    have B1 := Lib.hid hb1
    clear hb1
    go_wp2
    go_ret2
    exact ⟨none, 0, rfl, .inl rfl, B1.out⟩
  · rw [h] at C
    obtain ⟨h1, h2, _, _⟩ := okCr_facts h
    have E1 : pC s = perpsC s := by simp [pC, h]
    have E2 : cC s = 0 := by simp [cC, h]
    rw [E1, E2]
    have hls := lessB_size s
    have Q := Lib.hid (fun b wx (hb : Boxed wx b 9 (.string (lessB s))) => collect_impl (lessB s) (by omega) b wx hb)
    have HP := Lib.hid (lessB_perps s)
    have HI := Lib.hid (perpendsIn_impl s h1 hs)
    have HL : Hid ((perpsC s).length = (lessB s).size) := by show _ = _; rw [perpsC, prpC_length, hls]
    obtain ⟨T, hT⟩ : ∃ T, lessB s = T := ⟨_, rfl⟩
    rw [hT] at Q HP HI HL
    clear E1 E2 h h1 h2 hls hT
    go_enter Tryd.func20, Tryd.ntmps20
    go_wp2_with fail
    refine (C.out _).mono ?_
    rintro e w1 ⟨rfl, hb1⟩
    have B1 := Lib.hid hb1
    clear hb1
    go_wp2_with fail
    refine (HI.out _).mono ?_
    rintro e w2 ⟨rfl, rfl⟩
    have B2 := Lib.hid (balloc B1.out (.cells #[.string T] 9))
    have BX := Lib.hid (Boxed.new w1 9 (.string T))
    go_wp2_with fail
    refine (Q.out _ _ BX.out).mono ?_
    rintro e w3 ⟨a, cap, rfl, hr, hb3⟩
    have B3 := Lib.hid (bnext B2.out hb3)
    have R3 : Hid (IntRes w.heap.size (perpsC s) a w3) := by
      show IntRes _ _ _ _
      rw [← HP.out]
      rcases hr with h | ⟨g, h1, h2⟩
      · exact .inl h
      · exact .inr ⟨g, h1, Nat.le_trans B2.out.size h2.1, h2.2⟩
    clear hr hb3
    go_wp2
    go_ret2
    exact ⟨a, cap, by rw [HL.out]; rfl, R3.out, B3.out⟩
end Go.Proofs.YtbhjdhkabhafmaaDoor
