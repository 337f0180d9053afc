/-
  Fired sizes and worn moulds: the program's answers.
-/
import Derived.Test.YtdandhmallbemaaDoorMoI
namespace Go.Proofs.YtdandhmallbemaaDoor
open Go.ChangeShapes Go.WideShapes Go.ChangeAt Go.RowKit Go.Joins


/-- A row that has grown, as numbers. -/
theorem int_row {B n g cap : Nat} {P : List Int} {w : World} (hn : n = P.length) (h : w.ownsRow B 2 1 (.slice (some ⟨g, 0, none⟩) n cap) n (intVals P)) : IntOwn B P g w := by
  refine ⟨own_base8 h, fun k z hk => ?_, fun j hj => ?_, ?_⟩
  · have hl := (List.getElem?_eq_some_iff.1 hk).1
    rw [Nat.zero_add, World.ownsRow.cellAt h k (by omega)]
    simp [intVals, hk]
  · rw [Nat.zero_add]
    refine ⟨?_, World.ownsRow.frozenAt h j⟩
    rw [World.ownsRow.cellAt h j (by omega), List.getElem?_eq_getElem (by simpa [intVals] using hj)]
    rfl
  · obtain ⟨_, h0 | ⟨b, c, cs, hv, _, hh, _⟩⟩ := h
    · simp at h0
    · simp at hv
      rw [hv.1]
      exact (Array.getElem?_eq_some_iff.1 hh).1
/-- What is handed back of a row that may be nil. -/
theorem int_res {B : Nat} {ao : Option Addr} {cap : Nat} {P : List Int} {w : World} (h : w.ownsRow B 2 1 (.slice ao P.length cap) P.length (intVals P)) : IntRes B P ao w := by
  by_cases h0 : P.length = 0
  · exact .inl (List.eq_nil_of_length_eq_zero h0)
  · obtain ⟨g, cp, hv⟩ := own_form8 h h0
    cases hv
    exact .inr ⟨g, rfl, int_row rfl h⟩
theorem row_down {w : World} {B B' e size n : Nat} {v : Value} {xs : List Value} (h : w.ownsRow B e size v n xs) (hb : B' ≤ B) : w.ownsRow B' e size v n xs := by
  refine ⟨h.1, ?_⟩
  rcases h.2 with hn | ⟨g, cap, cur, hv, hB, rest⟩
  · exact .inl hn
  · exact .inr ⟨g, cap, cur, hv, Nat.le_trans hb hB, rest⟩

def chkM (L : List Mo) (n low high : Int) : Int := if okMos L = true then (if inB n low high = true then 0 else 2) else 1
set_option maxRecDepth 100000 in
theorem chk_moimpl (L : List Mo) (a : Option Addr) (cap : Nat) (hl : L.length ≤ 1048576) (n low high : Int) (w : World) (ha : MoArg w a L) : Calls Tryd.prog 30 #[.slice a L.length cap, .int .i64 n, .int .i64 low, .int .i64 high] w fun e w' => e = .returned (.int .i64 (chkM L n low high)) ∧ Below w.heap.size w w' := by
  have C := Lib.hid (valid_moimpl L a cap hl w ha)
  have I := Lib.hid (within_impl n low high)
  clear ha
  cases h1 : okMos L <;> cases h2 : inB n low high
  all_goals
    rw [h1] at C
    rw [h2] at I
    go_enter Tryd.func30, Tryd.ntmps30
    go_wp2_with fail
    refine C.out.mono ?_
    rintro e w1 ⟨rfl, hb1⟩
    go_wp2_with (go_at_call 38; refine (I.out _).mono ?_; rintro e w2 ⟨rfl, rfl⟩)
    go_ret
    exact ⟨ret_int (by simp [chkM, h1, h2]), hb1⟩

set_option maxRecDepth 100000 in
set_option maxHeartbeats 1600000 in
theorem fall_impl (c : Mo) (hok : c.ok = true) (s : Int) (s0 : 0 ≤ s) (s1 : s ≤ 200) (w : World) : Calls Tryd.prog 64 #[.agg #[.int .i64 c.le, .int .i64 c.wi, .int .i64 c.he, .int .i64 c.us], .int .i64 s] w fun e w' => ∃ g cap, e = .returned (.slice (some ⟨g, 0, none⟩) 3 cap) ∧ IntOwn w.heap.size (firedL c s) g w' ∧ Below w.heap.size w w' := by
  have HB0 := Lib.hid (balloc0 w (.cells #[.int .i64 c.le, .int .i64 c.wi, .int .i64 c.he, .int .i64 c.us] 47))
  have HO := Lib.hid hok
  have C := Lib.hid (sizes_impl c)
  clear hok
  go_enter Tryd.func64, Tryd.ntmps64
  go_wp2_with fail
  refine (C.out _).mono ?_
  rintro e w1 ⟨g1, rfl, o1, hb1⟩
  have B1 : Hid (Below w.heap.size w w1) := bnext (balloc0 _ _) hb1
  have Z1 := Lib.hid o1.2.1
  clear hb1 o1
  go_wp2
  go_loopw [5, 11] (fun v i wr => ∃ (k : Nat) (ao : Option Addr) (cp : Nat) (ps : List Int), k ≤ 3 ∧ v = .slice ao ps.length cp ∧ i = .int .i64 k ∧ Hid (ps = firedTo (szL c) s k) ∧ Hid (ps.length = k) ∧ Hid (wr.ownsRow w1.heap.size 2 1 (.slice ao ps.length cp) ps.length (intVals ps)) ∧ Hid (Below w1.heap.size w1 wr)) (fun _ i _ => 3 - (intOf i).toNat)
  case atStart => exact ⟨0, none, 0, [], by omega, rfl, rfl, rfl, rfl, ⟨rfl, .inl ⟨rfl, rfl⟩⟩, Below.refl _ _⟩
  case round =>
    obtain ⟨k, ao, cp, ps, hk, rfl, rfl, hP, hpl, hO, hB⟩ := hrel
    by_cases hlt : k < 3
    · have hlt' : (k : Int) < 3 := by omega
      have hk0 : (0 : Int) ≤ (k : Int) := by omega
      obtain ⟨z, hz⟩ : ∃ z, (szL c)[k]? = some z := ⟨_, List.getElem?_eq_getElem (by simpa [szL] using hlt)⟩
      have cz := (Z1.out.later hB.out) k z hz
      rw [Nat.zero_add] at cz
      obtain ⟨z0, z2⟩ := szL_ok HO.out hz
      have F := Lib.hid (fired_impl z s (by omega) (by omega) s0 s1)
      obtain ⟨q, hq⟩ : ∃ q, firedF z s = q := ⟨_, rfl⟩
      have HP1 : Hid (ps ++ [q] = firedTo (szL c) s (k + 1)) := by show _ = _; rw [hP.out, ← hq]; exact firedTo_step hz
      rw [hq] at F
      clear hz hq
      obtain ⟨i0, hi, hz0, hz1, hz2⟩ := info_parts infoInt
      have hbase : w1.heap.size ≤ wr.heap.size := hB.out.size
      have hps3 : ps.length ≤ 3 := by rw [hpl.out]; exact hk
      have c3 : Hid (ps.length + 1 ≤ maxLen) := by show ps.length + 1 ≤ maxLen; rw [hpl.out]; unfold maxLen; omega
      go_wp2_with (first | (go_at_call 69; refine (F.out _).mono ?_; rintro e w4 ⟨rfl, rfl⟩) | (at_builtin; go_must ((refine wpList_append_own _ rfl _ _ 27 rfl w1.heap.size 2 i0 (.int .i64 0) 1 8 Tryd.underlying27 hi hz0 hz1 hz2 rfl (by decide) (.slice ao ps.length cp) ps.length (intVals ps) rfl (hO.out.alloc _) ⟨wr.heap.size, 0, none⟩ 1 1 [.int .i64 q] rfl rfl ((lit8 w1.heap.size wr _ hbase).cells rfl) (by simp [Value.oneCell']) c3.out (by omega) (by simp; omega) ?_; intro v4 w4 hown4 hgrow4 _; obtain ⟨g4, cp4, hv4⟩ := own_form8 hown4 (Nat.succ_ne_zero _); subst hv4; have O4 := Lib.hid hown4; have B4 : Hid (Below w1.heap.size w1 w4) := (hB.out.alloc hbase _).grown hgrow4 (by simp; omega) (fun q hq => (hO.out.lt q hq).1); clear hown4 hgrow4))))
      go_roundw
      case rel =>
        refine ⟨k + 1, some ⟨g4, 0, none⟩, cp4, ps ++ [q], by omega, by simp, by go_num, HP1.out, by show (ps ++ [q]).length = k + 1; simp [hpl.out], ?_, B4.out⟩
        have h := O4.out
        show World.ownsRow _ _ _ _ _ _ _
        have e : intVals (ps ++ [q]) = intVals ps ++ [.int .i64 q] := by simp [intVals]
        rw [e, List.length_append]
        exact h
      case measure => simp [intOf]; omega
    · have hge : ¬ (k : Int) < 3 := by omega
      have hk3 : k = 3 := by omega
      subst hk3
      obtain ⟨g, cp', hv⟩ := own_form8 hO.out (by rw [hpl.out]; omega)
      cases hv
      have HR : Hid (IntOwn w.heap.size (firedL c s) g wr) := by
        have h := int_row rfl hO.out
        rw [hP.out] at h
        exact h.down B1.out.size
      have HB := Lib.hid (B1.out.trans (hB.out.mono B1.out.size))
      rw [hpl.out]
      go_wp2
      go_ret
      first | exact ⟨g, ⟨_, rfl⟩, HR.out, HB.out⟩ | exact ⟨g, _, rfl, HR.out, HB.out⟩

theorem okMos_one (c : Mo) : okMos [c] = c.ok := by simp [okMos]
end Go.Proofs.YtdandhmallbemaaDoor
