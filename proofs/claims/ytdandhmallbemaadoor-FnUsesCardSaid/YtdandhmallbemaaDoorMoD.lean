/-
  How far fired sizes are from those of a format: the program.
-/
import Derived.Test.YtdandhmallbemaaDoorMoF
import Derived.Test.YtdandhmallbemaaDoorMoDP
import Derived.Test.YtdandhmallbemaaDoorC2a
namespace Go.Proofs.YtdandhmallbemaaDoor
open Go.ChangeShapes Go.WideShapes Go.ChangeAt Go.RowKit Go.Joins

theorem dist_impl (a b : Int) (h1 : 0 ≤ a ∧ a ≤ 1000) (h2 : 0 ≤ b ∧ b ≤ 1000) (w : World) : Calls Tryd.prog 65 #[.int .i64 a, .int .i64 b] w fun e w' => e = .returned (.int .i64 (absD a b)) ∧ w = w' := by
  by_cases h : a < b
  all_goals
    go_enter Tryd.func65, Tryd.ntmps65
    go_wp2
    go_ret
    exact ⟨ret_int (by unfold absD; omega), rfl⟩
theorem szF_impl (l wd ht j : Int) (w : World) : Calls Tryd.prog 63 #[.agg #[.int .i64 l, .int .i64 wd, .int .i64 ht, .int .i64 j]] w fun e w' => ∃ g, e = .returned (.slice (some ⟨g, 0, none⟩) 3 3) ∧ IntOwn w.heap.size [l, wd, ht] g w' ∧ Below w.heap.size w w' := by
  have H := ints_new (w.alloc (.cells #[.int .i64 l, .int .i64 wd, .int .i64 ht, .int .i64 j] 31)) [l, wd, ht]
  have H0 := H.down (B' := w.heap.size) (by simp)
  have e : (w.alloc (.cells #[.int .i64 l, .int .i64 wd, .int .i64 ht, .int .i64 j] 31)).heap.size = w.heap.size + 1 := by simp
  rw [e] at H0
  go_enter Tryd.func63, Tryd.ntmps63
  go_wp2
  go_ret
  exact ⟨_, rfl, H0, balloc (balloc0 _ _) _⟩

set_option maxRecDepth 100000 in
set_option maxHeartbeats 3200000 in
theorem diffs_impl (l wd ht j s : Int) (hf : okB l wd ht j = true) (s0 : 0 ≤ s) (s1 : s ≤ 200) (c : Mo) (hok : c.ok = true) (w : World) : Calls Tryd.prog 49 #[.agg #[.int .i64 l, .int .i64 wd, .int .i64 ht, .int .i64 j, .int .i64 s], .agg #[.int .i64 c.le, .int .i64 c.wi, .int .i64 c.he, .int .i64 c.us]] w fun e w' => ∃ g cap, e = .returned (.slice (some ⟨g, 0, none⟩) 3 cap) ∧ IntOwn w.heap.size (diffL c s l wd ht) g w' ∧ Below w.heap.size w w' := by
  have B0 := Lib.hid (balloc (balloc0 w (.cells #[.int .i64 l, .int .i64 wd, .int .i64 ht, .int .i64 j, .int .i64 s] 69)) (.cells #[.int .i64 c.le, .int .i64 c.wi, .int .i64 c.he, .int .i64 c.us] 47))
  have SF := Lib.hid (szF_impl l wd ht j)
  have FS := Lib.hid (fall_impl c hok s s0 s1)
  have HO := Lib.hid hok
  have HF := Lib.hid hf
  have H0 := Lib.hid (And.intro s0 s1)
  clear hok hf s0 s1
  go_enter Tryd.func49, Tryd.ntmps49
  go_wp2_with fail
  refine (SF.out _).mono ?_
  rintro e w1 ⟨g1, rfl, o1, hb1⟩
  have B1 := Lib.hid (bnext B0.out hb1)
  have Z1 := Lib.hid o1.2.1
  obtain ⟨hc1, hf1⟩ := bcell hb1
  have c0 : w1.cell? ⟨w.heap.size + 1, 0, none⟩ = some (.int .i64 c.le) := (hc1 (w.heap.size + 1) 0 (by simp)).trans (by simp)
  have c1 : w1.cell? ⟨w.heap.size + 1, 1, none⟩ = some (.int .i64 c.wi) := (hc1 (w.heap.size + 1) 1 (by simp)).trans (by simp)
  have c2 : w1.cell? ⟨w.heap.size + 1, 2, none⟩ = some (.int .i64 c.he) := (hc1 (w.heap.size + 1) 2 (by simp)).trans (by simp)
  have c3 : w1.cell? ⟨w.heap.size + 1, 3, none⟩ = some (.int .i64 c.us) := (hc1 (w.heap.size + 1) 3 (by simp)).trans (by simp)
  have d4 : w1.cell? ⟨w.heap.size, 4, none⟩ = some (.int .i64 s) := (hc1 w.heap.size 4 (by simp; omega)).trans (by simp)
  clear hb1 o1 hc1 hf1
  go_wp2_with fail
  refine (FS.out _).mono ?_
  rintro e w2 ⟨g2, cp2, rfl, o2, hb2⟩
  have B2 := Lib.hid (bnext B1.out hb2)
  have Z2 := Lib.hid (Z1.out.later hb2)
  have Y2 := Lib.hid o2.2.1
  clear hb2 o2 c0 c1 c2 c3 d4
  go_wp2
  go_loopw [5, 17] (fun v i wr => ∃ (k : Nat) (ao : Option Addr) (cp : Nat) (ps : List Int), k ≤ 3 ∧ v = .slice ao ps.length cp ∧ i = .int .i64 k ∧ Hid (ps = (diffL c s l wd ht).take k) ∧ Hid (ps.length = k) ∧ Hid (wr.ownsRow w2.heap.size 2 1 (.slice ao ps.length cp) ps.length (intVals ps)) ∧ Hid (Below w2.heap.size w2 wr)) (fun _ i _ => 3 - (intOf i).toNat)
  case atStart => exact ⟨0, none, 0, [], by omega, rfl, rfl, rfl, rfl, ⟨rfl, .inl ⟨rfl, rfl⟩⟩, Below.refl _ _⟩
  case round =>
    obtain ⟨k, ao, cp, ps, hk, rfl, rfl, hP, hpl, hO, hB⟩ := hrel
    by_cases hlt : k < 3
    · have hlt' : (k : Int) < 3 := by omega
      have hk0 : (0 : Int) ≤ (k : Int) := by omega
      obtain ⟨x, hx⟩ : ∃ x, (firedL c s)[k]? = some x := ⟨_, List.getElem?_eq_getElem (by simpa [firedL] using hlt)⟩
      obtain ⟨y, hy⟩ : ∃ y, [l, wd, ht][k]? = some y := ⟨_, List.getElem?_eq_getElem (by simpa using hlt)⟩
      have cx := (Y2.out.later hB.out) k x hx
      have cy := (Z2.out.later hB.out) k y hy
      rw [Nat.zero_add] at cx cy
      have rx := firedL_range HO.out H0.out.1 H0.out.2 hx
      have ry := okB_size HF.out hy
      have D := Lib.hid (dist_impl x y rx ry)
      obtain ⟨q, hq⟩ : ∃ q, absD x y = q := ⟨_, rfl⟩
      have HP1 : Hid (ps ++ [q] = (diffL c s l wd ht).take (k + 1)) := by show _ = _; rw [hP.out, ← hq]; exact take_next (diffL_at hx hy)
      rw [hq] at D
      clear hx hy hq rx ry
      obtain ⟨i0, hi, hz0, hz1, hz2⟩ := info_parts infoInt
      have hbase : w2.heap.size ≤ wr.heap.size := hB.out.size
      have hps3 : ps.length ≤ 3 := by rw [hpl.out]; exact hk
      have c3 : Hid (ps.length + 1 ≤ maxLen) := by show ps.length + 1 ≤ maxLen; rw [hpl.out]; unfold maxLen; omega
      go_wp2_with (first | (go_at_call 65; refine (D.out _).mono ?_; rintro e w4 ⟨rfl, rfl⟩) | (at_builtin; go_must ((refine wpList_append_own _ rfl _ _ 27 rfl w2.heap.size 2 i0 (.int .i64 0) 1 8 Tryd.underlying27 hi hz0 hz1 hz2 rfl (by decide) (.slice ao ps.length cp) ps.length (intVals ps) rfl (hO.out.alloc _) ⟨wr.heap.size, 0, none⟩ 1 1 [.int .i64 q] rfl rfl ((lit8 w2.heap.size wr _ hbase).cells rfl) (by simp [Value.oneCell']) c3.out (by omega) (by simp; omega) ?_; intro v4 w4 hown4 hgrow4 _; obtain ⟨g4, cp4, hv4⟩ := own_form8 hown4 (Nat.succ_ne_zero _); subst hv4; have O4 := Lib.hid hown4; have B4 : Hid (Below w2.heap.size w2 w4) := (hB.out.alloc hbase _).grown hgrow4 (by simp; omega) (fun q hq => (hO.out.lt q hq).1); clear hown4 hgrow4))))
      go_roundw
      case rel =>
        refine ⟨k + 1, some ⟨g4, 0, none⟩, cp4, ps ++ [q], by omega, by simp, by go_num, HP1.out, by show (ps ++ [q]).length = k + 1; simp [hpl.out], ?_, B4.out⟩
        have h := O4.out
        show World.ownsRow _ _ _ _ _ _ _
        have e : intVals (ps ++ [q]) = intVals ps ++ [.int .i64 q] := by simp [intVals]
        rw [e, List.length_append]
        exact h
      case measure => simp [intOf]; omega
    · have hge : ¬ (k : Int) < 3 := by omega
      have hk3 : k = 3 := by omega
      subst hk3
      obtain ⟨g, cp', hv⟩ := own_form8 hO.out (by rw [hpl.out]; omega)
      cases hv
      have HR : Hid (IntOwn w.heap.size (diffL c s l wd ht) g wr) := by
        have h := int_row rfl hO.out
        rw [hP.out] at h
        exact h.down B2.out.size
      have HB := Lib.hid (B2.out.trans (hB.out.mono B2.out.size))
      rw [hpl.out]
      go_wp2
      go_ret
      first | exact ⟨g, ⟨_, rfl⟩, HR.out, HB.out⟩ | exact ⟨g, _, rfl, HR.out, HB.out⟩
end Go.Proofs.YtdandhmallbemaaDoor
