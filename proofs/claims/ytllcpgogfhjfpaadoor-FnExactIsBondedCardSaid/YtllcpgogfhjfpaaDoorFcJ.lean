/-
  FirstClash and IsBonded by the program, and the walks of their laws.
-/
import Derived.Test.YtllcpgogfhjfpaaDoorFcI
import Derived.Test.YtllcpgogfhjfpaaDoorOpenS
namespace Go.Proofs.YtllcpgogfhjfpaaDoor
open Go.ChangeShapes Go.WideShapes Go.ChangeAt Go.RowKit Go.Joins Go.Shelf

attribute [local go_sem] Oper.semAt_some
theorem fcE_bad {L : List ByteArray} {lap c : Int} (h : fcC L lap = c) (hc : ¬ c = 0) : fcE L lap = .returned (.tuple #[.int .i64 0, .int .i64 0, .int .i64 0, .int .i64 c]) := by
  unfold fcE
  rw [h, if_neg hc]
theorem fcE_form (L : List ByteArray) (lap : Int) : ∃ c0 c1 c2 c3 : Int, fcE L lap = .returned (.tuple #[.int .i64 c0, .int .i64 c1, .int .i64 c2, .int .i64 c3]) := by
  by_cases h : fcC L lap = 0
  · cases hf : fcO lap L with
    | none => exact ⟨0, 0, 0, 3, by unfold fcE; rw [if_pos h, hf]⟩
    | some p => obtain ⟨k, x, y⟩ := p; exact ⟨k, x, y, 0, by unfold fcE; rw [if_pos h, hf]⟩
  · exact ⟨0, 0, 0, fcC L lap, fcE_bad rfl h⟩
theorem ibE_form (L : List ByteArray) (lap : Int) : ∃ (b : Bool) (c : Int), ibE L lap = .returned (.tuple #[.bool b, .int .i64 c]) := by
  unfold ibE
  split
  · exact ⟨_, _, rfl⟩
  · exact ⟨_, _, rfl⟩
set_option maxRecDepth 100000 in
set_option maxHeartbeats 6400000 in
theorem firstClash_impl (L : List ByteArray) (a : Option Addr) (cap : Nat) (hcap : L.length ≤ cap) (hl : L.length ≤ 1048576) (hs : StrLe 1048576 L) (lap : Int) (w : World) (ha : StrArg w a L) :
    Calls Tryd.prog 13 #[.slice a L.length cap, .int .i64 lap] w fun e w' => e = fcE L lap ∧ Below w.heap.size w w' := by
  have C := Lib.hid (fun wx h => validWall_impl L a cap hl hs wx h)
  cases hw : okW L
  · rw [hw] at C
    have HK := Lib.hid (fcE_bad (L := L) (lap := lap) (c := 1) (by unfold fcC; rw [hw]; rfl) (by omega))
    clear hw
    refine (callsIn_wide (n := 8)).1 ?_
    refine callsIn_of_wp_marks Tryd.func13 rfl trivial ?_ rfl
    simp only [Tryd.ntmps13, List.size_toArray, List.length_cons, List.length_nil, Nat.reduceAdd, Nat.reduceSub, Array.replicate_succ, Array.replicate_zero, List.push_toArray, List.append_toArray, List.nil_append, List.cons_append]
    have B0 := FcB.new w (.slice a L.length cap) lap
    have HB0 : Hid (Below w.heap.size w (fcW w (.slice a L.length cap) lap)) := balloc (balloc (balloc (balloc (balloc (balloc0 _ _) _) _) _) _) _
    have HS0 : Hid ((fcW w (.slice a L.length cap) lap).heap.size = w.heap.size + 6) := by show _ = _; simp [fcW]
    have O1 := Lib.hid (ha.later HB0.out)
    gi_wp2_with fail
    obtain ⟨W0, hW0⟩ : ∃ W0, fcW w (.slice a L.length cap) lap = W0 := ⟨_, rfl⟩
    have hW1 := hW0
    unfold fcW at hW1
    rw [hW0] at B0 HB0 HS0 O1
    rw [hW1]
    clear hW0 hW1 ha hs
    refine ⟨trivial, (callsIn_wide.2 (C.out _ O1.out)).mono ?_⟩
    rintro e w1 ⟨rfl, hb1⟩
    have K1 := B0.later HS0.out hb1
    have E1 := Lib.hid (bnext HB0.out hb1)
    clear hb1
    have c0 := K1.x0.cell
    have c1 := K1.x1.cell
    have f2 := K1.x2.frozen
    have f3 := K1.x3.frozen
    have f4 := K1.x4.frozen
    have f5 := K1.x5.frozen
    have e2 := K1.x2.cell
    have e3 := K1.x3.cell
    have e4 := K1.x4.cell
    have e5 := K1.x5.cell
    gi_wp2
    refine leaves_marks w [] 0 _ trivial (fun W' hT => ?_)
    have g := (K1.store 0 0 0 1).mark hT
    have g2 := g.x2.cell
    have g3 := g.x3.cell
    have g4 := g.x4.cell
    have g5 := g.x5.cell
    exact ⟨.tuple #[.int .i64 0, .int .i64 0, .int .i64 0, .int .i64 1], by simp [results, Tryd.results13, go_sem, g2, g3, g4, g5], HK.out.symm, (four_below E1.out (Nat.le_refl _) _ _ _ _).trans hT.1⟩
  cases hin : inB lap 1 4
  · have HK := Lib.hid (fcE_bad (L := L) (lap := lap) (c := 2) (by unfold fcC; rw [hw, hin]; rfl) (by omega))
    rw [hw] at C
    have IN : Hid (∀ wx, Calls Tryd.prog 37 #[.int .i64 lap, .int .i64 1, .int .i64 4] wx fun e w' => e = .returned (.bool false) ∧ wx = w') := fun wx => by rw [← hin]; exact wa_impl lap 1 4 wx
    clear hw hin
    refine (callsIn_wide (n := 8)).1 ?_
    refine callsIn_of_wp_marks Tryd.func13 rfl trivial ?_ rfl
    simp only [Tryd.ntmps13, List.size_toArray, List.length_cons, List.length_nil, Nat.reduceAdd, Nat.reduceSub, Array.replicate_succ, Array.replicate_zero, List.push_toArray, List.append_toArray, List.nil_append, List.cons_append]
    have B0 := FcB.new w (.slice a L.length cap) lap
    have HB0 : Hid (Below w.heap.size w (fcW w (.slice a L.length cap) lap)) := balloc (balloc (balloc (balloc (balloc (balloc0 _ _) _) _) _) _) _
    have HS0 : Hid ((fcW w (.slice a L.length cap) lap).heap.size = w.heap.size + 6) := by show _ = _; simp [fcW]
    have O1 := Lib.hid (ha.later HB0.out)
    gi_wp2_with fail
    obtain ⟨W0, hW0⟩ : ∃ W0, fcW w (.slice a L.length cap) lap = W0 := ⟨_, rfl⟩
    have hW1 := hW0
    unfold fcW at hW1
    rw [hW0] at B0 HB0 HS0 O1
    rw [hW1]
    clear hW0 hW1 ha hs
    refine ⟨trivial, (callsIn_wide.2 (C.out _ O1.out)).mono ?_⟩
    rintro e w1 ⟨rfl, hb1⟩
    have K1 := B0.later HS0.out hb1
    have E1 := Lib.hid (bnext HB0.out hb1)
    clear hb1
    have c0 := K1.x0.cell
    have c1 := K1.x1.cell
    have f2 := K1.x2.frozen
    have f3 := K1.x3.frozen
    have f4 := K1.x4.frozen
    have f5 := K1.x5.frozen
    have e2 := K1.x2.cell
    have e3 := K1.x3.cell
    have e4 := K1.x4.cell
    have e5 := K1.x5.cell
    gi_wp2_with fail
    refine ⟨trivial, (callsIn_wide.2 (IN.out _)).mono ?_⟩
    rintro e w2 ⟨rfl, rfl⟩
    gi_wp2
    refine leaves_marks w [] 0 _ trivial (fun W' hT => ?_)
    have g := (K1.store 0 0 0 2).mark hT
    have g2 := g.x2.cell
    have g3 := g.x3.cell
    have g4 := g.x4.cell
    have g5 := g.x5.cell
    exact ⟨.tuple #[.int .i64 0, .int .i64 0, .int .i64 0, .int .i64 2], by simp [results, Tryd.results13, go_sem, g2, g3, g4, g5], HK.out.symm, (four_below E1.out (Nat.le_refl _) _ _ _ _).trans hT.1⟩
  have h4 := inB_true.1 hin
  exact firstClash_bones L a cap hcap hw lap h4.1 h4.2 w ha hl hs
set_option maxRecDepth 100000 in
set_option maxHeartbeats 3200000 in
theorem isBonded_impl (L : List ByteArray) (a : Option Addr) (cap : Nat) (hcap : L.length ≤ cap) (hl : L.length ≤ 1048576) (hs : StrLe 1048576 L) (lap : Int) (w : World) (ha : StrArg w a L) :
    Calls Tryd.prog 16 #[.slice a L.length cap, .int .i64 lap] w fun e w' => e = ibE L lap ∧ Below w.heap.size w w' := by
  have C := Lib.hid (firstClash_impl L a cap hcap hl hs lap w ha)
  have hx : (∃ c0 c1 c2 c3 : Int, fcE L lap = .returned (.tuple #[.int .i64 c0, .int .i64 c1, .int .i64 c2, .int .i64 c3]) ∧ ((c3 = 3 ∧ ibE L lap = .returned (.tuple #[.bool true, .int .i64 0])) ∨ (¬ c3 = 3 ∧ ibE L lap = .returned (.tuple #[.bool false, .int .i64 c3])))) := by
    by_cases h : fcC L lap = 0
    · cases hf : fcO lap L with
      | none => exact ⟨0, 0, 0, 3, by unfold fcE; rw [if_pos h, hf], .inl ⟨rfl, by unfold ibE; rw [if_pos h, hf]; rfl⟩⟩
      | some p => obtain ⟨k, x, y⟩ := p; exact ⟨k, x, y, 0, by unfold fcE; rw [if_pos h, hf], .inr ⟨by omega, by unfold ibE; rw [if_pos h, hf]; rfl⟩⟩
    · refine ⟨0, 0, 0, fcC L lap, fcE_bad rfl h, .inr ⟨?_, by unfold ibE; rw [if_neg h]⟩⟩
      unfold fcC
      split
      · split <;> omega
      · omega
  obtain ⟨c0, c1, c2, c3, hE, hI⟩ := hx
  rw [hE] at C
  clear hE ha hs
  rcases hI with ⟨h3, hI⟩ | ⟨h3, hI⟩
  all_goals
    have HI := Lib.hid hI
    clear hI
    go_enter Tryd.func16, Tryd.ntmps16
    go_wp2_with fail
    refine C.out.mono ?_
    rintro e w1 ⟨rfl, hb1⟩
    have B1 := Lib.hid hb1
    clear hb1
    go_wp2
    go_ret2
    exact ⟨HI.out.symm, B1.out⟩
set_option maxRecDepth 100000 in
set_option maxHeartbeats 3200000 in
theorem walk_FnExactFirstClash (L : List ByteArray) (a : Option Addr) (cap : Nat) (hl : L.length ≤ maxLen) (hs : StrLe maxLen L) (lap : Int) (_wlap : (Lit.int .i64 lap).wf = true) (w : World) (ha : StrArg w a L) :
    Calls Tryd.prog 3 #[.slice a L.length cap, .int .i64 lap] w fun e w' => e = .returned (.bool true) ∧ Below w.heap.size w w' := by
  have Z := Lib.hid (sz_strs L a cap 1048576 (by omega) (by omega) hl hs w ha)
  have HA := Lib.hid ha
  clear hs ha hl
  go_enter Tryd.func3, Tryd.ntmps3
  go_wp2_with fail
  refine Z.out.mono ?_
  rintro e w1 ⟨r, rfl, r0, r1, r2, hb1⟩
  have B1 := Lib.hid hb1
  have R2 := Lib.hid r2
  clear hb1 r2
  by_cases hr : r < 0
  · go_wp2
    go_ret
    exact ⟨rfl, B1.out⟩
  obtain ⟨hL, hS⟩ := R2.out (by omega)
  have S := Lib.hid (fun g cp wx (h : StrArg wx g L) => firstClash_spec L g cp hL hS lap wx h)
  have I := Lib.hid (fun g wx (h : StrArg wx g L) => firstClash_impl L g L.length (Nat.le_refl _) hL hS lap wx h)
  obtain ⟨q0, q1, q2, q3, hE⟩ := fcE_form L lap
  rw [hE] at S I
  clear hE
  clear hS
  go_wp2_with fail
  refine (to_strs L a cap hL _ (HA.out.later B1.out)).mono ?_
  rintro e w2 ⟨g2, rfl, o2, hb2⟩
  have B2 := Lib.hid (bnext B1.out hb2)
  have O2 := Lib.hid o2.arg
  clear hb2 o2
  go_wp2_with fail
  refine (S.out _ _ _ O2.out).mono ?_
  rintro e w3 ⟨rfl, hb3⟩
  have B3 := Lib.hid (bnext B2.out hb3)
  clear hb3
  go_wp2_with fail
  refine (to_strs L a cap hL _ (HA.out.later B3.out)).mono ?_
  rintro e w4 ⟨g4, rfl, o4, hb4⟩
  have B4 := Lib.hid (bnext B3.out hb4)
  have O4 := Lib.hid o4.arg
  clear hb4 o4
  go_wp2_with fail
  refine (I.out _ _ O4.out).mono ?_
  rintro e w5 ⟨rfl, hb5⟩
  have B5 := Lib.hid (bnext B4.out hb5)
  have O5 := Lib.hid (O4.out.later hb5)
  clear hb5
  go_wp2_with fail
  refine (to_strs L a cap hL _ (HA.out.later B5.out)).mono ?_
  rintro e w6 ⟨g6, rfl, o6, hb6⟩
  have B6 := Lib.hid (bnext B5.out hb6)
  have O6 := Lib.hid (O5.out.later hb6)
  have P6 := Lib.hid o6.arg
  clear hb6 o6
  go_wp2_with fail
  refine (eq_strs L _ _ _ _ (by omega) _ O6.out P6.out).mono ?_
  rintro e w7 ⟨rfl, hb7⟩
  have B7 := Lib.hid (bnext B6.out hb7)
  clear hb7
  go_wp2
  go_ret
  exact ⟨rfl, B7.out⟩
set_option maxRecDepth 100000 in
set_option maxHeartbeats 3200000 in
theorem walk_FnExactIsBonded (L : List ByteArray) (a : Option Addr) (cap : Nat) (hl : L.length ≤ maxLen) (hs : StrLe maxLen L) (lap : Int) (_wlap : (Lit.int .i64 lap).wf = true) (w : World) (ha : StrArg w a L) :
    Calls Tryd.prog 4 #[.slice a L.length cap, .int .i64 lap] w fun e w' => e = .returned (.bool true) ∧ Below w.heap.size w w' := by
  have Z := Lib.hid (sz_strs L a cap 1048576 (by omega) (by omega) hl hs w ha)
  have HA := Lib.hid ha
  clear hs ha hl
  go_enter Tryd.func4, Tryd.ntmps4
  go_wp2_with fail
  refine Z.out.mono ?_
  rintro e w1 ⟨r, rfl, r0, r1, r2, hb1⟩
  have B1 := Lib.hid hb1
  have R2 := Lib.hid r2
  clear hb1 r2
  by_cases hr : r < 0
  · go_wp2
    go_ret
    exact ⟨rfl, B1.out⟩
  obtain ⟨hL, hS⟩ := R2.out (by omega)
  have S := Lib.hid (fun g cp wx (h : StrArg wx g L) => isBonded_spec L g cp hL hS lap wx h)
  have I := Lib.hid (fun g wx (h : StrArg wx g L) => isBonded_impl L g L.length (Nat.le_refl _) hL hS lap wx h)
  obtain ⟨q0, q1, hE⟩ := ibE_form L lap
  rw [hE] at S I
  clear hE
  clear hS
  go_wp2_with fail
  refine (to_strs L a cap hL _ (HA.out.later B1.out)).mono ?_
  rintro e w2 ⟨g2, rfl, o2, hb2⟩
  have B2 := Lib.hid (bnext B1.out hb2)
  have O2 := Lib.hid o2.arg
  clear hb2 o2
  go_wp2_with fail
  refine (S.out _ _ _ O2.out).mono ?_
  rintro e w3 ⟨rfl, hb3⟩
  have B3 := Lib.hid (bnext B2.out hb3)
  clear hb3
  go_wp2_with fail
  refine (to_strs L a cap hL _ (HA.out.later B3.out)).mono ?_
  rintro e w4 ⟨g4, rfl, o4, hb4⟩
  have B4 := Lib.hid (bnext B3.out hb4)
  have O4 := Lib.hid o4.arg
  clear hb4 o4
  go_wp2_with fail
  refine (I.out _ _ O4.out).mono ?_
  rintro e w5 ⟨rfl, hb5⟩
  have B5 := Lib.hid (bnext B4.out hb5)
  have O5 := Lib.hid (O4.out.later hb5)
  clear hb5
  go_wp2_with fail
  refine (to_strs L a cap hL _ (HA.out.later B5.out)).mono ?_
  rintro e w6 ⟨g6, rfl, o6, hb6⟩
  have B6 := Lib.hid (bnext B5.out hb6)
  have O6 := Lib.hid (O5.out.later hb6)
  have P6 := Lib.hid o6.arg
  clear hb6 o6
  go_wp2_with fail
  refine (eq_strs L _ _ _ _ (by omega) _ O6.out P6.out).mono ?_
  rintro e w7 ⟨rfl, hb7⟩
  have B7 := Lib.hid (bnext B6.out hb7)
  clear hb7
  go_wp2
  go_ret
  exact ⟨rfl, B7.out⟩
end Go.Proofs.YtllcpgogfhjfpaaDoor
