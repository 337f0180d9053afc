/-
  WallOf: the model
-/
import Derived.Test.YtllcpgogfhjfpaaDoorSt
import Derived.Test.YtllcpgogfhjfpaaDoorLw
import Derived.Test.YtllcpgogfhjfpaaDoorWaC
namespace Go.Proofs.YtllcpgogfhjfpaaDoor
open Go.ChangeShapes Go.WideShapes Go.ChangeAt Go.RowKit Go.Joins

/-- Two courses again and again; the code; what is handed back. -/
def altB (l h : ByteArray) (k : Nat) : ByteArray := if (k : Int) % 2 = 0 then l else h
def woTo (l h : ByteArray) (n : Nat) : List ByteArray := (List.range n).map (altB l h)
theorem woTo_length (l h : ByteArray) (n : Nat) : (woTo l h n).length = n := by simp [woTo]
theorem woTo_succ (l h : ByteArray) (n : Nat) : woTo l h (n + 1) = woTo l h n ++ [altB l h n] := by simp [woTo, List.range_succ]
def woC (l h : ByteArray) (n : Int) : Int := if okCr l = true ∧ okCr h = true then (if inB n 1 40 = true then (if qall l = qall h then 0 else 9) else 2) else 1
def woV (l h : ByteArray) (n : Int) : List ByteArray := if woC l h n = 0 then woTo l h n.toNat else []
theorem wo_bad {l h : ByteArray} {n : Int} (e : ¬ (okCr l = true ∧ okCr h = true)) : woC l h n = 1 ∧ woV l h n = [] := by
  have h1 : woC l h n = 1 := by unfold woC; rw [if_neg e]
  exact ⟨h1, by unfold woV; rw [h1, if_neg (by omega)]⟩
theorem wo_range {l h : ByteArray} {n : Int} (e : okCr l = true ∧ okCr h = true) (h2 : inB n 1 40 = false) : woC l h n = 2 ∧ woV l h n = [] := by
  have h1 : woC l h n = 2 := by unfold woC; rw [if_pos e, h2]; rfl
  exact ⟨h1, by unfold woV; rw [h1, if_neg (by omega)]⟩
theorem wo_clash {l h : ByteArray} {n : Int} (e : okCr l = true ∧ okCr h = true) (h2 : inB n 1 40 = true) (h3 : ¬ qall l = qall h) : woC l h n = 9 ∧ woV l h n = [] := by
  have h1 : woC l h n = 9 := by unfold woC; rw [if_pos e, if_pos h2, if_neg h3]
  exact ⟨h1, by unfold woV; rw [h1, if_neg (by omega)]⟩
theorem wo_good {l h : ByteArray} {n : Int} (e : okCr l = true ∧ okCr h = true) (h2 : inB n 1 40 = true) (h3 : qall l = qall h) : woC l h n = 0 ∧ woV l h n = woTo l h n.toNat := by
  have h1 : woC l h n = 0 := by unfold woC; rw [if_pos e, if_pos h2, if_pos h3]
  exact ⟨h1, by unfold woV; rw [h1, if_pos rfl]⟩
theorem woV_length (l h : ByteArray) (n : Int) : (woV l h n).length ≤ 40 := by
  unfold woV
  split
  · rename_i e
    rw [woTo_length]
    unfold woC at e
    split at e
    · split at e
      · rename_i h2
        have := inB_true.1 h2
        omega
      · omega
    · omega
  · simp
/-- Courses and a code are handed back. -/
def WoAns (w : World) (l h : ByteArray) (n : Int) (e : Ending) (w' : World) : Prop := ∃ a cap, e = .returned (.tuple #[.slice a (woV l h n).length cap, .int .i64 (woC l h n)]) ∧ StrRes w.heap.size (woV l h n) a w' ∧ Below w.heap.size w w'
set_option maxRecDepth 100000 in
set_option maxHeartbeats 6400000 in
theorem wallOf_spec (l h : ByteArray) (hl : l.size ≤ 1048576) (hh : h.size ≤ 1048576) (n : Int) (w : World) :
    Calls Tryd.prog 28 #[.string l, .string h, .int .i64 n] w (WoAns w l h n) := by
  have CL := Lib.hid (cok_spec l hl)
  have CH := Lib.hid (cok_spec h hh)
  cases h1 : okCr l
  · obtain ⟨e1, e2⟩ := wo_bad (l := l) (h := h) (n := n) (by simp [h1])
    unfold WoAns
    rw [e1, e2]
    rw [h1] at CL
    clear e1 e2 h1
    go_enter Tryd.func28, Tryd.ntmps28
    go_wp2_with fail
    refine (CL.out _).mono ?_
    rintro e w1 ⟨rfl, rfl⟩
    have B1 : Hid (Below w.heap.size w w) := Below.refl _ _
    go_wp2_with fail
    go_ret2
    exact ⟨none, 0, rfl, .inl rfl, B1.out⟩
  cases h2 : okCr h
  · obtain ⟨e1, e2⟩ := wo_bad (l := l) (h := h) (n := n) (by simp [h2])
    unfold WoAns
    rw [e1, e2]
    rw [h1] at CL
    rw [h2] at CH
    clear e1 e2 h1 h2
    go_enter Tryd.func28, Tryd.ntmps28
    go_wp2_with fail
    refine (CL.out _).mono ?_
    rintro e w1 ⟨rfl, rfl⟩
    have B1 : Hid (Below w.heap.size w w) := Below.refl _ _
    go_wp2_with fail
    refine (CH.out _).mono ?_
    rintro e w2 ⟨rfl, rfl⟩
    have B2 : Hid (Below w.heap.size w w) := Below.refl _ _
    go_wp2_with fail
    go_ret2
    exact ⟨none, 0, rfl, .inl rfl, B2.out⟩
  have HK := Lib.hid (show okCr l = true ∧ okCr h = true from ⟨h1, h2⟩)
  have f1 := okCr_facts h1
  have f2 := okCr_facts h2
  rw [h1] at CL
  rw [h2] at CH
  clear h1 h2
  cases hin : inB n 1 40
  · obtain ⟨e1, e2⟩ := wo_range HK.out hin
    unfold WoAns
    rw [e1, e2]
    have IN : Hid (∀ wx, Calls Tryd.prog 49 #[.int .i64 n, .int .i64 1, .int .i64 40] wx fun e w' => e = .returned (.bool false) ∧ wx = w') := fun wx => by rw [← hin]; exact in_any _ _ _ _
    clear e1 e2 hin f1 f2
    go_enter Tryd.func28, Tryd.ntmps28
    go_wp2_with fail
    refine (CL.out _).mono ?_
    rintro e w1 ⟨rfl, rfl⟩
    have B1 : Hid (Below w.heap.size w w) := Below.refl _ _
    go_wp2_with fail
    refine (CH.out _).mono ?_
    rintro e w2 ⟨rfl, rfl⟩
    have B2 : Hid (Below w.heap.size w w) := Below.refl _ _
    go_wp2_with fail
    refine (IN.out _).mono ?_
    rintro e w3 ⟨rfl, rfl⟩
    go_wp2_with fail
    go_ret2
    exact ⟨none, 0, rfl, .inl rfl, B2.out⟩
  have hn := inB_true.1 hin
  obtain ⟨m, rfl⟩ := Int.eq_ofNat_of_zero_le (show 0 ≤ n by omega)
  have IN : Hid (∀ wx, Calls Tryd.prog 49 #[.int .i64 (m : Int), .int .i64 1, .int .i64 40] wx fun e w' => e = .returned (.bool true) ∧ wx = w') := fun wx => by rw [← hin]; exact in_any _ _ _ _
  have HIN := Lib.hid hin
  have QL : Hid (∀ wx, Calls Tryd.prog 60 #[.string l] wx fun e w' => e = .returned (.int .i64 (qall l : Int)) ∧ wx = w') := clen_spec l hl
  have QH : Hid (∀ wx, Calls Tryd.prog 60 #[.string h] wx fun e w' => e = .returned (.int .i64 (qall h : Int)) ∧ wx = w') := clen_spec h hh
  have hm1 : 1 ≤ m := by omega
  have hm2 : m ≤ 40 := by omega
  clear hin f1 f2 hn hl hh
  by_cases hq : qall l = qall h
  case neg =>
    obtain ⟨e1, e2⟩ := wo_clash HK.out HIN.out hq
    unfold WoAns
    rw [e1, e2]
    have hqi : ((qall l : Int) == (qall h : Int)) = false := by simp; omega
    have hqn : ¬ (qall l : Int) = (qall h : Int) := by omega
    obtain ⟨ql, hql⟩ : ∃ q : Int, (qall l : Int) = q := ⟨_, rfl⟩
    obtain ⟨qh, hqh⟩ : ∃ q : Int, (qall h : Int) = q := ⟨_, rfl⟩
    rw [hql] at QL hqi hqn
    rw [hqh] at QH hqi hqn
    clear e1 e2 hq hql hqh
    go_enter Tryd.func28, Tryd.ntmps28
    go_wp2_with fail
    refine (CL.out _).mono ?_
    rintro e w1 ⟨rfl, rfl⟩
    have B1 : Hid (Below w.heap.size w w) := Below.refl _ _
    go_wp2_with fail
    refine (CH.out _).mono ?_
    rintro e w2 ⟨rfl, rfl⟩
    have B2 : Hid (Below w.heap.size w w) := Below.refl _ _
    go_wp2_with fail
    refine (IN.out _).mono ?_
    rintro e w3 ⟨rfl, rfl⟩
    go_wp2_with fail
    refine (QL.out _).mono ?_
    rintro e w4 ⟨rfl, rfl⟩
    go_wp2_with fail
    refine (QH.out _).mono ?_
    rintro e w5 ⟨rfl, rfl⟩
    go_wp2_with fail
    go_ret2
    exact ⟨none, 0, rfl, .inl rfl, B2.out⟩
  have HG : Hid (woC l h (m : Int) = 0 ∧ woV l h (m : Int) = woTo l h m) := by have := wo_good HK.out HIN.out hq; simp only [Int.toNat_natCast] at this; exact this
  have hqi : ((qall h : Int) == (qall h : Int)) = true := by simp
  rw [hq] at QL
  obtain ⟨qh, hqh⟩ : ∃ q : Int, (qall h : Int) = q := ⟨_, rfl⟩
  rw [hqh] at QL QH hqi
  clear hq hqh
  go_enter Tryd.func28, Tryd.ntmps28
  go_wp2_with fail
  refine (CL.out _).mono ?_
  rintro e w1 ⟨rfl, rfl⟩
  have B1 : Hid (Below w.heap.size w w) := Below.refl _ _
  go_wp2_with fail
  refine (CH.out _).mono ?_
  rintro e w2 ⟨rfl, rfl⟩
  have B2 : Hid (Below w.heap.size w w) := Below.refl _ _
  go_wp2_with fail
  refine (IN.out _).mono ?_
  rintro e w3 ⟨rfl, rfl⟩
  go_wp2_with fail
  refine (QL.out _).mono ?_
  rintro e w4 ⟨rfl, rfl⟩
  go_wp2_with fail
  refine (QH.out _).mono ?_
  rintro e w5 ⟨rfl, rfl⟩
  go_wp2
  have S0 := strs_start w
  have SB := balloc0 w (.cells #[] 9)
  go_loopw [8, 9] (fun v i wr => ∃ (k : Nat) (P : List ByteArray) (ao : Option Addr) (cp : Nat), v = .slice ao k cp ∧ i = .int .i64 (k : Int) ∧ k ≤ m ∧ Hid (wr.ownsRow w.heap.size 9 1 (.slice ao k cp) k (strVals P)) ∧ Hid (P = woTo l h k) ∧ Hid (Below w.heap.size w wr)) (fun _ i _ => m - (intOf i).toNat)
  case atStart => exact ⟨0, [], _, _, rfl, rfl, Nat.zero_le _, S0, rfl, SB⟩
  case round =>
    obtain ⟨k, P, ao, cp, rfl, rfl, hk, hO, hP, hB⟩ := hrel
    by_cases hlt : k < m
    · have hlt' : (k : Int) < (m : Int) := by omega
      have hk0 : (0 : Int) ≤ (k : Int) := by omega
      obtain ⟨i0, hi, hz0, hz1, hz2⟩ := info_parts infoStrB
      have c3 : Hid (k + 1 ≤ maxLen) := by show k + 1 ≤ maxLen; unfold maxLen; omega
      have z3 : w.heap.size ≤ wr.heap.size := hB.out.size
      have HNX : Hid (P ++ [altB l h k] = woTo l h (k + 1)) := by show _ = _; rw [woTo_succ, hP.out]
      by_cases hpar : (k : Int) % 2 = 0
      · have HBk : Hid (altB l h k = l) := by show _ = _; unfold altB; rw [if_pos hpar]
        have hpb : ((k : Int) % 2 == (0 : Int)) = true := by simpa using hpar
        go_wp2_with (at_builtin; go_must ((refine wpList_append_own _ rfl _ _ 22 rfl w.heap.size 9 i0 (.string ⟨#[]⟩) 1 16 Tryd.underlying22 hi hz0 hz1 hz2 rfl (by decide) (.slice ao k cp) k (strVals P) rfl (hO.out.alloc _) ⟨wr.heap.size, 0, none⟩ 1 1 [.string l] rfl rfl ((litS w.heap.size wr l z3).cells rfl) (by simp [Value.oneCell']) c3.out (by omega) (by simp; omega) ?_; intro v5 w5 hown5 hgrow5 _; obtain ⟨g5, cp5, hv5⟩ := own_form8S hown5 (Nat.succ_ne_zero k); subst hv5; have O5 := Lib.hid hown5; have B5 : Hid (Below w.heap.size w w5) := (hB.out.alloc z3 _).grown hgrow5 (by simp; omega) (fun q hq => (hO.out.lt q hq).1); clear hown5 hgrow5)))
        go_roundw
        case rel => exact ⟨k + 1, P ++ [l], _, _, rfl, by go_num, by omega, by have := O5.out; rw [strVals_snoc] at this; exact this, by have := HNX.out; rw [HBk.out] at this; exact this, B5.out⟩
        case measure => simp [intOf]; omega
      · have HBk : Hid (altB l h k = h) := by show _ = _; unfold altB; rw [if_neg hpar]
        have hpb : ((k : Int) % 2 == (0 : Int)) = false := by simpa using hpar
        go_wp2_with (at_builtin; go_must ((refine wpList_append_own _ rfl _ _ 22 rfl w.heap.size 9 i0 (.string ⟨#[]⟩) 1 16 Tryd.underlying22 hi hz0 hz1 hz2 rfl (by decide) (.slice ao k cp) k (strVals P) rfl (hO.out.alloc _) ⟨wr.heap.size, 0, none⟩ 1 1 [.string h] rfl rfl ((litS w.heap.size wr h z3).cells rfl) (by simp [Value.oneCell']) c3.out (by omega) (by simp; omega) ?_; intro v5 w5 hown5 hgrow5 _; obtain ⟨g5, cp5, hv5⟩ := own_form8S hown5 (Nat.succ_ne_zero k); subst hv5; have O5 := Lib.hid hown5; have B5 : Hid (Below w.heap.size w w5) := (hB.out.alloc z3 _).grown hgrow5 (by simp; omega) (fun q hq => (hO.out.lt q hq).1); clear hown5 hgrow5)))
        go_roundw
        case rel => exact ⟨k + 1, P ++ [h], _, _, rfl, by go_num, by omega, by have := O5.out; rw [strVals_snoc] at this; exact this, by have := HNX.out; rw [HBk.out] at this; exact this, B5.out⟩
        case measure => simp [intOf]; omega
    · have hge : ¬ (k : Int) < (m : Int) := by omega
      have hkn : k = m := by omega
      subst hkn
      have hpl : P.length = k := by rw [hP.out, woTo_length]
      obtain ⟨a2, cap2, hv, hr⟩ := str_res (P := P) (by rw [hpl]; exact hO.out)
      rw [hpl] at hv
      cases hv
      have HR : Hid (StrRes w.heap.size P ao wr) := hr.mono (Nat.le_refl _)
      have HPL : Hid ((woTo l h k).length = k) := woTo_length _ _ _
      clear hpl hr
      go_wp2_with fail
      go_ret2
      exact ⟨ao, cp, by rw [HG.out.1, HG.out.2, HPL.out]; rfl, by rw [HG.out.2, ← hP.out]; exact HR.out, hB.out⟩
end Go.Proofs.YtllcpgogfhjfpaaDoor
