/-
  Perpends, cuts and mirrors of courses by the model.
-/
import Derived.Test.YtbhjdhkabhafmaaDoorWaS
import Derived.Test.YtbhjdhkabhafmaaDoorBy
namespace Go.Proofs.YtbhjdhkabhafmaaDoor
open Go.ChangeShapes Go.WideShapes Go.ChangeAt Go.RowKit Go.Joins

/-- Perpends are handed back. -/
def PpOut (w : World) (s : ByteArray) (e : Ending) (w' : World) : Prop := ∃ g cap, e = .returned (.slice (some ⟨g, 0, none⟩) (perpsC s).length cap) ∧ IntOwn w.heap.size (perpsC s) g w' ∧ Below w.heap.size w w'
set_option maxRecDepth 100000 in
set_option maxHeartbeats 3200000 in
theorem cperps_spec (s : ByteArray) (h1 : 1 ≤ s.size) (hs : s.size ≤ 250) (w : World) :
    Calls Tryd.prog 56 #[.string s] w (PpOut w s) := by
  go_enter Tryd.func56, Tryd.ntmps56
  go_wp2
  go_loopw [3, 4, 5] (fun v t i wr => ∃ (k g cap E : Nat) (ps : List Int), v = .slice (some ⟨g, 0, none⟩) ps.length cap ∧ t = .int .i64 (E : Int) ∧ i = .int .i64 k ∧ k + 1 ≤ s.size ∧ Hid (ps.length = k) ∧ Hid (ps = prpC s k) ∧ Hid (qto s k = E) ∧ Hid (NumsAt w ps g cap wr)) (fun _ _ i _ => s.size - (intOf i).toNat)
  case atStart => exact ⟨0, w.heap.size, 0, 0, [], rfl, rfl, rfl, by omega, rfl, rfl, qto_zero s, nums_start w⟩
  case round =>
    obtain ⟨k, g, cap, E, ps, rfl, rfl, rfl, hk, hpl, hP, hE, hD⟩ := hrel
    have hle : E ≤ 4 * k := by rw [← hE.out]; exact qto_le s k
    by_cases hlt : k + 1 < s.size
    · have hlt' : (k : Int) + 1 < (s.size : Int) := by omega
      have hk0 : (0 : Int) ≤ (k : Int) := by omega
      have hkl : (k : Int) < (s.size : Int) := by omega
      have hks : k < s.size := by omega
      have HS : Hid (qto s (k + 1) = E + qtr (s[k]'hks)) := by show _ = _; rw [qto_succ hks, hE.out]
      have C := Lib.hid (quarters_spec ((s[k]'hks).toNat : Int))
      rw [← qtr_eq] at C
      have hq := qtr_le (s[k]'hks)
      obtain ⟨q, hqe⟩ : ∃ q, qtr (s[k]'hks) = q := ⟨_, rfl⟩
      rw [hqe] at HS hq C
      clear hqe
      have hbase : w.heap.size ≤ wr.heap.size := by have := hD.out.2.2; omega
      have hps := hpl.out
      have c3 : Hid (ps.length + 1 ≤ maxLen) := by show ps.length + 1 ≤ maxLen; unfold maxLen; omega
      have c4 : ps.length ≤ 250 := by omega
      clear hps
      obtain ⟨i0, hi, hz0, hz1, hz2⟩ := info_parts infoInt
      go_wp2_with (first | (at_builtin; go_must ((refine wpList_append_own _ rfl _ _ 25 rfl w.heap.size 2 i0 (.int .i64 0) 1 8 Tryd.underlying25 hi hz0 hz1 hz2 rfl (by decide) (.slice (some ⟨g, 0, none⟩) ps.length cap) ps.length (intVals ps) rfl (hD.out.1.alloc _) ⟨wr.heap.size, 0, none⟩ 1 1 [.int .i64 ((E : Int) + (q : Int))] rfl rfl ((lit8 w.heap.size wr _ hbase).cells rfl) (by simp [Value.oneCell']) c3.out (by omega) (by simp; omega) ?_; intro v1 w2 hown1 hgrow1 _; obtain ⟨g', cap', hv, hD'⟩ := nums_step hD.out hown1 hgrow1; subst hv; have D2 := Lib.hid hD'; clear hD' hown1 hgrow1))) | (go_at_call 85; refine (C.out _).mono ?_; rintro e w4 ⟨rfl, rfl⟩))
      go_roundw
      case rel => exact ⟨k + 1, g', cap', E + q, ps ++ [(E : Int) + (q : Int)], by simp, by simp, by go_num, by omega, by have := hpl.out; show (ps ++ [(E : Int) + (q : Int)]).length = k + 1; simp; omega, by show ps ++ [(E : Int) + (q : Int)] = prpC s (k + 1); rw [prpC_succ, HS.out, hP.out]; simp, HS.out, D2.out⟩
      case measure => simp [intOf]; omega
    · have hge : ¬ (k : Int) + 1 < (s.size : Int) := by omega
      have hkn : k = s.size - 1 := by omega
      have HP : Hid (ps = perpsC s) := by show ps = _; rw [hP.out, hkn]; rfl
      have HO : Hid (IntOwn w.heap.size ps g wr) := hD.out.own
      go_wp2
      go_ret
      exact ⟨g, cap, by rw [← HP.out]; rfl, by rw [← HP.out]; exact HO.out, hD.out.2.1⟩

def cutI (x : Int) : Bool := decide (x = 84) || (decide (x = 66) || decide (x = 67))
theorem cut_eq (x : UInt8) : cutU x = cutI (x.toNat : Int) := by
  have e84 : x = 84 ↔ (x.toNat : Int) = 84 := u8_eq x 84 (by omega)
  have e66 : x = 66 ↔ (x.toNat : Int) = 66 := u8_eq x 66 (by omega)
  have e67 : x = 67 ↔ (x.toNat : Int) = 67 := u8_eq x 67 (by omega)
  unfold cutU cutI
  rw [decide_eq_decide.2 e84, decide_eq_decide.2 e66, decide_eq_decide.2 e67]
theorem cut_spec (k : Int) (w : World) : Calls Tryd.prog 87 #[.int .u8 k] w fun e w' => e = .returned (.bool (cutI k)) ∧ w = w' := by
  by_cases h1 : k = 84
  · subst h1
    go_enter Tryd.func87, Tryd.ntmps87
    go_wp2
    go_ret
    exact ⟨rfl, rfl⟩
  by_cases h2 : k = 66
  · subst h2
    go_enter Tryd.func87, Tryd.ntmps87
    go_wp2
    go_ret
    exact ⟨rfl, rfl⟩
  by_cases h3 : k = 67
  · subst h3
    go_enter Tryd.func87, Tryd.ntmps87
    go_wp2
    go_ret
    exact ⟨rfl, rfl⟩
  go_enter Tryd.func87, Tryd.ntmps87
  go_wp2
  go_ret
  exact ⟨ret_bool (by simp [cutI, h1, h2, h3]), rfl⟩

set_option maxHeartbeats 1600000 in
theorem ccuts_spec (s : ByteArray) (hs : s.size ≤ 1048576) (w : World) : Calls Tryd.prog 59 #[.string s] w fun e w' => e = .returned (.int .i64 (nCut s : Int)) ∧ w = w' := by
  go_enter Tryd.func59, Tryd.ntmps59
  go_wp2
  go_loop [3, 4] (fun t i => ∃ k E : Nat, k ≤ s.size ∧ t = .int .i64 (E : Int) ∧ i = .int .i64 k ∧ Hid (nCutTo s k = E)) (fun _ i => s.size - (intOf i).toNat)
  case atStart => exact ⟨0, 0, Nat.zero_le _, rfl, rfl, by simp [nCutTo, Hid]⟩
  case round =>
    obtain ⟨k, E, hk, rfl, rfl, hE⟩ := hrel
    have hle : E ≤ k := by rw [← hE.out]; exact nCutTo_le s k
    by_cases hlt : k < s.size
    · have hlt' : (k : Int) < (s.size : Int) := by omega
      have hk0 : (0 : Int) ≤ (k : Int) := by omega
      have HS := Lib.hid (nCutTo_succ hlt)
      rw [hE.out] at HS
      have C := Lib.hid (cut_spec ((s[k]'hlt).toNat : Int))
      rw [← cut_eq] at C
      cases hq : cutU (s[k]'hlt)
      · rw [hq] at C HS
        go_wp2_with (go_at_call 87; refine (C.out _).mono ?_; rintro e w' ⟨rfl, rfl⟩)
        go_round
        case rel => exact ⟨k + 1, E, by omega, rfl, by go_num, by have := HS.out; simpa [Hid] using this⟩
        case measure => simp [intOf]; omega
      · rw [hq] at C HS
        go_wp2_with (go_at_call 87; refine (C.out _).mono ?_; rintro e w' ⟨rfl, rfl⟩)
        go_round
        case rel => exact ⟨k + 1, E + 1, by omega, by go_num, by go_num, by have := HS.out; simpa [Hid] using this⟩
        case measure => simp [intOf]; omega
    · have hge : ¬ (k : Int) < (s.size : Int) := by omega
      have HS : Hid (nCut s = E) := by show _ = _; rw [← hE.out, nCutTo_all (by omega)]
      go_wp2
      go_ret
      exact ⟨by rw [HS.out]; rfl, rfl⟩

/-- Perpends, cuts, mirrors as told. -/
def pC (s : ByteArray) : List Int := if okCr s = true then perpsC s else []
def uN (s : ByteArray) : Int := if okCr s = true then (nCut s : Int) else 0
def mB (s : ByteArray) : ByteArray := if okCr s = true then mirB s else ⟨#[]⟩
set_option maxHeartbeats 1600000 in
theorem cutsIn_spec (s : ByteArray) (hs : s.size ≤ 1048576) (w : World) : Calls Tryd.prog 24 #[.string s] w fun e w' => e = .returned (.tuple #[.int .i64 (uN s), .int .i64 (cC s)]) ∧ w = w' := by
  have C := Lib.hid (cok_spec s hs)
  have Q := Lib.hid (ccuts_spec s hs)
  cases h : okCr s
  · rw [h] at C
    have E1 : uN s = 0 := by simp [uN, h]
    have E2 : cC s = 1 := by simp [cC, h]
    rw [E1, E2]
    clear E1 E2
    go_enter Tryd.func24, Tryd.ntmps24
    go_wp2_with fail
    refine (C.out _).mono ?_
    rintro e w' ⟨rfl, rfl⟩
    go_wp2
    go_ret2
    exact ⟨rfl, rfl⟩
  · rw [h] at C
    have E1 : uN s = (nCut s : Int) := by simp [uN, h]
    have E2 : cC s = 0 := by simp [cC, h]
    rw [E1, E2]
    clear E1 E2
    obtain ⟨q, hq⟩ : ∃ q : Int, (nCut s : Int) = q := ⟨_, rfl⟩
    rw [hq] at Q ⊢
    clear hq
    go_enter Tryd.func24, Tryd.ntmps24
    go_wp2_with fail
    refine (C.out _).mono ?_
    rintro e w' ⟨rfl, rfl⟩
    go_wp2_with fail
    refine (Q.out _).mono ?_
    rintro e w' ⟨rfl, rfl⟩
    go_wp2
    go_ret2
    exact ⟨rfl, rfl⟩
/-- Numbers and a code are handed back. -/
def CpAns (w : World) (s : ByteArray) (e : Ending) (w' : World) : Prop := ∃ a cap, e = .returned (.tuple #[.slice a (pC s).length cap, .int .i64 (cC s)]) ∧ IntRes w.heap.size (pC s) a w' ∧ Below w.heap.size w w'
set_option maxHeartbeats 1600000 in
theorem coursePerpends_spec (s : ByteArray) (hs : s.size ≤ 1048576) (w : World) : Calls Tryd.prog 19 #[.string s] w (CpAns w s) := by
  have C := Lib.hid (cok_spec s hs)
  cases h : okCr s
  · rw [h] at C
    have E1 : pC s = [] := by simp [pC, h]
    have E2 : cC s = 1 := by simp [cC, h]
    unfold CpAns
    rw [E1, E2]
    clear E1 E2
    go_enter Tryd.func19, Tryd.ntmps19
    go_wp2_with fail
    refine (C.out _).mono ?_
    rintro e w' ⟨rfl, rfl⟩
    go_wp2
    go_ret2
    exact ⟨none, 0, rfl, .inl rfl, Below.refl _ _⟩
  · rw [h] at C
    obtain ⟨h1, h2, _, _⟩ := okCr_facts h
    have Q := Lib.hid (cperps_spec s h1 (by omega))
    have E1 : pC s = perpsC s := by simp [pC, h]
    have E2 : cC s = 0 := by simp [cC, h]
    unfold CpAns
    rw [E1, E2]
    clear E1 E2 h h1 h2
    go_enter Tryd.func19, Tryd.ntmps19
    go_wp2_with fail
    refine (C.out _).mono ?_
    rintro e w' ⟨rfl, rfl⟩
    go_wp2_with fail
    refine (Q.out _).mono ?_
    rintro e w2 ⟨g, cap, rfl, ho, hb⟩
    have HO := Lib.hid ho
    have HB := Lib.hid hb
    clear ho hb
    go_wp2
    go_ret2
    exact ⟨some ⟨g, 0, none⟩, cap, rfl, .inr ⟨g, rfl, HO.out⟩, HB.out⟩

/-- The last k pieces, from the end. -/
def mirTo (s : ByteArray) (k : Nat) : List UInt8 := s.data.toList.reverse.take k
theorem mirTo_succ {s : ByteArray} {k : Nat} (h : k < s.size) : mirTo s (k + 1) = mirTo s k ++ [s[s.size - 1 - k]'(by omega)] := by
  have hl : s.data.toList.length = s.size := by simp
  have h' : k < s.data.toList.reverse.length := by simpa using h
  unfold mirTo
  rw [List.take_add_one, List.getElem?_eq_getElem h', List.getElem_reverse]
  simp only [Option.toList_some]
  congr 2
theorem mirTo_length {s : ByteArray} {k : Nat} (h : k ≤ s.size) : (mirTo s k).length = k := by simp [mirTo]; omega
theorem mirTo_all (s : ByteArray) : mirTo s s.size = s.data.toList.reverse := by
  unfold mirTo
  rw [List.take_of_length_le (by simp)]
set_option maxRecDepth 100000 in
set_option maxHeartbeats 3200000 in
theorem mirrorCourse_spec (s : ByteArray) (hs : s.size ≤ 1048576) (w : World) : Calls Tryd.prog 26 #[.string s] w fun e w' => e = .returned (.tuple #[.string (mB s), .int .i64 (cC s)]) ∧ Below w.heap.size w w' := by
  have C := Lib.hid (cok_spec s hs)
  cases h : okCr s
  · rw [h] at C
    have E1 : mB s = ⟨#[]⟩ := by simp [mB, h]
    have E2 : cC s = 1 := by simp [cC, h]
    rw [E1, E2]
    clear E1 E2
    go_enter Tryd.func26, Tryd.ntmps26
    go_wp2_with fail
    refine (C.out _).mono ?_
    rintro e w' ⟨rfl, rfl⟩
    go_wp2
    go_ret2
    exact ⟨rfl, Below.refl _ _⟩
  · rw [h] at C
    obtain ⟨h1, h2, _, _⟩ := okCr_facts h
    have E1 : mB s = mirB s := by simp [mB, h]
    have E2 : cC s = 0 := by simp [cC, h]
    rw [E1, E2]
    clear E1 E2 h
    go_enter Tryd.func26, Tryd.ntmps26
    go_wp2_with fail
    refine (C.out _).mono ?_
    rintro e w' ⟨rfl, rfl⟩
    go_wp2
    go_loopw [4, 5] (fun v i wr => ∃ (k g cap : Nat) (ds : List UInt8), v = .slice (some ⟨g, 0, none⟩) ds.length cap ∧ i = .int .i64 ((s.size : Int) - 1 - k) ∧ k ≤ s.size ∧ Hid (ds.length = k) ∧ Hid (ds = mirTo s k) ∧ Hid (BytesAt w ds g cap wr)) (fun _ i _ => (intOf i + 1).toNat)
    case atStart => exact ⟨0, w.heap.size, 0, [], rfl, by simp, Nat.zero_le _, rfl, by simp [mirTo, Hid], bytes_start w⟩
    case round =>
      obtain ⟨k, g, cap, ds, rfl, rfl, hk, hdl, hP, hD⟩ := hrel
      by_cases hlt : k < s.size
      · have hlt' : (0 : Int) ≤ (s.size : Int) - 1 - (k : Int) := by omega
        obtain ⟨j, hj⟩ : ∃ j : Nat, Hid (s.size - 1 - k = j) := ⟨_, rfl⟩
        have hjs : j < s.size := by have := hj.out; omega
        have ej : (s.size : Int) - 1 - (k : Int) = (j : Int) := by have := hj.out; omega
        have HS : Hid (mirTo s (k + 1) = mirTo s k ++ [s[j]'hjs]) := by
          show _ = _
          rw [mirTo_succ hlt]
          congr 2
          have := hj.out
          congr 1
        rw [ej] at hlt' ⊢
        have hjl : (j : Int) < (s.size : Int) := by omega
        have ejn : (j : Int) - 1 = (s.size : Int) - 1 - ((k + 1 : Nat) : Int) := by omega
        have EJ := Lib.hid ejn
        clear ej ejn
        have hbase : w.heap.size ≤ wr.heap.size := by have := hD.out.2.2; omega
        have hps := hdl.out
        have c3 : Hid (ds.length + 1 ≤ maxLen) := by show ds.length + 1 ≤ maxLen; unfold maxLen; omega
        have c4 : ds.length ≤ 250 := by omega
        clear hps
        obtain ⟨i0, hi, hz0, hz1, hz2⟩ := info_parts infoByteY
        go_wp2_with (at_builtin; go_must ((refine wpList_append_own _ rfl _ _ 69 rfl w.heap.size 5 i0 (.int .u8 0) 1 1 Tryd.underlying69 hi hz0 hz1 hz2 rfl (by decide) (.slice (some ⟨g, 0, none⟩) ds.length cap) ds.length (byteVals ds) rfl (hD.out.1.alloc _) ⟨wr.heap.size, 0, none⟩ 1 1 [.int .u8 ((s[j]'hjs).toNat : Int)] rfl rfl ((lit8B w.heap.size wr _ hbase).cells rfl) (by simp [Value.oneCell']) c3.out (by omega) (by simp; omega) ?_; intro v1 w2 hown1 hgrow1 _; obtain ⟨g', cap', hv, hD'⟩ := bytes_step hD.out hown1 hgrow1; subst hv; have D2 := Lib.hid hD'; clear hD' hown1 hgrow1)))
        go_roundw
        case rel => exact ⟨k + 1, g', cap', ds ++ [s[j]'hjs], by simp, by rw [← EJ.out], by omega, by have := hdl.out; show (ds ++ [s[j]'hjs]).length = k + 1; simp; omega, by show ds ++ [s[j]'hjs] = mirTo s (k + 1); rw [HS.out, hP.out], D2.out⟩
        case measure => simp [intOf] <;> omega
      · have hge : ¬ (0 : Int) ≤ (s.size : Int) - 1 - (k : Int) := by omega
        have hkn : k = s.size := by omega
        have HP : Hid (mirB s = ⟨ds.toArray⟩) := by show mirB s = _; rw [hP.out, hkn, mirTo_all]; rfl
        have HB := Lib.hid hD.out.2.1
        have hcv := bytes_string hD.out
        go_wp2
        go_ret2
        exact ⟨by rw [HP.out]; rfl, HB.out⟩
end Go.Proofs.YtbhjdhkabhafmaaDoor
