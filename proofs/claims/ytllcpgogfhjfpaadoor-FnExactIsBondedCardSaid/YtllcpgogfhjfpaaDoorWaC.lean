/-
  Perpends, cuts and mirrors of courses by the model.
-/
import Derived.Test.YtllcpgogfhjfpaaDoorWaS
import Derived.Test.YtllcpgogfhjfpaaDoorBy
namespace Go.Proofs.YtllcpgogfhjfpaaDoor
open Go.ChangeShapes Go.WideShapes Go.ChangeAt Go.RowKit Go.Joins


/-- Perpends are handed back. -/
def PpOut (w : World) (s : ByteArray) (e : Ending) (w' : World) : Prop := ∃ g cap, e = .returned (.slice (some ⟨g, 0, none⟩) (perpsC s).length cap) ∧ IntOwn w.heap.size (perpsC s) g w' ∧ Below w.heap.size w w'
set_option maxRecDepth 100000 in
set_option maxHeartbeats 3200000 in
theorem cperps_spec (s : ByteArray) (h1 : 1 ≤ s.size) (hs : s.size ≤ 250) (w : World) :
    Calls Tryd.prog 70 #[.string s] w (PpOut w s) := by
  go_enter Tryd.func70, Tryd.ntmps70
  go_wp2
  go_loopw [3, 4, 5] (fun v t i wr => ∃ (k g cap E : Nat) (ps : List Int), v = .slice (some ⟨g, 0, none⟩) ps.length cap ∧ t = .int .i64 (E : Int) ∧ i = .int .i64 k ∧ k + 1 ≤ s.size ∧ Hid (ps.length = k) ∧ Hid (ps = prpC s k) ∧ Hid (qto s k = E) ∧ Hid (NumsAt w ps g cap wr)) (fun _ _ i _ => s.size - (intOf i).toNat)
  case atStart => exact ⟨0, w.heap.size, 0, 0, [], rfl, rfl, rfl, by omega, rfl, rfl, qto_zero s, nums_start w⟩
  case round =>
    obtain ⟨k, g, cap, E, ps, rfl, rfl, rfl, hk, hpl, hP, hE, hD⟩ := hrel
    have hle : E ≤ 4 * k := by rw [← hE.out]; exact qto_le s k
    by_cases hlt : k + 1 < s.size
    · have hlt' : (k : Int) + 1 < (s.size : Int) := by omega
      have hk0 : (0 : Int) ≤ (k : Int) := by omega
      have hkl : (k : Int) < (s.size : Int) := by omega
      have hks : k < s.size := by omega
      have HS : Hid (qto s (k + 1) = E + qtr (s[k]'hks)) := by show _ = _; rw [qto_succ hks, hE.out]
      have C := Lib.hid (quarters_spec ((s[k]'hks).toNat : Int))
      rw [← qtr_eq] at C
      have hq := qtr_le (s[k]'hks)
      obtain ⟨q, hqe⟩ : ∃ q, qtr (s[k]'hks) = q := ⟨_, rfl⟩
      rw [hqe] at HS hq C
      clear hqe
      have hbase : w.heap.size ≤ wr.heap.size := by have := hD.out.2.2; omega
      have hps := hpl.out
      have c3 : Hid (ps.length + 1 ≤ maxLen) := by show ps.length + 1 ≤ maxLen; unfold maxLen; omega
      have c4 : ps.length ≤ 250 := by omega
      clear hps
      obtain ⟨i0, hi, hz0, hz1, hz2⟩ := info_parts infoInt
      go_wp2_with (first | (at_builtin; go_must ((refine wpList_append_own _ rfl _ _ 31 rfl w.heap.size 2 i0 (.int .i64 0) 1 8 Tryd.underlying31 hi hz0 hz1 hz2 rfl (by decide) (.slice (some ⟨g, 0, none⟩) ps.length cap) ps.length (intVals ps) rfl (hD.out.1.alloc _) ⟨wr.heap.size, 0, none⟩ 1 1 [.int .i64 ((E : Int) + (q : Int))] rfl rfl ((lit8 w.heap.size wr _ hbase).cells rfl) (by simp [Value.oneCell']) c3.out (by omega) (by simp; omega) ?_; intro v1 w2 hown1 hgrow1 _; obtain ⟨g', cap', hv, hD'⟩ := nums_step hD.out hown1 hgrow1; subst hv; have D2 := Lib.hid hD'; clear hD' hown1 hgrow1))) | (go_at_call 65; refine (C.out _).mono ?_; rintro e w4 ⟨rfl, rfl⟩))
      go_roundw
      case rel => exact ⟨k + 1, g', cap', E + q, ps ++ [(E : Int) + (q : Int)], by simp, by simp, by go_num, by omega, by have := hpl.out; show (ps ++ [(E : Int) + (q : Int)]).length = k + 1; simp; omega, by show ps ++ [(E : Int) + (q : Int)] = prpC s (k + 1); rw [prpC_succ, HS.out, hP.out]; simp, HS.out, D2.out⟩
      case measure => simp [intOf]; omega
    · have hge : ¬ (k : Int) + 1 < (s.size : Int) := by omega
      have hkn : k = s.size - 1 := by omega
      have HP : Hid (ps = perpsC s) := by show ps = _; rw [hP.out, hkn]; rfl
      have HO : Hid (IntOwn w.heap.size ps g wr) := hD.out.own
      go_wp2
      go_ret
      exact ⟨g, cap, by rw [← HP.out]; rfl, by rw [← HP.out]; exact HO.out, hD.out.2.1⟩

def cutI (x : Int) : Bool := decide (x = 84) || (decide (x = 66) || decide (x = 67))
theorem cut_eq (x : UInt8) : cutU x = cutI (x.toNat : Int) := by
  have e84 : x = 84 ↔ (x.toNat : Int) = 84 := u8_eq x 84 (by omega)
  have e66 : x = 66 ↔ (x.toNat : Int) = 66 := u8_eq x 66 (by omega)
  have e67 : x = 67 ↔ (x.toNat : Int) = 67 := u8_eq x 67 (by omega)
  unfold cutU cutI
  rw [decide_eq_decide.2 e84, decide_eq_decide.2 e66, decide_eq_decide.2 e67]
theorem cut_spec (k : Int) (w : World) : Calls Tryd.prog 64 #[.int .u8 k] w fun e w' => e = .returned (.bool (cutI k)) ∧ w = w' := by
  by_cases h1 : k = 84
  · subst h1
    go_enter Tryd.func64, Tryd.ntmps64
    go_wp2
    go_ret
    exact ⟨rfl, rfl⟩
  by_cases h2 : k = 66
  · subst h2
    go_enter Tryd.func64, Tryd.ntmps64
    go_wp2
    go_ret
    exact ⟨rfl, rfl⟩
  by_cases h3 : k = 67
  · subst h3
    go_enter Tryd.func64, Tryd.ntmps64
    go_wp2
    go_ret
    exact ⟨rfl, rfl⟩
  go_enter Tryd.func64, Tryd.ntmps64
  go_wp2
  go_ret
  exact ⟨ret_bool (by simp [cutI, h1, h2, h3]), rfl⟩

/-- Perpends, cuts, mirrors as told. -/
def pC (s : ByteArray) : List Int := if okCr s = true then perpsC s else []
def uN (s : ByteArray) : Int := if okCr s = true then (nCut s : Int) else 0
def mB (s : ByteArray) : ByteArray := if okCr s = true then mirB s else ⟨#[]⟩
/-- Numbers and a code are handed back. -/
def CpAns (w : World) (s : ByteArray) (e : Ending) (w' : World) : Prop := ∃ a cap, e = .returned (.tuple #[.slice a (pC s).length cap, .int .i64 (cC s)]) ∧ IntRes w.heap.size (pC s) a w' ∧ Below w.heap.size w w'
/-- The last k pieces, from the end. -/
def mirTo (s : ByteArray) (k : Nat) : List UInt8 := s.data.toList.reverse.take k
theorem mirTo_succ {s : ByteArray} {k : Nat} (h : k < s.size) : mirTo s (k + 1) = mirTo s k ++ [s[s.size - 1 - k]'(by omega)] := by
  have hl : s.data.toList.length = s.size := by simp
  have h' : k < s.data.toList.reverse.length := by simpa using h
  unfold mirTo
  rw [List.take_add_one, List.getElem?_eq_getElem h', List.getElem_reverse]
  simp only [Option.toList_some]
  congr 2
theorem mirTo_length {s : ByteArray} {k : Nat} (h : k ≤ s.size) : (mirTo s k).length = k := by simp [mirTo]; omega
theorem mirTo_all (s : ByteArray) : mirTo s s.size = s.data.toList.reverse := by
  unfold mirTo
  rw [List.take_of_length_le (by simp)]
end Go.Proofs.YtllcpgogfhjfpaaDoor
