/-
  IsName by the program and by the model: both answer whether a string is a name.
-/
import Derived.Test.YtlglijalhacmhabBase
import Derived.Laws.RangeAny
import Derived.Lib.OthersKept
import Derived.Laws.Closers25b
namespace Go.Proofs.Ytlglijalhacmhab
open Go.ChangeShapes Go.WideShapes Go.ChangeAt Go.RowKit Go.Joins

/-- A letter of a name behind the first one. -/
def okC (n : Int) : Bool := (decide (97 ≤ n) && decide (n ≤ 122)) || ((decide (48 ≤ n) && decide (n ≤ 57)) || decide (n = 45))
def smallC (n : Int) : Bool := decide (97 ≤ n) && decide (n ≤ 122)
/-- From position k on all letters are letters of a name. -/
def restB (s : ByteArray) (k : Nat) : Bool := (s.data.toList.drop k).all fun c => okC c.toNat
/-- A name. -/
def nameB (s : ByteArray) : Bool := decide (1 ≤ s.size) && (decide (s.size ≤ 12) && (smallC (s.get! 0).toNat && restB s 0))

theorem restB_end (s : ByteArray) (k : Nat) (h : s.size ≤ k) : restB s k = true := by
  have : s.data.toList.drop k = [] := List.drop_eq_nil_iff.2 (by simpa using h)
  simp [restB, this]
theorem restB_step (s : ByteArray) (k : Nat) (h : k < s.size) : restB s k = (okC (s[k]'h).toNat && restB s (k + 1)) := by
  have h' : k < s.data.toList.length := by simpa using h
  have e : s.data.toList.drop k = (s[k]'h) :: s.data.toList.drop (k + 1) := by
    rw [List.drop_eq_getElem_cons h']; rfl
  simp [restB, e]
theorem get0 (s : ByteArray) (h : 0 < s.size) : s.get! 0 = s[0]'h := by
  simp [ByteArray.get!, getElem!_pos, h]; rfl

theorem small_spec (n : Int) (w : World) : Calls Try.prog 183 #[.int .u8 n] w fun e w' => e = .returned (.bool (smallC n)) ∧ w = w' := by
  by_cases h1 : 97 ≤ n <;> by_cases h2 : n ≤ 122
  all_goals
    go_enter Try.func183, Try.ntmps183
    go_wp2
    go_ret
    exact ⟨ret_bool (by simp [smallC, h1, h2]), rfl⟩
theorem digit_spec (n : Int) (w : World) : Calls Try.prog 184 #[.int .u8 n] w fun e w' => e = .returned (.bool (decide (48 ≤ n) && decide (n ≤ 57))) ∧ w = w' := by
  by_cases h1 : 48 ≤ n <;> by_cases h2 : n ≤ 57
  all_goals
    go_enter Try.func184, Try.ntmps184
    go_wp2
    go_ret
    exact ⟨ret_bool (by simp [h1, h2]), rfl⟩
theorem small_impl (n : Int) (w : World) : Calls Try.prog 185 #[.int .i32 n] w fun e w' => e = .returned (.bool (smallC n)) ∧ w = w' := by
  by_cases h1 : 97 ≤ n <;> by_cases h2 : n ≤ 122
  all_goals
    go_enter Try.func185, Try.ntmps185
    go_wp2
    go_ret
    exact ⟨ret_bool (by simp [smallC, h1, h2]), rfl⟩
theorem digit_impl (n : Int) (w : World) : Calls Try.prog 186 #[.int .i32 n] w fun e w' => e = .returned (.bool (decide (48 ≤ n) && decide (n ≤ 57))) ∧ w = w' := by
  by_cases h1 : 48 ≤ n <;> by_cases h2 : n ≤ 57
  all_goals
    go_enter Try.func186, Try.ntmps186
    go_wp2
    go_ret
    exact ⟨ret_bool (by simp [h1, h2]), rfl⟩

def digC (n : Int) : Bool := decide (48 ≤ n) && decide (n ≤ 57)
theorem okC_eq (n : Int) : okC n = (smallC n || (digC n || decide (n = 45))) := rfl
theorem okC_high (n : Int) (h : 128 ≤ n) : okC n = false := by simp [okC]; omega
theorem smallC_high (n : Int) (h : 128 ≤ n) : smallC n = false := by simp [smallC]; omega
theorem nameB_short (s : ByteArray) (h : ¬ 1 ≤ s.size) : nameB s = false := by simp [nameB, h]
theorem nameB_long (s : ByteArray) (h : ¬ s.size ≤ 12) : nameB s = false := by simp [nameB, h]
theorem nameB_first (s : ByteArray) (h : 0 < s.size) (hc : smallC (s[0]'h).toNat = false) : nameB s = false := by simp [nameB, get0 s h, hc]
theorem nameB_rest (s : ByteArray) (h : 0 < s.size) (h2 : s.size ≤ 12) (hc : smallC (s[0]'h).toNat = true) : nameB s = restB s 0 := by
  have : 1 ≤ s.size := h
  simp [nameB, get0 s h, hc, h2, this]

theorem empty_of (s : ByteArray) (h : ¬ 1 ≤ s.size) : s = .empty := by
  have hz : s.data.size = 0 := by have : s.size = s.data.size := rfl; omega
  have h2 : s.data = #[] := Array.eq_empty_of_size_eq_zero hz
  cases s; simp_all [ByteArray.empty, ByteArray.emptyWithCapacity]
theorem toList_ne (s : ByteArray) (h : 1 ≤ s.size) : s.toList.isEmpty = false := by
  rw [Bool.eq_false_iff, ne_eq, List.isEmpty_iff, toList_nil_iff_emptyBytes]
  intro he; subst he; simp at h

set_option maxHeartbeats 1600000 in
theorem name_spec (s : ByteArray) (w : World) : Calls Try.prog 160 #[.string s] w fun e w' => e = .returned (.bool (nameB s)) ∧ w = w' := by
  by_cases h0 : 1 ≤ s.size
  case neg =>
    rw [nameB_short s h0]
    obtain rfl := empty_of s h0
    clear h0
    go_enter Try.func160, Try.ntmps160
    go_wp2
    go_ret
    exact ⟨rfl, rfl⟩
  have hne := toList_ne s h0
  have hne' : (!s.toList.isEmpty) = true := by rw [hne]; rfl
  by_cases h1 : s.size ≤ 12
  case neg =>
    rw [nameB_long s h1]
    have h1' : (12 : Int) < (s.size : Int) := by omega
    go_enter Try.func160, Try.ntmps160
    go_wp2
    go_ret
    exact ⟨rfl, rfl⟩
  have h1' : (s.size : Int) ≤ 12 := by omega
  have hp : 0 < s.size := h0
  have hp' : (0 : Int) < (s.size : Int) := by omega
  cases hc : smallC (s[0]'hp).toNat
  · rw [nameB_first s hp hc]
    go_enter Try.func160, Try.ntmps160
    go_wp2_with (go_at_call 183; refine (small_spec _ _).mono ?_; rintro e w' ⟨rfl, rfl⟩)
    go_ret
    exact ⟨rfl, rfl⟩
  · rw [nameB_rest s hp h1 hc]
    go_enter Try.func160, Try.ntmps160
    go_wp2_with (go_at_call 183; refine (small_spec _ _).mono ?_; rintro e w' ⟨rfl, rfl⟩)
    clear hc hne hne'
    go_loop [3] (fun i => ∃ k : Nat, k ≤ s.size ∧ i = .int .i64 k ∧ Hid (restB s k = restB s 0)) (fun i => s.size - (intOf i).toNat)
    case atStart => exact ⟨0, Nat.zero_le _, rfl, rfl⟩
    case round =>
      obtain ⟨k, hk, rfl, hR⟩ := hrel
      by_cases hlt : k < s.size
      · have hlt' : (k : Int) < (s.size : Int) := by omega
        have hk0 : (0 : Int) ≤ (k : Int) := by omega
        have HS : Hid (restB s k = (okC (s[k]'hlt).toNat && restB s (k + 1))) := restB_step s k hlt
        cases hc1 : smallC (s[k]'hlt).toNat
        · cases hc2 : (decide (48 ≤ ((s[k]'hlt).toNat : Int)) && decide (((s[k]'hlt).toNat : Int) ≤ 57))
          · by_cases hc3 : ((s[k]'hlt).toNat : Int) = 45
            · go_wp2_with (first | (go_at_call 183; refine (small_spec _ _).mono ?_; rintro e w' ⟨rfl, rfl⟩) | (go_at_call 184; refine (digit_spec _ _).mono ?_; rintro e w' ⟨rfl, rfl⟩))
              go_round
              case rel => exact ⟨k + 1, by omega, by go_num, by show restB s (k + 1) = restB s 0; rw [← hR.out, HS.out, okC_eq]; simp [hc3]⟩
              case measure => simp [intOf]; omega
            · go_wp2_with (first | (go_at_call 183; refine (small_spec _ _).mono ?_; rintro e w' ⟨rfl, rfl⟩) | (go_at_call 184; refine (digit_spec _ _).mono ?_; rintro e w' ⟨rfl, rfl⟩))
              go_ret
              exact ⟨ret_bool (by rw [← hR.out, HS.out, okC_eq, hc1, digC, hc2]; simp [hc3]), rfl⟩
          · go_wp2_with (first | (go_at_call 183; refine (small_spec _ _).mono ?_; rintro e w' ⟨rfl, rfl⟩) | (go_at_call 184; refine (digit_spec _ _).mono ?_; rintro e w' ⟨rfl, rfl⟩))
            go_round
            case rel => exact ⟨k + 1, by omega, by go_num, by show restB s (k + 1) = restB s 0; rw [← hR.out, HS.out, okC_eq, hc1, digC, hc2]; simp⟩
            case measure => simp [intOf]; omega
        · go_wp2_with (first | (go_at_call 183; refine (small_spec _ _).mono ?_; rintro e w' ⟨rfl, rfl⟩) | (go_at_call 184; refine (digit_spec _ _).mono ?_; rintro e w' ⟨rfl, rfl⟩))
          go_round
          case rel => exact ⟨k + 1, by omega, by go_num, by show restB s (k + 1) = restB s 0; rw [← hR.out, HS.out, okC_eq, hc1]; simp⟩
          case measure => simp [intOf]; omega
      · have hge : ¬ (k : Int) < (s.size : Int) := by omega
        go_wp2
        go_ret
        exact ⟨ret_bool (by rw [← hR.out, restB_end s k (by omega)]), rfl⟩
end Go.Proofs.Ytlglijalhacmhab
