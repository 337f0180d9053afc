/-
  IsName by the program and by the model: both answer whether a string is a name.
-/
import Derived.Test.YtikjielgnlgnjaaDoorBase
import Derived.Laws.RangeAny
import Derived.Lib.OthersKept
import Derived.Laws.Closers25b
namespace Go.Proofs.YtikjielgnlgnjaaDoor
open Go.ChangeShapes Go.WideShapes Go.ChangeAt Go.RowKit Go.Joins


/-- A letter of a name behind the first one. -/
def okC (n : Int) : Bool := (decide (97 ≤ n) && decide (n ≤ 122)) || ((decide (48 ≤ n) && decide (n ≤ 57)) || decide (n = 45))
def smallC (n : Int) : Bool := decide (97 ≤ n) && decide (n ≤ 122)
/-- From position k on all letters are letters of a name. -/
def restB (s : ByteArray) (k : Nat) : Bool := (s.data.toList.drop k).all fun c => okC c.toNat
/-- A name. -/
def nameB (s : ByteArray) : Bool := decide (1 ≤ s.size) && (decide (s.size ≤ 12) && (smallC (s.get! 0).toNat && restB s 0))

theorem restB_end (s : ByteArray) (k : Nat) (h : s.size ≤ k) : restB s k = true := by
  have : s.data.toList.drop k = [] := List.drop_eq_nil_iff.2 (by simpa using h)
  simp [restB, this]
theorem restB_step (s : ByteArray) (k : Nat) (h : k < s.size) : restB s k = (okC (s[k]'h).toNat && restB s (k + 1)) := by
  have h' : k < s.data.toList.length := by simpa using h
  have e : s.data.toList.drop k = (s[k]'h) :: s.data.toList.drop (k + 1) := by
    rw [List.drop_eq_getElem_cons h']; rfl
  simp [restB, e]
theorem get0 (s : ByteArray) (h : 0 < s.size) : s.get! 0 = s[0]'h := by
  simp [ByteArray.get!, getElem!_pos, h]; rfl

theorem digit_spec (n : Int) (w : World) : Calls Tryd.prog 96 #[.int .u8 n] w fun e w' => e = .returned (.bool (decide (48 ≤ n) && decide (n ≤ 57))) ∧ w = w' := by
  by_cases h1 : 48 ≤ n <;> by_cases h2 : n ≤ 57
  all_goals
    go_enter Tryd.func96, Tryd.ntmps96
    go_wp2
    go_ret
    exact ⟨ret_bool (by simp [h1, h2]), rfl⟩
def digC (n : Int) : Bool := decide (48 ≤ n) && decide (n ≤ 57)
theorem okC_eq (n : Int) : okC n = (smallC n || (digC n || decide (n = 45))) := rfl
theorem okC_high (n : Int) (h : 128 ≤ n) : okC n = false := by simp [okC]; omega
theorem smallC_high (n : Int) (h : 128 ≤ n) : smallC n = false := by simp [smallC]; omega
theorem nameB_short (s : ByteArray) (h : ¬ 1 ≤ s.size) : nameB s = false := by simp [nameB, h]
theorem nameB_long (s : ByteArray) (h : ¬ s.size ≤ 12) : nameB s = false := by simp [nameB, h]
theorem nameB_first (s : ByteArray) (h : 0 < s.size) (hc : smallC (s[0]'h).toNat = false) : nameB s = false := by simp [nameB, get0 s h, hc]
theorem nameB_rest (s : ByteArray) (h : 0 < s.size) (h2 : s.size ≤ 12) (hc : smallC (s[0]'h).toNat = true) : nameB s = restB s 0 := by
  have : 1 ≤ s.size := h
  simp [nameB, get0 s h, hc, h2, this]

theorem empty_of (s : ByteArray) (h : ¬ 1 ≤ s.size) : s = .empty := by
  have hz : s.data.size = 0 := by have : s.size = s.data.size := rfl; omega
  have h2 : s.data = #[] := Array.eq_empty_of_size_eq_zero hz
  cases s; simp_all [ByteArray.empty, ByteArray.emptyWithCapacity]
theorem toList_ne (s : ByteArray) (h : 1 ≤ s.size) : s.toList.isEmpty = false := by
  rw [Bool.eq_false_iff, ne_eq, List.isEmpty_iff, toList_nil_iff_emptyBytes]
  intro he; subst he; simp at h
end Go.Proofs.YtikjielgnlgnjaaDoor
