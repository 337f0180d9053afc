/-
  The model's reading of decimal forms.
-/
import Derived.Test.YtpholgfkaolfjaaDoorNum
import Derived.Test.YtpholgfkaolfjaaDoorDec2
import Derived.Lib.OthersKept
import Derived.Laws.Closers25b
namespace Go.Proofs.YtpholgfkaolfjaaDoor
open Go.ChangeShapes Go.WideShapes Go.ChangeAt Go.RowKit Go.Joins


theorem empty_ofN (s : ByteArray) (h : ¬ 1 ≤ s.size) : s = .empty := by
  have hz : s.data.size = 0 := by have : s.size = s.data.size := rfl; omega
  have h2 : s.data = #[] := Array.eq_empty_of_size_eq_zero hz
  cases s; simp_all [ByteArray.empty, ByteArray.emptyWithCapacity]
theorem toList_neN (s : ByteArray) (h : 1 ≤ s.size) : s.toList.isEmpty = false := by
  rw [Bool.eq_false_iff, ne_eq, List.isEmpty_iff, toList_nil_iff_emptyBytes]
  intro he; subst he; simp at h
theorem bytes_len (s : ByteArray) : s.data.toList.length = s.size := by simp
theorem drop_cons (s : ByteArray) (k : Nat) (h : k < s.size) : s.data.toList.drop k = (s[k]'h) :: s.data.toList.drop (k + 1) := by
  have h' : k < s.data.toList.length := by simpa using h
  rw [List.drop_eq_getElem_cons h']; rfl
theorem valF_step (s : ByteArray) (k acc : Nat) (h : k < s.size) : valF acc (s.data.toList.drop k) = if 48 ≤ (s[k]'h).toNat ∧ (s[k]'h).toNat ≤ 57 then valF (acc * 10 + ((s[k]'h).toNat - 48)) (s.data.toList.drop (k + 1)) else none := by
  rw [drop_cons s k h]; rfl
theorem valF_end (s : ByteArray) (k acc : Nat) (h : s.size ≤ k) : valF acc (s.data.toList.drop k) = some acc := by
  have : s.data.toList.drop k = [] := List.drop_eq_nil_iff.2 (by simpa using h)
  rw [this]; rfl

theorem pow_le18 (u k : Nat) (h : u + 1 ≤ 10 ^ k) (hk : k ≤ 18) : u + 1 ≤ 1000000000000000000 := by
  have h1 : 10 ^ k ≤ 10 ^ 18 := Nat.pow_le_pow_right (by omega) hk
  have h2 : (10 : Nat) ^ 18 = 1000000000000000000 := by decide
  omega
theorem pow_le17 (u k : Nat) (h : u + 1 ≤ 10 ^ k) (hk : k ≤ 17) : u + 1 ≤ 100000000000000000 := by
  have h1 : 10 ^ k ≤ 10 ^ 17 := Nat.pow_le_pow_right (by omega) hk
  have h2 : (10 : Nat) ^ 17 = 100000000000000000 := by decide
  omega
theorem itoa_eq (n : Int) (s : ByteArray) (h : Lib.itoa n = s.data.toList) : (⟨(Lib.itoa n).toArray⟩ : ByteArray) = s := by
  rw [h]
theorem numR_short (l : List UInt8) (h : ¬ (1 ≤ (tr l).length ∧ (tr l).length ≤ 18)) : numR l = none := by rw [numR, if_neg h]
theorem tr_plain (s : ByteArray) (hp : 0 < s.size) (h : ¬ ((s[0]'hp).toNat : Int) = 45) : tr s.data.toList = s.data.toList ∧ ∀ u, sg s.data.toList u = (u : Int) := by
  have e := drop_cons s 0 hp
  rw [List.drop_zero] at e
  have hn : ¬ (s[0]'hp) = 45 := fun e => h (by rw [e]; rfl)
  rw [e]
  refine ⟨by simp [tr, hn], fun u => by simp [sg, hn]⟩
theorem tr_sign (s : ByteArray) (hp : 0 < s.size) (h : ((s[0]'hp).toNat : Int) = 45) : tr s.data.toList = (s.extract 1 s.size).data.toList ∧ ∀ u, sg s.data.toList u = -(u : Int) := by
  have e := drop_cons s 0 hp
  rw [List.drop_zero] at e
  have hn : (s[0]'hp) = 45 := UInt8.toNat_inj.1 (by have : (45 : UInt8).toNat = 45 := rfl; omega)
  have e2 : (s.extract 1 s.size).data.toList = s.data.toList.drop 1 := by
    rw [ByteArray.data_extract, Array.toList_extract]
    simp [List.extract]
    show List.take _ _ = _
    rw [List.take_of_length_le]
    simp
  rw [e2, e, hn]
  refine ⟨by simp [tr], fun u => by simp [sg]⟩
end Go.Proofs.YtpholgfkaolfjaaDoor
