/-
  Bonds as told: the model's word.
-/
import Derived.Test.YtikjielgnlgnjaaDoorCo
import Derived.Deep.RegionWith
namespace Go.Proofs.YtikjielgnlgnjaaDoor
open Go.ChangeShapes Go.WideShapes Go.ChangeAt Go.RowKit Go.Joins


def plainFrom (s : ByteArray) (k : Nat) : Bool := (s.data.toList.drop k).all fun x => decide (x = 83) || decide (x = 72)
def piecesFrom (s : ByteArray) (k : Nat) : Bool := (s.data.toList.drop k).all fun x => decide (qtr x ≠ 0)
theorem dropAll_end (f : UInt8 → Bool) (s : ByteArray) (k : Nat) (h : s.size ≤ k) : (s.data.toList.drop k).all f = true := by
  have : s.data.toList.drop k = [] := List.drop_eq_nil_iff.2 (by simpa using h)
  simp [this]
theorem dropAll_step (f : UInt8 → Bool) (s : ByteArray) (k : Nat) (h : k < s.size) : (s.data.toList.drop k).all f = (f (s[k]'h) && (s.data.toList.drop (k + 1)).all f) := by
  have h' : k < s.data.toList.length := by simpa using h
  have e : s.data.toList.drop k = (s[k]'h) :: s.data.toList.drop (k + 1) := by
    rw [List.drop_eq_getElem_cons h']; rfl
  simp [e]
theorem u8_eq (x : UInt8) (n : Nat) (hn : n < 256) : x = UInt8.ofNat n ↔ (x.toNat : Int) = (n : Int) := by
  constructor
  · intro h; rw [h, UInt8.toNat_ofNat']; omega
  · intro h
    have : x.toNat = n := by omega
    rw [← this]
    simp
def qtrI (k : Int) : Int := if k = 83 then 4 else if k = 84 then 3 else if k = 72 then 2 else if k = 66 then 2 else if k = 67 then 1 else 0
theorem qtr_eq (x : UInt8) : (qtr x : Int) = qtrI (x.toNat : Int) := by
  have e83 : x = 83 ↔ (x.toNat : Int) = 83 := u8_eq x 83 (by omega)
  have e84 : x = 84 ↔ (x.toNat : Int) = 84 := u8_eq x 84 (by omega)
  have e72 : x = 72 ↔ (x.toNat : Int) = 72 := u8_eq x 72 (by omega)
  have e66 : x = 66 ↔ (x.toNat : Int) = 66 := u8_eq x 66 (by omega)
  have e67 : x = 67 ↔ (x.toNat : Int) = 67 := u8_eq x 67 (by omega)
  unfold qtr qtrI
  generalize (x.toNat : Int) = y at *
  by_cases h1 : y = 83
  · rw [if_pos (e83.2 h1), if_pos h1]; rfl
  rw [if_neg (fun h => h1 (e83.1 h)), if_neg h1]
  by_cases h2 : y = 84
  · rw [if_pos (e84.2 h2), if_pos h2]; rfl
  rw [if_neg (fun h => h2 (e84.1 h)), if_neg h2]
  by_cases h3 : y = 72
  · rw [if_pos (e72.2 h3), if_pos h3]; rfl
  rw [if_neg (fun h => h3 (e72.1 h)), if_neg h3]
  by_cases h4 : y = 66
  · rw [if_pos (e66.2 h4), if_pos h4]; rfl
  rw [if_neg (fun h => h4 (e66.1 h)), if_neg h4]
  by_cases h5 : y = 67
  · rw [if_pos (e67.2 h5), if_pos h5]; rfl
  rw [if_neg (fun h => h5 (e67.1 h)), if_neg h5]
  rfl

theorem box2 (w : World) (nm : ByteArray) (v : Value) (t : TypeId) : (w.alloc (.cells #[.string nm, v] t)).cell? ⟨w.heap.size, 0, none⟩ = some (.string nm) ∧ (w.alloc (.cells #[.string nm, v] t)).cell? ⟨w.heap.size, 0 + 1, none⟩ = some v := by
  refine ⟨?_, ?_⟩ <;> (rw [cell_of_row _ _ _ _ t (0, 0) (heap_alloc_new w _)]; rfl)
end Go.Proofs.YtikjielgnlgnjaaDoor
