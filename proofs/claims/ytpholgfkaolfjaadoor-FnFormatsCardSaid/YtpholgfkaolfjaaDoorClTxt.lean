/-
  The text of a clay: the model's.
-/
import Derived.Test.YtpholgfkaolfjaaDoorKeep5
import Derived.Test.YtpholgfkaolfjaaDoorDec2
import Derived.Test.YtpholgfkaolfjaaDoorClayM
import Derived.Lib.ItoaLen
import Derived.Laws.Concat
namespace Go.Proofs.YtpholgfkaolfjaaDoor
open Go.ChangeShapes Go.WideShapes Go.ChangeAt Go.RowKit Go.Joins


theorem ret_strC {a b : ByteArray} (h : a = b) : Ending.returned (.string a) = .returned (.string b) := by rw [h]
def itoaB (n : Int) : ByteArray := ⟨(Lib.itoa n).toArray⟩
theorem itoaB_size (n : Int) (h0 : -9223372036854775808 ≤ n) (h1 : n ≤ 9223372036854775807) : (itoaB n).size ≤ 21 := by
  have := Lib.itoa_length_le n h0 h1
  show (Lib.itoa n).toArray.size ≤ 21
  simpa using this
/-- The text of a clay. -/
def clT (c : Cl) : ByteArray := c.name ++ ⟨#[32, 115, 104, 114, 105, 110, 107, 32]⟩ ++ itoaB c.sh ++ ⟨#[32, 108, 105, 109, 101, 32]⟩ ++ itoaB c.li ++ ⟨#[32, 115, 97, 110, 100, 32]⟩ ++ itoaB c.sa ++ ⟨#[32, 112, 114, 105, 99, 101, 32]⟩ ++ itoaB c.pr
def clS (c : Cl) : ByteArray := if c.ok = true then clT c else ⟨#[]⟩
theorem Cl.ok_i64 {c : Cl} (h : c.ok = true) : (-9223372036854775808 ≤ c.sh ∧ c.sh ≤ 9223372036854775807) ∧ (-9223372036854775808 ≤ c.li ∧ c.li ≤ 9223372036854775807) ∧ (-9223372036854775808 ≤ c.sa ∧ c.sa ≤ 9223372036854775807) ∧ (-9223372036854775808 ≤ c.pr ∧ c.pr ≤ 9223372036854775807) ∧ c.name.size ≤ 12 := by
  have h1 := Cl.ok_facts h
  have h2 := nameB_size h1.1
  omega
end Go.Proofs.YtpholgfkaolfjaaDoor
