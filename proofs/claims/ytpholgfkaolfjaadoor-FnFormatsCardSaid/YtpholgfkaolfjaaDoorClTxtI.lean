/-
  The text of a clay: ClayText of the model and of the program.
-/
import Derived.Test.YtpholgfkaolfjaaDoorClTxt
import Derived.Test.YtpholgfkaolfjaaDoorClayI
import Derived.Test.YtpholgfkaolfjaaDoorDecI
import Derived.Lib.Join
namespace Go.Proofs.YtpholgfkaolfjaaDoor
open Go.ChangeShapes Go.WideShapes Go.ChangeAt Go.RowKit Go.Joins
/-- The nine words. -/
def clW (c : Cl) : List ByteArray := [c.name, ⟨#[115, 104, 114, 105, 110, 107]⟩, itoaB c.sh, ⟨#[108, 105, 109, 101]⟩, itoaB c.li, ⟨#[115, 97, 110, 100]⟩, itoaB c.sa, ⟨#[112, 114, 105, 99, 101]⟩, itoaB c.pr]
theorem clW_join (c : Cl) : (⟨(Lib.join ((clW c).map (·.data.toList)) [32]).toArray⟩ : ByteArray) = clT c := by
  apply ByteArray.ext
  apply Array.toList_inj.1
  simp [clW, clT, Lib.join, List.intercalate, ByteArray.data_append]
theorem clW_size (c : Cl) (hc : c.ok = true) : (Lib.join ((clW c).map (·.data.toList)) [32]).length ≤ 140737488355328 := by
  obtain ⟨⟨a1, a2⟩, ⟨b1, b2⟩, ⟨c1, c2⟩, ⟨e1, e2⟩, hn⟩ := Cl.ok_i64 hc
  have n1 := itoaB_size c.sh a1 a2
  have n2 := itoaB_size c.li b1 b2
  have n3 := itoaB_size c.sa c1 c2
  have n4 := itoaB_size c.pr e1 e2
  have h1 := congrArg ByteArray.size (clW_join c)
  have h2 : (ByteArray.mk (Lib.join ((clW c).map (·.data.toList)) [32]).toArray).size = (Lib.join ((clW c).map (·.data.toList)) [32]).length := by simp [ByteArray.size]
  rw [h2] at h1
  rw [h1]
  simp only [clT, ByteArray.size_append]
  have e8 : (ByteArray.mk #[32, 115, 104, 114, 105, 110, 107, 32]).size = 8 := rfl
  have e6 : (ByteArray.mk #[32, 108, 105, 109, 101, 32]).size = 6 := rfl
  have e6' : (ByteArray.mk #[32, 115, 97, 110, 100, 32]).size = 6 := rfl
  have e7 : (ByteArray.mk #[32, 112, 114, 105, 99, 101, 32]).size = 7 := rfl
  rw [e8, e6, e6', e7]
  omega
theorem clW_cells (c : Cl) (wy : World) : ∀ (j : Nat) x, (clW c)[j]? = some x → (wy.alloc (.cells #[.string c.name, .string ⟨#[115, 104, 114, 105, 110, 107]⟩, .string (itoaB c.sh), .string ⟨#[108, 105, 109, 101]⟩, .string (itoaB c.li), .string ⟨#[115, 97, 110, 100]⟩, .string (itoaB c.sa), .string ⟨#[112, 114, 105, 99, 101]⟩, .string (itoaB c.pr)] 9)).cell? ⟨wy.heap.size, 0 + j, none⟩ = some (.string x) := by
  intro j x hx
  rw [Nat.zero_add, cell_of_row _ _ _ _ _ (0, 0) (heap_alloc_new wy _)]
  unfold clW at hx
  match j, hx with
  | 0, hx => simpa using hx
  | 1, hx => simpa using hx
  | 2, hx => simpa using hx
  | 3, hx => simpa using hx
  | 4, hx => simpa using hx
  | 5, hx => simpa using hx
  | 6, hx => simpa using hx
  | 7, hx => simpa using hx
  | 8, hx => simpa using hx
  | j + 9, hx => simp at hx
end Go.Proofs.YtpholgfkaolfjaaDoor
