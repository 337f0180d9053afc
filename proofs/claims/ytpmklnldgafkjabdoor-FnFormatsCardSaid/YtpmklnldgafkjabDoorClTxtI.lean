/-
  The text of a clay: ClayText of the model and of the program.
-/
import Derived.Test.YtpmklnldgafkjabDoorClTxt
import Derived.Test.YtpmklnldgafkjabDoorClayI
import Derived.Test.YtpmklnldgafkjabDoorDecI
namespace Go.Proofs.YtpmklnldgafkjabDoor
open Go.ChangeShapes Go.WideShapes Go.ChangeAt Go.RowKit Go.Joins

set_option maxRecDepth 100000 in
set_option maxHeartbeats 1600000 in
theorem clayText_spec (c : Cl) (w : World) : Calls Tryd.prog 9 #[.agg #[.string c.name, .int .i64 c.sh, .int .i64 c.li, .int .i64 c.sa, .int .i64 c.pr]] w fun e w' => e = .returned (.string (clS c)) ∧ Below w.heap.size w w' := by
  have R := clay_new w c 26
  have HB1 : Hid (Below w.heap.size w (w.alloc (.cells #[.string c.name, .int .i64 c.sh, .int .i64 c.li, .int .i64 c.sa, .int .i64 c.pr] 26))) := balloc0 _ _
  obtain ⟨W1, hW⟩ : ∃ W1, w.alloc (.cells #[.string c.name, .int .i64 c.sh, .int .i64 c.li, .int .i64 c.sa, .int .i64 c.pr] 26) = W1 := ⟨_, rfl⟩
  rw [hW] at R HB1
  have HR := Lib.hid R
  have HW := Lib.hid hW
  have C := Lib.hid (one_spec c w.heap.size 0 W1 R.1 R.2.1 R.2.2.1 R.2.2.2.1 R.2.2.2.2)
  clear hW R
  cases h : c.ok
  · have HS : Hid (clS c = ⟨#[]⟩) := by show clS c = _; simp [clS, h]
    rw [h] at C
    clear h
    go_enter Tryd.func9, Tryd.ntmps9
    go_wp2_with fail
    rw [HW.out]
    refine C.out.mono ?_
    rintro e w1 ⟨rfl, rfl⟩
    go_wp2
    go_ret
    exact ⟨ret_strC HS.out.symm, HB1.out⟩
  · have HS : Hid (clS c = clT c) := by show clS c = _; simp [clS, h]
    have D := Lib.hid (cltext_spec c h w.heap.size W1 HR.out.1 HR.out.2.1 HR.out.2.2.1 HR.out.2.2.2.1 HR.out.2.2.2.2)
    obtain ⟨T, hT⟩ : ∃ T, clT c = T := ⟨_, rfl⟩
    rw [hT] at D HS
    rw [h] at C
    clear h hT
    go_enter Tryd.func9, Tryd.ntmps9
    go_wp2_with fail
    rw [HW.out]
    refine C.out.mono ?_
    rintro e w1 ⟨rfl, rfl⟩
    go_wp2_with fail
    refine D.out.mono ?_
    rintro e w2 ⟨rfl, hb2⟩
    have B2 := Lib.hid (bnext HB1.out hb2)
    clear hb2
    go_wp2
    go_ret
    exact ⟨ret_strC HS.out.symm, B2.out⟩

/-- The nine words. -/
def clW (c : Cl) : List ByteArray := [c.name, ⟨#[115, 104, 114, 105, 110, 107]⟩, itoaB c.sh, ⟨#[108, 105, 109, 101]⟩, itoaB c.li, ⟨#[115, 97, 110, 100]⟩, itoaB c.sa, ⟨#[112, 114, 105, 99, 101]⟩, itoaB c.pr]
theorem clW_join (c : Cl) : (⟨(Lib.join ((clW c).map (·.data.toList)) [32]).toArray⟩ : ByteArray) = clT c := by
  apply ByteArray.ext
  apply Array.toList_inj.1
  simp [clW, clT, Lib.join, List.intercalate, ByteArray.data_append]
theorem clW_size (c : Cl) (hc : c.ok = true) : (Lib.join ((clW c).map (·.data.toList)) [32]).length ≤ 140737488355328 := by
  obtain ⟨⟨a1, a2⟩, ⟨b1, b2⟩, ⟨c1, c2⟩, ⟨e1, e2⟩, hn⟩ := Cl.ok_i64 hc
  have n1 := itoaB_size c.sh a1 a2
  have n2 := itoaB_size c.li b1 b2
  have n3 := itoaB_size c.sa c1 c2
  have n4 := itoaB_size c.pr e1 e2
  have h1 := congrArg ByteArray.size (clW_join c)
  have h2 : (ByteArray.mk (Lib.join ((clW c).map (·.data.toList)) [32]).toArray).size = (Lib.join ((clW c).map (·.data.toList)) [32]).length := by simp [ByteArray.size]
  rw [h2] at h1
  rw [h1]
  simp only [clT, ByteArray.size_append]
  have e8 : (ByteArray.mk #[32, 115, 104, 114, 105, 110, 107, 32]).size = 8 := rfl
  have e6 : (ByteArray.mk #[32, 108, 105, 109, 101, 32]).size = 6 := rfl
  have e6' : (ByteArray.mk #[32, 115, 97, 110, 100, 32]).size = 6 := rfl
  have e7 : (ByteArray.mk #[32, 112, 114, 105, 99, 101, 32]).size = 7 := rfl
  rw [e8, e6, e6', e7]
  omega
theorem clW_cells (c : Cl) (wy : World) : ∀ (j : Nat) x, (clW c)[j]? = some x → (wy.alloc (.cells #[.string c.name, .string ⟨#[115, 104, 114, 105, 110, 107]⟩, .string (itoaB c.sh), .string ⟨#[108, 105, 109, 101]⟩, .string (itoaB c.li), .string ⟨#[115, 97, 110, 100]⟩, .string (itoaB c.sa), .string ⟨#[112, 114, 105, 99, 101]⟩, .string (itoaB c.pr)] 9)).cell? ⟨wy.heap.size, 0 + j, none⟩ = some (.string x) := by
  intro j x hx
  rw [Nat.zero_add, cell_of_row _ _ _ _ _ (0, 0) (heap_alloc_new wy _)]
  unfold clW at hx
  match j, hx with
  | 0, hx => simpa using hx
  | 1, hx => simpa using hx
  | 2, hx => simpa using hx
  | 3, hx => simpa using hx
  | 4, hx => simpa using hx
  | 5, hx => simpa using hx
  | 6, hx => simpa using hx
  | 7, hx => simpa using hx
  | 8, hx => simpa using hx
  | j + 9, hx => simp at hx
theorem clJoin (c : Cl) (hc : c.ok = true) (wy : World) :
    Calls Tryd.prog 32 #[.slice (some ⟨wy.heap.size, 0, none⟩) 9 9, .string ⟨#[32]⟩] (wy.alloc (.cells #[.string c.name, .string ⟨#[115, 104, 114, 105, 110, 107]⟩, .string (itoaB c.sh), .string ⟨#[108, 105, 109, 101]⟩, .string (itoaB c.li), .string ⟨#[115, 97, 110, 100]⟩, .string (itoaB c.sa), .string ⟨#[112, 114, 105, 99, 101]⟩, .string (itoaB c.pr)] 9)) fun e w' => e = .returned (.string (clT c)) ∧ Below (wy.alloc (.cells #[.string c.name, .string ⟨#[115, 104, 114, 105, 110, 107]⟩, .string (itoaB c.sh), .string ⟨#[108, 105, 109, 101]⟩, .string (itoaB c.li), .string ⟨#[115, 97, 110, 100]⟩, .string (itoaB c.sa), .string ⟨#[112, 114, 105, 99, 101]⟩, .string (itoaB c.pr)] 9)).heap.size (wy.alloc (.cells #[.string c.name, .string ⟨#[115, 104, 114, 105, 110, 107]⟩, .string (itoaB c.sh), .string ⟨#[108, 105, 109, 101]⟩, .string (itoaB c.li), .string ⟨#[115, 97, 110, 100]⟩, .string (itoaB c.sa), .string ⟨#[112, 114, 105, 99, 101]⟩, .string (itoaB c.pr)] 9)) w' :=
  (Tryd.strings_Join wy.heap.size 0 9 (clW c) ⟨#[32]⟩ _ (clW_cells c wy) (by simp) (by show 9 ≤ _; omega) (by show 9 ≤ 9; omega) (clW_size c hc)).mono (fun e w' h => ⟨h.1.trans (ret_strC (clW_join c)), h.2⟩)
end Go.Proofs.YtpmklnldgafkjabDoor
