/-
  The program's words of a text.
-/
import Derived.Test.YtpmklnldgafkjabDoorSplitV
import Derived.Test.YtpmklnldgafkjabDoorShelfF
namespace Go.Proofs.YtpmklnldgafkjabDoor
open Go.ChangeShapes Go.WideShapes Go.ChangeAt Go.RowKit Go.Joins

theorem blank_impl (x : Nat) (w : World) : Calls Tryd.prog 61 #[.int .i32 x] w fun e w' => e = .returned (.bool (blankR x)) ∧ w = w' := by
  by_cases h : x = 32
  · subst h
    go_enter Tryd.func61, Tryd.ntmps61
    go_wp2
    go_ret
    exact ⟨rfl, rfl⟩
  · have h' : ¬ (x : Int) = 32 := by omega
    go_enter Tryd.func61, Tryd.ntmps61
    go_wp2
    go_ret
    exact ⟨ret_bool (by simp [blankR, h, h']), rfl⟩
theorem words_impl (s : ByteArray) (hs : s.size ≤ 1048576) (w : World) : Calls Tryd.prog 35 #[.string s] w fun e w' => ∃ g cap, e = .returned (.slice (some ⟨g, 0, none⟩) (wordsOf s).length cap) ∧ PartsAt w (wordsOf s) g cap w' := by
  have C := Lib.hid (Tryd.strings_FieldsFunc_grows 61 #[] (enters_of Tryd.func61 rfl rfl) blankR s w (by omega) (fun W x _ _ => (blank_impl x W).mono fun _ _ ⟨he, hw⟩ => ⟨he, hw ▸ Below.refl _ _⟩))
  rw [goFields_words] at C
  clear hs
  go_enter Tryd.func35, Tryd.ntmps35
  go_wp2_with fail
  refine C.out.mono ?_
  rintro e w1 ⟨g, rfl, hg, hown, hb⟩
  go_wp2
  go_ret
  refine ⟨g, _, rfl, hown, hb, ?_⟩
  have := hb.size
  rcases hown.2 with ⟨h, _⟩ | ⟨a, c, cur, e1, e2, e3, _⟩
  · simp at h
  · have : a < w1.heap.size := (Array.getElem?_eq_some_iff.1 e3).1
    omega
end Go.Proofs.YtpmklnldgafkjabDoor
