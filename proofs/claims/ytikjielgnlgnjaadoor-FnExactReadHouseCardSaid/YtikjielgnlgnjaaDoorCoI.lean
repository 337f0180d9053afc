/-
  Bonds as told: the model's word.
-/
import Derived.Test.YtikjielgnlgnjaaDoorCo
import Derived.Deep.RegionWith
import Derived.Test.YtikjielgnlgnjaaDoorShelfT
import Derived.Shelf.Strings.SlTrimAscii
namespace Go.Proofs.YtikjielgnlgnjaaDoor
open Go.ChangeShapes Go.WideShapes Go.ChangeAt Go.RowKit Go.Joins


def plainFrom (s : ByteArray) (k : Nat) : Bool := (s.data.toList.drop k).all fun x => decide (x = 83) || decide (x = 72)
def piecesFrom (s : ByteArray) (k : Nat) : Bool := (s.data.toList.drop k).all fun x => decide (qtr x ≠ 0)
theorem dropAll_end (f : UInt8 → Bool) (s : ByteArray) (k : Nat) (h : s.size ≤ k) : (s.data.toList.drop k).all f = true := by
  have : s.data.toList.drop k = [] := List.drop_eq_nil_iff.2 (by simpa using h)
  simp [this]
theorem dropAll_step (f : UInt8 → Bool) (s : ByteArray) (k : Nat) (h : k < s.size) : (s.data.toList.drop k).all f = (f (s[k]'h) && (s.data.toList.drop (k + 1)).all f) := by
  have h' : k < s.data.toList.length := by simpa using h
  have e : s.data.toList.drop k = (s[k]'h) :: s.data.toList.drop (k + 1) := by
    rw [List.drop_eq_getElem_cons h']; rfl
  simp [e]
theorem u8_eq (x : UInt8) (n : Nat) (hn : n < 256) : x = UInt8.ofNat n ↔ (x.toNat : Int) = (n : Int) := by
  constructor
  · intro h; rw [h, UInt8.toNat_ofNat']; omega
  · intro h
    have : x.toNat = n := by omega
    rw [← this]
    simp
def qtrI (k : Int) : Int := if k = 83 then 4 else if k = 84 then 3 else if k = 72 then 2 else if k = 66 then 2 else if k = 67 then 1 else 0
theorem qtr_eq (x : UInt8) : (qtr x : Int) = qtrI (x.toNat : Int) := by
  have e83 : x = 83 ↔ (x.toNat : Int) = 83 := u8_eq x 83 (by omega)
  have e84 : x = 84 ↔ (x.toNat : Int) = 84 := u8_eq x 84 (by omega)
  have e72 : x = 72 ↔ (x.toNat : Int) = 72 := u8_eq x 72 (by omega)
  have e66 : x = 66 ↔ (x.toNat : Int) = 66 := u8_eq x 66 (by omega)
  have e67 : x = 67 ↔ (x.toNat : Int) = 67 := u8_eq x 67 (by omega)
  unfold qtr qtrI
  generalize (x.toNat : Int) = y at *
  by_cases h1 : y = 83
  · rw [if_pos (e83.2 h1), if_pos h1]; rfl
  rw [if_neg (fun h => h1 (e83.1 h)), if_neg h1]
  by_cases h2 : y = 84
  · rw [if_pos (e84.2 h2), if_pos h2]; rfl
  rw [if_neg (fun h => h2 (e84.1 h)), if_neg h2]
  by_cases h3 : y = 72
  · rw [if_pos (e72.2 h3), if_pos h3]; rfl
  rw [if_neg (fun h => h3 (e72.1 h)), if_neg h3]
  by_cases h4 : y = 66
  · rw [if_pos (e66.2 h4), if_pos h4]; rfl
  rw [if_neg (fun h => h4 (e66.1 h)), if_neg h4]
  by_cases h5 : y = 67
  · rw [if_pos (e67.2 h5), if_pos h5]; rfl
  rw [if_neg (fun h => h5 (e67.1 h)), if_neg h5]
  rfl

theorem box2 (w : World) (nm : ByteArray) (v : Value) (t : TypeId) : (w.alloc (.cells #[.string nm, v] t)).cell? ⟨w.heap.size, 0, none⟩ = some (.string nm) ∧ (w.alloc (.cells #[.string nm, v] t)).cell? ⟨w.heap.size, 0 + 1, none⟩ = some v := by
  refine ⟨?_, ?_⟩ <;> (rw [cell_of_row _ _ _ _ t (0, 0) (heap_alloc_new w _)]; rfl)
end Go.Proofs.YtikjielgnlgnjaaDoor
/-
  Bonds as told: the program's word.
-/
namespace Go.Proofs.YtikjielgnlgnjaaDoor
open Go.ChangeShapes Go.WideShapes Go.ChangeAt Go.RowKit Go.Joins


theorem dropWhile_nil {α : Type} (p : α → Bool) : ∀ l : List α, l.dropWhile p = [] ↔ l.all p = true
  | [] => by simp
  | x :: l => by
    by_cases h : p x = true
    · rw [List.dropWhile_cons_of_pos h, dropWhile_nil p l]; simp [h]
    · rw [List.dropWhile_cons_of_neg h]; simp [h]
theorem trimS_nil (l cs : List UInt8) : Lib.trimS l cs = [] ↔ l.all (cs.contains ·) = true := by
  unfold Lib.trimS Lib.trimLeftS Lib.trimRightS
  constructor
  · intro h
    rw [dropWhile_nil] at h
    by_cases hr : l.reverse.dropWhile (cs.contains ·) = []
    · rw [dropWhile_nil] at hr
      simpa using hr
    · exfalso
      have h2 := List.head_dropWhile_not (cs.contains ·) hr
      rw [List.all_eq_true] at h
      have h3 := h _ (List.mem_reverse.2 (List.head_mem hr))
      rw [h3] at h2
      cases h2
  · intro h
    have hr : l.reverse.dropWhile (cs.contains ·) = [] := (dropWhile_nil _ _).2 (by simpa using h)
    rw [hr]
    rfl
theorem pieces_trim (s : ByteArray) : piecesB s = (Lib.trimS s.data.toList [83, 72, 84, 66, 67]).isEmpty := by
  rw [Bool.eq_iff_iff, List.isEmpty_iff, trimS_nil, piecesB, List.all_eq_true, List.all_eq_true]
  refine forall_congr' fun x => forall_congr' fun _ => ?_
  simp only [decide_eq_true_eq, qtr, List.contains_eq_mem, List.mem_cons, List.not_mem_nil, or_false]
  constructor
  · intro h
    by_cases h1 : x = 83
    · exact .inl h1
    by_cases h2 : x = 72
    · exact .inr (.inl h2)
    by_cases h3 : x = 84
    · exact .inr (.inr (.inl h3))
    by_cases h4 : x = 66
    · exact .inr (.inr (.inr (.inl h4)))
    by_cases h5 : x = 67
    · exact .inr (.inr (.inr (.inr h5)))
    simp [h1, h2, h3, h4, h5] at h
  · rintro (rfl | rfl | rfl | rfl | rfl) <;> decide
theorem plain_trim (s : ByteArray) : plainB s = (Lib.trimS s.data.toList [83, 72]).isEmpty := by
  rw [Bool.eq_iff_iff, List.isEmpty_iff, trimS_nil, plainB, List.all_eq_true, List.all_eq_true]
  refine forall_congr' fun x => forall_congr' fun _ => ?_
  simp

theorem inf116 : (Tryd.prog.info? 135).map (fun i => (i.zero, i.size)) = some (some (.agg (Array.replicate 256 (.bool false))), 256) := by kernel_rfl
set_option maxRecDepth 1000000 in
theorem consists_impl (s cs : ByteArray) (hs : s.size ≤ 1048576) (hcs : cs.size ≤ 10) (ha : cs.data.toList.all (fun b => decide (b.toNat < 128)) = true) (w : World) :
    Calls Tryd.prog 84 #[.string s, .string cs] w fun e w' => e = .returned (.bool (Lib.trimS s.data.toList cs.data.toList).isEmpty) ∧ Below w.heap.size w w' := by
  have C := Lib.hid (fun wx => Any.strings_Trim_laid Tryd.lays160 inf116 s cs wx (by omega) (by omega) (ascii_of_all ha))
  obtain ⟨T, hT⟩ : ∃ T, Lib.trimS s.data.toList cs.data.toList = T := ⟨_, rfl⟩
  rw [hT] at C ⊢
  clear hT
  go_enter Tryd.func84, Tryd.ntmps84
  go_wp2_with fail
  refine (C.out _).mono ?_
  rintro e w1 ⟨rfl, hb⟩
  have B := Lib.hid hb
  clear hb
  cases T
  · go_wp2
    go_ret
    exact ⟨rfl, B.out⟩
  · go_wp2
    go_ret
    exact ⟨ret_bool (by simp), B.out⟩

theorem empty_size (s : ByteArray) : s.toList.isEmpty = decide (s.size = 0) := by
  by_cases h : 1 ≤ s.size
  · rw [toList_ne s h]
    have : ¬ s.size = 0 := by omega
    simp [this]
  · rw [empty_of s h]
    rw [List.isEmpty_iff.2 ((toList_nil_iff_emptyBytes _).2 rfl)]
    rfl
theorem wa_impl (n low high : Int) (w : World) : Calls Tryd.prog 82 #[.int .i64 n, .int .i64 low, .int .i64 high] w fun e w' => e = .returned (.bool (inB n low high)) ∧ w = w' := by
  by_cases h1 : low ≤ n <;> by_cases h2 : n ≤ high
  all_goals
    go_enter Tryd.func82, Tryd.ntmps82
    go_wp2
    go_ret
    exact ⟨ret_bool (by simp [inB, h1, h2]), rfl⟩
end Go.Proofs.YtikjielgnlgnjaaDoor
