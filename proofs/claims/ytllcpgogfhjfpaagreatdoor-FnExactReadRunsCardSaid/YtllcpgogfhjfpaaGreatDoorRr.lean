/-
  ReadRuns: what its answer is, plainly.
-/
import Derived.Test.YtllcpgogfhjfpaaGreatDoorRl
import Derived.Test.YtllcpgogfhjfpaaGreatDoorSpl2
import Derived.Test.YtllcpgogfhjfpaaGreatDoorRn
namespace Go.Proofs.YtllcpgogfhjfpaaGreatDoor
open Go.ChangeShapes Go.WideShapes Go.ChangeAt Go.RowKit Go.Joins

/-- The words up to the k-th are read as these. -/
def HrTo (W : List ByteArray) (k : Nat) (ls : List (Int × UInt8)) : Prop := (W.take k).map (fun x => wordR x.data.toList) = ls.map some
theorem HrTo.zero (W : List ByteArray) : HrTo W 0 [] := by simp [HrTo]
theorem HrTo.succ {W : List ByteArray} {k : Nat} {ls : List (Int × UInt8)} {x : ByteArray} {p : Int × UInt8} (h : HrTo W k ls) (hx : W[k]? = some x) (hp : wordR x.data.toList = some p) : HrTo W (k + 1) (ls ++ [p]) := by
  unfold HrTo at h ⊢
  rw [List.take_add_one, hx, List.map_append, h, List.map_append]
  simp [hp]
theorem HrTo.len {W : List ByteArray} {k : Nat} {ls : List (Int × UInt8)} (h : HrTo W k ls) (hk : k ≤ W.length) : ls.length = k := by
  have := congrArg List.length h
  simp only [List.length_map, List.length_take] at this
  omega
theorem some_eq {α : Type} {a b : List α} (h : a.map some = b.map some) : a = b := by
  have := congrArg (List.filterMap id) h
  simpa using this
theorem HrTo.pre {W : List ByteArray} {k : Nat} {ls l0 : List (Int × UInt8)} (h : HrTo W W.length ls) (h0 : HrTo W k l0) : ∃ r, ls = l0 ++ r := by
  unfold HrTo at h h0
  rw [List.take_length] at h
  have e : W.map (fun x => wordR x.data.toList) = (W.take k).map (fun x => wordR x.data.toList) ++ (W.drop k).map (fun x => wordR x.data.toList) := by rw [← List.map_append, List.take_append_drop]
  rw [h, h0] at e
  have e2 := congrArg (List.filterMap id) e
  exact ⟨((W.drop k).map (fun x => wordR x.data.toList)).filterMap id, by simpa using e2⟩
theorem HrTo.word {W : List ByteArray} {ls : List (Int × UInt8)} {k : Nat} {x : ByteArray} (h : HrTo W W.length ls) (hx : W[k]? = some x) : ∃ p, p ∈ ls ∧ wordR x.data.toList = some p := by
  unfold HrTo at h
  rw [List.take_length] at h
  have h3 : wordR x.data.toList ∈ ls.map some := by rw [← h]; exact List.mem_map.2 ⟨x, List.mem_of_getElem? hx, rfl⟩
  obtain ⟨p, hp, he⟩ := List.mem_map.1 h3
  exact ⟨p, hp, he.symm⟩
/-- The pieces of the runs that are read. -/
def rrL (ls : List (Int × UInt8)) : List UInt8 := ls.flatMap fun p => List.replicate p.1.toNat p.2
theorem rrL_nil : rrL [] = [] := rfl
theorem rrL_app (a b : List (Int × UInt8)) : rrL (a ++ b) = rrL a ++ rrL b := by simp [rrL]
theorem rrL_snoc (a : List (Int × UInt8)) (n : Int) (c : UInt8) : rrL (a ++ [(n, c)]) = rrL a ++ List.replicate n.toNat c := by simp [rrL]
theorem rrL_mem {ls : List (Int × UInt8)} {p : Int × UInt8} (h : p ∈ ls) (h1 : 1 ≤ p.1) : p.2 ∈ rrL ls :=
  List.mem_flatMap.2 ⟨p, h, List.mem_replicate.2 ⟨by omega, rfl⟩⟩
/-- s is the short text of these runs. -/
structure RrIs (s : ByteArray) (ls : List (Int × UInt8)) : Prop where
  read : HrTo (partsOf s 32) (partsOf s 32).length ls
  near : ∀ p ∈ ls, 1 ≤ p.1 ∧ p.1 ≤ 60
  few : (rrL ls).length ≤ 60
  ok : okCr ⟨(rrL ls).toArray⟩ = true
  short : shortT ⟨(rrL ls).toArray⟩ = s
theorem RrIs.one {s : ByteArray} {a b : List (Int × UInt8)} (h : RrIs s a) (h' : RrIs s b) : a = b := some_eq (h.read.symm.trans h'.read)
theorem RrIs.word {s : ByteArray} {ls : List (Int × UInt8)} {k : Nat} {x : ByteArray} (h : RrIs s ls) (hx : (partsOf s 32)[k]? = some x) : ∃ n c, wordR x.data.toList = some (n, c) ∧ 1 ≤ n ∧ n ≤ 60 ∧ qtr c ≠ 0 := by
  obtain ⟨⟨n, c⟩, hp, hw⟩ := h.read.word hx
  obtain ⟨h1, h2⟩ := h.near _ hp
  have h3 := (okCr_facts h.ok).2.2.1
  have h4 := List.all_eq_true.1 h3 c (rrL_mem (p := (n, c)) hp h1)
  exact ⟨n, c, hw, h1, h2, by simpa using h4⟩
theorem RrIs.part {s : ByteArray} {ls l0 : List (Int × UInt8)} {k : Nat} (h : RrIs s ls) (h0 : HrTo (partsOf s 32) k l0) : (rrL l0).length ≤ 60 := by
  obtain ⟨r, rfl⟩ := h.read.pre h0
  have := h.few
  rw [rrL_app, List.length_append] at this
  omega
/-- What is told of the answer. -/
structure RrVal (s : ByteArray) (C : ByteArray) (b : Bool) : Prop where
  no : (∀ ls, ¬ RrIs s ls) → C = ⟨#[]⟩ ∧ b = false
  yes : ∀ ls, RrIs s ls → C = ⟨(rrL ls).toArray⟩ ∧ b = true
theorem rrVal (s : ByteArray) : ∃ C b, RrVal s C b := by
  by_cases h : ∃ ls, RrIs s ls
  · obtain ⟨ls, h1⟩ := h
    exact ⟨_, true, ⟨fun h2 => absurd h1 (h2 ls), fun l' h' => by obtain rfl := h1.one h'; exact ⟨rfl, rfl⟩⟩⟩
  · exact ⟨⟨#[]⟩, false, ⟨fun _ => ⟨rfl, rfl⟩, fun ls h' => absurd ⟨ls, h'⟩ h⟩⟩
/-- A text is handed back, and whether. -/
def RrAns (w : World) (C : ByteArray) (b : Bool) (e : Ending) (w' : World) : Prop := e = .returned (.tuple #[.string C, .bool b]) ∧ Below w.heap.size w w'
theorem dropLast_extract (x : ByteArray) (n : Nat) (hn : n + 1 = x.size) : (x.extract 0 n).data.toList = x.data.toList.dropLast := by
  have h : x.data.toList.length = x.size := by simp
  rw [List.dropLast_eq_take, h]
  simp only [ByteArray.data_extract, Array.toList_extract, List.extract_eq_take_drop]
  simp
  omega
theorem wordR_at (x : ByteArray) (n : Nat) (hn : n < x.size) (h1 : n + 1 = x.size) : wordR x.data.toList = (numR x.data.toList.dropLast).map fun m => (m, x[n]'hn) := by
  have h : x.data.toList.length = x.size := by simp
  have hl : x.data.toList.getLast? = some (x[n]'hn) := by
    rw [List.getLast?_eq_getElem?, h, show x.size - 1 = n by omega, List.getElem?_eq_getElem (by omega)]
    rfl
  unfold wordR
  rw [hl]
theorem wordR_len {l : List UInt8} {p : Int × UInt8} (h : wordR l = some p) : 2 ≤ l.length := by
  unfold wordR at h
  cases hl : l.getLast? with
  | none => rw [hl] at h; cases h
  | some c =>
    rw [hl] at h
    obtain ⟨n, hn, _⟩ := Option.map_eq_some_iff.1 h
    obtain ⟨z, hz, _⟩ := numR_last hn
    obtain ⟨e, he⟩ := List.getLast?_eq_some_iff.1 hz
    have := congrArg List.length he
    rw [List.length_dropLast, List.length_append, List.length_singleton] at this
    omega
theorem parts_pos (s : ByteArray) (c : UInt8) : 1 ≤ (partsOf s c).length := by rw [← splitB_count]; omega
/-- The letters of pieces. -/
theorem qtr_letter {c : UInt8} (h : qtr c ≠ 0) : c ∈ ([83, 72, 84, 66, 67] : List UInt8) := by
  unfold qtr at h
  by_cases h1 : c = 83 <;> by_cases h2 : c = 72 <;> by_cases h3 : c = 84 <;> by_cases h4 : c = 66 <;> by_cases h5 : c = 67 <;> simp_all
theorem noDigP : NoDig [83, 72, 84, 66, 67] := by
  intro c hc
  simp at hc
  rcases hc with rfl | rfl | rfl | rfl | rfl <;> decide
end Go.Proofs.YtllcpgogfhjfpaaGreatDoor
