/-
  ReadHouse: what its answer is, plainly.
-/
import Derived.Test.YtikjielgnlgnjaaDoorRl
import Derived.Test.YtikjielgnlgnjaaDoorSpl2
import Derived.Test.YtikjielgnlgnjaaDoorHo
import Derived.Test.YtikjielgnlgnjaaDoorHoV
import Derived.Test.YtikjielgnlgnjaaDoorInts
namespace Go.Proofs.YtikjielgnlgnjaaDoor
open Go.ChangeShapes Go.WideShapes Go.ChangeAt Go.RowKit Go.Joins

/-- The lengths and the turns of words that are read. -/
def lsP (ls : List (Int × UInt8)) : List Int := ls.map (·.1)
def lsT (ls : List (Int × UInt8)) : ByteArray := ⟨(ls.map (·.2)).toArray⟩
theorem lsP_length (ls : List (Int × UInt8)) : (lsP ls).length = ls.length := by simp [lsP]
theorem lsP_snoc (ls : List (Int × UInt8)) (p : Int × UInt8) : lsP (ls ++ [p]) = lsP ls ++ [p.1] := by simp [lsP]
theorem lsT_snoc (ls : List (Int × UInt8)) (p : Int × UInt8) : lsT (ls ++ [p]) = lsT ls ++ ⟨#[p.2]⟩ := by
  apply ByteArray.ext
  apply Array.toList_inj.1
  simp [lsT]
theorem lsT_size (ls : List (Int × UInt8)) : (lsT ls).size = ls.length := by simp [lsT, ByteArray.size]
/-- The words up to the k-th are read as these. -/
def HrTo (W : List ByteArray) (k : Nat) (ls : List (Int × UInt8)) : Prop := (W.take k).map (fun x => wordR x.data.toList) = ls.map some
theorem HrTo.zero (W : List ByteArray) : HrTo W 0 [] := by simp [HrTo]
theorem HrTo.succ {W : List ByteArray} {k : Nat} {ls : List (Int × UInt8)} {x : ByteArray} {p : Int × UInt8} (h : HrTo W k ls) (hx : W[k]? = some x) (hp : wordR x.data.toList = some p) : HrTo W (k + 1) (ls ++ [p]) := by
  unfold HrTo at h ⊢
  rw [List.take_add_one, hx, List.map_append, h, List.map_append]
  simp [hp]
theorem HrTo.len {W : List ByteArray} {k : Nat} {ls : List (Int × UInt8)} (h : HrTo W k ls) (hk : k ≤ W.length) : ls.length = k := by
  have := congrArg List.length h
  simp only [List.length_map, List.length_take] at this
  omega
/-- s is the text of this plan. -/
def HrIs (s : ByteArray) (P : List Int) (T : ByteArray) : Prop := ∃ ls, HrTo (partsOf s 32) (partsOf s 32).length ls ∧ P = lsP ls ∧ T = lsT ls ∧ okHo P T = true
theorem HrIs.one {s : ByteArray} {P P' : List Int} {T T' : ByteArray} (h : HrIs s P T) (h' : HrIs s P' T') : P = P' ∧ T = T' := by
  obtain ⟨ls, h1, rfl, rfl, _⟩ := h
  obtain ⟨ls', h1', rfl, rfl, _⟩ := h'
  have e : ls.map some = ls'.map some := h1.symm.trans h1'
  have : ls = ls' := by
    have := congrArg (List.filterMap id) e
    simpa using this
  rw [this]
  exact ⟨rfl, rfl⟩
theorem HrIs.word {s : ByteArray} {P : List Int} {T : ByteArray} {k : Nat} {x : ByteArray} (h : HrIs s P T) (hx : (partsOf s 32)[k]? = some x) : ∃ n c, wordR x.data.toList = some (n, c) ∧ c ∈ ([76, 82] : List UInt8) := by
  obtain ⟨ls, h1, rfl, rfl, h2⟩ := h
  unfold HrTo at h1
  rw [List.take_length] at h1
  have h3 : ((partsOf s 32).map (fun x => wordR x.data.toList))[k]? = some (wordR x.data.toList) := by rw [List.getElem?_map, hx]; rfl
  rw [h1, List.getElem?_map] at h3
  obtain ⟨⟨n, c⟩, hp, he⟩ := Option.map_eq_some_iff.1 h3
  refine ⟨n, c, he.symm, ?_⟩
  have hl := (okHo_true.1 h2).2.2.2.1
  have hk : k < (lsT ls).size := by rw [lsT_size]; exact (List.getElem?_eq_some_iff.1 hp).1
  have h4 := lrB_at hl hk
  have e : (lsT ls)[k]'hk = c := by
    have h5 : (lsT ls).data.toList[k]? = some c := by
      show ((ls.map (·.2)).toArray.toList)[k]? = some c
      rw [List.toList_toArray, List.getElem?_map, hp]
      rfl
    have h6 : (lsT ls).data.toList[k]? = some ((lsT ls)[k]'hk) := by
      rw [List.getElem?_eq_getElem (by simpa using hk)]
      rfl
    rw [h6] at h5
    exact Option.some.inj h5
  rw [e] at h4
  simpa using h4
theorem HrIs.len {s : ByteArray} {P : List Int} {T : ByteArray} (h : HrIs s P T) : (partsOf s 32).length ≤ 12 := by
  obtain ⟨ls, h1, rfl, rfl, h2⟩ := h
  have h3 := h1.len (Nat.le_refl _)
  have := (okHo_size h2).2.1
  rw [lsP_length] at this
  omega
/-- What is told of the answer. -/
structure HrVal (s : ByteArray) (Q : List Int) (TQ : ByteArray) (b : Bool) : Prop where
  no : (∀ P T, ¬ HrIs s P T) → Q = [] ∧ TQ = ⟨#[]⟩ ∧ b = false
  yes : ∀ P T, HrIs s P T → Q = P ∧ TQ = T ∧ b = true
theorem hrVal (s : ByteArray) : ∃ Q TQ b, HrVal s Q TQ b ∧ Q.length ≤ 12 := by
  by_cases h : ∃ P T, HrIs s P T
  · obtain ⟨P, T, h1⟩ := h
    refine ⟨P, T, true, ⟨fun h2 => absurd h1 (h2 P T), fun P' T' h' => ?_⟩, ?_⟩
    · obtain ⟨rfl, rfl⟩ := h1.one h'
      exact ⟨rfl, rfl, rfl⟩
    · obtain ⟨ls, _, rfl, rfl, h2⟩ := h1
      exact (okHo_size h2).2.1
  · refine ⟨[], ⟨#[]⟩, false, ⟨fun _ => ⟨rfl, rfl, rfl⟩, fun P T h' => absurd ⟨P, T, h'⟩ h⟩, by simp⟩
/-- A plan is handed back. -/
def HrAns (w : World) (Q : List Int) (TQ : ByteArray) (b : Bool) (e : Ending) (w' : World) : Prop := ∃ a cap, e = .returned (.tuple #[.agg #[.slice a Q.length cap, .string TQ], .bool b]) ∧ IntRes w.heap.size Q a w' ∧ Below w.heap.size w w'
theorem dropLast_extract (x : ByteArray) (n : Nat) (hn : n + 1 = x.size) : (x.extract 0 n).data.toList = x.data.toList.dropLast := by
  have h : x.data.toList.length = x.size := by simp
  rw [List.dropLast_eq_take, h]
  simp only [ByteArray.data_extract, Array.toList_extract, List.extract_eq_take_drop]
  simp
  omega
theorem wordR_at (x : ByteArray) (n : Nat) (hn : n < x.size) (h1 : n + 1 = x.size) : wordR x.data.toList = (numR x.data.toList.dropLast).map fun m => (m, x[n]'hn) := by
  have h : x.data.toList.length = x.size := by simp
  have hl : x.data.toList.getLast? = some (x[n]'hn) := by
    rw [List.getLast?_eq_getElem?, h, show x.size - 1 = n by omega, List.getElem?_eq_getElem (by omega)]
    rfl
  unfold wordR
  rw [hl]
theorem wordR_none {x : ByteArray} (h : x.size = 0) : wordR x.data.toList = none := by
  have hl : x.data.toList = [] := List.eq_nil_of_length_eq_zero (by simpa using h)
  rw [hl]
  rfl
end Go.Proofs.YtikjielgnlgnjaaDoor
