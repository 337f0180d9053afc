/-
  Cutting a text at one byte: the library's words and mine.
-/
import Derived.Test.YtikjielgnlgnjaaDoorSpl
import Derived.Lib.SplitLaws
import Derived.Lib.IndexLaws
import Derived.Lib.IndexMore
namespace Go.Proofs.YtikjielgnlgnjaaDoor
open Go.ChangeShapes Go.WideShapes Go.ChangeAt Go.RowKit Go.Joins

theorem idx_cases (c : UInt8) : ∀ l : List UInt8, (c ∉ l ∧ Lib.index l [c] = -1) ∨ (∃ p r, l = p ++ c :: r ∧ c ∉ p ∧ Lib.index l [c] = (p.length : Int))
  | [] => .inl ⟨by simp, by simp [Lib.index]⟩
  | x :: l => by
    by_cases h : x = c
    · subst h
      exact .inr ⟨[], l, rfl, by simp, by simp [Lib.index]⟩
    · have hp : ([c].isPrefixOf (x :: l)) = false := by simp [List.isPrefixOf, Ne.symm h]
      rcases idx_cases c l with ⟨h1, h2⟩ | ⟨p, r, h1, h2, h3⟩
      · exact .inl ⟨by simp [h1, Ne.symm h], by rw [Lib.index, hp, h2]; simp⟩
      · refine .inr ⟨x :: p, r, by simp [h1], by simp [h2, Ne.symm h], ?_⟩
        rw [Lib.index, hp, h3]
        have : ¬ ((p.length : Int) == -1) = true := by simp
        simp only [Bool.false_eq_true, if_false, if_neg this, List.length_cons]
        omega
theorem idxB_cases (c : UInt8) (s : ByteArray) : (c ∉ s.data.toList ∧ Lib.indexB s ⟨#[c]⟩ = -1) ∨ (∃ p r, s.data.toList = p ++ c :: r ∧ c ∉ p ∧ Lib.indexB s ⟨#[c]⟩ = (p.length : Int)) := idx_cases c s.data.toList
theorem one_size (c : UInt8) : (⟨#[c]⟩ : ByteArray).size = 1 := rfl
theorem splitB_spl (c : UInt8) : ∀ (k : Nat) (s : ByteArray), Lib.countB s ⟨#[c]⟩ = k → (Lib.splitB ⟨#[c]⟩ 0 k s).map (fun x => x.data.toList) = spl c s.data.toList
  | 0, s, hk => by
    rcases idxB_cases c s with ⟨h1, _⟩ | ⟨p, r, _, _, h3⟩
    · rw [Lib.splitB_zero, spl_plain h1]; rfl
    · have := Lib.countB_hit s ⟨#[c]⟩ p.length (by rw [one_size]; omega) h3; omega
  | k + 1, s, hk => by
    rcases idxB_cases c s with ⟨_, h2⟩ | ⟨p, r, h1, h2, h3⟩
    · rw [Lib.countB_miss s _ h2] at hk; omega
    · have hc := Lib.countB_hit s ⟨#[c]⟩ p.length (by rw [one_size]; omega) h3
      have hr : (s.extract (p.length + (⟨#[c]⟩ : ByteArray).size) s.size).data.toList = r := by
        rw [one_size]
        have e : s.size = (p ++ c :: r).length := by rw [← h1]; simp
        rw [ByteArray.data_extract, Array.toList_extract, h1, e]
        simp
        exact List.take_of_length_le (by omega)
      have hl : (s.extract 0 (p.length + 0)).data.toList = p := by
        rw [ByteArray.data_extract, Array.toList_extract, h1]
        simp
      rw [Lib.splitB_hit _ 0 k s p.length h3, List.map_cons, splitB_spl c k _ (by omega), hr, hl, h1, spl_first h2]
theorem splitB_parts (c : UInt8) (s : ByteArray) : Lib.splitB ⟨#[c]⟩ 0 (Lib.countB s ⟨#[c]⟩) s = partsOf s c :=
  toList_inj_map ((splitB_spl c _ s rfl).trans (partsOf_spl s c).symm)
theorem splitB_count (c : UInt8) (s : ByteArray) : Lib.countB s ⟨#[c]⟩ + 1 = (partsOf s c).length := by
  rw [← splitB_parts]
  exact (Lib.splitB_all ⟨#[c]⟩ (by rw [one_size]; omega) 0 _ s rfl).symm
theorem part_size {s x : ByteArray} {c : UInt8} (h : x ∈ partsOf s c) : x.size ≤ s.size := by
  unfold partsOf cutParts at h
  obtain ⟨q, _, rfl⟩ := List.mem_map.1 h
  rw [ByteArray.size_extract]
  omega
/-- The library's cut: what stands before the first such byte, what behind it. -/
theorem cut_cases (c : UInt8) (s : ByteArray) : (partsOf s c = [s] ∧ Lib.cut s.data.toList [c] = (s.data.toList, [], false)) ∨
    (∃ a b : ByteArray, Lib.cut s.data.toList [c] = (a.data.toList, b.data.toList, true) ∧ partsOf s c = a :: partsOf b c ∧ a.size ≤ s.size ∧ b.size ≤ s.size) := by
  rcases idx_cases c s.data.toList with ⟨h1, h2⟩ | ⟨p, r, h1, h2, h3⟩
  · refine .inl ⟨toList_inj_map (by rw [partsOf_spl, spl_plain h1]; rfl), ?_⟩
    rw [Lib.cut, h2, if_neg (by decide)]
  · refine .inr ⟨⟨p.toArray⟩, ⟨r.toArray⟩, ?_, toList_inj_map ?_, ?_, ?_⟩
    · rw [Lib.cut, h3, if_pos (by omega), h1]
      simp
    · rw [partsOf_spl, List.map_cons, partsOf_spl, h1, spl_first h2]
    · have : s.size = (p ++ c :: r).length := by rw [← h1]; simp
      show p.toArray.size ≤ _
      rw [this]; simp
    · have : s.size = (p ++ c :: r).length := by rw [← h1]; simp
      show r.toArray.size ≤ _
      rw [this]; simp; omega
end Go.Proofs.YtikjielgnlgnjaaDoor
