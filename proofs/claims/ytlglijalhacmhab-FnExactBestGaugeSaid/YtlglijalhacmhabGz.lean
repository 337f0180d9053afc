/-
  slices.MinFunc over rods with bestCourses's compare closure: contract of the program.
-/
import Derived.Test.YtlglijalhacmhabGy
import Derived.Test.YtlglijalhacmhabRd
namespace Go.Proofs.Ytlglijalhacmhab
open Go.ChangeShapes Go.WideShapes Go.ChangeAt Go.RowKit Go.Joins


/-- The best of some numbers of courses, the first of several. -/
def minF (ht j H : Int) (cs : List Int) : Int := cs.foldl (fun b c => if nrB ht j H b c = true then c else b) 0
theorem minF_snoc (ht j H : Int) (cs : List Int) (c : Int) : minF ht j H (cs ++ [c]) = if nrB ht j H (minF ht j H cs) c = true then c else minF ht j H cs := by
  unfold minF
  rw [List.foldl_append]
  rfl
theorem minF_take {ht j H : Int} {cs : List Int} {k : Nat} {c : Int} (h : cs[k]? = some c) : minF ht j H (cs.take (k + 1)) = if nrB ht j H (minF ht j H (cs.take k)) c = true then c else minF ht j H (cs.take k) := by
  obtain ⟨hk, e⟩ := List.getElem?_eq_some_iff.1 h
  rw [List.take_add_one, h]
  exact minF_snoc ht j H (cs.take k) c
theorem minF_mem (ht j H : Int) (cs : List Int) : minF ht j H cs = 0 ∨ minF ht j H cs ∈ cs := by
  suffices h : ∀ (b : Int), cs.foldl (fun b c => if nrB ht j H b c = true then c else b) b = b ∨ cs.foldl (fun b c => if nrB ht j H b c = true then c else b) b ∈ cs from h 0
  induction cs with
  | nil => intro b; exact .inl rfl
  | cons c r ih =>
    intro b
    simp only [List.foldl_cons]
    rcases ih (if nrB ht j H b c = true then c else b) with h | h
    · by_cases hn : nrB ht j H b c = true
      · rw [if_pos hn] at h ⊢
        exact .inr (by rw [h]; exact List.mem_cons_self)
      · rw [if_neg hn] at h ⊢
        exact .inl h
    · exact .inr (List.mem_cons_of_mem _ h)
theorem there_otherW {W : World} {a c k n : Nat} {v : Value} (h : W.there a 0 n) (hne : a ≠ c) : (W.setCell ⟨c, k, none⟩ v).there a 0 n := fun j hj =>
  ⟨by rw [World.cell?_setCell_other _ _ _ _ (fun e => hne (by cases e; rfl))]; exact (h j hj).1, by rw [World.frozen?_setCell]; exact (h j hj).2⟩
def rdsL (H : Int) (cs : List Int) : List Rd := cs.map fun c => ⟨H, c⟩
theorem rdsL_at {H : Int} {cs : List Int} {k : Nat} {c : Int} (h : cs[k]? = some c) : (rdsL H cs)[k]? = some ⟨H, c⟩ := by simp [rdsL, h]
/-- A number of courses whose rod has a value. -/
def rodOk (ht H c : Int) : Prop := gB H c = true ∧ ¬ H < c * ht
end Go.Proofs.Ytlglijalhacmhab
