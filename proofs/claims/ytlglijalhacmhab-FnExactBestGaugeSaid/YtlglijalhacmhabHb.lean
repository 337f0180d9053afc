/-
  bestCourses with CoursesFor's value, and CoursesFor: contracts of the program.
-/
import Derived.Test.YtlglijalhacmhabGz
namespace Go.Proofs.Ytlglijalhacmhab
open Go.ChangeShapes Go.WideShapes Go.ChangeAt Go.RowKit Go.Joins


theorem rd_below {w w' : World} {B e n z : Nat} {v : Value} {xs : List Value} (h : w.ownsRow B e z v n xs) (hb : Below w.heap.size w w') : w'.ownsRow B e z v n xs := by
  refine ⟨h.1, ?_⟩
  rcases h.2 with hn | ⟨g, cap, cur, hv, hB, hh, rest⟩
  · exact .inl hn
  · exact .inr ⟨g, cap, cur, hv, hB, (hb.block g (Array.getElem?_eq_some_iff.1 hh).1).trans hh, rest⟩
theorem info_rod : ∃ i, Try.prog.info? 96 = some i ∧ i.zero = some (.agg #[.int .i64 0, .int .i64 0]) ∧ i.size = 2 ∧ i.bytes = 16 := by
  have h := infoRd
  cases hi : Try.prog.info? 96 with
  | none => rw [hi] at h; cases h
  | some i =>
    rw [hi] at h
    simp at h
    exact ⟨i, rfl, h.1, h.2.1, h.2.2⟩
theorem cells_rd (w : World) (x y : Value) (t : TypeId) : ∀ j u, [x, y][j]? = some u → (w.alloc (.cells #[x, y] t)).cell? ((⟨w.heap.size, 0, none⟩ : Addr).add j) = some u := by
  intro j u hj
  match j, hj with
  | 0, hj => simp at hj; subst hj; simp [Addr.add]
  | 1, hj => simp at hj; subst hj; simp [Addr.add]
/-- The numbers of courses that fit, up to a number. -/
def fitTo (ht H least most : Int) : Nat → List Int
  | 0 => []
  | k + 1 => fitTo ht H least most k ++ (if fitB ht H least most ((k : Int) + 1) = true then [(k : Int) + 1] else [])
theorem fitTo_yes {ht H least most : Int} {k : Nat} (h : fitB ht H least most ((k : Int) + 1) = true) : fitTo ht H least most (k + 1) = fitTo ht H least most k ++ [(k : Int) + 1] := by simp [fitTo, h]
theorem fitTo_no {ht H least most : Int} {k : Nat} (h : fitB ht H least most ((k : Int) + 1) = false) : fitTo ht H least most (k + 1) = fitTo ht H least most k := by simp [fitTo, h]
theorem fitTo_len (ht H least most : Int) (k : Nat) : (fitTo ht H least most k).length ≤ k := by
  induction k with
  | zero => simp [fitTo]
  | succ k ih =>
    cases h : fitB ht H least most ((k : Int) + 1)
    · rw [fitTo_no h]; omega
    · rw [fitTo_yes h, List.length_append]; simp; omega
theorem fitTo_mem {ht H least most c : Int} {k : Nat} (h : c ∈ fitTo ht H least most k) : 1 ≤ c ∧ c ≤ k ∧ fitB ht H least most c = true := by
  induction k with
  | zero => simp [fitTo] at h
  | succ k ih =>
    cases hf : fitB ht H least most ((k : Int) + 1)
    · rw [fitTo_no hf] at h
      have := ih h
      exact ⟨this.1, by omega, this.2.2⟩
    · rw [fitTo_yes hf] at h
      rcases List.mem_append.1 h with h | h
      · have := ih h
        exact ⟨this.1, by omega, this.2.2⟩
      · simp at h
        subst h
        exact ⟨by omega, by omega, hf⟩
theorem minF_fitTo (ht j H least most : Int) (k : Nat) : minF ht j H (fitTo ht H least most k) = bestF ht j H least most k := by
  induction k with
  | zero => rfl
  | succ k ih =>
    show _ = stepB ht j H least most (bestF ht j H least most k) ((k : Int) + 1)
    cases hf : fitB ht H least most ((k : Int) + 1)
    · rw [fitTo_no hf, ih]; simp [stepB, hf]
    · rw [fitTo_yes hf, minF_snoc, ih]; simp [stepB, hf]
theorem fit_rodOk {ht H least most c : Int} (hb : bdB least most = true) (hH : 100 ≤ H ∧ H ≤ 6000) (h : 1 ≤ c ∧ c ≤ 40 ∧ fitB ht H least most c = true) : rodOk ht H c := by
  obtain ⟨c0, c1, hf⟩ := h
  have := (inB_true.1 hf).1
  have l0 := (bdB_true.1 hb).2.1
  have m0 : 0 ≤ c * least := Int.mul_nonneg (by omega) l0
  exact ⟨gB_true.2 ⟨hH, c0, c1⟩, by omega⟩
theorem rdsL_snoc (H : Int) (cs : List Int) (c : Int) : rdsL H (cs ++ [c]) = rdsL H cs ++ [⟨H, c⟩] := by simp [rdsL]
theorem rdsL_len (H : Int) (cs : List Int) : (rdsL H cs).length = cs.length := by simp [rdsL]
theorem cellN (W : World) (v : Value) (t : TypeId) : (W.alloc (.cells #[v] t)).cell? ⟨W.heap.size, 0, none⟩ = some v := range_new W #[v] t 0 _ rfl
theorem cellK {W W' : World} {b : Nat} {v : Value} (h : W.cell? ⟨b, 0, none⟩ = some v) (hb : Below W.heap.size W W') : W'.cell? ⟨b, 0, none⟩ = some v := (hb.cell (World.block_lt_of_cell? W _ h)).trans h
theorem lv_nil (H : Int) : lvB [] H = inB H 100 6000 := by simp [lvB, risesB]
theorem limC_cases (l wd ht j H least most : Int) : (okB l wd ht j = false ∧ limC l wd ht j H least most = 1) ∨ (okB l wd ht j = true ∧ inB H 100 6000 = false ∧ limC l wd ht j H least most = 2) ∨ (okB l wd ht j = true ∧ inB H 100 6000 = true ∧ bdB least most = false ∧ limC l wd ht j H least most = 2) ∨ (okB l wd ht j = true ∧ inB H 100 6000 = true ∧ bdB least most = true ∧ limC l wd ht j H least most = 0) := by
  cases h1 : okB l wd ht j <;> cases h2 : inB H 100 6000 <;> cases h3 : bdB least most <;> simp [limC, h1, h2, h3]
end Go.Proofs.Ytlglijalhacmhab
