/-
  bestCourses with CoursesFor's value, and CoursesFor: contracts of the program.
-/
import Derived.Test.YtdhikdaegmekbabGz
namespace Go.Proofs.Ytdhikdaegmekbab
open Go.ChangeShapes Go.WideShapes Go.ChangeAt Go.RowKit Go.Joins

theorem rd_below {w w' : World} {B e n z : Nat} {v : Value} {xs : List Value} (h : w.ownsRow B e z v n xs) (hb : Below w.heap.size w w') : w'.ownsRow B e z v n xs := by
  refine ⟨h.1, ?_⟩
  rcases h.2 with hn | ⟨g, cap, cur, hv, hB, hh, rest⟩
  · exact .inl hn
  · exact .inr ⟨g, cap, cur, hv, hB, (hb.block g (Array.getElem?_eq_some_iff.1 hh).1).trans hh, rest⟩
theorem info_rod : ∃ i, Try.prog.info? 83 = some i ∧ i.zero = some (.agg #[.int .i64 0, .int .i64 0]) ∧ i.size = 2 ∧ i.bytes = 16 := by
  have h := infoRd
  cases hi : Try.prog.info? 83 with
  | none => rw [hi] at h; cases h
  | some i =>
    rw [hi] at h
    simp at h
    exact ⟨i, rfl, h.1, h.2.1, h.2.2⟩
theorem cells_rd (w : World) (x y : Value) (t : TypeId) : ∀ j u, [x, y][j]? = some u → (w.alloc (.cells #[x, y] t)).cell? ((⟨w.heap.size, 0, none⟩ : Addr).add j) = some u := by
  intro j u hj
  match j, hj with
  | 0, hj => simp at hj; subst hj; simp [Addr.add]
  | 1, hj => simp at hj; subst hj; simp [Addr.add]
/-- The numbers of courses that fit, up to a number. -/
def fitTo (ht H least most : Int) : Nat → List Int
  | 0 => []
  | k + 1 => fitTo ht H least most k ++ (if fitB ht H least most ((k : Int) + 1) = true then [(k : Int) + 1] else [])
theorem fitTo_yes {ht H least most : Int} {k : Nat} (h : fitB ht H least most ((k : Int) + 1) = true) : fitTo ht H least most (k + 1) = fitTo ht H least most k ++ [(k : Int) + 1] := by simp [fitTo, h]
theorem fitTo_no {ht H least most : Int} {k : Nat} (h : fitB ht H least most ((k : Int) + 1) = false) : fitTo ht H least most (k + 1) = fitTo ht H least most k := by simp [fitTo, h]
theorem fitTo_len (ht H least most : Int) (k : Nat) : (fitTo ht H least most k).length ≤ k := by
  induction k with
  | zero => simp [fitTo]
  | succ k ih =>
    cases h : fitB ht H least most ((k : Int) + 1)
    · rw [fitTo_no h]; omega
    · rw [fitTo_yes h, List.length_append]; simp; omega
theorem fitTo_mem {ht H least most c : Int} {k : Nat} (h : c ∈ fitTo ht H least most k) : 1 ≤ c ∧ c ≤ k ∧ fitB ht H least most c = true := by
  induction k with
  | zero => simp [fitTo] at h
  | succ k ih =>
    cases hf : fitB ht H least most ((k : Int) + 1)
    · rw [fitTo_no hf] at h
      have := ih h
      exact ⟨this.1, by omega, this.2.2⟩
    · rw [fitTo_yes hf] at h
      rcases List.mem_append.1 h with h | h
      · have := ih h
        exact ⟨this.1, by omega, this.2.2⟩
      · simp at h
        subst h
        exact ⟨by omega, by omega, hf⟩
theorem minF_fitTo (ht j H least most : Int) (k : Nat) : minF ht j H (fitTo ht H least most k) = bestF ht j H least most k := by
  induction k with
  | zero => rfl
  | succ k ih =>
    show _ = stepB ht j H least most (bestF ht j H least most k) ((k : Int) + 1)
    cases hf : fitB ht H least most ((k : Int) + 1)
    · rw [fitTo_no hf, ih]; simp [stepB, hf]
    · rw [fitTo_yes hf, minF_snoc, ih]; simp [stepB, hf]
theorem fit_rodOk {ht H least most c : Int} (hb : bdB least most = true) (hH : 100 ≤ H ∧ H ≤ 6000) (h : 1 ≤ c ∧ c ≤ 40 ∧ fitB ht H least most c = true) : rodOk ht H c := by
  obtain ⟨c0, c1, hf⟩ := h
  have := (inB_true.1 hf).1
  have l0 := (bdB_true.1 hb).2.1
  have m0 : 0 ≤ c * least := Int.mul_nonneg (by omega) l0
  exact ⟨gB_true.2 ⟨hH, c0, c1⟩, by omega⟩
theorem rdsL_snoc (H : Int) (cs : List Int) (c : Int) : rdsL H (cs ++ [c]) = rdsL H cs ++ [⟨H, c⟩] := by simp [rdsL]
theorem rdsL_len (H : Int) (cs : List Int) : (rdsL H cs).length = cs.length := by simp [rdsL]
/-- The boxes of bestCourses. -/
def GbB (w : World) (l wd ht j H least most : Int) (bF : Nat) (W : World) : Prop :=
  FmBox w.heap.size l wd ht j W ∧ W.cell? ⟨w.heap.size + 1, 0, none⟩ = some (.int .i64 H) ∧ W.cell? ⟨w.heap.size + 1 + 1, 0, none⟩ = some (.int .i64 least) ∧ W.cell? ⟨w.heap.size + 1 + 1 + 1, 0, none⟩ = some (.int .i64 most) ∧ W.cell? ⟨w.heap.size + 1 + 1 + 1 + 1, 0, none⟩ = some (.func (.func 80) #[] #[.pointer (some ⟨bF, 0, none⟩)]) ∧ FmBox bF l wd ht j W ∧ Below w.heap.size w W
theorem GbB.later {w : World} {l wd ht j H least most : Int} {bF : Nat} {W W' : World} (h : GbB w l wd ht j H least most bF W) (hb : Below W.heap.size W W') : GbB w l wd ht j H least most bF W' :=
  ⟨h.1.later hb, (hb.cell (World.block_lt_of_cell? W _ h.2.1)).trans h.2.1, (hb.cell (World.block_lt_of_cell? W _ h.2.2.1)).trans h.2.2.1, (hb.cell (World.block_lt_of_cell? W _ h.2.2.2.1)).trans h.2.2.2.1, (hb.cell (World.block_lt_of_cell? W _ h.2.2.2.2.1)).trans h.2.2.2.2.1, h.2.2.2.2.2.1.later hb, bnext h.2.2.2.2.2.2 hb⟩
theorem cellN (W : World) (v : Value) (t : TypeId) : (W.alloc (.cells #[v] t)).cell? ⟨W.heap.size, 0, none⟩ = some v := range_new W #[v] t 0 _ rfl
theorem cellK {W W' : World} {b : Nat} {v : Value} (h : W.cell? ⟨b, 0, none⟩ = some v) (hb : Below W.heap.size W W') : W'.cell? ⟨b, 0, none⟩ = some v := (hb.cell (World.block_lt_of_cell? W _ h)).trans h
theorem GbB.new (w : World) (l wd ht j H least most : Int) (bF : Nat) (hF : FmBox bF l wd ht j w) : GbB w l wd ht j H least most bF (((((w.alloc (.cells #[.int .i64 l, .int .i64 wd, .int .i64 ht, .int .i64 j] 41)).alloc (.cells #[.int .i64 H] 2)).alloc (.cells #[.int .i64 least] 2)).alloc (.cells #[.int .i64 most] 2)).alloc (.cells #[.func (.func 80) #[] #[.pointer (some ⟨bF, 0, none⟩)]] 97)) := by
  have a1 := cellN (w.alloc (.cells #[.int .i64 l, .int .i64 wd, .int .i64 ht, .int .i64 j] 41)) (.int .i64 H) 2
  have a2 := cellN ((w.alloc (.cells #[.int .i64 l, .int .i64 wd, .int .i64 ht, .int .i64 j] 41)).alloc (.cells #[.int .i64 H] 2)) (.int .i64 least) 2
  have a3 := cellN (((w.alloc (.cells #[.int .i64 l, .int .i64 wd, .int .i64 ht, .int .i64 j] 41)).alloc (.cells #[.int .i64 H] 2)).alloc (.cells #[.int .i64 least] 2)) (.int .i64 most) 2
  have a4 := cellN ((((w.alloc (.cells #[.int .i64 l, .int .i64 wd, .int .i64 ht, .int .i64 j] 41)).alloc (.cells #[.int .i64 H] 2)).alloc (.cells #[.int .i64 least] 2)).alloc (.cells #[.int .i64 most] 2)) (.func (.func 80) #[] #[.pointer (some ⟨bF, 0, none⟩)]) 97
  simp only [World.size_alloc] at a1 a2 a3 a4
  exact ⟨((((FmBox.new w l wd ht j 41).later (balloc0 _ _)).later (balloc0 _ _)).later (balloc0 _ _)).later (balloc0 _ _), cellK (cellK (cellK a1 (balloc0 _ _)) (balloc0 _ _)) (balloc0 _ _), cellK (cellK a2 (balloc0 _ _)) (balloc0 _ _), cellK a3 (balloc0 _ _), a4, ((((hF.later (balloc0 _ _)).later (balloc0 _ _)).later (balloc0 _ _)).later (balloc0 _ _)).later (balloc0 _ _), balloc (balloc (balloc (balloc (balloc0 _ _) _) _) _) _⟩
theorem lv_nil (H : Int) : lvB [] H = inB H 100 6000 := by simp [lvB, risesB]
theorem limC_cases (l wd ht j H least most : Int) : (okB l wd ht j = false ∧ limC l wd ht j H least most = 1) ∨ (okB l wd ht j = true ∧ inB H 100 6000 = false ∧ limC l wd ht j H least most = 2) ∨ (okB l wd ht j = true ∧ inB H 100 6000 = true ∧ bdB least most = false ∧ limC l wd ht j H least most = 2) ∨ (okB l wd ht j = true ∧ inB H 100 6000 = true ∧ bdB least most = true ∧ limC l wd ht j H least most = 0) := by
  cases h1 : okB l wd ht j <;> cases h2 : inB H 100 6000 <;> cases h3 : bdB least most <;> simp [limC, h1, h2, h3]
end Go.Proofs.Ytdhikdaegmekbab
