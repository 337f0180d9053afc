/-
  LeastParts: the model's and the program's answers.
-/
import Derived.Test.YtpmklnldgafkjaaPartsA
import Derived.Test.YtpmklnldgafkjaaMean
import Derived.Test.YtpmklnldgafkjaaCheck
import Derived.OwnWalk
namespace Go.Proofs.Ytpmklnldgafkjaa
open Go.ChangeShapes Go.WideShapes Go.ChangeAt Go.RowKit Go.Joins

/-- The greatest common divisor of the first k parts. -/
def gcdTo (P : List Int) : Nat → Nat
  | 0 => 0
  | k + 1 => Int.gcd (gcdTo P k : Int) ((P[k]?).getD 0)
theorem gcdTo_step {P : List Int} {k : Nat} {z : Int} (h : P[k]? = some z) : gcdTo P (k + 1) = Int.gcd (gcdTo P k : Int) z := by simp [gcdTo, h]
theorem gcdTo_le {P : List Int} (hP : okParts P = true) {k : Nat} (hk : k ≤ P.length) : gcdTo P k ≤ 1000 := by
  induction k with
  | zero => simp [gcdTo]
  | succ k ih =>
    obtain ⟨z, hz⟩ : ∃ z, P[k]? = some z := ⟨_, List.getElem?_eq_getElem (by omega)⟩
    obtain ⟨z0, z1⟩ := okParts_at hP hz
    rw [gcdTo_step hz]
    have h1 := ih (by omega)
    by_cases h0 : z = 0
    · subst h0; simpa using h1
    · have : ((Int.gcd (gcdTo P k : Int) z : Nat) : Int) ≤ z := Int.le_of_dvd (by omega) (Int.gcd_dvd_right ..)
      omega
theorem gcdTo_zero {P : List Int} {k : Nat} (h : gcdTo P k = 0) : sumTo P k = 0 := by
  induction k with
  | zero => rfl
  | succ k ih =>
    simp only [gcdTo, Int.gcd_eq_zero_iff] at h
    simp only [sumTo]
    rw [ih (by omega), h.2]
    rfl
def gcdP (P : List Int) : Nat := gcdTo P P.length
theorem gcdP_pos {L : List Cl} {P : List Int} (h : codeP L P true = 0) : 1 ≤ gcdP P ∧ gcdP P ≤ 1000 := by
  have h1 := (codeP_sum h).1
  have h2 := gcdTo_le (codeP_facts h).2.2.1 (Nat.le_refl _)
  have h3 : gcdTo P P.length ≠ 0 := fun e => by
    have := gcdTo_zero e
    unfold sumP at h1
    omega
  exact ⟨by unfold gcdP; omega, h2⟩
/-- The least parts. -/
def leastL (P : List Int) : List Int := P.map fun z => z / (gcdP P : Int)
theorem leastL_length (P : List Int) : (leastL P).length = P.length := by simp [leastL]
theorem leastL_at {P : List Int} {k : Nat} {z : Int} (h : P[k]? = some z) : (leastL P)[k]? = some (z / (gcdP P : Int)) := by simp [leastL, h]

def intVals (P : List Int) : List Value := P.map (Value.int .i64)
theorem intVals_one (P : List Int) : ∀ u ∈ intVals P, u.oneCell' = true := by
  intro u hu
  obtain ⟨c, _, rfl⟩ := List.mem_map.1 hu
  rfl
/-- What a row of numbers that grows holds. -/
def NumsAt (w : World) (ps : List Int) (g cap : Nat) (wr : World) : Prop :=
  wr.ownsRow w.heap.size 2 1 (.slice (some ⟨g, 0, none⟩) ps.length cap) ps.length (intVals ps) ∧ Below w.heap.size w wr ∧ w.heap.size + 1 ≤ wr.heap.size
theorem own_base8 {w : World} {B : Nat} {e : TypeId} {size n m cap g : Nat} {xs : List Value} (h : w.ownsRow B e size (.slice (some ⟨g, 0, none⟩) m cap) n xs) : B ≤ g := by
  obtain ⟨_, h | ⟨b, c, cs, hv, hb, _⟩⟩ := h
  · simp at h
  · simp at hv
    omega
theorem own_form8 {w : World} {B : Nat} {e : TypeId} {size n : Nat} {v : Value} {xs : List Value} (h : w.ownsRow B e size v n xs) (hn : n ≠ 0) : ∃ g cap, v = .slice (some ⟨g, 0, none⟩) n cap := by
  rcases h.2 with ⟨_, h0⟩ | ⟨g, cap, cur, hv, _⟩
  · exact absurd h0 hn
  · exact ⟨g, cap, hv⟩
theorem nums_step {w wr w1 : World} {ps : List Int} {g cap : Nat} {x : Int} {v1 : Value} (h : NumsAt w ps g cap wr) (hown : w1.ownsRow w.heap.size 2 1 v1 (ps.length + 1) (intVals ps ++ [.int .i64 x])) (hg : (wr.alloc (.cells #[.int .i64 x] 2)).grownBy w1 (some g)) :
    ∃ g' cap', v1 = .slice (some ⟨g', 0, none⟩) (ps ++ [x]).length cap' ∧ NumsAt w (ps ++ [x]) g' cap' w1 := by
  obtain ⟨h1, h2, h3⟩ := h
  have hgb := own_base8 h1
  have e : intVals (ps ++ [x]) = intVals ps ++ [Value.int .i64 x] := by simp [intVals]
  obtain ⟨g', cap', hv⟩ := own_form8 hown (by omega)
  have hB : Below w.heap.size w (wr.alloc (.cells #[.int .i64 x] 2)) := balloc h2 _
  have hB1 : Below w.heap.size w w1 := hB.grown hg (by simp; omega) (fun k hk => by cases hk; exact hgb)
  refine ⟨g', cap', by rw [hv]; simp, ?_, hB1, ?_⟩
  · rw [e, List.length_append]
    rw [hv] at hown
    exact hown
  · have := hB1.size
    have h4 := hg.size
    simp at h4
    omega
theorem nums_start (w : World) : NumsAt w [] w.heap.size 0 (w.alloc (.cells #[] 2)) :=
  ⟨⟨rfl, .inr ⟨w.heap.size, 0, #[], rfl, Nat.le_refl _, heap_alloc_new w _, Nat.le_refl _, by decide, rfl, rfl⟩⟩, balloc0 _ _, by simp⟩
theorem NumsAt.own {w wr : World} {ps : List Int} {g cap : Nat} (h : NumsAt w ps g cap wr) : IntOwn w.heap.size ps g wr := by
  refine ⟨own_base8 h.1, fun k z hk => ?_, fun j hj => ?_, ?_⟩
  · have hl := (List.getElem?_eq_some_iff.1 hk).1
    rw [Nat.zero_add, World.ownsRow.cellAt h.1 k (by omega)]
    simp [intVals, hk]
  · rw [Nat.zero_add]
    refine ⟨?_, World.ownsRow.frozenAt h.1 j⟩
    rw [World.ownsRow.cellAt h.1 j (by omega), List.getElem?_eq_getElem (by simpa [intVals] using hj)]
    rfl
  · obtain ⟨_, h0 | ⟨b, c, cs, hv, _, hh, _⟩⟩ := h.1
    · simp at h0
    · simp at hv
      rw [hv.1]
      exact (Array.getElem?_eq_some_iff.1 hh).1

def sliceE (v : Value) (c : Int) : Ending := .returned (.tuple #[v, .int .i64 c])
/-- What LeastParts hands back: nothing and a code, or a new row. -/
def LeastOut (w : World) (L : List Cl) (P : List Int) (e : Ending) (w' : World) : Prop :=
  Below w.heap.size w w' ∧ ((codeP L P true ≠ 0 ∧ e = sliceE (.slice none 0 0) (codeP L P true)) ∨ (codeP L P true = 0 ∧ ∃ g cap, e = sliceE (.slice (some ⟨g, 0, none⟩) P.length cap) 0 ∧ IntOwn w.heap.size (leastL P) g w'))
theorem LeastOut.bad {w w' : World} {L : List Cl} {P : List Int} {q : Int} (h : codeP L P true = q) (hq : ¬ q = 0) (hb : Below w.heap.size w w') : LeastOut w L P (.returned (.tuple #[.slice none 0 0, .int .i64 q])) w' := by
  unfold LeastOut sliceE
  exact And.intro hb (Or.inl (And.intro (by rw [h]; exact hq) (by rw [h])))
theorem LeastOut.good {w w' : World} {L : List Cl} {P : List Int} {g cap : Nat} (h : codeP L P true = 0) (ho : IntOwn w.heap.size (leastL P) g w') (hb : Below w.heap.size w w') : LeastOut w L P (.returned (.tuple #[.slice (some ⟨g, 0, none⟩) P.length cap, .int .i64 0])) w' := by
  unfold LeastOut sliceE
  exact And.intro hb (Or.inr (And.intro h (Exists.intro g (Exists.intro cap (And.intro rfl ho)))))
theorem lit8 (base : Nat) (wr : World) (c : Value) (hb : base ≤ wr.heap.size) : (wr.alloc (.cells #[c] 2)).ownsRow base 2 1 (.slice (some ⟨wr.heap.size, 0, none⟩) 1 1) 1 [c] :=
  ⟨rfl, .inr ⟨wr.heap.size, 1, #[c], rfl, hb, heap_alloc_new wr _, Nat.le_refl _, by decide, rfl, rfl⟩⟩
end Go.Proofs.Ytpmklnldgafkjaa
