/-
  Perpends, laps and headers of a course as plain data. Nothing of the dump.
-/
import Derived.Test.YtikjielgnlgnjaaDoorCoI
namespace Go.Proofs.YtikjielgnlgnjaaDoor
open Go.ChangeShapes Go.WideShapes Go.ChangeAt Go.RowKit Go.Joins

/-- The piece with an index of a course that is not ended. -/
def letterAt (c : Co) (i : Nat) : UInt8 := if i < c.lead.size then c.lead.data.toList.getD i 0 else c.cyc.data.toList.getD ((i - c.lead.size) % c.cyc.size) 0
theorem letterAt_lead (c : Co) (i : Nat) (h : i < c.lead.size) : letterAt c i = c.lead[i]'h := by
  have h' : i < c.lead.data.toList.length := by simpa using h
  unfold letterAt
  rw [if_pos h, List.getD_eq_getElem?_getD, List.getElem?_eq_getElem h']
  rfl
theorem letterAt_cyc (c : Co) (i : Nat) (h : ¬ i < c.lead.size) (h2 : (i - c.lead.size) % c.cyc.size < c.cyc.size) : letterAt c i = c.cyc[(i - c.lead.size) % c.cyc.size]'h2 := by
  have h' : (i - c.lead.size) % c.cyc.size < c.cyc.data.toList.length := by simpa using h2
  unfold letterAt
  rw [if_neg h, List.getD_eq_getElem?_getD, List.getElem?_eq_getElem h']
  rfl
theorem qtr_le (x : UInt8) : qtr x ≤ 4 := by
  unfold qtr
  repeat' split
  all_goals omega
theorem letter_quarters {c : Co} (h : c.ok = true) (i : Nat) : 1 ≤ qtr (letterAt c i) ∧ qtr (letterAt c i) ≤ 4 := by
  obtain ⟨_, hp, h1, _, hq⟩ := Co.ok_facts h
  refine ⟨?_, qtr_le _⟩
  by_cases hi : i < c.lead.size
  · rw [letterAt_lead c i hi]
    unfold piecesB at hp
    rw [List.all_eq_true] at hp
    have := hp (c.lead[i]'hi) (List.getElem_mem ..)
    simp at this
    omega
  · have h2 : (i - c.lead.size) % c.cyc.size < c.cyc.size := Nat.mod_lt _ (by omega)
    rw [letterAt_cyc c i hi h2]
    unfold plainB at hq
    rw [List.all_eq_true] at hq
    have := hq (c.cyc[(i - c.lead.size) % c.cyc.size]'h2) (List.getElem_mem ..)
    simp at this
    rcases this with h | h <;> rw [h] <;> decide

/-- Where the first i pieces end. -/
def ends (c : Co) : Nat → Nat
  | 0 => 0
  | i + 1 => ends c i + qtr (letterAt c i)
theorem ends_step {c : Co} (h : c.ok = true) (i : Nat) : ends c i + 1 ≤ ends c (i + 1) ∧ ends c (i + 1) ≤ ends c i + 4 := by
  have := letter_quarters h i
  simp only [ends]
  omega
theorem ends_ge {c : Co} (h : c.ok = true) : ∀ i, i ≤ ends c i
  | 0 => Nat.le_refl _
  | i + 1 => by have := ends_ge h i; have := (ends_step h i).1; omega
theorem ends_mono {c : Co} (h : c.ok = true) {i j : Nat} (hij : i ≤ j) : ends c i ≤ ends c j := by
  induction j with
  | zero => have : i = 0 := by omega
            subst this; exact Nat.le_refl _
  | succ j ih =>
    by_cases e : i = j + 1
    · subst e; exact Nat.le_refl _
    · have := ih (by omega); have := (ends_step h j).1; omega
/-- Just the first m pieces end before u. -/
def PerpIs (c : Co) (u m : Nat) : Prop := ends c m < u ∧ u ≤ ends c (m + 1)
theorem perp_one {c : Co} (h : c.ok = true) {u m n : Nat} (hm : PerpIs c u m) (hn : PerpIs c u n) : m = n := by
  obtain ⟨m1, m2⟩ := hm
  obtain ⟨n1, n2⟩ := hn
  rcases Nat.lt_trichotomy m n with e | e | e
  · have := ends_mono h (show m + 1 ≤ n by omega); omega
  · exact e
  · have := ends_mono h (show n + 1 ≤ m by omega); omega
theorem perp_le {c : Co} (h : c.ok = true) {u m : Nat} (hm : PerpIs c u m) : m < u := by
  have := ends_ge h m; have := hm.1; omega
/-- The places where the first m pieces end. -/
def perpL (c : Co) (m : Nat) : List Int := (List.range m).map fun i => ((ends c (i + 1) : Nat) : Int)
theorem perpL_length (c : Co) (m : Nat) : (perpL c m).length = m := by simp [perpL]
theorem perpL_succ (c : Co) (m : Nat) : perpL c (m + 1) = perpL c m ++ [((ends c (m + 1) : Nat) : Int)] := by simp [perpL, List.range_succ]
theorem perpL_at {c : Co} {m k : Nat} (h : k < m) : (perpL c m)[k]? = some ((ends c (k + 1) : Nat) : Int) := by simp [perpL, h]
theorem perpL_range {c : Co} {u m : Nat} (h : c.ok = true) (hm : PerpIs c u m) {k : Nat} {z : Int} (hk : (perpL c m)[k]? = some z) : 1 ≤ z ∧ z < u := by
  have hl := (List.getElem?_eq_some_iff.1 hk).1
  rw [perpL_length] at hl
  rw [perpL_at hl] at hk
  cases hk
  have h1 := ends_ge h (k + 1)
  have h2 := ends_mono h (show k + 1 ≤ m by omega)
  have h3 := hm.1
  omega
/-- The number of headers among the first m pieces. -/
def headsN (c : Co) : Nat → Nat
  | 0 => 0
  | m + 1 => headsN c m + if letterAt c m = 72 then 1 else 0
theorem headsN_le (c : Co) : ∀ m, headsN c m ≤ m
  | 0 => Nat.le_refl _
  | m + 1 => by
    have := headsN_le c m
    simp only [headsN]
    split <;> omega
/-- The text of the first m pieces. -/
def pieceL (c : Co) (m : Nat) : List UInt8 := (List.range m).map (letterAt c)
theorem pieceL_succ (c : Co) (m : Nat) : pieceL c (m + 1) = pieceL c m ++ [letterAt c m] := by simp [pieceL, List.range_succ]
theorem pieceL_length (c : Co) (m : Nat) : (pieceL c m).length = m := by simp [pieceL]
theorem pieceL_count (c : Co) : ∀ m, (pieceL c m).count 72 = headsN c m
  | 0 => rfl
  | m + 1 => by
    rw [pieceL_succ, List.count_append, pieceL_count c m, headsN]
    by_cases h : letterAt c m = 72 <;> simp [h]

/-- All distances of places. -/
def distTo (A B : List Int) (i : Nat) : List Int := (A.take i).flatMap fun x => B.map fun y => ((x - y).natAbs : Int)
def distL (A B : List Int) : List Int := A.flatMap fun x => B.map fun y => ((x - y).natAbs : Int)
theorem distTo_all (A B : List Int) : distTo A B A.length = distL A B := by simp [distTo, distL]
theorem distTo_step {A B : List Int} {i : Nat} {x : Int} (h : A[i]? = some x) : distTo A B (i + 1) = distTo A B i ++ B.map fun y => ((x - y).natAbs : Int) := by
  unfold distTo
  rw [List.take_add_one, h]
  simp
theorem distL_pos (A B : List Int) : ∀ d ∈ distL A B, 0 ≤ d := by
  intro d hd
  simp only [distL, List.mem_flatMap, List.mem_map] at hd
  obtain ⟨x, _, y, _, rfl⟩ := hd
  omega
theorem distL_length (A B : List Int) : (distL A B).length = A.length * B.length := by
  unfold distL
  induction A with
  | nil => simp
  | cons x A ih => rw [List.flatMap_cons, List.length_append, ih, List.length_map, List.length_cons, Nat.succ_mul]; omega
theorem distL_nil (A B : List Int) : distL A B = [] ↔ A = [] ∨ B = [] := by
  rw [← List.length_eq_zero_iff, distL_length, Nat.mul_eq_zero, List.length_eq_zero_iff, List.length_eq_zero_iff]

/-- The least one so far; -1 if there is none. -/
def minStep (b d : Int) : Int := if b < 0 ∨ d < b then d else b
def lapOf (D : List Int) : Int := D.foldl minStep (-1)
theorem lapOf_snoc (D : List Int) (d : Int) : lapOf (D ++ [d]) = minStep (lapOf D) d := by simp [lapOf]
theorem lapOf_facts (R : List Int) : (∀ d ∈ R, 0 ≤ d) → (R = [] → lapOf R.reverse = -1) ∧ (R ≠ [] → lapOf R.reverse ∈ R ∧ ∀ d ∈ R, lapOf R.reverse ≤ d) := by
  induction R with
  | nil => intro _; exact ⟨fun _ => rfl, fun h => absurd rfl h⟩
  | cons x R ih =>
    intro h
    refine ⟨fun e => (by cases e), fun _ => ?_⟩
    have hx := h x (by simp)
    have hR := ih (fun d hd => h d (by simp [hd]))
    rw [List.reverse_cons, lapOf_snoc]
    by_cases e : R = []
    · subst e
      have : lapOf [] = -1 := rfl
      simp only [List.reverse_nil, this]
      have e2 : minStep (-1) x = x := by simp [minStep]
      rw [e2]
      simp
    · obtain ⟨h1, h2⟩ := hR.2 e
      have h3 := h _ (List.mem_cons_of_mem x h1)
      unfold minStep
      split
      · rename_i hc
        refine ⟨by simp, fun d hd => ?_⟩
        rcases List.mem_cons.1 hd with e | e
        · omega
        · have := h2 d e; omega
      · rename_i hc
        refine ⟨List.mem_cons_of_mem x h1, fun d hd => ?_⟩
        rcases List.mem_cons.1 hd with e | e
        · omega
        · exact h2 d e
theorem lapOf_nil : lapOf [] = -1 := rfl
theorem lapOf_least {D : List Int} (h : ∀ d ∈ D, 0 ≤ d) (hn : D ≠ []) : lapOf D ∈ D ∧ ∀ d ∈ D, lapOf D ≤ d := by
  have := (lapOf_facts D.reverse (fun d hd => h d (by simpa using hd))).2 (by simpa using hn)
  simpa using this
theorem lapOf_one {D : List Int} (h : ∀ d ∈ D, 0 ≤ d) {r : Int} (h1 : r ∈ D) (h2 : ∀ d ∈ D, r ≤ d) : lapOf D = r := by
  obtain ⟨h3, h4⟩ := lapOf_least h (List.ne_nil_of_mem h1)
  have := h4 r h1
  have := h2 _ h3
  omega
theorem lapOf_neg {D : List Int} (h : ∀ d ∈ D, 0 ≤ d) : lapOf D < 0 ↔ D = [] := by
  constructor
  · intro hl
    apply Decidable.byContradiction
    intro hn
    have := h _ (lapOf_least h hn).1
    omega
  · rintro rfl; decide
theorem lapOf_append {D E : List Int} (hD : ∀ d ∈ D, 0 ≤ d) (hE : ∀ d ∈ E, 0 ≤ d) : lapOf (D ++ E) = if lapOf E < 0 then lapOf D else minStep (lapOf D) (lapOf E) := by
  have hDE : ∀ d ∈ D ++ E, 0 ≤ d := fun d hd => by
    rcases List.mem_append.1 hd with h | h
    · exact hD d h
    · exact hE d h
  by_cases e : E = []
  · subst e
    simp [lapOf]
  · have hne : ¬ lapOf E < 0 := fun h => e ((lapOf_neg hE).1 h)
    obtain ⟨e1, e2⟩ := lapOf_least hE e
    rw [if_neg hne]
    by_cases f : D = []
    · subst f
      have : minStep (lapOf []) (lapOf E) = lapOf E := by simp [minStep, lapOf]
      rw [this]
      rfl
    · obtain ⟨d1, d2⟩ := lapOf_least hD f
      have d0 := hD _ d1
      refine lapOf_one hDE ?_ ?_
      · unfold minStep
        split
        · exact List.mem_append.2 (.inr e1)
        · exact List.mem_append.2 (.inl d1)
      · intro d hd
        unfold minStep
        rcases List.mem_append.1 hd with h | h
        · have := d2 d h; split <;> omega
        · have := e2 d h; split <;> omega
end Go.Proofs.YtikjielgnlgnjaaDoor
