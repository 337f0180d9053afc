/-
  The cheapest packs, plainly. Nothing of the dump.
-/
import Derived.Test.YtlglijalhacmhabAll
import Derived.Test.YtlglijalhacmhabGqR
namespace Go.Proofs.Ytlglijalhacmhab
open Go.ChangeShapes Go.WideShapes Go.ChangeAt Go.RowKit Go.Joins

/-- The least of the first k. -/
def mnK (f : Nat → Int) : Nat → Int
  | 0 => 0
  | k + 1 => if k = 0 ∨ f k < mnK f k then f k else mnK f k
/-- The last of the first k at which it stands. -/
def agK (f : Nat → Int) : Nat → Nat
  | 0 => 0
  | k + 1 => if k = 0 ∨ f k ≤ mnK f k then k else agK f k
theorem mnK_congr {f g : Nat → Int} {K : Nat} (h : ∀ k, k < K → f k = g k) : mnK f K = mnK g K := by
  induction K with
  | zero => rfl
  | succ K ih => simp only [mnK, ih (fun k hk => h k (by omega)), h K (by omega)]
theorem mnK_one (f : Nat → Int) : mnK f 1 = f 0 := by simp [mnK]
theorem mnK_step {f : Nat → Int} {k : Nat} (h : k = 0 ∨ f k < mnK f k) : mnK f (k + 1) = f k := by simp only [mnK]; rw [if_pos h]
theorem mnK_stay {f : Nat → Int} {k : Nat} (h : ¬ (k = 0 ∨ f k < mnK f k)) : mnK f (k + 1) = mnK f k := by simp only [mnK]; rw [if_neg h]
/-- The program's step: it also takes what is equal. -/
theorem mnK_le {f : Nat → Int} {k : Nat} (h : k = 0 ∨ f k ≤ mnK f k) : mnK f (k + 1) = f k := by
  by_cases e : k = 0 ∨ f k < mnK f k
  · exact mnK_step e
  · rw [mnK_stay e]; omega
theorem agK_step {f : Nat → Int} {k : Nat} (h : k = 0 ∨ f k ≤ mnK f k) : agK f (k + 1) = k := by simp only [agK]; rw [if_pos h]
theorem agK_stay {f : Nat → Int} {k : Nat} (h : ¬ (k = 0 ∨ f k ≤ mnK f k)) : agK f (k + 1) = agK f k := by simp only [agK]; rw [if_neg h]
theorem agK_val (f : Nat → Int) (K : Nat) : f (agK f (K + 1)) = mnK f (K + 1) ∧ agK f (K + 1) < K + 1 ∧ ∀ j, agK f (K + 1) < j → j < K + 1 → ¬ f j = mnK f (K + 1) := by
  induction K with
  | zero => exact ⟨by simp [agK, mnK], by simp [agK], fun j h1 h2 => by omega⟩
  | succ K ih =>
    by_cases h : K + 1 = 0 ∨ f (K + 1) ≤ mnK f (K + 1)
    · rw [agK_step h, mnK_le h]
      exact ⟨rfl, by omega, fun j h1 h2 => by omega⟩
    · have e : ¬ (K + 1 = 0 ∨ f (K + 1) < mnK f (K + 1)) := by omega
      rw [agK_stay h, mnK_stay e]
      refine ⟨ih.1, by omega, fun j h1 h2 => ?_⟩
      by_cases ej : j = K + 1
      · subst ej; omega
      · exact ih.2.2 j h1 (by omega)
theorem mnK_min {f : Nat → Int} {K k : Nat} (h : k < K) : mnK f K ≤ f k := by
  induction K with
  | zero => omega
  | succ K ih =>
    by_cases e : K = 0 ∨ f K < mnK f K
    · rw [mnK_step e]
      by_cases ek : k = K
      · subst ek; omega
      · have := ih (by omega); omega
    · rw [mnK_stay e]
      by_cases ek : k = K
      · subst ek; omega
      · exact ih (by omega)
/-- The least prices of 0 to n bricks. -/
def blP (S P : List Int) : Nat → List Int
  | 0 => [0]
  | n + 1 => blP S P n ++ [mnK (fun k => P.getD k 0 + (blP S P n).getD (((n + 1 : Nat) : Int) - S.getD k 0).toNat 0) S.length]
def lpP (S P : List Int) (n : Nat) : Int := (blP S P n).getD n 0
/-- What n bricks cost where a pack of the size k is the first. -/
def csP (S P : List Int) (n k : Nat) : Int := P.getD k 0 + lpP S P ((n : Int) - S.getD k 0).toNat
theorem blP_len (S P : List Int) (n : Nat) : (blP S P n).length = n + 1 := by
  induction n with
  | zero => rfl
  | succ n ih => simp [blP, ih]
theorem blP_pre (S P : List Int) {n i : Nat} (h : i ≤ n) : (blP S P n).getD i 0 = lpP S P i := by
  induction n with
  | zero => obtain rfl : i = 0 := by omega
            rfl
  | succ n ih =>
    by_cases e : i = n + 1
    · subst e; rfl
    · rw [← ih (by omega)]
      have hl := blP_len S P n
      simp only [blP, List.getD_eq_getElem?_getD]
      rw [List.getElem?_append_left (by omega)]
theorem lpP_zero (S P : List Int) : lpP S P 0 = 0 := rfl
theorem lpP_succ {S P : List Int} (hS : ∀ k, k < S.length → 1 ≤ S.getD k 0) (n : Nat) : lpP S P (n + 1) = mnK (csP S P (n + 1)) S.length := by
  have hl := blP_len S P n
  have e : lpP S P (n + 1) = mnK (fun k => P.getD k 0 + (blP S P n).getD (((n + 1 : Nat) : Int) - S.getD k 0).toNat 0) S.length := by
    unfold lpP
    simp only [blP, List.getD_eq_getElem?_getD]
    rw [List.getElem?_append_right (by omega), hl]
    simp
  rw [e]
  refine mnK_congr fun k hk => ?_
  have := hS k hk
  show _ = P.getD k 0 + _
  rw [blP_pre S P (by omega)]
/-- What CheapestPacks takes. -/
def pkOk (S P : List Int) : Bool := inB S.length 1 5 && (decide (S.length = P.length) && (risesB 1 1000 S && allB P 1 100000))
theorem pkOk_true {S P : List Int} (h : pkOk S P = true) : (1 ≤ S.length ∧ S.length ≤ 5) ∧ S.length = P.length ∧ (∀ k, k < S.length → 1 ≤ S.getD k 0 ∧ S.getD k 0 ≤ 1000) ∧ ∀ k, k < S.length → 1 ≤ P.getD k 0 ∧ P.getD k 0 ≤ 100000 := by
  simp only [pkOk, Bool.and_eq_true, decide_eq_true_eq, inB_true] at h
  obtain ⟨⟨h1, h2⟩, h3, h4, h5⟩ := h
  refine ⟨⟨by omega, by omega⟩, h3, fun k hk => ?_, fun k hk => allB_getD h5 (by omega)⟩
  exact rises_all h4 _ (by rw [List.getD_eq_getElem?_getD, List.getElem?_eq_getElem hk]; exact List.getElem_mem hk)
theorem csP_range {S P : List Int} (h : pkOk S P = true) {n k : Nat} (hk : k < S.length) (ih : ∀ i, i < n → 0 ≤ lpP S P i ∧ lpP S P i ≤ 100000 * (i : Int)) (hn : 1 ≤ n) : 1 ≤ csP S P n k ∧ csP S P n k ≤ 100000 * (n : Int) := by
  obtain ⟨-, -, h1, h2⟩ := pkOk_true h
  have a := h1 k hk
  have b := h2 k hk
  have c := ih ((n : Int) - S.getD k 0).toNat (by omega)
  unfold csP
  omega
theorem lpP_range {S P : List Int} (h : pkOk S P = true) (n : Nat) : 0 ≤ lpP S P n ∧ lpP S P n ≤ 100000 * (n : Int) := by
  induction n using Nat.strongRecOn with
  | ind n ih =>
    cases n with
    | zero => rw [lpP_zero]; omega
    | succ n =>
      obtain ⟨⟨a, -⟩, -, h1, -⟩ := pkOk_true h
      rw [lpP_succ (fun k hk => (h1 k hk).1)]
      obtain ⟨K, hK⟩ : ∃ K, S.length = K + 1 := ⟨S.length - 1, by omega⟩
      rw [hK]
      have v := agK_val (csP S P (n + 1)) K
      rw [← v.1]
      have r := csP_range h (n := n + 1) (k := agK (csP S P (n + 1)) (K + 1)) (by omega) (fun i hi => ih i hi) (by omega)
      omega
/-- The packs of n bricks on top of X. -/
def pkP (S P : List Int) : Nat → Nat → List Int → List Int
  | 0, _, X => X
  | f + 1, n, X => if n = 0 then X else pkP S P f ((n : Int) - S.getD (agK (csP S P n) S.length) 0).toNat (X.set (agK (csP S P n) S.length) (X.getD (agK (csP S P n) S.length) 0 + 1))
theorem pkP_zero (S P : List Int) (f : Nat) (X : List Int) : pkP S P f 0 X = X := by cases f <;> simp [pkP]
theorem pkP_step (S P : List Int) (f n : Nat) (X : List Int) (h : ¬ n = 0) : pkP S P (f + 1) n X = pkP S P f ((n : Int) - S.getD (agK (csP S P n) S.length) 0).toNat (X.set (agK (csP S P n) S.length) (X.getD (agK (csP S P n) S.length) 0 + 1)) := by
  simp only [pkP]; rw [if_neg h]
/-- How far the packing has gone: n bricks are left, X are the packs. -/
def PkAt (S P : List Int) (N : Nat) (n : Nat) (X : List Int) : Prop := n ≤ N ∧ X.length = S.length ∧ (∀ k, 0 ≤ X.getD k 0 ∧ X.getD k 0 ≤ (N : Int) - n) ∧ ∃ f, n ≤ f ∧ pkP S P N N (List.replicate S.length 0) = pkP S P f n X
theorem PkAt.start (S P : List Int) (N : Nat) : PkAt S P N N (List.replicate S.length 0) := by
  refine ⟨Nat.le_refl _, by simp, fun k => ?_, N, Nat.le_refl _, rfl⟩
  have e : (List.replicate S.length (0 : Int)).getD k 0 = 0 := by
    rw [List.getD_eq_getElem?_getD, List.getElem?_replicate]
    split <;> rfl
  rw [e]; omega
theorem PkAt.next {S P : List Int} {N n : Nat} {X : List Int} (h : PkAt S P N n X) (hn : ¬ n = 0) {j : Nat} (hj : j = agK (csP S P n) S.length) {q : Nat} (hq : q = ((n : Int) - S.getD j 0).toNat) (hlt : q < n) : PkAt S P N q (X.set j (X.getD j 0 + 1)) := by
  obtain ⟨h1, h2, h3, f, h4, h5⟩ := h
  obtain ⟨g, rfl⟩ : ∃ g, f = g + 1 := ⟨f - 1, by omega⟩
  refine ⟨by omega, by simp [h2], fun k => ?_, g, by omega, ?_⟩
  · have a := h3 k
    have b := h3 j
    rw [List.getD_eq_getElem?_getD, List.getElem?_set]
    by_cases e : j = k
    · subst e
      rw [if_pos rfl]
      by_cases e2 : j < X.length
      · rw [if_pos e2]; simp only [Option.getD_some]; omega
      · rw [if_neg e2]; simp only [Option.getD_none]; omega
    · rw [if_neg e, ← List.getD_eq_getElem?_getD]; omega
  · rw [h5, pkP_step _ _ _ _ _ hn, hq, hj]
theorem PkAt.done {S P : List Int} {N : Nat} {X : List Int} (h : PkAt S P N 0 X) : pkP S P N N (List.replicate S.length 0) = X := by
  obtain ⟨-, -, -, f, -, h⟩ := h
  rw [h, pkP_zero]
/-- The answer. -/
def pkG (S P : List Int) (N : Int) : Bool := pkOk S P && inB N 0 3000
def pkC (S P : List Int) (N : Int) : Int := if pkG S P N = true then 0 else 2
def pkL (S P : List Int) (N : Int) : List Int := if pkG S P N = true then pkP S P N.toNat N.toNat (List.replicate S.length 0) else []
theorem pkL_good {S P : List Int} {N : Nat} (h : pkG S P (N : Int) = true) : pkL S P (N : Int) = pkP S P N N (List.replicate S.length 0) := by unfold pkL; rw [if_pos h]; simp
theorem pkL_len {S P : List Int} {N : Int} : (pkL S P N).length ≤ 1048576 := by
  unfold pkL
  split
  · rename_i h
    have h1 : pkOk S P = true := by simp only [pkG, Bool.and_eq_true] at h; exact h.1
    have hs := (pkOk_true h1).1
    have : ∀ f n X, (pkP S P f n X).length = X.length := by
      intro f
      induction f with
      | zero => intro n X; rfl
      | succ f ih =>
        intro n X
        by_cases e : n = 0
        · subst e; rw [pkP_zero]
        · rw [pkP_step _ _ _ _ _ e, ih]; simp
    rw [this]; simp; omega
  · simp
end Go.Proofs.Ytlglijalhacmhab
