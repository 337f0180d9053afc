/-
  ShareUses: plain facts. Which mould is used next, how often each is used, and what a heap of turns holds.
-/
import Derived.Test.YtdandhmallbemaaDoorHpP
import Derived.Test.YtdandhmallbemaaDoorBeP
namespace Go.Proofs.YtdandhmallbemaaDoor
open Go.ChangeShapes Go.WideShapes Go.ChangeAt Go.RowKit Go.Joins

/-- The first of the least among the first k. -/
def leastTo (V : Nat → Int) : Nat → Nat
  | 0 => 0
  | k + 1 => if k = 0 then 0 else if V k < V (leastTo V k) then k else leastTo V k
theorem leastTo_one (V : Nat → Int) : leastTo V 1 = 0 := rfl
theorem leastTo_step {V : Nat → Int} {k : Nat} (h : 1 ≤ k) : leastTo V (k + 1) = if V k < V (leastTo V k) then k else leastTo V k := by
  have : ¬ k = 0 := by omega
  show (if k = 0 then 0 else _) = _
  rw [if_neg this]
theorem leastTo_lt (V : Nat → Int) : ∀ k, 1 ≤ k → leastTo V k < k
  | 0, h => by omega
  | 1, _ => by rw [leastTo_one]; omega
  | k + 2, _ => by
    have ih := leastTo_lt V (k + 1) (by omega)
    rw [leastTo_step (by omega)]
    split <;> omega
theorem leastTo_min (V : Nat → Int) : ∀ k, 1 ≤ k → (∀ j, j < k → V (leastTo V k) ≤ V j) ∧ (∀ j, j < leastTo V k → V (leastTo V k) < V j)
  | 0, h => by omega
  | 1, _ => by
    rw [leastTo_one]
    refine ⟨fun j hj => ?_, fun j hj => by omega⟩
    have : j = 0 := by omega
    subst this
    exact Int.le_refl _
  | k + 2, _ => by
    obtain ⟨i1, i2⟩ := leastTo_min V (k + 1) (by omega)
    rw [leastTo_step (by omega)]
    by_cases h : V (k + 1) < V (leastTo V (k + 1))
    · rw [if_pos h]
      refine ⟨fun j hj => ?_, fun j hj => ?_⟩
      · by_cases e : j = k + 1
        · subst e; exact Int.le_refl _
        · have := i1 j (by omega); omega
      · have := i1 j (by omega); omega
    · rw [if_neg h]
      refine ⟨fun j hj => ?_, i2⟩
      by_cases e : j = k + 1
      · subst e; omega
      · exact i1 j (by omega)
theorem leastTo_one_of {V : Nat → Int} {n b : Nat} (hn : 1 ≤ n) (hb : b < n) (h1 : ∀ j, j < n → V b ≤ V j) (h2 : ∀ j, j < b → V b < V j) : leastTo V n = b := by
  obtain ⟨i1, i2⟩ := leastTo_min V n hn
  have hl := leastTo_lt V n hn
  rcases Nat.lt_trichotomy (leastTo V n) b with e | e | e
  · have := h2 _ e; have := i1 b hb; omega
  · exact e
  · have := i2 _ e; have := h1 _ hl; omega

def usA (L : List Mo) (k : Nat) : Int := (atM L k).us
def og (O : List Int) (k : Nat) : Int := O.getD k 0
theorem og_get {O : List Int} {k : Nat} (h : k < O.length) : O[k]? = some (og O k) := by
  unfold og
  rw [List.getD_eq_getElem?_getD, List.getElem?_eq_getElem h]
  rfl
theorem og_set {O : List Int} {i k : Nat} {x : Int} (hi : i < O.length) : og (O.set i x) k = if k = i then x else og O k := by
  unfold og
  rw [List.getD_eq_getElem?_getD, List.getD_eq_getElem?_getD, List.getElem?_set]
  by_cases h : i = k
  · subst h; simp [hi]
  · simp [h, Ne.symm h]
/-- Who is next. -/
def nextU (L : List Mo) (O : List Int) : Nat := leastTo (fun k => usA L k + og O k) L.length
/-- How often each is used after n times. -/
def shTo (L : List Mo) : Nat → List Int
  | 0 => List.replicate L.length 0
  | n + 1 => (shTo L n).set (nextU L (shTo L n)) (og (shTo L n) (nextU L (shTo L n)) + 1)
theorem shTo_length (L : List Mo) : ∀ n, (shTo L n).length = L.length
  | 0 => by simp [shTo]
  | n + 1 => by simp [shTo, shTo_length L n]
theorem shTo_range (L : List Mo) : ∀ n k, 0 ≤ og (shTo L n) k ∧ og (shTo L n) k ≤ (n : Int)
  | 0, k => by
    unfold og shTo
    rw [List.getD_eq_getElem?_getD, List.getElem?_replicate]
    split <;> simp
  | n + 1, k => by
    have ih := shTo_range L n k
    have ib := shTo_range L n (nextU L (shTo L n))
    by_cases hlt : nextU L (shTo L n) < (shTo L n).length
    · show 0 ≤ og ((shTo L n).set _ _) k ∧ og ((shTo L n).set _ _) k ≤ _
      rw [og_set hlt]
      split <;> omega
    · have e : (shTo L n).set (nextU L (shTo L n)) (og (shTo L n) (nextU L (shTo L n)) + 1) = shTo L n := List.set_eq_of_length_le (by omega)
      show 0 ≤ og ((shTo L n).set _ _) k ∧ og ((shTo L n).set _ _) k ≤ _
      rw [e]
      omega
def suC (L : List Mo) (t : Int) : Int := if okMos L = true then (if inB t 0 2000 = true then (if L.length = 0 then 3 else 0) else 2) else 1
def suL (L : List Mo) (t : Int) : List Int := if suC L t = 0 then shTo L t.toNat else []
theorem suL_length (L : List Mo) (t : Int) (h : L.length ≤ 1048576) : (suL L t).length ≤ 1048577 := by
  unfold suL
  split
  · rw [shTo_length]; omega
  · simp
theorem su_bad {L : List Mo} {t q : Int} (h : suC L t = q) (hq : ¬ q = 0) : suL L t = [] := by unfold suL; rw [if_neg (by rw [h]; exact hq)]
theorem su_good {L : List Mo} {t : Int} (h : suC L t = 0) : suL L t = shTo L t.toNat := by unfold suL; rw [if_pos h]

/-- The turns of all moulds. -/
def turnsOf (L : List Mo) (O : List Int) : List (Int × Int) := (List.range L.length).map fun k => (usA L k + og O k, (k : Int))
theorem turnsOf_length (L : List Mo) (O : List Int) : (turnsOf L O).length = L.length := by simp [turnsOf]
theorem turnsOf_at {L : List Mo} {O : List Int} {k : Nat} (h : k < L.length) : (turnsOf L O)[k]? = some (usA L k + og O k, (k : Int)) := by
  simp [turnsOf, h]
/-- The least turn is that of the next mould. -/
theorem root_next {L : List Mo} {O : List Int} {Q : List (Int × Int)} {r : Int × Int} (hpos : 0 < L.length) (hQ : (r :: Q).Perm (turnsOf L O)) (hr : ∀ x ∈ turnsOf L O, tle r x) : r = (usA L (nextU L O) + og O (nextU L O), ((nextU L O : Nat) : Int)) ∧ nextU L O < L.length := by
  have hm : r ∈ turnsOf L O := hQ.mem_iff.1 (by simp)
  obtain ⟨b, hb, e⟩ := List.getElem_of_mem hm
  rw [turnsOf_length] at hb
  have e2 := turnsOf_at (O := O) hb
  rw [List.getElem?_eq_getElem (by rw [turnsOf_length]; exact hb), e] at e2
  have e3 := Option.some.inj e2
  have hall : ∀ j, j < L.length → tle r (usA L j + og O j, (j : Int)) := fun j hj => hr _ (List.mem_of_getElem? (turnsOf_at hj))
  have hn : nextU L O = b := by
    refine leastTo_one_of (V := fun k => usA L k + og O k) (by omega) hb (fun j hj => ?_) (fun j hj => ?_)
    · have := hall j hj
      rw [e3] at this
      unfold tle tlt at this
      simp at this
      show usA L b + og O b ≤ usA L j + og O j
      omega
    · have := hall j (by omega)
      rw [e3] at this
      unfold tle tlt at this
      simp at this
      show usA L b + og O b < usA L j + og O j
      omega
  rw [hn]
  exact ⟨e3, hb⟩
theorem perm_out {α : Type} {l : List α} {b : Nat} (h : b < l.length) : l.Perm (l[b] :: (l.take b ++ l.drop (b + 1))) := by
  have e : l = l.take b ++ l[b] :: l.drop (b + 1) := by rw [List.getElem_cons_drop, List.take_append_drop]
  exact (List.Perm.of_eq e).trans List.perm_middle
theorem perm_set {α : Type} {l : List α} {b : Nat} (h : b < l.length) (x : α) : (l.set b x).Perm (x :: (l.take b ++ l.drop (b + 1))) := by
  rw [List.set_eq_take_append_cons_drop, if_pos h]
  exact List.perm_middle
/-- With one use more it is in its place again. -/
theorem turns_next {L : List Mo} {O : List Int} {Q : List (Int × Int)} {b : Nat} (hO : O.length = L.length) (hb : b < L.length) (hQ : ((usA L b + og O b, (b : Int)) :: Q).Perm (turnsOf L O)) : ((usA L b + og O b + 1, (b : Int)) :: Q).Perm (turnsOf L (O.set b (og O b + 1))) := by
  have hl : b < (turnsOf L O).length := by rw [turnsOf_length]; exact hb
  have e1 : turnsOf L (O.set b (og O b + 1)) = (turnsOf L O).set b (usA L b + og O b + 1, (b : Int)) := by
    apply List.ext_getElem?
    intro j
    rw [List.getElem?_set]
    by_cases hj : j < L.length
    · rw [turnsOf_at hj, turnsOf_at hj, og_set (by omega)]
      by_cases e : b = j
      · subst e
        simp [hl, Int.add_assoc]
      · simp [e, Ne.symm e]
    · have h1 : (turnsOf L (O.set b (og O b + 1)))[j]? = none := List.getElem?_eq_none (by rw [turnsOf_length]; omega)
      have h2 : (turnsOf L O)[j]? = none := List.getElem?_eq_none (by rw [turnsOf_length]; omega)
      rw [h1, h2]
      have : ¬ b = j := by omega
      simp [this]
  have e2 : (turnsOf L O)[b] = (usA L b + og O b, (b : Int)) := by
    have := turnsOf_at (O := O) hb
    rw [List.getElem?_eq_getElem hl] at this
    exact Option.some.inj this
  have p1 := perm_out hl
  rw [e2] at p1
  have p2 : Q.Perm ((turnsOf L O).take b ++ (turnsOf L O).drop (b + 1)) := (hQ.trans p1).cons_inv
  rw [e1]
  exact (p2.cons _).trans (perm_set hl _).symm
/-- The turns of the first k, before any use. -/
def turnsTo (L : List Mo) (k : Nat) : List (Int × Int) := (List.range k).map fun j => (usA L j, (j : Int))
theorem turnsTo_step {L : List Mo} {k : Nat} {Q Q' : List (Int × Int)} {c : Mo} (hc : L[k]? = some c) (hQ : Q.Perm (turnsTo L k)) (h : Q'.Perm ((c.us, (k : Int)) :: Q)) : Q'.Perm (turnsTo L (k + 1)) := by
  have e : turnsTo L (k + 1) = turnsTo L k ++ [(usA L k, (k : Int))] := by simp [turnsTo, List.range_succ]
  have eu : usA L k = c.us := by unfold usA; rw [atM_eq hc]
  rw [e, eu]
  exact (h.trans (hQ.cons _)).trans (List.perm_append_singleton _ _).symm
theorem turnsTo_all (L : List Mo) : turnsTo L L.length = turnsOf L (shTo L 0) := by
  unfold turnsTo turnsOf
  apply List.map_congr_left
  intro k hk
  have : og (shTo L 0) k = 0 := by
    have := shTo_range L 0 k
    omega
  rw [this]
  simp
theorem turnsTo_length (L : List Mo) (k : Nat) : (turnsTo L k).length = k := by simp [turnsTo]
end Go.Proofs.YtdandhmallbemaaDoor
