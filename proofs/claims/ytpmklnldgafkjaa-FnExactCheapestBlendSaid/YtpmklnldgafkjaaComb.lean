/-
  All ways to part a number, in order, and the cheapest one of some. Plain data: nothing of the dump.
-/
import Derived.Test.YtpmklnldgafkjaaParts
namespace Go.Proofs.Ytpmklnldgafkjaa
open Go.ChangeShapes Go.WideShapes Go.ChangeAt Go.RowKit Go.Joins

/-- All lists of m numbers with the sum r, the lesser first. -/
def combs : Nat → Nat → List (List Int)
  | 0, r => if r = 0 then [[]] else []
  | m + 1, r => (List.range (r + 1)).flatMap fun (n : Nat) => (combs m (r - n)).map fun P => (n : Int) :: P
/-- Those that begin with Q and keep what is asked. -/
def kp (ok : List Int → Bool) (Q : List Int) (m r : Nat) : List (List Int) := ((combs m r).map fun P => Q ++ P).filter ok
/-- Those among them whose next number is below n. -/
def kpTo (ok : List Int → Bool) (Q : List Int) (m r n : Nat) : List (List Int) := (List.range n).flatMap fun (j : Nat) => kp ok (Q ++ [(j : Int)]) m (r - j)

theorem combs_zero (r : Nat) : combs 0 r = if r = 0 then [[]] else [] := rfl
theorem combs_succ (m r : Nat) : combs (m + 1) r = (List.range (r + 1)).flatMap fun (n : Nat) => (combs m (r - n)).map fun P => (n : Int) :: P := rfl
theorem kp_zero (ok : List Int → Bool) (Q : List Int) (r : Nat) : kp ok Q 0 r = if r = 0 then (if ok Q = true then [Q] else []) else [] := by
  unfold kp
  rw [combs_zero]
  by_cases h : r = 0
  · cases h2 : ok Q <;> simp [h, h2]
  · simp [h]
theorem kp_succ (ok : List Int → Bool) (Q : List Int) (m r : Nat) : kp ok Q (m + 1) r = kpTo ok Q m r (r + 1) := by
  unfold kp kpTo
  rw [combs_succ, List.map_flatMap, List.filter_flatMap]
  congr 1
  funext n
  unfold kp
  rw [List.map_map]
  congr 1
  apply List.map_congr_left
  intro P _
  simp
theorem kpTo_zero (ok : List Int → Bool) (Q : List Int) (m r : Nat) : kpTo ok Q m r 0 = [] := by simp [kpTo]
theorem kpTo_succ (ok : List Int → Bool) (Q : List Int) (m r n : Nat) : kpTo ok Q m r (n + 1) = kpTo ok Q m r n ++ kp ok (Q ++ [(n : Int)]) m (r - n) := by
  unfold kpTo
  rw [List.range_succ, List.flatMap_append]
  simp

/-- How many begin with less than n. -/
def cntTo (m r n : Nat) : Nat := ((List.range n).flatMap fun (n : Nat) => (combs m (r - n)).map fun P => (n : Int) :: P).length
theorem cntTo_succ (m r n : Nat) : cntTo m r (n + 1) = cntTo m r n + (combs m (r - n)).length := by
  unfold cntTo
  rw [List.range_succ, List.flatMap_append, List.length_append]
  simp
theorem cntTo_mono {m r n k : Nat} (h : n ≤ k) : cntTo m r n ≤ cntTo m r k := by
  induction k with
  | zero => have : n = 0 := by omega
            subst this; exact Nat.le_refl _
  | succ k ih =>
    by_cases e : n = k + 1
    · subst e; exact Nat.le_refl _
    · rw [cntTo_succ]; have := ih (by omega); omega
theorem cntTo_all (m r : Nat) : cntTo m r (r + 1) = (combs (m + 1) r).length := rfl
theorem kp_length (ok : List Int → Bool) (Q : List Int) (m r : Nat) : (kp ok Q m r).length ≤ (combs m r).length := by
  unfold kp
  refine Nat.le_trans (List.length_filter_le _ _) ?_
  simp
theorem kpTo_length (ok : List Int → Bool) (Q : List Int) (m r n : Nat) : (kpTo ok Q m r n).length ≤ cntTo m r n := by
  induction n with
  | zero => exact Nat.zero_le _
  | succ n ih =>
    rw [kpTo_succ, cntTo_succ, List.length_append]
    have := kp_length ok (Q ++ [(n : Int)]) m (r - n)
    omega
theorem room (ok : List Int → Bool) (Q : List Int) (m r n : Nat) (h : n ≤ r) : (kpTo ok Q m r n).length + (combs m (r - n)).length ≤ (combs (m + 1) r).length := by
  have h1 := kpTo_length ok Q m r n
  have h2 := cntTo_succ m r n
  have h3 := cntTo_mono (m := m) (r := r) (show n + 1 ≤ r + 1 by omega)
  rw [cntTo_all] at h3
  omega
theorem combs_many (m : Nat) : ∀ r R : Nat, r ≤ R → (combs m r).length ≤ (R + 1) ^ m := by
  induction m with
  | zero => intro r R _; rw [combs_zero]; split <;> simp
  | succ m ih =>
    intro r R hr
    have h (n : Nat) : cntTo m r n ≤ n * (R + 1) ^ m := by
      induction n with
      | zero => exact Nat.zero_le _
      | succ n ih2 =>
        rw [cntTo_succ, Nat.succ_mul]
        have := ih (r - n) R (by omega)
        omega
    have h1 := h (r + 1)
    rw [cntTo_all] at h1
    refine Nat.le_trans h1 ?_
    rw [Nat.pow_succ, Nat.mul_comm]
    exact Nat.mul_le_mul_left _ (by omega)
theorem combs_few {m r : Nat} (hm : m ≤ 6) (hr : r ≤ 12) : (combs m r).length ≤ 4826809 := by
  refine Nat.le_trans (combs_many m r 12 hr) ?_
  exact Nat.pow_le_pow_right (n := 13) (by omega) hm

/-- Sums and rightness of a list with one number more. -/
theorem sumTo_append (Q R : List Int) : ∀ k, k ≤ Q.length → sumTo (Q ++ R) k = sumTo Q k
  | 0, _ => rfl
  | k + 1, h => by
    show sumTo (Q ++ R) k + _ = sumTo Q k + _
    rw [sumTo_append Q R k (by omega), List.getElem?_append_left (by omega)]
theorem sumP_snoc (Q : List Int) (z : Int) : sumP (Q ++ [z]) = sumP Q + z := by
  unfold sumP
  rw [List.length_append]
  show sumTo (Q ++ [z]) (Q.length + 1) = _
  rw [sumTo_step (z := z) (by simp), sumTo_append Q [z] _ (Nat.le_refl _)]
theorem partsTo_append (Q R : List Int) : ∀ k, k ≤ Q.length → partsTo (Q ++ R) k = partsTo Q k
  | 0, _ => rfl
  | k + 1, h => by
    show (partsTo (Q ++ R) k && _) = (partsTo Q k && _)
    rw [partsTo_append Q R k (by omega), List.getElem?_append_left (by omega)]
theorem okParts_snoc {Q : List Int} {z : Int} (h : okParts Q = true) (h0 : 0 ≤ z) (h1 : z ≤ 1000) : okParts (Q ++ [z]) = true := by
  unfold okParts at h ⊢
  rw [List.length_append]
  show partsTo (Q ++ [z]) (Q.length + 1) = true
  rw [partsTo_step (z := z) (by simp), partsTo_append Q [z] _ (Nat.le_refl _), h, inB_true.2 ⟨h0, h1⟩]
  rfl

/-- Each of them is as long, and right. -/
theorem kp_mem (ok : List Int → Bool) : ∀ (m r : Nat) (Q : List Int), r ≤ 1000 → okParts Q = true → ∀ P ∈ kp ok Q m r, P.length = Q.length + m ∧ okParts P = true ∧ ok P = true
  | 0, r, Q, _, hQ, P, hP => by
    rw [kp_zero] at hP
    split at hP
    · split at hP
      · rename_i h
        simp at hP
        subst hP
        exact ⟨rfl, hQ, h⟩
      · simp at hP
    · simp at hP
  | m + 1, r, Q, hr, hQ, P, hP => by
    rw [kp_succ] at hP
    unfold kpTo at hP
    obtain ⟨j, hj, hP⟩ := List.mem_flatMap.1 hP
    have hj := List.mem_range.1 hj
    have h := kp_mem ok m (r - j) (Q ++ [(j : Int)]) (by omega) (okParts_snoc hQ (by omega) (by omega)) P hP
    rw [List.length_append] at h
    refine ⟨?_, h.2⟩
    have := h.1
    simp at this
    omega

/-- Lists of numbers, one against the other: at the first place where they part. -/
def lexC : List Int → List Int → Int
  | a :: s, b :: t => if a < b then -1 else if b < a then 1 else lexC s t
  | _ :: _, [] => 1
  | [], _ :: _ => -1
  | [], [] => 0
theorem lexC_same (Q A B : List Int) : lexC (Q ++ A) (Q ++ B) = lexC A B := by
  induction Q with
  | nil => rfl
  | cons q Q ih => show (if q < q then (-1 : Int) else if q < q then 1 else lexC (Q ++ A) (Q ++ B)) = _; rw [if_neg (by omega), if_neg (by omega), ih]
theorem combs_sorted : ∀ m r : Nat, (combs m r).Pairwise fun a b => lexC b a = 1
  | 0, r => by rw [combs_zero]; split <;> simp
  | m + 1, r => by
    rw [combs_succ, List.pairwise_flatMap]
    constructor
    · intro n _
      rw [List.pairwise_map]
      refine (combs_sorted m (r - n)).imp fun {a b} h => ?_
      show (if (n : Int) < n then (-1 : Int) else if (n : Int) < n then 1 else lexC b a) = 1
      rw [if_neg (by omega), if_neg (by omega), h]
    · refine List.pairwise_lt_range.imp fun {i j} hij => ?_
      intro a ha b hb
      obtain ⟨A, _, rfl⟩ := List.mem_map.1 ha
      obtain ⟨B, _, rfl⟩ := List.mem_map.1 hb
      show (if (j : Int) < i then (-1 : Int) else if (i : Int) < j then 1 else lexC B A) = 1
      rw [if_neg (by omega), if_pos (by omega)]
theorem kp_sorted (ok : List Int → Bool) (Q : List Int) (m r : Nat) : (kp ok Q m r).Pairwise fun a b => lexC b a = 1 := by
  unfold kp
  refine List.Pairwise.filter _ ?_
  rw [List.pairwise_map]
  exact (combs_sorted m r).imp fun {a b} h => by rw [lexC_same]; exact h

/-- The first one of the least price. -/
def better (f : List Int → Int) (o : Option (List Int)) (P : List Int) : Option (List Int) :=
  match o with
  | none => some P
  | some B => if f P < f B then some P else some B
def bestOf (f : List Int → Int) (K : List (List Int)) : Option (List Int) := K.foldl (better f) none
theorem bestOf_nil (f : List Int → Int) : bestOf f [] = none := rfl
theorem bestOf_snoc (f : List Int → Int) (K : List (List Int)) (P : List Int) : bestOf f (K ++ [P]) = better f (bestOf f K) P := by
  unfold bestOf
  rw [List.foldl_append]
  rfl
theorem bestOf_rev (f : List Int → Int) : ∀ R : List (List Int), (∀ B, bestOf f R.reverse = some B → B ∈ R) ∧ (bestOf f R.reverse = none → R = [])
  | [] => ⟨fun B h => by simp [bestOf_nil] at h, fun _ => rfl⟩
  | P :: R => by
    rw [List.reverse_cons, bestOf_snoc]
    have ih := bestOf_rev f R
    cases h : bestOf f R.reverse with
    | none => exact ⟨fun B hB => by simp [better] at hB; simp [hB], fun hB => by simp [better] at hB⟩
    | some C =>
      have hC := ih.1 C h
      by_cases hp : f P < f C
      · exact ⟨fun B hB => by simp [better, hp] at hB; simp [hB], fun hB => by simp [better, hp] at hB⟩
      · exact ⟨fun B hB => by simp [better, hp] at hB; subst hB; exact List.mem_cons_of_mem _ hC, fun hB => by simp [better, hp] at hB⟩
theorem bestOf_mem {f : List Int → Int} {K : List (List Int)} {B : List Int} (h : bestOf f K = some B) : B ∈ K := by
  have := (bestOf_rev f K.reverse).1 B (by rw [List.reverse_reverse]; exact h)
  simpa using this
theorem bestOf_none {f : List Int → Int} {K : List (List Int)} (h : bestOf f K = none) : K = [] := by
  have := (bestOf_rev f K.reverse).2 (by rw [List.reverse_reverse]; exact h)
  simpa using this
theorem take_one {α : Type} {K : List α} {k : Nat} {P : α} (h : K[k]? = some P) : K.take (k + 1) = K.take k ++ [P] := by
  rw [List.take_add_one, h]
  rfl
/-- What stands behind in order is greater than what stands before. -/
theorem sorted_at {K : List (List Int)} (h : K.Pairwise fun a b => lexC b a = 1) {k : Nat} {P B : List Int} (hk : K[k]? = some P) (hB : B ∈ K.take k) : lexC P B = 1 := by
  have h1 : (K.take (k + 1)).Pairwise fun a b => lexC b a = 1 := h.sublist (List.take_sublist _ _)
  rw [take_one hk, List.pairwise_append] at h1
  exact h1.2.2 B hB P (by simp)
end Go.Proofs.Ytpmklnldgafkjaa
