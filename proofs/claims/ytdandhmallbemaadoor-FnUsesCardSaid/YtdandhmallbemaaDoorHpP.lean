/-
  A heap of pairs of numbers, plainly: what container/heap does to a row. Nothing of the dump.
-/
import Derived.Test.YtdandhmallbemaaDoorBase
namespace Go.Proofs.YtdandhmallbemaaDoor
open Go.ChangeShapes Go.WideShapes Go.ChangeAt Go.RowKit Go.Joins

def tlt (a b : Int × Int) : Prop := a.1 < b.1 ∨ (a.1 = b.1 ∧ a.2 < b.2)
instance (a b : Int × Int) : Decidable (tlt a b) := by unfold tlt; infer_instance
def tle (a b : Int × Int) : Prop := ¬ tlt b a
theorem tle_refl (a : Int × Int) : tle a a := by unfold tle tlt; omega
theorem tle_trans {a b c : Int × Int} (h : tle a b) (k : tle b c) : tle a c := by unfold tle tlt at *; omega
theorem tle_of_lt {a b : Int × Int} (h : tlt a b) : tle a b := by unfold tle tlt at *; omega
theorem tle_anti {a b : Int × Int} (h : tle a b) (k : tle b a) : a = b := by
  unfold tle tlt at *
  exact Prod.ext (by omega) (by omega)
def tg (L : List (Int × Int)) (k : Nat) : Int × Int := L.getD k (0, 0)
theorem tg_get {L : List (Int × Int)} {k : Nat} (h : k < L.length) : L[k]? = some (tg L k) := by
  unfold tg
  rw [List.getD_eq_getElem?_getD, List.getElem?_eq_getElem h]
  rfl
theorem tg_elem {L : List (Int × Int)} {k : Nat} (h : k < L.length) : L[k] = tg L k := by
  have := tg_get h
  rw [List.getElem?_eq_getElem h] at this
  exact Option.some.inj this
theorem tg_mem {L : List (Int × Int)} {k : Nat} (h : k < L.length) : tg L k ∈ L := List.mem_of_getElem? (tg_get h)
def swapL (L : List (Int × Int)) (i j : Nat) : List (Int × Int) := (L.set i (tg L j)).set j (tg L i)
@[simp] theorem swapL_length (L : List (Int × Int)) (i j : Nat) : (swapL L i j).length = L.length := by simp [swapL]
theorem tg_set {L : List (Int × Int)} {i k : Nat} {x : Int × Int} (hi : i < L.length) : tg (L.set i x) k = if k = i then x else tg L k := by
  unfold tg
  rw [List.getD_eq_getElem?_getD, List.getD_eq_getElem?_getD, List.getElem?_set]
  by_cases h : i = k
  · subst h; simp [hi]
  · simp [h, Ne.symm h]
theorem tg_swap {L : List (Int × Int)} {i j : Nat} (hi : i < L.length) (hj : j < L.length) (k : Nat) : tg (swapL L i j) k = if k = j then tg L i else if k = i then tg L j else tg L k := by
  unfold swapL
  rw [tg_set (by simpa using hj), tg_set hi]
theorem swapL_perm {L : List (Int × Int)} {i j : Nat} (hi : i < L.length) (hj : j < L.length) : (swapL L i j).Perm L := by
  unfold swapL
  rw [← tg_elem hi, ← tg_elem hj]
  exact List.set_set_perm hi hj

def HeapN (L : List (Int × Int)) (n : Nat) : Prop := ∀ k, 0 < k → k < n → tle (tg L ((k - 1) / 2)) (tg L k)
/-- All stands right but that j may be less than its parent. -/
def UpAt (L : List (Int × Int)) (j : Nat) : Prop := (∀ k, 0 < k → k < L.length → k ≠ j → tle (tg L ((k - 1) / 2)) (tg L k)) ∧ (∀ k, 0 < k → k < L.length → (k - 1) / 2 = j → 0 < j → tle (tg L ((j - 1) / 2)) (tg L k))
theorem up_done {L : List (Int × Int)} {j : Nat} (h : UpAt L j) (hj : j = 0 ∨ tle (tg L ((j - 1) / 2)) (tg L j)) : HeapN L L.length := by
  intro k h0 hk
  by_cases e : k = j
  · subst e
    rcases hj with h1 | h1
    · omega
    · exact h1
  · exact h.1 k h0 hk e
theorem up_step {L : List (Int × Int)} {j : Nat} (h : UpAt L j) (h0 : 0 < j) (hj : j < L.length) (hlt : tlt (tg L j) (tg L ((j - 1) / 2))) : UpAt (swapL L ((j - 1) / 2) j) ((j - 1) / 2) := by
  obtain ⟨h1, h2⟩ := h
  obtain ⟨i, hi⟩ : ∃ i, (j - 1) / 2 = i := ⟨_, rfl⟩
  rw [hi] at hlt ⊢
  have hij : i < j := by omega
  have hil : i < L.length := by omega
  refine ⟨fun k k0 hk hne => ?_, fun k k0 hk hp hpos => ?_⟩
  · rw [swapL_length] at hk
    rw [tg_swap hil hj, tg_swap hil hj]
    by_cases e1 : k = j
    · subst e1
      have e2 : ¬ (k - 1) / 2 = k := by omega
      simp only [hi, if_true]
      rw [if_neg (by omega : ¬ i = k)]
      exact tle_of_lt hlt
    · by_cases e3 : (k - 1) / 2 = j
      · rw [if_pos e3, if_neg e1, if_neg hne]
        have := h2 k k0 hk e3 h0
        rwa [hi] at this
      · by_cases e4 : (k - 1) / 2 = i
        · rw [if_neg e3, if_pos e4, if_neg e1, if_neg hne]
          have := h1 k k0 hk e1
          rw [e4] at this
          exact tle_trans (tle_of_lt hlt) this
        · rw [if_neg e3, if_neg e4, if_neg e1, if_neg hne]
          exact h1 k k0 hk e1
  · rw [swapL_length] at hk
    rw [tg_swap hil hj, tg_swap hil hj]
    have p1 := h1 i hpos hil (by omega)
    rw [if_neg (by omega : ¬ (i - 1) / 2 = j), if_neg (by omega : ¬ (i - 1) / 2 = i)]
    by_cases e1 : k = j
    · rw [if_pos e1]
      exact p1
    · rw [if_neg e1, if_neg (by omega : ¬ k = i)]
      have := h1 k k0 hk e1
      rw [hp] at this
      exact tle_trans p1 this
theorem tg_snoc_lt {L : List (Int × Int)} {t : Int × Int} {k : Nat} (h : k < L.length) : tg (L ++ [t]) k = tg L k := by
  unfold tg
  rw [List.getD_eq_getElem?_getD, List.getD_eq_getElem?_getD, List.getElem?_append_left h]
theorem up_start {L : List (Int × Int)} (t : Int × Int) (h : HeapN L L.length) : UpAt (L ++ [t]) L.length := by
  refine ⟨fun k k0 hk hne => ?_, fun k k0 hk hp hpos => ?_⟩
  · simp at hk
    have hk' : k < L.length := by omega
    rw [tg_snoc_lt hk', tg_snoc_lt (by omega)]
    exact h k k0 hk'
  · simp at hk
    omega
/-- Among the first n all stands right but that i may be greater than its children. -/
def DownAt (L : List (Int × Int)) (n i : Nat) : Prop := (∀ k, 0 < k → k < n → (k - 1) / 2 ≠ i → tle (tg L ((k - 1) / 2)) (tg L k)) ∧ (∀ k, 0 < k → k < n → (k - 1) / 2 = i → 0 < i → tle (tg L ((i - 1) / 2)) (tg L k))
theorem down_leaf {L : List (Int × Int)} {n i : Nat} (h : DownAt L n i) (hl : n ≤ 2 * i + 1) : HeapN L n := fun k k0 hk => h.1 k k0 hk (by omega)
/-- The lesser child. -/
def Child (L : List (Int × Int)) (n i j : Nat) : Prop := j < n ∧ (j = 2 * i + 1 ∨ j = 2 * i + 2) ∧ ∀ k, k < n → (k = 2 * i + 1 ∨ k = 2 * i + 2) → tle (tg L j) (tg L k)
theorem down_done {L : List (Int × Int)} {n i j : Nat} (h : DownAt L n i) (hc : Child L n i j) (hle : tle (tg L i) (tg L j)) : HeapN L n := fun k k0 hk => by
  by_cases e : (k - 1) / 2 = i
  · rw [e]
    exact tle_trans hle (hc.2.2 k hk (by omega))
  · exact h.1 k k0 hk e
theorem down_step {L : List (Int × Int)} {n i j : Nat} (h : DownAt L n i) (hn : n ≤ L.length) (hc : Child L n i j) (hlt : tlt (tg L j) (tg L i)) : DownAt (swapL L i j) n j := by
  obtain ⟨h1, h2⟩ := h
  obtain ⟨c1, c2, c3⟩ := hc
  have hjl : j < L.length := by omega
  have hil : i < L.length := by omega
  have hpj : (j - 1) / 2 = i := by omega
  refine ⟨fun k k0 hk hne => ?_, fun k k0 hk hp hpos => ?_⟩
  · rw [tg_swap hil hjl, tg_swap hil hjl, if_neg hne]
    by_cases e1 : k = i
    · subst e1
      rw [if_neg (by omega : ¬ (k - 1) / 2 = k), if_neg (by omega : ¬ k = j), if_pos rfl]
      have := h2 j (by omega) c1 hpj k0
      exact this
    · by_cases e2 : (k - 1) / 2 = i
      · rw [if_pos e2]
        by_cases e3 : k = j
        · rw [if_pos e3]
          exact tle_of_lt hlt
        · rw [if_neg e3, if_neg e1]
          exact c3 k hk (by omega)
      · rw [if_neg e2, if_neg (by omega : ¬ k = j), if_neg e1]
        exact h1 k k0 hk e2
  · rw [tg_swap hil hjl, tg_swap hil hjl, hpj, if_neg (by omega : ¬ i = j), if_pos rfl, if_neg (by omega : ¬ k = j), if_neg (by omega : ¬ k = i)]
    have := h1 k k0 hk (by omega)
    rwa [hp] at this
theorem down_start {L : List (Int × Int)} {n : Nat} (hl : L.length = n + 1) (h : HeapN L L.length) : DownAt (swapL L 0 n) n 0 := by
  refine ⟨fun k k0 hk hne => ?_, fun k k0 hk hp hpos => by omega⟩
  rw [tg_swap (by omega) (by omega), tg_swap (by omega) (by omega), if_neg (by omega : ¬ (k - 1) / 2 = n), if_neg hne, if_neg (by omega : ¬ k = n), if_neg (by omega : ¬ k = 0)]
  exact h k k0 (by omega)
theorem heap_min {L : List (Int × Int)} {n : Nat} (h : HeapN L n) : ∀ k, k < n → tle (tg L 0) (tg L k) := by
  intro k
  induction k using Nat.strongRecOn with
  | _ k ih =>
    intro hk
    by_cases k0 : k = 0
    · subst k0; exact tle_refl _
    · exact tle_trans (ih ((k - 1) / 2) (by omega) (by omega)) (h k (by omega) hk)
theorem heap_take {L : List (Int × Int)} {n : Nat} (h : HeapN L n) (hn : n ≤ L.length) : HeapN (L.take n) (L.take n).length := by
  have hl : (L.take n).length = n := by simp; omega
  have e : ∀ k, k < n → tg (L.take n) k = tg L k := fun k hk => by
    unfold tg
    rw [List.getD_eq_getElem?_getD, List.getD_eq_getElem?_getD, List.getElem?_take_of_lt hk]
  intro k k0 hk
  rw [hl] at hk
  rw [e k hk, e _ (by omega)]
  exact h k k0 hk
theorem take_last {L : List (Int × Int)} {n : Nat} (hl : L.length = n + 1) : L.take n ++ [tg L n] = L := by
  have h := List.take_succ_eq_append_getElem (l := L) (i := n) (by omega)
  rw [tg_elem] at h
  rw [← h, List.take_of_length_le (by omega)]
/-- What is popped is the least. -/
theorem heap_root {L Q : List (Int × Int)} {r : Int × Int} (h : HeapN L L.length) (hr : tg L 0 = r) (hp : L.Perm Q) : ∀ x ∈ Q, tle r x := fun x hx => by
  obtain ⟨k, hk, e⟩ := List.getElem_of_mem (hp.mem_iff.2 hx)
  have := heap_min h k hk
  rw [hr, ← tg_elem hk, e] at this
  exact this
end Go.Proofs.YtdandhmallbemaaDoor
