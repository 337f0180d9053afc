/-
  The best mould: plain facts.
-/
import Derived.Test.YtdandhmallbemaaDoorMoDP
namespace Go.Proofs.YtdandhmallbemaaDoor
open Go.ChangeShapes Go.WideShapes Go.ChangeAt Go.RowKit Go.Joins

/-- What is compared: how far off, and the Uses. -/
def keyLt (s l wd ht : Int) (a b : Mo) : Prop := offF a s l wd ht < offF b s l wd ht ∨ (offF a s l wd ht = offF b s l wd ht ∧ a.us < b.us)
instance (s l wd ht : Int) (a b : Mo) : Decidable (keyLt s l wd ht a b) := by unfold keyLt; infer_instance
def atM (L : List Mo) (k : Nat) : Mo := L.getD k default
theorem atM_eq {L : List Mo} {k : Nat} {c : Mo} (h : L[k]? = some c) : atM L k = c := by unfold atM; rw [List.getD_eq_getElem?_getD, h]; rfl
theorem atM_get {L : List Mo} {k : Nat} (h : k < L.length) : L[k]? = some (atM L k) := by
  obtain ⟨c, hc⟩ : ∃ c, L[k]? = some c := ⟨_, List.getElem?_eq_getElem h⟩
  rw [atM_eq hc, hc]
/-- The best one among the first k. -/
def bestTo (s l wd ht : Int) (L : List Mo) : Nat → Nat
  | 0 => 0
  | k + 1 => if k = 0 then 0 else if keyLt s l wd ht (atM L k) (atM L (bestTo s l wd ht L k)) then k else bestTo s l wd ht L k
theorem bestTo_one (s l wd ht : Int) (L : List Mo) : bestTo s l wd ht L 1 = 0 := rfl
theorem bestTo_step {s l wd ht : Int} {L : List Mo} {k : Nat} (h : 1 ≤ k) : bestTo s l wd ht L (k + 1) = if keyLt s l wd ht (atM L k) (atM L (bestTo s l wd ht L k)) then k else bestTo s l wd ht L k := by
  show (if k = 0 then 0 else _) = _
  rw [if_neg (by omega)]
theorem bestTo_lt (s l wd ht : Int) (L : List Mo) : ∀ k, 1 ≤ k → bestTo s l wd ht L k < k
  | 0, h => by omega
  | k + 1, _ => by
    by_cases h0 : k = 0
    · subst h0; rw [bestTo_one]; omega
    · have := bestTo_lt s l wd ht L k (by omega)
      rw [bestTo_step (by omega)]
      split <;> omega
theorem bestTo_min (s l wd ht : Int) (L : List Mo) : ∀ k, 1 ≤ k → (∀ j, j < k → ¬ keyLt s l wd ht (atM L j) (atM L (bestTo s l wd ht L k))) ∧ (∀ j, j < bestTo s l wd ht L k → keyLt s l wd ht (atM L (bestTo s l wd ht L k)) (atM L j))
  | 0, h => by omega
  | k + 1, _ => by
    by_cases h0 : k = 0
    · subst h0
      rw [bestTo_one]
      refine ⟨fun j hj => ?_, fun j hj => by omega⟩
      have : j = 0 := by omega
      subst this
      unfold keyLt
      omega
    · obtain ⟨i1, i2⟩ := bestTo_min s l wd ht L k (by omega)
      have hb := bestTo_lt s l wd ht L k (by omega)
      rw [bestTo_step (by omega)]
      obtain ⟨b, hbb⟩ : ∃ b, bestTo s l wd ht L k = b := ⟨_, rfl⟩
      rw [hbb] at i1 i2 hb ⊢
      by_cases h : keyLt s l wd ht (atM L k) (atM L b)
      · rw [if_pos h]
        refine ⟨fun j hj hlt => ?_, fun j hj => ?_⟩
        · by_cases e : j = k
          · subst e; unfold keyLt at hlt; omega
          · have := i1 j (by omega)
            unfold keyLt at this h hlt
            omega
        · have := i1 j (by omega)
          unfold keyLt at this h ⊢
          omega
      · rw [if_neg h]
        refine ⟨fun j hj => ?_, i2⟩
        by_cases e : j = k
        · subst e; exact h
        · exact i1 j (by omega)
/-- No one before the best one is just the same. -/
theorem bestTo_first {s l wd ht : Int} {L : List Mo} {k j : Nat} (hk : 1 ≤ k) (hj : j < bestTo s l wd ht L k) : atM L j ≠ atM L (bestTo s l wd ht L k) := by
  intro e
  have := (bestTo_min s l wd ht L k hk).2 j hj
  rw [e] at this
  unfold keyLt at this
  omega
def beC (L : List Mo) (l wd ht j s : Int) : Int := if okMos L = true ∧ okB l wd ht j = true then (if inB s 0 200 = true then (if L.length = 0 then 3 else 0) else 2) else 1
def beN (L : List Mo) (l wd ht j s : Int) : Int := if beC L l wd ht j s = 0 then ((bestTo s l wd ht L L.length : Nat) : Int) else 0
theorem be_bad {L : List Mo} {l wd ht j s q : Int} (h : beC L l wd ht j s = q) (hq : ¬ q = 0) : beN L l wd ht j s = 0 := by unfold beN; rw [if_neg (by rw [h]; exact hq)]
theorem be_good {L : List Mo} {l wd ht j s : Int} (h : beC L l wd ht j s = 0) : beN L l wd ht j s = ((bestTo s l wd ht L L.length : Nat) : Int) := by unfold beN; rw [if_pos h]
theorem offF_range {c : Mo} (h : c.ok = true) {l wd ht j s : Int} (hf : okB l wd ht j = true) (s0 : 0 ≤ s) (s1 : s ≤ 200) : 0 ≤ offF c s l wd ht ∧ offF c s l wd ht ≤ 3000 := by
  have r0 := firedL_range h s0 s1 (k := 0) (x := firedF c.le s) rfl
  have r1 := firedL_range h s0 s1 (k := 1) (x := firedF c.wi s) rfl
  have r2 := firedL_range h s0 s1 (k := 2) (x := firedF c.he s) rfl
  have q0 := absD_range r0 (okB_size hf (k := 0) (y := l) rfl)
  have q1 := absD_range r1 (okB_size hf (k := 1) (y := wd) rfl)
  have q2 := absD_range r2 (okB_size hf (k := 2) (y := ht) rfl)
  unfold offF
  omega
end Go.Proofs.YtdandhmallbemaaDoor
