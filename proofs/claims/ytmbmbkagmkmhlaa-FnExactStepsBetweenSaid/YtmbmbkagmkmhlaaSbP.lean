/-
  Steps between levels as plain numbers.
-/
import Derived.Test.YtmbmbkagmkmhlaaGm
namespace Go.Proofs.Ytmbmbkagmkmhlaa
open Go.ChangeShapes Go.WideShapes Go.ChangeAt Go.RowKit Go.Joins

def stQ (cr p z : Int) : Int := (2 * (z - p) + cr) / (2 * cr)
def stL (cr : Int) (p : Int) : List Int → List Int
  | [] => []
  | z :: r => stQ cr p z :: stL cr z r
theorem stL_length (cr p : Int) (L : List Int) : (stL cr p L).length = L.length := by
  induction L generalizing p with
  | nil => rfl
  | cons z r ih => simp [stL, ih]
theorem stL_snoc (cr p z : Int) (L : List Int) : stL cr p (L ++ [z]) = stL cr p L ++ [stQ cr (L.getLastD p) z] := by
  induction L generalizing p with
  | nil => rfl
  | cons y r ih =>
    show stQ cr p y :: stL cr y (r ++ [z]) = stQ cr p y :: (stL cr y r ++ [stQ cr ((y :: r).getLastD p) z])
    rw [ih, List.getLastD_cons]
theorem stL_take {cr p z : Int} {Q : List Int} {k : Nat} (h : Q[k]? = some z) : stL cr p (Q.take (k + 1)) = stL cr p (Q.take k) ++ [stQ cr ((Q.take k).getLastD p) z] := by
  rw [List.take_add_one, h]
  exact stL_snoc cr p z _
theorem last_take {p z : Int} {Q : List Int} {k : Nat} (h : Q[k]? = some z) : (Q.take (k + 1)).getLastD p = z := by
  rw [List.take_add_one, h]
  simp
theorem rises_snoc {lo hi : Int} {L : List Int} (h : risesB lo (hi - 1) L = true) (hl : lo ≤ hi) : risesB lo hi (L ++ [hi]) = true := by
  induction L generalizing lo with
  | nil => simp [risesB, inB_true]; omega
  | cons z r ih =>
    simp only [risesB, Bool.and_eq_true, inB_true, List.cons_append] at h ⊢
    exact ⟨by omega, ih h.2 (by omega)⟩
theorem rises_prev {lo hi z : Int} {L : List Int} {k : Nat} (h : risesB lo hi L = true) (hk : L[k]? = some z) : lo - 1 ≤ (L.take k).getLastD (lo - 1) ∧ (L.take k).getLastD (lo - 1) < z ∧ lo ≤ z ∧ z ≤ hi := by
  induction L generalizing lo k with
  | nil => simp at hk
  | cons y r ih =>
    simp only [risesB, Bool.and_eq_true, inB_true] at h
    cases k with
    | zero =>
      have e : y = z := by simpa using hk
      subst e
      simp; omega
    | succ k =>
      have := ih h.2 (k := k) (by simpa using hk)
      rw [List.take_succ_cons, List.getLastD_cons]
      rw [show y + 1 - 1 = y by omega] at this
      omega
theorem last_le {lo hi : Int} {L : List Int} (h : risesB lo hi L = true) (hl : lo - 1 ≤ hi) : (L.getLastD (lo - 1)) ≤ hi := by
  induction L generalizing lo with
  | nil => simpa using hl
  | cons y r ih =>
    simp only [risesB, Bool.and_eq_true, inB_true] at h
    rw [List.getLastD_cons]
    have := ih h.2 (by omega)
    rwa [show y + 1 - 1 = y by omega] at this
/-- The levels and the height behind them. -/
def upQs (L : List Int) (H : Int) : List Int := L ++ [H]
theorem upQs_length (L : List Int) (H : Int) : (upQs L H).length = L.length + 1 := by simp [upQs]
theorem upQs_rises {L : List Int} {H : Int} (h : lvB L H = true) : risesB 1 H (upQs L H) = true ∧ (100 ≤ H ∧ H ≤ 6000) ∧ L.length ≤ 20 := by
  simp only [lvB, Bool.and_eq_true, decide_eq_true_eq] at h
  have := inB_true.1 h.1
  exact ⟨rises_snoc h.2.2 (by omega), this, h.2.1⟩
theorem stQ_range {cr p z : Int} (hc : 30 ≤ cr ∧ cr ≤ 200) (h0 : 0 ≤ p) (h1 : p < z) (h2 : z ≤ 6000) : 0 ≤ stQ cr p z ∧ stQ cr p z ≤ 20000 := by
  unfold stQ
  exact ⟨Int.ediv_nonneg (by omega) (by omega), Int.le_trans (Int.ediv_le_self _ (by omega)) (by omega)⟩
def stC (l wd ht j H : Int) (L : List Int) : Int := if okB l wd ht j = true then (if lvB L H = true then (if (0 : Int) ∈ stL (ht + j) 0 (upQs L H) then 6 else 0) else 2) else 1
def stR (l wd ht j H : Int) (L : List Int) : List Int := if stC l wd ht j H L = 0 then stL (ht + j) 0 (upQs L H) else []
theorem stC_cases (l wd ht j H : Int) (L : List Int) : (okB l wd ht j = false ∧ stC l wd ht j H L = 1) ∨ (okB l wd ht j = true ∧ lvB L H = false ∧ stC l wd ht j H L = 2) ∨ (okB l wd ht j = true ∧ lvB L H = true ∧ (0 : Int) ∈ stL (ht + j) 0 (upQs L H) ∧ stC l wd ht j H L = 6) ∨ (okB l wd ht j = true ∧ lvB L H = true ∧ ¬ (0 : Int) ∈ stL (ht + j) 0 (upQs L H) ∧ stC l wd ht j H L = 0) := by
  cases h1 : okB l wd ht j
  · exact .inl ⟨rfl, by simp [stC, h1]⟩
  · cases h2 : lvB L H
    · exact .inr (.inl ⟨rfl, rfl, by simp [stC, h1, h2]⟩)
    · by_cases h3 : (0 : Int) ∈ stL (ht + j) 0 (upQs L H)
      · exact .inr (.inr (.inl ⟨rfl, rfl, h3, by simp only [stC, h1, h2, if_true]; rw [if_pos h3]⟩))
      · exact .inr (.inr (.inr ⟨rfl, rfl, h3, by simp only [stC, h1, h2, if_true]; rw [if_neg h3]⟩))
theorem stR_len (l wd ht j H : Int) (L : List Int) : (stR l wd ht j H L).length ≤ 1048576 := by
  rcases stC_cases l wd ht j H L with ⟨_, h⟩ | ⟨_, _, h⟩ | ⟨_, _, _, h⟩ | ⟨_, h2, _, h⟩
  · simp [stR, h]
  · simp [stR, h]
  · simp [stR, h]
  · have := (upQs_rises h2).2.2
    unfold stR
    rw [if_pos h, stL_length, upQs_length]
    omega
end Go.Proofs.Ytmbmbkagmkmhlaa
