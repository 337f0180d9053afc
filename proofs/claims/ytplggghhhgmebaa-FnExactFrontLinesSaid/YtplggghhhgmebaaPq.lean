/-
  Parts of a course, plainly. Nothing of the dump.
-/
import Derived.Test.YtplggghhhgmebaaFv
import Derived.Test.YtplggghhhgmebaaPt
namespace Go.Proofs.Ytplggghhhgmebaa
open Go.ChangeShapes Go.WideShapes Go.ChangeAt Go.RowKit Go.Joins

/-- An opening is in a course. -/
def Og.inC (c : Int) (o : Og) : Bool := decide (o.lo ≤ c) && decide (c < o.hi)
theorem Og.inC_true {c : Int} {o : Og} : o.inC c = true ↔ o.lo ≤ c ∧ c < o.hi := by simp [Og.inC]
def cutL (L : List Og) (c : Int) : List Og := L.filter (Og.inC c)
/-- What is between openings, and beside them, from x on: also where it is nothing. -/
def prs (F : Int) : Int → List Og → List Pt
  | x, [] => [⟨x, F⟩]
  | x, o :: R => ⟨x, o.fr⟩ :: prs F o.tt R
def Pt.pos (p : Pt) : Bool := decide (p.fr < p.tt)
/-- The parts. -/
def ptsF (F : Int) (x : Int) (R : List Og) : List Pt := (prs F x R).filter Pt.pos
def partsF (F : Int) (L : List Og) (c : Int) : List Pt := ptsF F 0 (cutL L c)
theorem prs_length (F x : Int) (R : List Og) : (prs F x R).length = R.length + 1 := by
  induction R generalizing x with
  | nil => rfl
  | cons o R ih => simp [prs, ih]
theorem ptsF_nil {F x : Int} : ptsF F x [] = if x < F then [⟨x, F⟩] else [] := by
  unfold ptsF prs
  by_cases h : x < F <;> simp [Pt.pos, h]
theorem ptsF_cons {F x : Int} {o : Og} {R : List Og} : ptsF F x (o :: R) = (if x < o.fr then [⟨x, o.fr⟩] else []) ++ ptsF F o.tt R := by
  show List.filter Pt.pos (⟨x, o.fr⟩ :: prs F o.tt R) = _
  rw [List.filter_cons]
  by_cases h : x < o.fr <;> simp [Pt.pos, h, ptsF]
/-- Openings stand one behind the other, from x on, up to F. -/
def Ch (F : Int) : Int → List Og → Prop
  | x, [] => x ≤ F
  | x, o :: R => x ≤ o.fr ∧ o.fr < o.tt ∧ Ch F o.tt R
theorem Ch.le {F x : Int} {R : List Og} (h : Ch F x R) : x ≤ F := by
  induction R generalizing x with
  | nil => exact h
  | cons o R ih => have := ih h.2.2; have := h.1; have := h.2.1; omega
theorem FrOk.lt_bef {F C : Int} {L : List Og} (h : FrOk F C L) : ∀ (n j : Nat) (c d : Og), L[j]? = some c → L[j + n + 1]? = some d → c.bef d = true
  | 0, j, c, d, hc, hd => h.inc j c d hc hd
  | n + 1, j, c, d, hc, hd => by
    obtain ⟨e, he⟩ : ∃ e, L[j + n + 1]? = some e := ⟨_, List.getElem?_eq_getElem (by have := (List.getElem?_eq_some_iff.1 hd).1; omega)⟩
    exact Og.bef_trans (h.lt_bef n j c e hc he) (h.inc (j + n + 1) e d he hd)
theorem FrOk.pair {F C : Int} {L : List Og} (h : FrOk F C L) : L.Pairwise (fun c d => c.bef d = true ∧ c.ovl d = false) := by
  rw [List.pairwise_iff_getElem]
  intro i j hi hj hij
  have hc : L[i]? = some L[i] := List.getElem?_eq_getElem hi
  have hd : L[j]? = some L[j] := List.getElem?_eq_getElem hj
  refine ⟨?_, h.apart i j _ _ hij hc hd⟩
  obtain ⟨n, rfl⟩ : ∃ n, j = i + n + 1 := ⟨j - i - 1, by omega⟩
  exact h.lt_bef n i _ _ hc hd
theorem ch_of {F C c : Int} : ∀ (R : List Og) (x : Int), x ≤ F → (∀ o ∈ R, o.fit F C = true ∧ o.inC c = true ∧ x ≤ o.fr) → R.Pairwise (fun c d => c.bef d = true ∧ c.ovl d = false) → Ch F x R
  | [], x, hx, _, _ => hx
  | o :: R, x, hx, hm, hp => by
    obtain ⟨h1, h2, h3⟩ := hm o (List.mem_cons_self ..)
    have f1 := Og.fit_true.1 h1
    have i1 := Og.inC_true.1 h2
    rw [List.pairwise_cons] at hp
    refine ⟨h3, f1.2.1, ch_of (C := C) (c := c) R o.tt f1.2.2.1 (fun d hd => ?_) hp.2⟩
    obtain ⟨g1, g2, _⟩ := hm d (List.mem_cons_of_mem _ hd)
    have f2 := Og.fit_true.1 g1
    have i2 := Og.inC_true.1 g2
    obtain ⟨b1, o1⟩ := hp.1 d hd
    rw [Og.bef_true] at b1
    have o2 : ¬ (o.fr < d.tt ∧ d.fr < o.tt ∧ o.lo < d.hi ∧ d.lo < o.hi) := fun k => by rw [Og.ovl_true.2 k] at o1; cases o1
    exact ⟨g1, g2, by omega⟩
theorem FrOk.ch {F C : Int} {L : List Og} (h : FrOk F C L) (c : Int) : Ch F 0 (cutL L c) := by
  refine ch_of (C := C) (c := c) _ 0 (by have := h.fl; omega) (fun o ho => ?_) (h.pair.filter _)
  obtain ⟨h1, h2⟩ := List.mem_filter.1 ho
  obtain ⟨k, hk⟩ := List.getElem?_of_mem h1
  have h3 := h.fit k o hk
  exact ⟨h3, h2, (Og.fit_true.1 h3).1⟩
theorem cutL_length (L : List Og) (c : Int) : (cutL L c).length ≤ L.length := List.length_filter_le _ _
theorem ptsF_length (F x : Int) (R : List Og) : (ptsF F x R).length ≤ R.length + 1 := by
  have := List.length_filter_le Pt.pos (prs F x R)
  rw [prs_length] at this
  exact this
/-- The ends of all of them in one row. -/
def endsL (E : List Pt) : List Int := E.flatMap fun p => [p.fr, p.tt]
theorem endsL_length (E : List Pt) : (endsL E).length = 2 * E.length := by
  induction E with
  | nil => rfl
  | cons p E ih => simp [endsL] at ih ⊢; omega
theorem endsL_at {E : List Pt} {k : Nat} {p : Pt} (h : E[k]? = some p) : (endsL E)[2 * k]? = some p.fr ∧ (endsL E)[2 * k + 1]? = some p.tt := by
  induction E generalizing k with
  | nil => simp at h
  | cons q E ih =>
    have e : endsL (q :: E) = [q.fr, q.tt] ++ endsL E := rfl
    cases k with
    | zero =>
      obtain rfl : q = p := by simpa using h
      rw [e]
      exact ⟨rfl, rfl⟩
    | succ k =>
      have h1 := ih (k := k) (by simpa using h)
      rw [e]
      rw [List.getElem?_append_right (by simp; omega), List.getElem?_append_right (by simp; omega)]
      have e1 : 2 * (k + 1) - [q.fr, q.tt].length = 2 * k := by simp; omega
      have e2 : 2 * (k + 1) + 1 - [q.fr, q.tt].length = 2 * k + 1 := by simp; omega
      rw [e1, e2]
      exact h1
/-- What the first loop has collected. -/
def flatO (R : List Og) : List Int := R.flatMap fun o => [o.fr, o.tt]
theorem endsL_prs (F x : Int) (R : List Og) : endsL (prs F x R) = x :: flatO R ++ [F] := by
  induction R generalizing x with
  | nil => rfl
  | cons o R ih =>
    show [x, o.fr] ++ endsL (prs F o.tt R) = _
    rw [ih]
    simp [flatO]
theorem flatO_length (R : List Og) : (flatO R).length = 2 * R.length := by
  induction R with
  | nil => rfl
  | cons p E ih => simp [flatO] at ih ⊢; omega
theorem flatO_snoc (R : List Og) (o : Og) : flatO (R ++ [o]) = flatO R ++ [o.fr, o.tt] := by simp [flatO]
theorem cutL_take {L : List Og} {k : Nat} {o : Og} (c : Int) (h : L[k]? = some o) : cutL (L.take (k + 1)) c = cutL (L.take k) c ++ (if o.inC c = true then [o] else []) := by
  unfold cutL
  rw [List.take_add_one, h, List.filter_append]
  congr 1
  by_cases e : o.inC c = true
  · simp [e]
  · simp [e]
/-- The code of a front and a course, and the parts. -/
noncomputable def poK (F C : Int) (L : List Og) (c : Int) : Int := frK F C L c 0 (C - 1)
noncomputable def poL (F C : Int) (L : List Og) (c : Int) : List Pt := if poK F C L c = 0 then partsF F L c else []
theorem poL_length (F C : Int) (L : List Og) (c : Int) : (poL F C L c).length ≤ L.length + 1 := by
  unfold poL
  split
  · have h1 := ptsF_length F 0 (cutL L c)
    have h2 := cutL_length L c
    unfold partsF
    omega
  · simp
end Go.Proofs.Ytplggghhhgmebaa
