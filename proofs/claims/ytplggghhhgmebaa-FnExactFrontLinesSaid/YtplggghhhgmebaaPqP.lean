/-
  How the model goes along a course, plainly. Nothing of the dump.
-/
import Derived.Test.YtplggghhhgmebaaPq
namespace Go.Proofs.Ytplggghhhgmebaa
open Go.ChangeShapes Go.WideShapes Go.ChangeAt Go.RowKit Go.Joins

/-- A quarter of a course is in an opening. -/
def openB (L : List Og) (x c : Int) : Bool := L.any fun o => (decide (o.fr ≤ x) && decide (x < o.tt)) && o.inC c
theorem openB_true {L : List Og} {x c : Int} : openB L x c = true ↔ ∃ o ∈ cutL L c, o.fr ≤ x ∧ x < o.tt := by
  simp [openB, cutL, List.any_eq_true, List.mem_filter]
  constructor
  · rintro ⟨o, h1, ⟨h2, h3⟩, h4⟩; exact ⟨o, ⟨h1, h4⟩, h2, h3⟩
  · rintro ⟨o, ⟨h1, h4⟩, h2, h3⟩; exact ⟨o, h1, ⟨h2, h3⟩, h4⟩
/-- What is left of the openings where one stands within none that is behind one, or in the first of them. -/
def ChA (F x : Int) : List Og → Prop
  | [] => x ≤ F
  | o :: R => x < o.tt ∧ o.fr < o.tt ∧ Ch F o.tt R
theorem Ch.mem {F x : Int} {R : List Og} (h : Ch F x R) : ∀ o ∈ R, x ≤ o.fr ∧ o.fr < o.tt ∧ o.tt ≤ F := by
  induction R generalizing x with
  | nil => intro o ho; cases ho
  | cons d R ih =>
    intro o ho
    rcases List.mem_cons.1 ho with rfl | ho
    · exact ⟨h.1, h.2.1, h.2.2.le⟩
    · have h1 := ih h.2.2 o ho
      have := h.1
      have := h.2.1
      exact ⟨by omega, h1.2⟩
theorem Ch.chA {F x : Int} {R : List Og} (h : Ch F x R) : ChA F x R := by
  cases R with
  | nil => exact h
  | cons o R => exact ⟨by have := h.1; have := h.2.1; omega, h.2.1, h.2.2⟩
/-- Where the model stands: x; what it has collected: D; where the part began in which it is: y, or -1. -/
def PInv (F : Int) (Q : List Og) (P : List Pt) (x : Int) (D : List Pt) (y : Int) : Prop :=
  ∃ R, (∀ o ∈ Q, o ∈ R ∨ o.tt ≤ x) ∧ (∀ o ∈ R, o ∈ Q) ∧ D ++ ptsF F (if y < 0 then x else y) R = P ∧ ((y = -1 ∧ ChA F x R) ∨ (0 ≤ y ∧ y < x ∧ Ch F x R))
theorem PInv.start {F : Int} {Q : List Og} (h : Ch F 0 Q) : PInv F Q (ptsF F 0 Q) 0 [] (-1) := ⟨Q, fun o ho => .inl ho, fun o ho => ho, rfl, .inl ⟨rfl, h.chA⟩⟩
theorem PInv.range {F : Int} {Q : List Og} {P : List Pt} {x : Int} {D : List Pt} {y : Int} (h : PInv F Q P x D y) : y = -1 ∨ (0 ≤ y ∧ y < x) := by
  obtain ⟨R, _, _, _, h⟩ := h
  rcases h with ⟨h, _⟩ | ⟨h1, h2, _⟩
  · exact .inl h
  · exact .inr ⟨h1, h2⟩
/-- The next quarter, where the opening in which one stands goes on or ends. -/
theorem go_on {F : Int} {Q : List Og} {x : Int} {o : Og} {R : List Og} (h1 : ∀ d ∈ Q, d ∈ o :: R ∨ d.tt ≤ x) (h2 : ∀ d ∈ o :: R, d ∈ Q) (hx : o.fr ≤ x) (hx2 : x < o.tt) (hc : Ch F o.tt R) :
    ∃ R', (∀ d ∈ Q, d ∈ R' ∨ d.tt ≤ x + 1) ∧ (∀ d ∈ R', d ∈ Q) ∧ ptsF F (x + 1) R' = ptsF F o.tt R ∧ ChA F (x + 1) R' := by
  by_cases he : x + 1 < o.tt
  · refine ⟨o :: R, fun d hd => (h1 d hd).elim .inl (fun h => .inr (by omega)), h2, ?_, he, by omega, hc⟩
    rw [ptsF_cons, if_neg (by omega), List.nil_append]
  · have e : x + 1 = o.tt := by omega
    refine ⟨R, fun d hd => ?_, fun d hd => h2 d (List.mem_cons_of_mem _ hd), by rw [e], by rw [e]; exact hc.chA⟩
    rcases h1 d hd with h | h
    · rcases List.mem_cons.1 h with rfl | h
      · exact .inr (by omega)
      · exact .inl h
    · exact .inr (by omega)
theorem PInv.first {F : Int} {Q R : List Og} {x : Int} (h1 : ∀ d ∈ Q, d ∈ R ∨ d.tt ≤ x) (hc : ChA F x R) (ho : ∃ o ∈ Q, o.fr ≤ x ∧ x < o.tt) : ∃ o R', R = o :: R' ∧ o.fr ≤ x ∧ x < o.tt ∧ Ch F o.tt R' := by
  obtain ⟨d, hd, k1, k2⟩ := ho
  cases R with
  | nil =>
    exfalso
    rcases h1 d hd with h | h
    · cases h
    · omega
  | cons o R =>
    refine ⟨o, R, rfl, ?_, hc.1, hc.2.2⟩
    rcases h1 d hd with h | h
    · rcases List.mem_cons.1 h with rfl | h
      · exact k1
      · have := hc.2.2.mem d h; have := hc.1; omega
    · omega
theorem PInv.openA {F : Int} {Q : List Og} {P : List Pt} {x : Int} {D : List Pt} (h : PInv F Q P x D (-1)) (ho : ∃ o ∈ Q, o.fr ≤ x ∧ x < o.tt) : PInv F Q P (x + 1) D (-1) := by
  obtain ⟨R, h1, h2, h3, h4⟩ := h
  rcases h4 with ⟨_, h4⟩ | ⟨h4, _⟩
  · obtain ⟨o, R', rfl, k1, k2, k3⟩ := PInv.first h1 h4 ho
    obtain ⟨S, s1, s2, s3, s4⟩ := go_on h1 h2 k1 k2 k3
    refine ⟨S, s1, s2, ?_, .inl ⟨rfl, s4⟩⟩
    simp only [show (-1 : Int) < 0 by omega, if_true] at h3 ⊢
    rw [s3, ← h3, ptsF_cons, if_neg (by omega), List.nil_append]
  · omega
theorem PInv.closedA {F : Int} {Q : List Og} {P : List Pt} {x : Int} {D : List Pt} (h : PInv F Q P x D (-1)) (hx : 0 ≤ x) (hF : x < F) (ho : ¬ ∃ o ∈ Q, o.fr ≤ x ∧ x < o.tt) : PInv F Q P (x + 1) D x := by
  obtain ⟨R, h1, h2, h3, h4⟩ := h
  rcases h4 with ⟨_, h4⟩ | ⟨h4, _⟩
  · refine ⟨R, fun d hd => (h1 d hd).elim .inl (fun h => .inr (by omega)), h2, ?_, .inr ⟨hx, by omega, ?_⟩⟩
    · simp only [show (-1 : Int) < 0 by omega, if_true] at h3
      rw [if_neg (by omega)]
      exact h3
    · cases R with
      | nil => show x + 1 ≤ F; omega
      | cons o R =>
        have hno : ¬ o.fr ≤ x := fun hh => ho ⟨o, h2 o (List.mem_cons_self ..), hh, h4.1⟩
        exact ⟨by omega, h4.2.1, h4.2.2⟩
  · omega
theorem PInv.openB {F : Int} {Q : List Og} {P : List Pt} {x : Int} {D : List Pt} {y : Int} (h : PInv F Q P x D y) (hy : 0 ≤ y) (ho : ∃ o ∈ Q, o.fr ≤ x ∧ x < o.tt) : PInv F Q P (x + 1) (D ++ [⟨y, x⟩]) (-1) := by
  obtain ⟨R, h1, h2, h3, h4⟩ := h
  rcases h4 with ⟨h4, _⟩ | ⟨_, hyx, h4⟩
  · omega
  · obtain ⟨o, R', rfl, k1, k2, k3⟩ := PInv.first h1 h4.chA ho
    obtain ⟨S, s1, s2, s3, s4⟩ := go_on h1 h2 k1 k2 k3
    refine ⟨S, s1, s2, ?_, .inl ⟨rfl, s4⟩⟩
    simp only [show (-1 : Int) < 0 by omega, if_true]
    rw [if_neg (by omega), ptsF_cons, if_pos (by have := h4.1; omega)] at h3
    have e : o.fr = x := by have := h4.1; omega
    rw [s3, ← h3, e]
    simp
theorem PInv.closedB {F : Int} {Q : List Og} {P : List Pt} {x : Int} {D : List Pt} {y : Int} (h : PInv F Q P x D y) (hy : 0 ≤ y) (hF : x < F) (ho : ¬ ∃ o ∈ Q, o.fr ≤ x ∧ x < o.tt) : PInv F Q P (x + 1) D y := by
  obtain ⟨R, h1, h2, h3, h4⟩ := h
  rcases h4 with ⟨h4, _⟩ | ⟨_, hyx, h4⟩
  · omega
  · refine ⟨R, fun d hd => (h1 d hd).elim .inl (fun h => .inr (by omega)), h2, ?_, .inr ⟨hy, by omega, ?_⟩⟩
    · rw [if_neg (by omega)] at h3 ⊢
      exact h3
    · cases R with
      | nil => show x + 1 ≤ F; omega
      | cons o R =>
        have hno : ¬ o.fr ≤ x := fun hh => ho ⟨o, h2 o (List.mem_cons_self ..), hh, by have := h4.2.1; have := h4.1; omega⟩
        exact ⟨by omega, h4.2.1, h4.2.2⟩
theorem PInv.endA {F : Int} {Q : List Og} {P : List Pt} {D : List Pt} (h : PInv F Q P F D (-1)) : D = P := by
  obtain ⟨R, h1, h2, h3, h4⟩ := h
  rcases h4 with ⟨_, h4⟩ | ⟨h4, _⟩
  · cases R with
    | nil =>
      simp only [show (-1 : Int) < 0 by omega, if_true] at h3
      rw [ptsF_nil, if_neg (by omega), List.append_nil] at h3
      exact h3
    | cons o R => have := h4.1; have := h4.2.2.le; omega
  · omega
theorem PInv.endB {F : Int} {Q : List Og} {P : List Pt} {D : List Pt} {y : Int} (h : PInv F Q P F D y) (hy : 0 ≤ y) : D ++ [⟨y, F⟩] = P := by
  obtain ⟨R, h1, h2, h3, h4⟩ := h
  rcases h4 with ⟨h4, _⟩ | ⟨_, hyx, h4⟩
  · omega
  · cases R with
    | nil =>
      rw [if_neg (by omega), ptsF_nil, if_pos hyx] at h3
      exact h3
    | cons o R => have := h4.1; have := h4.2.1; have := h4.2.2.le; omega
theorem PInv.small {F : Int} {Q : List Og} {P : List Pt} {x : Int} {D : List Pt} {y : Int} (h : PInv F Q P x D y) : D.length ≤ P.length := by
  obtain ⟨R, _, _, h3, _⟩ := h
  rw [← h3, List.length_append]
  omega
end Go.Proofs.Ytplggghhhgmebaa
