/-
  Parts and what is drawn of them, plainly. Nothing of the dump.
-/
import Derived.Test.YtplggghhhgmebaaFtP
namespace Go.Proofs.Ytplggghhhgmebaa
open Go.ChangeShapes Go.WideShapes Go.ChangeAt Go.RowKit Go.Joins

theorem ptsF_bounds {F x : Int} {R : List Og} (h : Ch F x R) : ∀ p ∈ ptsF F x R, x ≤ p.fr ∧ p.fr < p.tt ∧ p.tt ≤ F := by
  induction R generalizing x with
  | nil =>
    intro p hp
    rw [ptsF_nil] at hp
    split at hp
    · obtain rfl : p = ⟨x, F⟩ := by simpa using hp
      exact ⟨Int.le_refl _, by assumption, Int.le_refl _⟩
    · cases hp
  | cons o R ih =>
    intro p hp
    rw [ptsF_cons] at hp
    have hl := h.2.2.le
    have h1 := h.1
    have h2 := h.2.1
    rcases List.mem_append.1 hp with hp | hp
    · split at hp
      · obtain rfl : p = ⟨x, o.fr⟩ := by simpa using hp
        exact ⟨Int.le_refl _, by assumption, by show o.fr ≤ F; omega⟩
      · cases hp
    · have := ih h.2.2 p hp
      omega
theorem ptsF_cover {F x z : Int} {R : List Og} (h : Ch F x R) (h1 : x ≤ z) (h2 : z < F) : (∃ p ∈ ptsF F x R, p.fr ≤ z ∧ z < p.tt) ↔ ¬ ∃ o ∈ R, o.fr ≤ z ∧ z < o.tt := by
  induction R generalizing x with
  | nil =>
    rw [ptsF_nil, if_pos (by omega)]
    simp [h1, h2]
  | cons o R ih =>
    rw [ptsF_cons]
    have k1 := h.1
    have k2 := h.2.1
    by_cases hz : z < o.fr
    · refine ⟨fun _ => ?_, fun _ => ⟨⟨x, o.fr⟩, by simp; left; omega, h1, hz⟩⟩
      rintro ⟨d, hd, d1, d2⟩
      rcases List.mem_cons.1 hd with rfl | hd
      · omega
      · have := h.2.2.mem d hd; omega
    · by_cases ho : z < o.tt
      · refine ⟨?_, fun k => absurd ⟨o, List.mem_cons_self .., by omega, ho⟩ k⟩
        rintro ⟨p, hp, p1, p2⟩
        exfalso
        rcases List.mem_append.1 hp with hp | hp
        · split at hp
          · obtain rfl : p = ⟨x, o.fr⟩ := by simpa using hp
            exact hz p2
          · cases hp
        · have := ptsF_bounds h.2.2 p hp; omega
      · have I := ih h.2.2 (by omega)
        constructor
        · rintro ⟨p, hp, p1, p2⟩ ⟨d, hd, d1, d2⟩
          rcases List.mem_append.1 hp with hp | hp
          · split at hp
            · obtain rfl : p = ⟨x, o.fr⟩ := by simpa using hp
              exact hz p2
            · cases hp
          · rcases List.mem_cons.1 hd with rfl | hd
            · exact ho d2
            · exact I.1 ⟨p, hp, p1, p2⟩ ⟨d, hd, d1, d2⟩
        · intro k
          obtain ⟨p, hp, p1⟩ := I.2 (fun ⟨d, hd, d1⟩ => k ⟨d, List.mem_cons_of_mem _ hd, d1⟩)
          exact ⟨p, List.mem_append.2 (.inr hp), p1⟩
/-- What is drawn when j parts are. -/
def inPt (P : List Pt) (x : Int) : Bool := P.any fun p => decide (p.fr ≤ x) && decide (x < p.tt)
def pdrL (P : List Pt) (q j : Nat) : List UInt8 := (List.range q).map fun (x : Nat) => if inPt (P.take j) (x : Int) = true then 35 else 46
def pdrB (P : List Pt) (q j : Nat) : ByteArray := ⟨(pdrL P q j).toArray⟩
theorem pdrL_length (P : List Pt) (q j : Nat) : (pdrL P q j).length = q := by simp [pdrL]
theorem pdrB_size (P : List Pt) (q j : Nat) : (pdrB P q j).size = q := by simp [pdrB, ByteArray.size, pdrL_length]
theorem pdrB_zero (P : List Pt) (q : Nat) : pdrB P q 0 = ⟨(List.replicate q 46).toArray⟩ := by
  unfold pdrB pdrL
  congr 2
  refine List.ext_getElem? fun i => ?_
  by_cases h : i < q <;> simp [inPt, h]
theorem pdr_list {f : Nat → UInt8} {q a b : Nat} {v : UInt8} (h1 : a ≤ b) (h2 : b ≤ q) : ((List.range q).map f).take a ++ List.replicate (b - a) v ++ ((List.range q).map f).drop b = (List.range q).map fun x => if a ≤ x ∧ x < b then v else f x := by
  refine List.ext_getElem? fun i => ?_
  by_cases hi : i < a
  · rw [List.append_assoc, List.getElem?_append_left (by simp; omega), List.getElem?_take_of_lt hi]
    simp [show i < q by omega, show ¬ (a ≤ i ∧ i < b) by omega]
  · by_cases hb : i < b
    · rw [List.append_assoc, List.getElem?_append_right (by simp; omega), List.getElem?_append_left (by simp; omega)]
      have e : i - (List.take a (List.map f (List.range q))).length < b - a := by simp; omega
      rw [List.getElem?_replicate, if_pos e]
      simp [show i < q by omega, show a ≤ i ∧ i < b by omega]
    · rw [List.getElem?_append_right (by simp; omega), List.getElem?_drop]
      have e : b + (i - (List.take a (List.map f (List.range q)) ++ List.replicate (b - a) v).length) = i := by simp; omega
      rw [e]
      by_cases hq : i < q
      · simp [hq, show ¬ (a ≤ i ∧ i < b) by omega]
      · simp [hq]
theorem pdr_step {P : List Pt} {q j : Nat} {p : Pt} (h : P[j]? = some p) (h0 : 0 ≤ p.fr) (h1 : p.fr ≤ p.tt) (h2 : p.tt ≤ (q : Int)) :
    (pdrB P q j).extract 0 p.fr.toNat ++ ⟨(List.replicate (p.tt - p.fr).toNat 35).toArray⟩ ++ (pdrB P q j).extract p.tt.toNat (pdrB P q j).size = pdrB P q (j + 1) := by
  obtain ⟨a, ha⟩ := Int.eq_ofNat_of_zero_le h0
  obtain ⟨b, hb⟩ := Int.eq_ofNat_of_zero_le (show 0 ≤ p.tt by omega)
  rw [pdrB_size]
  have e : pdrL P q (j + 1) = (pdrL P q j).take a ++ List.replicate (b - a) 35 ++ (pdrL P q j).drop b := by
    unfold pdrL
    rw [pdr_list (by omega) (by omega)]
    refine List.map_congr_left fun x _ => ?_
    rw [List.take_add_one, h]
    simp only [inPt, List.any_append, Option.toList, List.any_cons, List.any_nil, Bool.or_false, Bool.or_eq_true, Bool.and_eq_true, decide_eq_true_eq]
    rw [ha, hb]
    by_cases hx : a ≤ x ∧ x < b
    · rw [if_pos hx, if_pos (.inr (by omega))]
    · rw [if_neg hx]
      simp [hx]
  apply ByteArray.ext
  apply Array.toList_inj.1
  show _ = pdrL P q (j + 1)
  rw [e, ha, hb]
  have hl := pdrL_length P q j
  simp only [pdrB, ByteArray.data_append, ByteArray.data_extract, Array.toList_append, Array.toList_extract, List.extract, Int.toNat_natCast, List.drop_zero, Nat.sub_zero]
  rw [show ((b : Int) - (a : Int)).toNat = b - a by omega, List.take_of_length_le (l := List.drop b _) (by simp [hl])]
theorem pdr_all {F C : Int} {L : List Og} (hok : FrOk F C L) (c : Int) {q : Nat} (hq : F = (q : Int)) : pdrB (partsF F L c) q (partsF F L c).length = lnB F L c := by
  unfold pdrB lnB
  congr 2
  rw [hq, Int.toNat_natCast]
  unfold pdrL lnL
  refine List.map_congr_left fun x hx => ?_
  have hxq := List.mem_range.1 hx
  rw [List.take_length]
  have K := ptsF_cover (z := (x : Int)) (hok.ch c) (by omega) (by omega)
  have k1 : inPt (partsF F L c) (x : Int) = true ↔ ∃ p ∈ ptsF F 0 (cutL L c), p.fr ≤ (x : Int) ∧ (x : Int) < p.tt := by simp [inPt, partsF]
  rw [← hq]
  unfold chB
  by_cases ho : openB L (x : Int) c = true
  · rw [if_pos ho, if_neg (fun h => (K.1 (k1.1 h)) (openB_true.1 ho))]
  · rw [if_neg ho, if_pos (k1.2 (K.2 (fun h => ho (openB_true.2 h))))]
end Go.Proofs.Ytplggghhhgmebaa
