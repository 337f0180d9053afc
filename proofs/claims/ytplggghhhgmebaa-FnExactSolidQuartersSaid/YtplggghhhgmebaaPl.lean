/-
  The lengths of all parts of all courses, plainly. Nothing of the dump.
-/
import Derived.Test.YtplggghhhgmebaaPqP
import Derived.Test.YtplggghhhgmebaaMin
namespace Go.Proofs.Ytplggghhhgmebaa
open Go.ChangeShapes Go.WideShapes Go.ChangeAt Go.RowKit Go.Joins

def Pt.len (p : Pt) : Int := p.tt - p.fr
def lenL (F : Int) (L : List Og) (c : Int) : List Int := (partsF F L c).map Pt.len
/-- The lengths in the first n courses. -/
def allLn (F : Int) (L : List Og) : Nat → List Int
  | 0 => []
  | n + 1 => allLn F L n ++ lenL F L n
theorem lenL_pos {F : Int} {L : List Og} {c : Int} : ∀ z ∈ lenL F L c, 0 < z := by
  intro z hz
  obtain ⟨p, hp, rfl⟩ := List.mem_map.1 hz
  have h := (List.mem_filter.1 hp).2
  simp only [Pt.pos, decide_eq_true_eq] at h
  unfold Pt.len
  omega
theorem allLn_pos {F : Int} {L : List Og} (n : Nat) : ∀ z ∈ allLn F L n, 0 ≤ z := by
  induction n with
  | zero => intro z hz; cases hz
  | succ n ih =>
    intro z hz
    rcases List.mem_append.1 hz with h | h
    · exact ih z h
    · have := lenL_pos z h; omega
theorem lenL_length (F : Int) (L : List Og) (c : Int) : (lenL F L c).length ≤ L.length + 1 := by
  unfold lenL
  rw [List.length_map]
  exact Nat.le_trans (ptsF_length F 0 (cutL L c)) (by have := cutL_length L c; omega)
theorem allLn_length (F : Int) (L : List Og) (n : Nat) : (allLn F L n).length ≤ n * (L.length + 1) := by
  induction n with
  | zero => simp [allLn]
  | succ n ih =>
    have h := lenL_length F L n
    simp only [allLn, List.length_append]
    rw [Nat.succ_mul]
    omega
/-- What openings take. -/
def Og.wide (o : Og) : Int := o.tt - o.fr
def sumW (R : List Og) : Int := (R.map Og.wide).sum
theorem pts_sum {F x : Int} {R : List Og} (h : Ch F x R) : ((ptsF F x R).map Pt.len).sum = F - x - sumW R := by
  induction R generalizing x with
  | nil =>
    have hx : x ≤ F := h
    rw [ptsF_nil]
    by_cases e : x < F
    · simp [e, Pt.len, sumW]
    · simp [e, sumW]; omega
  | cons o R ih =>
    have h1 := ih h.2.2
    have h2 := h.1
    rw [ptsF_cons, List.map_append, List.sum_append, h1]
    by_cases e : x < o.fr
    · simp [e, Pt.len, sumW, Og.wide]; omega
    · simp [e, sumW, Og.wide]; omega
theorem lenL_sum {F C : Int} {L : List Og} (hok : FrOk F C L) (c : Int) : (lenL F L c).sum = F - sumW (cutL L c) := by
  have := pts_sum (hok.ch c)
  unfold lenL partsF
  rw [this]
  omega
def sumAll (F : Int) (L : List Og) (n : Nat) : Int := (allLn F L n).sum
theorem sumW_cons (o : Og) (R : List Og) : sumW (o :: R) = o.wide + sumW R := by simp [sumW]
theorem cutW_cons (o : Og) (L : List Og) (c : Int) : sumW (cutL (o :: L) c) = (if o.inC c = true then o.wide else 0) + sumW (cutL L c) := by
  unfold cutL
  by_cases e : o.inC c = true
  · rw [List.filter_cons, if_pos e, if_pos e, sumW_cons]
  · rw [List.filter_cons, if_neg e, if_neg e]; omega
/-- What openings take of the first n courses. -/
def tookW (L : List Og) : Nat → Int
  | 0 => 0
  | n + 1 => tookW L n + sumW (cutL L n)
def tookO (o : Og) : Nat → Int
  | 0 => 0
  | n + 1 => tookO o n + (if o.inC n = true then o.wide else 0)
theorem tookW_cons (o : Og) (L : List Og) (n : Nat) : tookW (o :: L) n = tookO o n + tookW L n := by
  induction n with
  | zero => simp [tookW, tookO]
  | succ n ih => simp only [tookW, tookO, ih, cutW_cons]; omega
theorem tookW_nil (n : Nat) : tookW [] n = 0 := by
  induction n with
  | zero => rfl
  | succ n ih => simp [tookW, ih, cutL, sumW]
theorem tookO_eq {o : Og} {a b : Nat} (ha : o.lo = a) (hb : o.hi = b) (hab : a < b) (n : Nat) : tookO o n = if n ≤ a then 0 else if n ≤ b then o.wide * ((n : Int) - a) else o.wide * ((b : Int) - a) := by
  induction n with
  | zero => simp [tookO]
  | succ n ih =>
    have hin : o.inC (n : Int) = true ↔ a ≤ n ∧ n < b := by rw [Og.inC_true, ha, hb]; omega
    simp only [tookO]
    rw [ih]
    by_cases h1 : n < a
    · have h2 : ¬ o.inC (n : Int) = true := fun h => by have := hin.1 h; omega
      rw [if_neg h2, if_pos (by omega), if_pos (by omega)]
      rfl
    · by_cases h2 : n < b
      · have h3 : o.inC (n : Int) = true := hin.2 ⟨by omega, h2⟩
        rw [if_pos h3, if_neg (show ¬ n + 1 ≤ a by omega), if_pos (show n + 1 ≤ b by omega)]
        by_cases h4 : n ≤ a
        · have e : n = a := by omega
          subst e
          rw [if_pos (Nat.le_refl _)]
          have : ((n + 1 : Nat) : Int) - n = 1 := by omega
          rw [this]
          omega
        · rw [if_neg h4, if_pos (show n ≤ b by omega)]
          have : ((n + 1 : Nat) : Int) - a = ((n : Int) - a) + 1 := by omega
          rw [this, Int.mul_add]
          omega
      · have h3 : ¬ o.inC (n : Int) = true := fun h => by have := hin.1 h; omega
        rw [if_neg h3, if_neg (show ¬ n + 1 ≤ a by omega), if_neg (show ¬ n + 1 ≤ b by omega), if_neg (show ¬ n ≤ a by omega)]
        by_cases h4 : n ≤ b
        · have e : n = b := by omega
          subst e
          rw [if_pos (Nat.le_refl _)]
          omega
        · rw [if_neg h4]; omega
theorem sumAll_eq {F C : Int} {L : List Og} (hok : FrOk F C L) (n : Nat) : sumAll F L n = F * n - tookW L n := by
  unfold sumAll
  induction n with
  | zero => simp [allLn, tookW]
  | succ n ih =>
    simp only [allLn, tookW, List.sum_append, ih, lenL_sum hok]
    have : F * ((n + 1 : Nat) : Int) = F * n + F := by rw [Int.natCast_succ, Int.mul_add]; omega
    omega
/-- What an opening takes of all courses. -/
def Og.area (o : Og) : Int := (o.tt - o.fr) * (o.hi - o.lo)
def areas (L : List Og) : Int := (L.map Og.area).sum
theorem took_all {F : Int} {n : Nat} : ∀ {L : List Og}, (∀ o ∈ L, o.fit F n = true) → tookW L n = areas L
  | [], _ => by rw [tookW_nil]; rfl
  | o :: L, h => by
    rw [tookW_cons, took_all (F := F) (fun d hd => h d (List.mem_cons_of_mem _ hd))]
    have h1 := Og.fit_true.1 (h o (List.mem_cons_self ..))
    obtain ⟨a, ha⟩ := Int.eq_ofNat_of_zero_le h1.2.2.2.1
    obtain ⟨b, hb⟩ := Int.eq_ofNat_of_zero_le (show 0 ≤ o.hi by omega)
    have e2 : areas (o :: L) = o.area + areas L := by simp [areas]
    rw [tookO_eq ha hb (by omega), if_neg (by omega), e2]
    have e : (if n ≤ b then o.wide * ((n : Int) - a) else o.wide * ((b : Int) - a)) = o.area := by
      unfold Og.area Og.wide
      rw [ha, hb]
      by_cases e : n ≤ b
      · rw [if_pos e]
        have : (n : Int) = b := by omega
        rw [this]
      · rw [if_neg e]
    rw [e]
theorem solid_eq {F C : Int} {L : List Og} (hok : FrOk F C L) : sumAll F L C.toNat = F * C - areas L := by
  have hC : ((C.toNat : Nat) : Int) = C := Int.toNat_of_nonneg (by have := hok.fc; omega)
  rw [sumAll_eq hok, hC, took_all (F := F) (fun o ho => ?_)]
  obtain ⟨k, hk⟩ := List.getElem?_of_mem ho
  rw [hC]
  exact hok.fit k o hk
noncomputable def piN (F C : Int) (L : List Og) : Int := if okFr F C L = true then mnN (allLn F L C.toNat) else 0
noncomputable def piE (F C : Int) (L : List Og) : Int := if okFr F C L = true then mnE (allLn F L C.toNat) else 1
noncomputable def soN (F C : Int) (L : List Og) : Int := if okFr F C L = true then sumAll F L C.toNat else 0
noncomputable def soE (F C : Int) (L : List Og) : Int := if okFr F C L = true then 0 else 1
end Go.Proofs.Ytplggghhhgmebaa
