/-
  The gauge for which levels are best, plainly.
-/
import Derived.Test.YtlglijalhacmhabGf
import Derived.Test.YtlglijalhacmhabGo
namespace Go.Proofs.Ytlglijalhacmhab
open Go.ChangeShapes Go.WideShapes Go.ChangeAt Go.RowKit Go.Joins

/-- How far all levels are off together. -/
def sumZ : List Int → Int
  | [] => 0
  | z :: r => z + sumZ r
theorem sumZ_snoc (P : List Int) (z : Int) : sumZ (P ++ [z]) = sumZ P + z := by
  induction P with
  | nil => simp [sumZ]
  | cons y r ih => simp only [List.cons_append, sumZ, ih]; omega
def sG (H : Int) (L : List Int) (n : Int) : Int := sumZ (offL H n L)
theorem mkQ_le {H : Int} {c k : Int} (h : gB H c = true) (k1 : k ≤ c) : mkQ H c k ≤ H := by
  obtain ⟨⟨H0, H1⟩, c0, c1⟩ := gB_true.1 h
  unfold mkQ
  have e : k * H ≤ c * H := Int.mul_le_mul_of_nonneg_right k1 (by omega)
  have : (2 * (k * H) + c) / (2 * c) < H + 1 := by
    apply Int.ediv_lt_of_lt_mul (by omega)
    have : (H + 1) * (2 * c) = 2 * (c * H) + 2 * c := by grind
    omega
  omega
theorem offQ_le {H : Int} {n : Nat} {lv : Int} (h : gB H n = true) (l0 : 1 ≤ lv) (l1 : lv ≤ H - 1) : 0 ≤ offQ H n lv ∧ offQ H n lv ≤ 6000 := by
  obtain ⟨⟨H0, H1⟩, c0, c1⟩ := gB_true.1 h
  have hb := nearN_le H n lv n
  have m0 := mkQ_range (k := ((nearN H n lv n : Nat) : Int)) h (by omega) (by omega)
  have m1 := mkQ_le (k := ((nearN H n lv n : Nat) : Int)) h (by omega)
  have e : offQ H n lv = siz (mkQ H n (nearN H n lv n : Nat) - lv) := by unfold offQ; simp
  rw [e]
  by_cases hs : mkQ H n (nearN H n lv n : Nat) - lv < 0
  · rw [siz_neg hs]; omega
  · rw [siz_pos hs]; omega
theorem sumZ_range {P : List Int} {m : Int} (h : ∀ z ∈ P, 0 ≤ z ∧ z ≤ m) : 0 ≤ sumZ P ∧ sumZ P ≤ m * (P.length : Int) := by
  induction P with
  | nil => simp [sumZ]
  | cons y r ih =>
    have h1 := h y List.mem_cons_self
    have h2 := ih fun z hz => h z (List.mem_cons_of_mem _ hz)
    have e : m * (((y :: r).length : Nat) : Int) = m * (r.length : Int) + m := by simp only [List.length_cons]; push_cast; grind
    rw [e]
    show 0 ≤ y + sumZ r ∧ y + sumZ r ≤ _
    omega
theorem offL_mem {H : Int} {L : List Int} {n : Nat} (h : gB H n = true) (hL : lvB L H = true) : ∀ z ∈ offL H n L, 0 ≤ z ∧ z ≤ 6000 := by
  intro z hz
  obtain ⟨lv, hlv, rfl⟩ := List.mem_map.1 hz
  obtain ⟨k, hk, e⟩ := List.mem_iff_getElem.1 hlv
  have := (lvB_all hL).2.2 k lv (by rw [List.getElem?_eq_getElem hk, e])
  exact offQ_le h this.1 this.2
theorem sG_range {H : Int} {L : List Int} {n : Nat} (h : gB H n = true) (hL : lvB L H = true) : 0 ≤ sG H L n ∧ sG H L n ≤ 120000 := by
  have h1 := sumZ_range (offL_mem h hL)
  have h2 := (lvB_all hL).2.1
  rw [offL_length] at h1
  unfold sG
  omega
def ngB (H : Int) (L : List Int) (b n : Int) : Bool := decide (b = 0) || decide (sG H L n < sG H L b)
def stepG (ht H least most : Int) (L : List Int) (b n : Int) : Int := if fitB ht H least most n = true then (if ngB H L b n = true then n else b) else b
def bestG (ht H least most : Int) (L : List Int) : Nat → Int
  | 0 => 0
  | k + 1 => stepG ht H least most L (bestG ht H least most L k) ((k : Int) + 1)
theorem bestG_range (ht H least most : Int) (L : List Int) (k : Nat) : 0 ≤ bestG ht H least most L k ∧ bestG ht H least most L k ≤ k := by
  induction k with
  | zero => simp [bestG]
  | succ k ih =>
    show 0 ≤ stepG _ _ _ _ _ _ _ ∧ stepG _ _ _ _ _ _ _ ≤ _
    unfold stepG
    split
    · split <;> omega
    · omega
def bgL (l wd ht j H least most : Int) (L : List Int) : Int := if limC l wd ht j H least most = 0 then (if lvB L H = true then 0 else 2) else limC l wd ht j H least most
def bgC (l wd ht j H least most : Int) (L : List Int) : Int := if bgL l wd ht j H least most L = 0 then (if bestG ht H least most L 40 = 0 then 3 else 0) else bgL l wd ht j H least most L
def bgN (l wd ht j H least most : Int) (L : List Int) : Int := if bgL l wd ht j H least most L = 0 then bestG ht H least most L 40 else 0
end Go.Proofs.Ytlglijalhacmhab
