/-
  Moulds as told, fired sizes, least sizes: plain facts.
-/
import Derived.Test.YtdandhmallbemaaDoorMo
namespace Go.Proofs.YtdandhmallbemaaDoor
open Go.ChangeShapes Go.WideShapes Go.ChangeAt Go.RowKit Go.Joins

/-- A mould as told. -/
def Mo.ok (c : Mo) : Bool := inB c.le 30 800 && (inB c.wi 30 800 && (inB c.he 30 800 && inB c.us 0 100000))
theorem Mo.ok_facts {c : Mo} (h : c.ok = true) : (30 ≤ c.le ∧ c.le ≤ 800) ∧ (30 ≤ c.wi ∧ c.wi ≤ 800) ∧ (30 ≤ c.he ∧ c.he ≤ 800) ∧ (0 ≤ c.us ∧ c.us ≤ 100000) := by
  simpa [Mo.ok, inB_true] using h
/-- A list as told. -/
def okMos (L : List Mo) : Bool := L.all Mo.ok && decide (L.length ≤ 20)
theorem okMos_no {L : List Mo} {k : Nat} {c : Mo} (hk : L[k]? = some c) (h : c.ok = false) : okMos L = false := by
  have : L.all Mo.ok = false := by
    rw [List.all_eq_false]
    exact ⟨c, List.mem_of_getElem? hk, by simp [h]⟩
  simp [okMos, this]
theorem okMos_long {L : List Mo} (h : ¬ L.length ≤ 20) : okMos L = false := by simp [okMos, h]
theorem okMos_yes {L : List Mo} (h : ∀ (j : Nat) (c : Mo), L[j]? = some c → c.ok = true) (hl : L.length ≤ 20) : okMos L = true := by
  simp only [okMos, Bool.and_eq_true, decide_eq_true_eq, List.all_eq_true]
  refine ⟨fun c hc => ?_, hl⟩
  obtain ⟨j, hj⟩ := List.getElem?_of_mem hc
  exact h j c hj
theorem okMos_all {L : List Mo} (h : okMos L = true) : L.length ≤ 20 ∧ ∀ (j : Nat) (c : Mo), L[j]? = some c → c.ok = true := by
  simp only [okMos, Bool.and_eq_true, decide_eq_true_eq, List.all_eq_true] at h
  exact ⟨h.2, fun j c hj => h.1 c (List.mem_of_getElem? hj)⟩

/-- A size after firing. -/
def firedF (x s : Int) : Int := (2 * (x * (1000 - s)) + 1000) / 2000
theorem fired_bounds {x s : Int} (h0 : 0 ≤ x) (h1 : x ≤ 1000) (s0 : 0 ≤ s) (s1 : s ≤ 200) : 0 ≤ x * (1000 - s) ∧ x * (1000 - s) ≤ 1000000 ∧ x * (1000 - s) ≤ x * 1000 ∧ 0 ≤ firedF x s ∧ firedF x s ≤ x := by
  have a : 0 ≤ x * (1000 - s) := Int.mul_nonneg h0 (by omega)
  have b : x * (1000 - s) ≤ x * 1000 := Int.mul_le_mul_of_nonneg_left (by omega) h0
  unfold firedF
  omega
theorem fired_mono {x y s : Int} (h : x ≤ y) (s1 : s ≤ 200) : firedF x s ≤ firedF y s := by
  have a : x * (1000 - s) ≤ y * (1000 - s) := Int.mul_le_mul_of_nonneg_right h (by omega)
  unfold firedF
  omega
theorem fired_big {x s : Int} (h : 700 ≤ x) (s1 : s ≤ 200) : 500 ≤ firedF x s := by
  have a := fired_mono (s := s) h s1
  have b : 700 * 800 ≤ 700 * (1000 - s) := Int.mul_le_mul_of_nonneg_left (by omega) (by omega)
  unfold firedF at a ⊢
  omega
/-- The least size from 30 on that makes bricks that are large enough. -/
def IsLeast (r n s : Int) : Prop := 30 ≤ r ∧ n ≤ firedF r s ∧ ∀ y, 30 ≤ y → y < r → firedF y s < n
theorem IsLeast.one {r q n s : Int} (h : IsLeast r n s) (k : IsLeast q n s) : r = q := by
  rcases Int.lt_trichotomy r q with e | e | e
  · have := k.2.2 r h.1 e; have := h.2.1; omega
  · exact e
  · have := h.2.2 q k.1 e; have := k.2.1; omega
/-- From n on, the least one; from 30 on then. -/
theorem IsLeast.from {x n s : Int} (hn : 0 ≤ n) (h2 : n ≤ 1000) (hx : n ≤ x) (s0 : 0 ≤ s) (s1 : s ≤ 200) (h : n ≤ firedF x s) (hl : ∀ y, n ≤ y → y < x → firedF y s < n) : IsLeast (max 30 x) n s := by
  refine ⟨by omega, ?_, fun y hy hlt => ?_⟩
  · have := fired_mono (x := x) (y := max 30 x) (s := s) (by omega) s1
    omega
  · by_cases hyn : n ≤ y
    · exact hl y hyn (by omega)
    · have := (fired_bounds (x := y) (s := s) (by omega) (by omega) s0 s1).2.2.2.2
      omega
/-- The answer of ShrinkBy. -/
def SbIs (m b n c : Int) : Prop :=
  (¬ (inB m 30 800 = true ∧ inB b 30 800 = true) ∧ n = 0 ∧ c = 2) ∨ ((inB m 30 800 = true ∧ inB b 30 800 = true) ∧ ((c = 0 ∧ 0 ≤ n ∧ n ≤ 200 ∧ firedF m n = b ∧ ∀ k, 0 ≤ k → k < n → firedF m k ≠ b) ∨ (c = 3 ∧ n = 0 ∧ ∀ k, 0 ≤ k → k ≤ 200 → firedF m k ≠ b)))
theorem SbIs.one {m b n c n' c' : Int} (h : SbIs m b n c) (k : SbIs m b n' c') : n = n' ∧ c = c' := by
  rcases h with ⟨h0, h1, h2⟩ | ⟨h0, h⟩ <;> rcases k with ⟨k0, k1, k2⟩ | ⟨k0, k⟩
  · exact ⟨by omega, by omega⟩
  · exact absurd k0 h0
  · exact absurd h0 k0
  · rcases h with ⟨h1, h2, h3, h4, h5⟩ | ⟨h1, h2, h3⟩ <;> rcases k with ⟨k1, k2, k3, k4, k5⟩ | ⟨k1, k2, k3⟩
    · refine ⟨?_, by omega⟩
      rcases Int.lt_trichotomy n n' with e | e | e
      · exact absurd h4 (k5 n h2 e)
      · exact e
      · exact absurd k4 (h5 n' k2 e)
    · exact absurd h4 (k3 n h2 h3)
    · exact absurd k4 (h3 n' k2 k3)
    · exact ⟨by omega, by omega⟩
/-- The sizes of a mould. -/
def szL (c : Mo) : List Int := [c.le, c.wi, c.he]
theorem szL_all {c : Mo} {p : Int → Prop} (h0 : p c.le) (h1 : p c.wi) (h2 : p c.he) {k : Nat} {z : Int} (hz : (szL c)[k]? = some z) : p z := by
  match k, hz with
  | 0, hz => have e : c.le = z := by simpa [szL] using hz
             rw [← e]; exact h0
  | 1, hz => have e : c.wi = z := by simpa [szL] using hz
             rw [← e]; exact h1
  | 2, hz => have e : c.he = z := by simpa [szL] using hz
             rw [← e]; exact h2
  | k + 3, hz => simp [szL] at hz
theorem szL_ok {c : Mo} (h : c.ok = true) {k : Nat} {z : Int} (hz : (szL c)[k]? = some z) : 30 ≤ z ∧ z ≤ 800 := by
  obtain ⟨h0, h1, h2, _⟩ := Mo.ok_facts h
  exact szL_all (p := fun z => 30 ≤ z ∧ z ≤ 800) h0 h1 h2 hz
theorem Mo.ok_of {c : Mo} (h : ∀ (k : Nat) (z : Int), k < 3 → (szL c)[k]? = some z → inB z 30 800 = true) : c.ok = inB c.us 0 100000 := by
  have h0 := h 0 _ (by omega) rfl
  have h1 := h 1 _ (by omega) rfl
  have h2 := h 2 _ (by omega) rfl
  simp [Mo.ok, h0, h1, h2]
theorem Mo.bad_of {c : Mo} {k : Nat} {z : Int} (hz : (szL c)[k]? = some z) (h : inB z 30 800 = false) : c.ok = false := by
  cases hc : c.ok
  · rfl
  · have := szL_ok hc hz
    rw [inB_true.2 this] at h
    cases h
/-- The first k of them fired. -/
def firedTo (P : List Int) (s : Int) (k : Nat) : List Int := (P.take k).map (firedF · s)
theorem firedTo_step {P : List Int} {s : Int} {k : Nat} {z : Int} (h : P[k]? = some z) : firedTo P s k ++ [firedF z s] = firedTo P s (k + 1) := by
  unfold firedTo
  rw [List.take_add_one, h]
  simp
theorem firedTo_length {P : List Int} {s : Int} {k : Nat} (h : k ≤ P.length) : (firedTo P s k).length = k := by
  simp [firedTo, h]
theorem firedTo_all (c : Mo) (s : Int) : firedTo (szL c) s 3 = [firedF c.le s, firedF c.wi s, firedF c.he s] := rfl
/-- The fired sizes of a mould. -/
def firedL (c : Mo) (s : Int) : List Int := [firedF c.le s, firedF c.wi s, firedF c.he s]
def fsC (c : Mo) (s : Int) : Int := if c.ok = true then (if inB s 0 200 = true then 0 else 2) else 1
def fsL (c : Mo) (s : Int) : List Int := if fsC c s = 0 then firedL c s else []
theorem fsL_length (c : Mo) (s : Int) : (fsL c s).length ≤ 1048577 := by
  unfold fsL
  split <;> simp [firedL]
/-- The worn moulds among the first k. -/
def wornTo (L : List Mo) (m : Int) : Nat → List Int
  | 0 => []
  | k + 1 => if m < (L.getD k default).us then wornTo L m k ++ [(k : Int)] else wornTo L m k
theorem wornTo_length (L : List Mo) (m : Int) : ∀ k, (wornTo L m k).length ≤ k
  | 0 => Nat.le_refl _
  | k + 1 => by
    have := wornTo_length L m k
    simp only [wornTo]
    split
    · simp; omega
    · omega
theorem wornTo_yes {L : List Mo} {m : Int} {k : Nat} {c : Mo} (hk : L[k]? = some c) (h : m < c.us) : wornTo L m (k + 1) = wornTo L m k ++ [(k : Int)] := by
  have e : L.getD k default = c := by rw [List.getD_eq_getElem?_getD, hk]; rfl
  simp only [wornTo, e, if_pos h]
theorem wornTo_no {L : List Mo} {m : Int} {k : Nat} {c : Mo} (hk : L[k]? = some c) (h : ¬ m < c.us) : wornTo L m (k + 1) = wornTo L m k := by
  have e : L.getD k default = c := by rw [List.getD_eq_getElem?_getD, hk]; rfl
  simp only [wornTo, e, if_neg h]
def wmC (L : List Mo) (m : Int) : Int := if okMos L = true then (if inB m 0 100000 = true then 0 else 2) else 1
def wmL (L : List Mo) (m : Int) : List Int := if wmC L m = 0 then wornTo L m L.length else []
theorem wmL_length (L : List Mo) (m : Int) (h : L.length ≤ 1048576) : (wmL L m).length ≤ 1048577 := by
  have := wornTo_length L m L.length
  unfold wmL
  split
  · omega
  · simp
/-- A mould has been used. -/
def usedL (L : List Mo) (k t : Int) : List Mo := L.set k.toNat { (L.getD k.toNat default) with us := (L.getD k.toNat default).us + t }
def umC (L : List Mo) (k t : Int) : Int := if okMos L = true then (if inB k 0 ((L.length : Int) - 1) = true ∧ inB t 1 100000 = true then (if (L.getD k.toNat default).us + t ≤ 100000 then 0 else 5) else 2) else 1
def umL (L : List Mo) (k t : Int) : List Mo := if umC L k t = 0 then usedL L k t else []
theorem umL_length (L : List Mo) (k t : Int) (h : L.length ≤ 1048576) : (umL L k t).length ≤ 1048577 := by
  unfold umL usedL
  split
  · rw [List.length_set]; omega
  · simp
end Go.Proofs.YtdandhmallbemaaDoor
