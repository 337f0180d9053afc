/-
  Parts of a text between bytes, and decimal forms read back: plain lemmas on lists. Nothing of the dump.
-/
import Derived.Test.YtikjielgnlgnjaaDoorSplitP
import Derived.Test.YtikjielgnlgnjaaDoorSplitV
import Derived.Test.YtikjielgnlgnjaaDoorNum
import Derived.Lib.Join
import Derived.WideShapes
namespace Go.Proofs.YtikjielgnlgnjaaDoor
open Go.ChangeShapes Go.WideShapes Go.ChangeAt Go.RowKit Go.Joins

/-- The parts of a list between c's. -/
def spl (c : UInt8) : List UInt8 → List (List UInt8)
  | [] => [[]]
  | x :: r => if x = c then [] :: spl c r else match spl c r with | [] => [[x]] | p :: q => (x :: p) :: q
theorem spl_cons (c : UInt8) (l : List UInt8) : ∃ p q, spl c l = p :: q := by
  cases l with
  | nil => exact ⟨_, _, rfl⟩
  | cons x r =>
    simp only [spl]
    split
    · exact ⟨_, _, rfl⟩
    · split <;> exact ⟨_, _, rfl⟩
theorem spl_sep (c : UInt8) (r : List UInt8) : spl c (c :: r) = [] :: spl c r := by simp [spl]
theorem spl_other {c x : UInt8} (h : x ≠ c) {r p : List UInt8} {q : List (List UInt8)} (hr : spl c r = p :: q) : spl c (x :: r) = (x :: p) :: q := by simp [spl, h, hr]
theorem join_two (p : List UInt8) (p2 : List UInt8) (q : List (List UInt8)) (sep : List UInt8) : Lib.join (p :: p2 :: q) sep = p ++ sep ++ Lib.join (p2 :: q) sep := by
  simp [Lib.join, List.intercalate]
theorem spl_join (c : UInt8) : ∀ l : List UInt8, Lib.join (spl c l) [c] = l
  | [] => by simp [spl, Lib.join, List.intercalate]
  | x :: r => by
    obtain ⟨p, q, h⟩ := spl_cons c r
    have ih := spl_join c r
    by_cases hx : x = c
    · subst hx
      rw [spl_sep, h, join_two, ← h, ih]
      simp
    · rw [spl_other hx h]
      rw [h] at ih
      cases q with
      | nil => rw [Lib.join_one] at ih ⊢; rw [ih]
      | cons p2 q => rw [join_two] at ih ⊢; rw [← ih]; simp
theorem spl_plain {c : UInt8} : ∀ {l : List UInt8}, c ∉ l → spl c l = [l]
  | [], _ => rfl
  | x :: r, h => by
    simp only [List.mem_cons, not_or] at h
    rw [spl_other (Ne.symm h.1) (spl_plain h.2)]
theorem spl_first {c : UInt8} : ∀ {l r : List UInt8}, c ∉ l → spl c (l ++ c :: r) = l :: spl c r
  | [], r, _ => by simp [spl]
  | x :: l, r, h => by
    simp only [List.mem_cons, not_or] at h
    rw [List.cons_append, spl_other (Ne.symm h.1) (spl_first h.2)]
/-- Parts are read back from their text. -/
theorem spl_of_join {c : UInt8} : ∀ (Q : List (List UInt8)), Q ≠ [] → (∀ q ∈ Q, c ∉ q) → spl c (Lib.join Q [c]) = Q
  | [], h, _ => absurd rfl h
  | [q], _, h => by rw [Lib.join_one]; exact spl_plain (h q (by simp))
  | q :: q2 :: Q, _, h => by
    rw [join_two]
    have e : q ++ [c] ++ Lib.join (q2 :: Q) [c] = q ++ c :: Lib.join (q2 :: Q) [c] := by simp
    rw [e, spl_first (h q (by simp)), spl_of_join (q2 :: Q) (by simp) (fun x hx => h x (List.mem_cons_of_mem _ hx))]
theorem spl_clean {c : UInt8} : ∀ (l : List UInt8), ∀ p ∈ spl c l, c ∉ p
  | [], p, hp => by simp [spl] at hp; simp [hp]
  | x :: r, p, hp => by
    obtain ⟨p1, q, h⟩ := spl_cons c r
    have ih := spl_clean (c := c) r
    by_cases hx : x = c
    · subst hx
      rw [spl_sep] at hp
      rcases List.mem_cons.1 hp with rfl | hp
      · simp
      · exact ih p hp
    · rw [spl_other hx h] at hp
      rcases List.mem_cons.1 hp with rfl | hp
      · have := ih p1 (by rw [h]; simp)
        simp only [List.mem_cons, not_or]
        exact ⟨fun e => hx e.symm, this⟩
      · exact ih p (by rw [h]; exact List.mem_cons_of_mem _ hp)

/-- The model's spans are these parts. -/
theorem cuts_spl (s : ByteArray) (c : UInt8) : ∀ (n pos b : Nat), pos + n = s.size → b ≤ pos → ∀ p q, spl c (s.data.toList.drop pos) = p :: q →
    (cutsC s c.toNat n pos b).map (fun x => (s.extract x.1 x.2).data.toList) = ((s.data.toList.drop b).take (pos - b) ++ p) :: q
  | 0, pos, b, hn, hb, p, q, h => by
    have hs : s.data.toList.length = s.size := by simp
    rw [List.drop_eq_nil_of_le (by omega)] at h
    simp [spl] at h
    obtain ⟨rfl, rfl⟩ := h
    simp [cutsC]
  | n + 1, pos, b, hn, hb, p, q, h => by
    have hs : s.data.toList.length = s.size := by simp
    have hlt : pos < s.data.toList.length := by omega
    have hd : s.data.toList.drop pos = s.data.toList[pos] :: s.data.toList.drop (pos + 1) := List.drop_eq_getElem_cons hlt
    have hby : byt s pos = (s.data.toList[pos]).toNat := by rw [byt_at s pos (by omega)]; rfl
    obtain ⟨p1, q1, h1⟩ := spl_cons c (s.data.toList.drop (pos + 1))
    rw [hd] at h
    simp only [cutsC]
    by_cases hx : s.data.toList[pos] = c
    · rw [hx, spl_sep] at h
      simp only [List.cons.injEq] at h
      obtain ⟨rfl, rfl⟩ := h
      rw [if_pos (by rw [hby, hx]), List.map_cons, cuts_spl s c n (pos + 1) (pos + 1) (by omega) (Nat.le_refl _) p1 q1 h1, h1]
      simp
    · rw [spl_other hx h1] at h
      simp only [List.cons.injEq] at h
      obtain ⟨rfl, rfl⟩ := h
      rw [if_neg (by rw [hby]; exact fun e => hx (UInt8.toNat_inj.1 e)), cuts_spl s c n (pos + 1) b (by omega) (by omega) p1 q1 h1]
      have e2 : (s.data.toList.drop b).take (pos + 1 - b) = (s.data.toList.drop b).take (pos - b) ++ [s.data.toList[pos]] := by
        rw [show pos + 1 - b = (pos - b) + 1 by omega, List.take_succ_eq_append_getElem (by rw [List.length_drop]; omega)]
        congr 1
        rw [List.getElem_drop]
        congr 2
        omega
      rw [e2]
      simp
/-- The parts of a text. -/
def partsOf (s : ByteArray) (c : UInt8) : List ByteArray := cutParts s (cutsC s c.toNat s.size 0 0)
theorem partsOf_spl (s : ByteArray) (c : UInt8) : (partsOf s c).map (fun x => x.data.toList) = spl c s.data.toList := by
  obtain ⟨p, q, h⟩ := spl_cons c s.data.toList
  unfold partsOf cutParts
  rw [List.map_map]
  have := cuts_spl s c s.size 0 0 (by omega) (Nat.le_refl _) p q (by simpa using h)
  rw [h]
  rw [Nat.sub_self, List.take_zero, List.nil_append] at this
  exact this
theorem toList_inj_map {A B : List ByteArray} (h : A.map (fun x => x.data.toList) = B.map (fun x => x.data.toList)) : A = B := by
  induction A generalizing B with
  | nil => cases B with
    | nil => rfl
    | cons b B => simp at h
  | cons a A ih => cases B with
    | nil => simp at h
    | cons b B =>
      simp only [List.map_cons, List.cons.injEq] at h
      rw [Go.WideShapes.bytes_inj h.1, ih h.2]
/-- The parts of a joined text are what was joined. -/
theorem partsOf_join {s : ByteArray} {c : UInt8} {Q : List ByteArray} (hq : Q ≠ []) (hc : ∀ q ∈ Q, c ∉ q.data.toList) (h : Lib.join (Q.map (fun x => x.data.toList)) [c] = s.data.toList) : partsOf s c = Q := by
  apply toList_inj_map
  rw [partsOf_spl, ← h]
  exact spl_of_join _ (by simpa using hq) (fun q h => by
    obtain ⟨x, hx, rfl⟩ := List.mem_map.1 h
    exact hc x hx)
theorem join_partsOf (s : ByteArray) (c : UInt8) : Lib.join ((partsOf s c).map (fun x => x.data.toList)) [c] = s.data.toList := by
  rw [partsOf_spl, spl_join]

/-- Digits are read back. -/
theorem valF_snoc : ∀ (l : List UInt8) (acc u : Nat) (x : UInt8), valF acc l = some u → 48 ≤ x.toNat → x.toNat ≤ 57 → valF acc (l ++ [x]) = some (u * 10 + (x.toNat - 48))
  | [], acc, u, x, h, h1, h2 => by
    simp [valF] at h
    subst h
    simp [valF, h1, h2]
  | y :: r, acc, u, x, h, h1, h2 => by
    simp only [valF, List.cons_append] at h ⊢
    split at h
    · rename_i hy
      rw [if_pos hy]
      exact valF_snoc r _ u x h h1 h2
    · cases h
theorem valF_dec : ∀ (n u : Nat), u < 10 ^ n → valF 0 (Lib.decDigits u) = some u
  | 0, u, h => by
    have hu : u = 0 := by simpa using h
    subst hu
    rw [Lib.decDigits]
    rfl
  | n + 1, u, h => by
    have e : ∀ m, m < 10 → (UInt8.ofNat (48 + m)).toNat = 48 + m := fun m hm => by rw [UInt8.toNat_ofNat']; omega
    rw [Lib.decDigits]
    by_cases h10 : u < 10
    · rw [dif_pos h10]
      simp [valF]
      omega
    · rw [dif_neg h10]
      have hm := e (u % 10) (Nat.mod_lt _ (by omega))
      rw [valF_snoc _ 0 (u / 10) _ (valF_dec n (u / 10) (by rw [Nat.pow_succ] at h; omega)) (by omega) (by omega), hm]
      congr 1
      omega
theorem decNZ_pow' : ∀ (n u : Nat), u < 10 ^ n → (Lib.decDigits u).length ≤ n + 1
  | 0, u, h => by
    have hu : u = 0 := by simpa using h
    subst hu
    rw [Lib.decDigits]
    simp
  | n + 1, u, h => by
    rw [Lib.decDigits]
    by_cases h10 : u < 10
    · rw [dif_pos h10]; simp
    · rw [dif_neg h10, List.length_append]
      have := decNZ_pow' n (u / 10) (by rw [Nat.pow_succ] at h; omega)
      simp
      omega
theorem dec_head (u : Nat) (hu : u < 10 ^ 18) : ∃ x r, Lib.decDigits u = x :: r ∧ x ≠ 45 := by
  have hd := decDigits_digit 18 u hu
  cases h : Lib.decDigits u with
  | nil =>
    exfalso
    have h1 := valF_dec 18 u hu
    rw [Lib.decDigits] at h
    split at h <;> simp at h
  | cons x r =>
    refine ⟨x, r, rfl, fun e => ?_⟩
    have := hd x (by rw [h]; simp)
    subst e
    have e2 : (45 : UInt8).toNat = 45 := rfl
    omega
theorem numR_itoa {n : Int} (h0 : 0 ≤ n) (h1 : n < 1000000000000000) : numR (Lib.itoa n) = some n ∧ (∀ c ∈ Lib.itoa n, 48 ≤ c.toNat ∧ c.toNat ≤ 57) ∧ Lib.itoa n ≠ [] := by
  obtain ⟨u, rfl⟩ : ∃ u : Nat, n = (u : Int) := ⟨n.toNat, by omega⟩
  have hu : u < 10 ^ 15 := by have : (10 : Nat) ^ 15 = 1000000000000000 := by decide
                              omega
  have hu18 : u < 10 ^ 18 := Nat.lt_of_lt_of_le hu (Nat.pow_le_pow_right (by omega) (by omega))
  rw [Lib.itoa_nonneg]
  obtain ⟨x, r, hx, h45⟩ := dec_head u hu18
  have hlen : (Lib.decDigits u).length ≤ 16 := by
    have := decNZ_pow' 15 u hu
    omega
  have htr : tr (Lib.decDigits u) = Lib.decDigits u := by rw [hx]; simp [tr, h45]
  have hsg : sg (Lib.decDigits u) u = (u : Int) := by rw [hx]; simp [sg, h45]
  have hl1 : 1 ≤ (Lib.decDigits u).length := by rw [hx]; simp
  refine ⟨?_, decDigits_digit 18 u hu18, by rw [hx]; simp⟩
  unfold numR
  rw [htr, if_pos ⟨hl1, by omega⟩, valF_dec 18 u hu18]
  simp only [hsg, Lib.itoa_nonneg, if_true]
theorem numR_some {l : List UInt8} {n : Int} (h : numR l = some n) : Lib.itoa n = l := by
  unfold numR at h
  split at h
  · split at h
    · split at h
      · rename_i hi
        simp at h
        rw [← h]
        exact hi
      · cases h
    · cases h
  · cases h
end Go.Proofs.YtikjielgnlgnjaaDoor
