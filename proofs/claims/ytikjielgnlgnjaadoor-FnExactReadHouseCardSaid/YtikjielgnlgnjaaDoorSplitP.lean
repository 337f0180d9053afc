/-
  The parts of a text between blanks, plainly: what strings.FieldsFunc gives at a blank, and what splitting at each blank leaves when empty parts are dropped.
-/
import Derived.Lib.FieldsP
import Derived.Lib.SpaceUEq
import Derived.Lib.DecodeN
import Derived.Lib.QuoteLoop
import Derived.Lib.TrimU
namespace Go.Proofs.YtikjielgnlgnjaaDoor

/-- The byte at a place. -/
def byt (s : ByteArray) (k : Nat) : Nat := (s.get! k).toNat
/-- The words' spans from a place on, n bytes before the end; st: where an open word began. -/
def wordsW (s : ByteArray) : Nat → Nat → Option Nat → List (Nat × Nat)
  | 0, _, none => []
  | 0, pos, some a => [(a, pos)]
  | n + 1, pos, st => if byt s pos = 32 then (match st with | some a => (a, pos) :: wordsW s n (pos + 1) none | none => wordsW s n (pos + 1) none) else wordsW s n (pos + 1) (some (st.getD pos))
/-- The spans between blanks. -/
def cutsC (s : ByteArray) (by_ : Nat) : Nat → Nat → Nat → List (Nat × Nat)
  | 0, pos, b => [(b, pos)]
  | n + 1, pos, b => if byt s pos = by_ then (b, pos) :: cutsC s by_ n (pos + 1) (pos + 1) else cutsC s by_ n (pos + 1) b
theorem cuts_words (s : ByteArray) : ∀ (n pos b : Nat), b ≤ pos → (cutsC s 32 n pos b).filter (fun x => decide (x.1 < x.2)) = wordsW s n pos (if b < pos then some b else none)
  | 0, pos, b, h => by
    by_cases hb : b < pos <;> simp [cutsC, wordsW, hb]
  | n + 1, pos, b, h => by
    simp only [cutsC, wordsW]
    by_cases h32 : byt s pos = 32
    · rw [if_pos h32, if_pos h32, List.filter_cons, cuts_words s n (pos + 1) (pos + 1) (Nat.le_refl _), if_neg (Nat.lt_irrefl _)]
      by_cases hb : b < pos <;> simp [hb]
    · rw [if_neg h32, if_neg h32, cuts_words s n (pos + 1) b (by omega), if_pos (by omega)]
      by_cases hb : b < pos
      · simp [hb]
      · have : b = pos := by omega
        simp [this]
theorem words_word (s : ByteArray) (n pos : Nat) (st : Option Nat) (h : byt s pos ≠ 32) : wordsW s (n + 1) pos st = wordsW s n (pos + 1) (some (st.getD pos)) := by
  cases st <;> simp [wordsW, h]
theorem words_blank (s : ByteArray) (n pos : Nat) (st : Option Nat) (h : byt s pos = 32) : wordsW s (n + 1) pos st = (match st with | some a => [(a, pos)] | none => []) ++ wordsW s n (pos + 1) none := by
  cases st <;> simp [wordsW, h]
theorem words_skip (s : ByteArray) : ∀ (d n pos : Nat) (st : Option Nat), (∀ j, j < d + 1 → byt s (pos + j) ≠ 32) → wordsW s (n + (d + 1)) pos st = wordsW s n (pos + (d + 1)) (some (st.getD pos))
  | 0, n, pos, st, h => by
    rw [show n + (0 + 1) = n + 1 by omega, words_word s _ pos st (by have := h 0 (by omega); simpa using this)]
  | d + 1, n, pos, st, h => by
    rw [show n + (d + 1 + 1) = (n + (d + 1)) + 1 by omega, words_word s _ pos st (by have := h 0 (by omega); simpa using this), words_skip s d n (pos + 1) (some (st.getD pos)) (fun j hj => by have := h (j + 1) (by omega); rwa [show pos + 1 + j = pos + (j + 1) by omega])]
    rw [show pos + 1 + (d + 1) = pos + (d + 1 + 1) by omega]; rfl
theorem decodeN_blank (n b0 b1 b2 b3 : Nat) (h : (Lib.decodeN n b0 b1 b2 b3).1 = 32) : b0 = 32 := by
  revert h
  unfold Lib.decodeN
  repeat' split
  all_goals (simp only; omega)
/-- The rune at a place, by bytes. -/
theorem rune_at (s : ByteArray) (pos : Nat) (h : pos < s.size) :
    (byt s pos = 32 ∧ Utf8.decode s pos = (32, 1)) ∨ ((Utf8.decode s pos).1 ≠ 32 ∧ pos + (Utf8.decode s pos).2 ≤ s.size ∧ 1 ≤ (Utf8.decode s pos).2 ∧ ∀ j, j < (Utf8.decode s pos).2 → byt s (pos + j) ≠ 32) := by
  rw [Lib.decode_at]
  by_cases hb : byt s pos = 32
  · exact .inl ⟨hb, by rw [show (s.get! pos).toNat = 32 from hb]; rfl⟩
  · obtain ⟨c2, c3, c4, c5⟩ := Lib.decodeN_conts (s.size - pos) (s.get! pos).toNat (s.get! (pos + 1)).toNat (s.get! (pos + 2)).toNat (s.get! (pos + 3)).toNat
    have hw := Lib.decodeN_width_le (s.size - pos) (s.get! pos).toNat (s.get! (pos + 1)).toNat (s.get! (pos + 2)).toNat (s.get! (pos + 3)).toNat (by omega)
    have h1 := Lib.decodeN_ge1 (s.size - pos) (s.get! pos).toNat (s.get! (pos + 1)).toNat (s.get! (pos + 2)).toNat (s.get! (pos + 3)).toNat
    refine .inr ⟨fun e => hb (decodeN_blank _ _ _ _ _ e), by omega, h1, fun j hj => ?_⟩
    have hj4 : j = 0 ∨ j = 1 ∨ j = 2 ∨ j = 3 := by omega
    unfold byt
    rcases hj4 with rfl | rfl | rfl | rfl
    · exact hb
    · have := c2 (by omega); omega
    · have := c3 (by omega); omega
    · have := c4 (by omega); omega

def blankR (r : Nat) : Bool := decide (r = 32)
theorem fields_words (s : ByteArray) : ∀ (f pos : Nat) (st : Option Nat) (acc : List (Nat × Nat)), s.size ≤ pos + f → pos ≤ s.size → Lib.closeSpans s (Lib.spansFromP blankR s f pos st acc) = acc ++ wordsW s (s.size - pos) pos st
  | 0, pos, st, acc, hf, hp => by
    have : s.size = pos := by omega
    cases st <;> simp [Lib.spansFromP, Lib.closeSpans, wordsW, this]
  | f + 1, pos, st, acc, hf, hp => by
    by_cases h : pos < s.size
    · rcases rune_at s pos h with ⟨hb, hd⟩ | ⟨hr, hw, h1, hj⟩
      · rw [show s.size - pos = (s.size - (pos + 1)) + 1 by omega, words_blank s _ pos st hb]
        simp only [Lib.spansFromP, if_pos h, hd]
        rw [if_pos (show blankR 32 = true from rfl)]
        cases st with
        | none => simp only [List.nil_append]; exact fields_words s f (pos + 1) none acc (by omega) (by omega)
        | some a => simp only []; rw [fields_words s f (pos + 1) none _ (by omega) (by omega)]; simp
      · obtain ⟨d, hd⟩ : ∃ d, (Utf8.decode s pos).2 = d + 1 := ⟨(Utf8.decode s pos).2 - 1, by omega⟩
        rw [hd] at hw hj
        rw [show s.size - pos = (s.size - (pos + (d + 1))) + (d + 1) by omega, words_skip s d _ pos st hj]
        simp only [Lib.spansFromP, if_pos h, hd]
        rw [if_neg (by simp [blankR, hr])]
        cases st with
        | none => exact fields_words s f (pos + (d + 1)) (some pos) acc (by omega) hw
        | some a => exact fields_words s f (pos + (d + 1)) (some a) acc (by omega) hw
    · have : s.size = pos := by omega
      rw [Lib.spansFromP_end _ _ _ _ _ _ h]
      cases st <;> simp [Lib.closeSpans, wordsW, this]

/-- The words: the parts between blanks that are not empty. -/
def wordsOf (s : ByteArray) : List ByteArray := ((cutsC s 32 s.size 0 0).filter (fun x => decide (x.1 < x.2))).map fun x => s.extract x.1 x.2
theorem goFields_words (s : ByteArray) : Lib.goFieldsP blankR s = wordsOf s := by
  unfold Lib.goFieldsP wordsOf Lib.spansOfP
  rw [fields_words s s.size 0 none [] (by omega) (by omega), cuts_words s s.size 0 0 (Nat.le_refl _)]
  rfl
end Go.Proofs.YtikjielgnlgnjaaDoor
