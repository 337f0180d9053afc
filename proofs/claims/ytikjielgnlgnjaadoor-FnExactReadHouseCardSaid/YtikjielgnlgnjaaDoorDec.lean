/-
  The model's decimal form of a number is the library's.
-/
import Derived.Test.YtikjielgnlgnjaaDoorDecI
import Derived.Lib.ItoaNum
import Derived.Laws.AppendOwn
import Derived.Laws.OwnMore
namespace Go.Proofs.YtikjielgnlgnjaaDoor
open Go.ChangeShapes Go.WideShapes Go.ChangeAt Go.RowKit Go.Joins

/-- Decimal digits; none for 0. -/
def decNZ (m : Nat) : List UInt8 := if m = 0 then [] else Lib.decDigits m
theorem decNZ_step (m : Nat) (h : m ≠ 0) : decNZ m = decNZ (m / 10) ++ [UInt8.ofNat (48 + m % 10)] := by
  rw [decNZ, if_neg h, Lib.decDigits]
  by_cases h10 : m < 10
  · rw [dif_pos h10, decNZ, if_pos (by omega), Nat.mod_eq_of_lt h10]; rfl
  · rw [dif_neg h10, decNZ, if_neg (by omega)]
/-- What a row of bytes holds. -/
def byteVals (ds : List UInt8) : List Value := ds.map fun c => .int .u8 c.toNat
theorem byteVals_cons (c : UInt8) (ds : List UInt8) : [Value.int .u8 c.toNat] ++ byteVals ds = byteVals (c :: ds) := rfl
theorem byteVals_one (ds : List UInt8) : ∀ u ∈ byteVals ds, u.oneCell' = true := by
  intro u hu
  obtain ⟨c, _, rfl⟩ := List.mem_map.1 hu
  rfl
theorem digit_val (m : Nat) : ((UInt8.ofNat (48 + m % 10)).toNat : Int) = 48 + (m : Int) % 10 := by
  have : (UInt8.ofNat (48 + m % 10)).toNat = 48 + m % 10 := by
    rw [UInt8.toNat_ofNat']; omega
  rw [this]; omega
theorem len_bound (m len M : Nat) (hM : M ≤ 9223372036854775808) (h0 : m ≠ 0) (h : m * 10 ^ len ≤ M) : len ≤ 18 := by
  rcases Nat.lt_or_ge 18 len with hl | hl
  · have h1 : 10 ^ 19 ≤ 10 ^ len := Nat.pow_le_pow_right (by omega) hl
    have h2 : 1 * 10 ^ len ≤ m * 10 ^ len := Nat.mul_le_mul_right _ (by omega)
    have h3 : (10 : Nat) ^ 19 = 10000000000000000000 := by decide
    omega
  · exact hl
theorem pow_step (m len M : Nat) (h : m * 10 ^ len ≤ M) : m / 10 * 10 ^ (len + 1) ≤ M := by
  have h1 : m / 10 * 10 ≤ m := Nat.div_mul_le_self m 10
  have h2 : m / 10 * 10 ^ (len + 1) = m / 10 * 10 * 10 ^ len := by rw [Nat.pow_succ]; rw [Nat.mul_assoc, Nat.mul_comm (10 ^ len) 10]
  rw [h2]
  exact Nat.le_trans (Nat.mul_le_mul_right _ h1) h

/-- What the loop of digits holds at each round's head. -/
def DecAt (w : World) (M : Nat) (m : Nat) (ds : List UInt8) (g cap : Nat) (wr : World) : Prop :=
  wr.ownsRow w.heap.size 5 1 (.slice (some ⟨g, 0, none⟩) ds.length cap) ds.length (byteVals ds) ∧ decNZ m ++ ds = decNZ M ∧ m * 10 ^ ds.length ≤ M ∧ Below w.heap.size w wr ∧ w.heap.size + 1 ≤ wr.heap.size

theorem DecAt.source {w wr : World} {M m g cap : Nat} {ds : List UInt8} (h : DecAt w M m ds g cap wr) (c : Value) (fr : Nat × Nat) : ∀ j u, (byteVals ds)[j]? = some u → (wr.alloc (.cells #[c] 5 fr)).cell? ((⟨g, 0, none⟩ : Addr).add j) = some u :=
  (h.1.alloc (.cells #[c] 5 fr)).cells rfl

theorem dec_step {w wr w1 : World} {M m g cap : Nat} {ds : List UInt8} {v1 : Value} (h : DecAt w M m ds g cap wr) (hm : m ≠ 0)
    (hown : w1.ownsRow w.heap.size 5 1 v1 (1 + ds.length) (byteVals (UInt8.ofNat (48 + m % 10) :: ds))) (hg : (wr.alloc (.cells #[.int .u8 (48 + (m : Int) % 10)] 5)).grownBy w1 (some wr.heap.size)) :
    ∃ g' cap', v1 = .slice (some ⟨g', 0, none⟩) (UInt8.ofNat (48 + m % 10) :: ds).length cap' ∧ DecAt w M (m / 10) (UInt8.ofNat (48 + m % 10) :: ds) g' cap' w1 := by
  obtain ⟨h1, h2, h3, h4, h5⟩ := h
  have hown' : w1.ownsRow w.heap.size 5 1 v1 (UInt8.ofNat (48 + m % 10) :: ds).length (byteVals (UInt8.ofNat (48 + m % 10) :: ds)) := by
    rw [List.length_cons, Nat.add_comm]; exact hown
  obtain ⟨g', cap', rfl⟩ := ownsRow_form hown' (by simp)
  have hB : Below w.heap.size w (wr.alloc (.cells #[.int .u8 (48 + (m : Int) % 10)] 5)) := balloc h4 _
  have hB1 : Below w.heap.size w w1 := hB.grown hg (by simp; omega) (fun k hk => by cases hk; omega)
  refine ⟨g', cap', rfl, hown', ?_, ?_, hB1, ?_⟩
  · rw [← h2, decNZ_step m hm]; simp
  · rw [List.length_cons]; exact pow_step m ds.length M h3
  · have := hg.size; simp at this; omega

/-- The string of the digits. -/
theorem dec_string {w wr : World} {M m g cap : Nat} {ds : List UInt8} (h : DecAt w M m ds g cap wr) : (convert 83 9 (.slice (some ⟨g, 0, none⟩) ds.length cap)).run Tryd.prog wr = .ok (.string ⟨ds.toArray⟩) wr :=
  run_convert_bytes_back (P := Tryd.prog) wr 83 9 5 ⟨g, 0, none⟩ cap ds Tryd.underlying83 Tryd.underlying5 Tryd.underlying9 (fun j hj => h.1.cells rfl j _ (by simp [byteVals, List.getElem?_eq_getElem hj]))
end Go.Proofs.YtikjielgnlgnjaaDoor
