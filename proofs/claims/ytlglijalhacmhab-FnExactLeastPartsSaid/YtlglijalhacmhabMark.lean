/-
  The letters that the laws write into a row of texts, and look for again.
-/
import Derived.Test.YtlglijalhacmhabDec
import Derived.OwnWalk
import Derived.Deep.DeepMust
namespace Go.Proofs.Ytlglijalhacmhab
open Go.ChangeShapes Go.WideShapes Go.ChangeAt Go.RowKit Go.Joins

/-- The text of mark k. -/
def markB (k : Nat) : ByteArray := ⟨(109 :: decNZ k).toArray⟩

theorem lit8_row (base : Nat) (wr : World) (c : Value) (hb : base ≤ wr.heap.size) : (wr.alloc (.cells #[c] 5)).ownsRow base 5 1 (.slice (some ⟨wr.heap.size, 0, none⟩) 1 1) 1 [c] :=
  ⟨rfl, .inr ⟨wr.heap.size, 1, #[c], rfl, hb, heap_alloc_new wr _, Nat.le_refl _, by decide, rfl, rfl⟩⟩
theorem one_string (wr : World) (m : Nat) : (convert 56 9 (.slice (some ⟨wr.heap.size, 0, none⟩) 1 1)).run Try.prog (wr.alloc (.cells #[.int .u8 (48 + (m : Int) % 10)] 5)) = .ok (.string ⟨[UInt8.ofNat (48 + m % 10)].toArray⟩) (wr.alloc (.cells #[.int .u8 (48 + (m : Int) % 10)] 5)) :=
  run_convert_bytes_back (P := Try.prog) _ 56 9 5 ⟨wr.heap.size, 0, none⟩ 1 [UInt8.ofNat (48 + m % 10)] Try.underlying56 Try.underlying5 Try.underlying9 (fun j hj => (lit8_row 0 wr _ (Nat.zero_le _)).cells rfl j _ (by
    have : j = 0 := by simp at hj; omega
    subst this
    show some (Value.int .u8 (48 + (m : Int) % 10)) = some (Value.int .u8 ((UInt8.ofNat (48 + m % 10)).toNat : Int))
    rw [digit_val]))

set_option maxRecDepth 100000 in
set_option maxHeartbeats 1600000 in
theorem mark_text (K : Nat) (hK : K ≤ 9223372036854775807) (h1 : 1 ≤ K) (w : World) : Calls Try.prog 61 #[.int .i64 K] w fun e w' => e = .returned (.string (markB K)) ∧ Below w.heap.size w w' := by
  have hp : ¬ (K : Int) ≤ 0 := by omega
  have hp0 : ¬ K = 0 := by omega
  go_enter Try.func61, Try.ntmps61
  go_wp2
  go_loopw [0, 3] (fun k o wr => ∃ (m : Nat) (ds : List UInt8), k = .int .i64 m ∧ o = .string ⟨ds.toArray⟩ ∧ m ≤ K ∧ ds.length ≤ 19 ∧ Hid (m * 10 ^ ds.length ≤ K) ∧ Hid (decNZ m ++ ds = decNZ K) ∧ Hid (Below w.heap.size w wr)) (fun k _ _ => (intOf k).toNat)
  case atStart => exact ⟨K, [], rfl, rfl, Nat.le_refl _, by simp, by show K * 10 ^ ([] : List UInt8).length ≤ K; simp, by show decNZ K ++ [] = decNZ K; simp, Below.refl _ _⟩
  case round =>
    obtain ⟨m, ds, rfl, rfl, hm, hlen, hP, hD, hB⟩ := hrel
    by_cases h0 : 0 < m
    · have hz : (0 : Int) < (m : Int) := by omega
      have hz0 : ¬ m = 0 := by omega
      have hl18 := len_bound m ds.length K (by omega) hz0 hP.out
      have hcv := one_string wr m
      have HD : Hid (decNZ (m / 10) ++ (UInt8.ofNat (48 + m % 10) :: ds) = decNZ K) := by
        show decNZ (m / 10) ++ (UInt8.ofNat (48 + m % 10) :: ds) = decNZ K
        rw [← hD.out, decNZ_step m (by omega)]; simp
      have HP : Hid (m / 10 * 10 ^ (ds.length + 1) ≤ K) := pow_step m ds.length K hP.out
      obtain ⟨d, hd⟩ : ∃ d, UInt8.ofNat (48 + m % 10) = d := ⟨_, rfl⟩
      rw [hd] at hcv HD
      clear hD hd hP
      go_wp2
      go_roundw
      case rel => exact ⟨m / 10, d :: ds, by simp, congrArg Value.string (by show ByteArray.mk [d].toArray ++ ByteArray.mk ds.toArray = _; rw [ByteArray.mk_append_mk]; rfl), by omega, by simp; omega, HP, HD, balloc hB.out _⟩
      case measure => simp [intOf]; omega
    · have hz : ¬ (0 : Int) < (m : Int) := by omega
      have hm0 : m = 0 := by omega
      subst hm0
      have HE : Hid (ds = decNZ K) := by show ds = decNZ K; have := hD.out; simpa [decNZ] using this
      clear hD hP
      go_wp2
      go_ret
      refine ⟨?_, hB.out⟩
      rw [HE.out, markB]
      show Ending.returned (.string (ByteArray.mk [109].toArray ++ ByteArray.mk (decNZ K).toArray)) = _
      rw [ByteArray.mk_append_mk]
      rfl
end Go.Proofs.Ytlglijalhacmhab
