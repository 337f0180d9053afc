/-
  The walk of the model's decimal form.
-/
import Derived.Test.YtikjielgnlgnjaaDoorDec
import Derived.OwnWalk
import Derived.Deep.DeepMust
namespace Go.Proofs.YtikjielgnlgnjaaDoor
open Go.ChangeShapes Go.WideShapes Go.ChangeAt Go.RowKit Go.Joins

theorem infoU8 : (Tryd.prog.info? 5).map (fun i => (i.zero, i.size, i.bytes)) = some (some (.int .u8 0), 1, 1) := by kernel_rfl
theorem dec_zero : Lib.decDigits 0 = [48] := by rw [Lib.decDigits]; rfl
theorem dec_start (w : World) (M : Nat) : DecAt w M M [] w.heap.size 0 (w.alloc (.cells #[] 5)) := by
  refine ⟨⟨rfl, .inr ⟨w.heap.size, 0, #[], rfl, Nat.le_refl _, heap_alloc_new w _, Nat.le_refl _, Nat.zero_le _, rfl, rfl⟩⟩, by simp, by simp, balloc0 _ _, by simp⟩
theorem decNZ_pow : ∀ (n M : Nat), M < 10 ^ n → (decNZ M).length ≤ n
  | 0, M, h => by simp at h; subst h; simp [decNZ]
  | n + 1, M, h => by
    by_cases h0 : M = 0
    · subst h0; simp [decNZ]
    · rw [decNZ_step M h0]
      have := decNZ_pow n (M / 10) (by rw [Nat.pow_succ] at h; omega)
      simp; omega
theorem decNZ_len (M : Nat) (h : M ≤ 9223372036854775808) : (decNZ M).length ≤ 20 := by
  have h20 : (10 : Nat) ^ 20 = 100000000000000000000 := by decide
  exact decNZ_pow 20 M (by omega)
theorem lit_row (base : Nat) (wr : World) (c : Value) (hb : base ≤ wr.heap.size) : (wr.alloc (.cells #[c] 5)).ownsRow base 5 1 (.slice (some ⟨wr.heap.size, 0, none⟩) 1 1) 1 [c] :=
  ⟨rfl, .inr ⟨wr.heap.size, 1, #[c], rfl, hb, heap_alloc_new wr _, Nat.le_refl _, by decide, rfl, rfl⟩⟩

set_option maxRecDepth 100000 in
set_option maxHeartbeats 1600000 in
theorem dec_pos (M : Nat) (hM : M ≤ 9223372036854775807) (w : World) : Calls Tryd.prog 91 #[.int .i64 M] w fun e w' => e = .returned (.string ⟨(Lib.decDigits M).toArray⟩) ∧ Below w.heap.size w w' := by
  obtain ⟨i0, hi, hz0, hz1, hz2⟩ := info_parts infoU8
  go_enter Tryd.func91, Tryd.ntmps91
  go_wp2
  go_loopw [3, 4] (fun v k wr => ∃ (m : Nat) (ds : List UInt8) (g cap : Nat), v = .slice (some ⟨g, 0, none⟩) ds.length cap ∧ k = .int .i64 m ∧ m ≤ M ∧ Hid (DecAt w M m ds g cap wr)) (fun _ k _ => (intOf k).toNat)
  case atStart => exact ⟨M, [], w.heap.size, 0, rfl, rfl, Nat.le_refl _, dec_start w M⟩
  case round =>
    obtain ⟨m, ds, g, cap, rfl, rfl, hmM, hD⟩ := hrel
    by_cases h0 : m = 0
    · subst h0
      have hds : ds = decNZ M := by have := hD.out.2.1; simpa [decNZ] using this
      have hF : Hid (DecAt w M 0 ds g cap wr) := hD
      by_cases hM0 : M = 0
      · subst hM0
        have : ds = [] := by rw [hds]; rfl
        subst this
        clear hds
        go_wp2
        go_ret
        exact ⟨by rw [dec_zero]; rfl, hF.out.2.2.2.1⟩
      · have hne : ¬ (ds.length : Int) = 0 := by
          rw [hds, decNZ, if_neg hM0]
          have : 0 < (Lib.decDigits M).length := by
            rw [Lib.decDigits]; split <;> simp
          omega
        have hcv := dec_string hD.out
        have HE : Hid (ds = Lib.decDigits M) := by rw [hds, decNZ, if_neg hM0]; rfl
        clear hds
        go_wp2
        go_ret
        exact ⟨by rw [HE.out]; rfl, hF.out.2.2.2.1⟩
    · have hz : ¬ (m : Int) = 0 := by omega
      have hlen := len_bound m ds.length M (by omega) h0 hD.out.2.2.1
      have hbase : w.heap.size ≤ wr.heap.size := by have := hD.out.2.2.2.2; omega
      have c3 : Hid (1 + ds.length ≤ maxLen) := by show 1 + ds.length ≤ maxLen; unfold maxLen; omega
      go_wp2_with (at_builtin; go_must ((refine wpList_append_own _ rfl _ _ 83 rfl w.heap.size 5 i0 (.int .u8 0) 1 1 Tryd.underlying83 hi hz0 hz1 hz2 rfl (by decide) (.slice (some ⟨wr.heap.size, 0, none⟩) 1 1) 1 [.int .u8 (48 + (m : Int) % 10)] rfl (lit_row _ _ _ hbase) ⟨g, 0, none⟩ ds.length cap (byteVals ds) rfl (by simp [byteVals]) (hD.out.source _ _) (byteVals_one ds) c3.out (by omega) (by simp; omega) ?_; intro v1 w1 hown1 hgrow1 _)))
      obtain ⟨g', cap', hv, hD'⟩ := dec_step hD.out h0 (by rw [← byteVals_cons, digit_val]; exact hown1) hgrow1
      subst hv
      go_roundw
      case rel => exact ⟨m / 10, _, g', cap', rfl, by simp, by omega, hD'⟩
      case measure => simp [intOf]; omega

theorem neg_tmod (m : Nat) : (-(m : Int)).tmod 10 = -((m : Int) % 10) := by rw [Int.neg_tmod, Int.tmod_eq_emod_of_nonneg (by omega)]
theorem neg_tdiv (m : Nat) : (-(m : Int)).tdiv 10 = -((m : Int) / 10) := by rw [Int.neg_tdiv, Int.tdiv_eq_ediv_of_nonneg (by omega)]

set_option maxRecDepth 100000 in
set_option maxHeartbeats 1600000 in
theorem dec_neg (M : Nat) (hM : M ≤ 9223372036854775808) (hM1 : M ≠ 0) (w : World) : Calls Tryd.prog 91 #[.int .i64 (-(M : Int))] w fun e w' => e = .returned (.string ⟨(45 :: Lib.decDigits M).toArray⟩) ∧ Below w.heap.size w w' := by
  obtain ⟨i0, hi, hz0, hz1, hz2⟩ := info_parts infoU8
  have hneg : -(M : Int) < 0 := by omega
  go_enter Tryd.func91, Tryd.ntmps91
  go_wp2
  go_loopw [3, 4, 5] (fun v k _ wr => ∃ (m : Nat) (ds : List UInt8) (g cap : Nat), v = .slice (some ⟨g, 0, none⟩) ds.length cap ∧ k = .int .i64 (-(m : Int)) ∧ m ≤ M ∧ Hid (DecAt w M m ds g cap wr)) (fun _ k _ _ => (-(intOf k)).toNat)
  case atStart => exact ⟨M, [], w.heap.size, 0, rfl, rfl, Nat.le_refl _, dec_start w M⟩
  case round =>
    obtain ⟨m, ds, g, cap, rfl, rfl, hmM, hD⟩ := hrel
    by_cases h0 : m = 0
    · subst h0
      have hds : ds = decNZ M := by have := hD.out.2.1; simpa [decNZ] using this
      have hne : ¬ (ds.length : Int) = 0 := by
        rw [hds, decNZ, if_neg hM1]
        have : 0 < (Lib.decDigits M).length := by
          rw [Lib.decDigits]; split <;> simp
        omega
      have hlen : ds.length ≤ 100 := by
        rw [hds]
        have := decNZ_len M hM
        omega
      have hcv := dec_string hD.out
      have HE : Hid (ds = Lib.decDigits M) := by rw [hds, decNZ, if_neg hM1]; rfl
      clear hds
      go_wp2
      go_ret
      refine ⟨?_, hD.out.2.2.2.1⟩
      rw [HE.out]
      show Ending.returned (.string (ByteArray.mk [45].toArray ++ ByteArray.mk (Lib.decDigits M).toArray)) = _
      rw [ByteArray.mk_append_mk]
      rfl
    · have hz : ¬ -(m : Int) = 0 := by omega
      have hlen := len_bound m ds.length M (by omega) h0 hD.out.2.2.1
      have hbase : w.heap.size ≤ wr.heap.size := by have := hD.out.2.2.2.2; omega
      have c3 : Hid (1 + ds.length ≤ maxLen) := by show 1 + ds.length ≤ maxLen; unfold maxLen; omega
      have e2 := neg_tdiv m
      by_cases hd : (m : Int) % 10 = 0
      · have e1 : (-(m : Int)).tmod 10 = 0 := by rw [neg_tmod, hd]; rfl
        have HD := Lib.hid hd
        clear hd
        go_wp2_with (at_builtin; go_must ((refine wpList_append_own _ rfl _ _ 83 rfl w.heap.size 5 i0 (.int .u8 0) 1 1 Tryd.underlying83 hi hz0 hz1 hz2 rfl (by decide) (.slice (some ⟨wr.heap.size, 0, none⟩) 1 1) 1 [.int .u8 (48)] rfl (lit_row _ _ _ hbase) ⟨g, 0, none⟩ ds.length cap (byteVals ds) rfl (by simp [byteVals]) (hD.out.source _ _) (byteVals_one ds) c3.out (by omega) (by simp; omega) ?_; intro v1 w1 hown1 hgrow1 _)))
        have h48 : (48 : Int) = 48 + (m : Int) % 10 := by rw [HD.out]; rfl
        obtain ⟨g', cap', hv, hD'⟩ := dec_step hD.out h0 (by rw [← byteVals_cons, digit_val, ← h48]; exact hown1) (by rw [← h48]; exact hgrow1)
        subst hv
        go_roundw
        case rel => exact ⟨m / 10, _, g', cap', rfl, by simp, by omega, hD'⟩
        case measure => simp [intOf]; omega
      · have e1 := neg_tmod m
        have hlt : -((m : Int) % 10) < 0 := by omega
        have hge : 0 ≤ (m : Int) % 10 := by omega
        have hle : (m : Int) % 10 ≤ 9 := by omega
        clear hd
        go_wp2_with (at_builtin; go_must ((refine wpList_append_own _ rfl _ _ 83 rfl w.heap.size 5 i0 (.int .u8 0) 1 1 Tryd.underlying83 hi hz0 hz1 hz2 rfl (by decide) (.slice (some ⟨wr.heap.size, 0, none⟩) 1 1) 1 [.int .u8 (48 + (m : Int) % 10)] rfl (lit_row _ _ _ hbase) ⟨g, 0, none⟩ ds.length cap (byteVals ds) rfl (by simp [byteVals]) (hD.out.source _ _) (byteVals_one ds) c3.out (by omega) (by simp; omega) ?_; intro v1 w1 hown1 hgrow1 _)))
        obtain ⟨g', cap', hv, hD'⟩ := dec_step hD.out h0 (by rw [← byteVals_cons, digit_val]; exact hown1) hgrow1
        subst hv
        go_roundw
        case rel => exact ⟨m / 10, _, g', cap', rfl, by simp, by omega, hD'⟩
        case measure => simp [intOf]; omega

/-- The model's decimal form is the library's. -/
theorem dec_spec (n : Int) (h0 : -9223372036854775808 ≤ n) (h1 : n ≤ 9223372036854775807) (w : World) : Calls Tryd.prog 91 #[.int .i64 n] w fun e w' => e = .returned (.string ⟨(Lib.itoa n).toArray⟩) ∧ Below w.heap.size w w' := by
  by_cases h : n < 0
  · obtain ⟨m, rfl⟩ : ∃ m : Nat, n = -(m : Int) := ⟨n.natAbs, by omega⟩
    have e : Lib.itoa (-(m : Int)) = 45 :: Lib.decDigits m := by
      rw [Lib.itoa, if_pos h]
      have : (-(m : Int)).natAbs = m := by omega
      rw [this]
    rw [e]
    exact dec_neg m (by omega) (by omega) w
  · obtain ⟨m, rfl⟩ := Int.eq_ofNat_of_zero_le (show 0 ≤ n by omega)
    have e : Lib.itoa (m : Int) = Lib.decDigits m := by
      rw [Lib.itoa, if_neg (by omega)]
      have : (m : Int).toNat = m := by omega
      rw [this]
    rw [e]
    exact dec_pos m (by omega) w
end Go.Proofs.YtikjielgnlgnjaaDoor
