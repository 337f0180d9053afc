/-
  impl.IsName, by runes.
-/
import Derived.Test.YtlglijalhacmhabIsName
namespace Go.Proofs.Ytlglijalhacmhab
open Go.ChangeShapes Go.WideShapes Go.ChangeAt Go.RowKit Go.Joins

/-- What is left to show at position k: behind the first letter all letters decide, at the first one the name itself. -/
def leftB (s : ByteArray) (k : Nat) : Bool := if k = 0 then nameB s else restB s k
theorem leftB_pos (s : ByteArray) (k : Nat) (h : 0 < k) : leftB s k = restB s k := by simp [leftB]; omega
theorem leftB_first (s : ByteArray) (h : 0 < s.size) (h2 : s.size ≤ 12) : leftB s 0 = (smallC (s[0]'h).toNat && restB s 1) := by
  have e : leftB s 0 = nameB s := rfl
  rw [e]
  cases hc : smallC (s[0]'h).toNat
  · rw [nameB_first s h hc]; rfl
  · rw [nameB_rest s h h2 hc, restB_step s 0 h, okC_eq, hc]; rfl

set_option maxHeartbeats 3200000 in
theorem name_impl (s : ByteArray) (w : World) : Calls Try.prog 161 #[.string s] w fun e w' => e = .returned (.bool (nameB s)) ∧ Below w.heap.size w w' := by
  by_cases h0 : 1 ≤ s.size
  case neg =>
    rw [nameB_short s h0]
    have h0' : (s.size : Int) < 1 := by omega
    go_enter Try.func161, Try.ntmps161
    go_wp2
    go_ret
    exact ⟨rfl, Below.refl _ _⟩
  have h0' : (1 : Int) ≤ (s.size : Int) := by omega
  by_cases h1 : s.size ≤ 12
  case neg =>
    rw [nameB_long s h1]
    have h1' : (12 : Int) < (s.size : Int) := by omega
    go_enter Try.func161, Try.ntmps161
    go_wp2
    go_ret
    exact ⟨rfl, Below.refl _ _⟩
  have h1' : (s.size : Int) ≤ 12 := by omega
  go_enter Try.func161, Try.ntmps161
  go_wp2
  go_loopw [3, 4] (fun _ _ w' => ∃ k : Nat, w' = w.iter s k ∧ k ≤ s.size ∧ Hid (leftB s k = nameB s)) (fun _ _ w' => s.size - w'.iterPos w.heap.size)
  case atStart => exact ⟨0, rfl, Nat.zero_le _, rfl⟩
  case round =>
    obtain ⟨k, rfl, hk, hR⟩ := hrel
    by_cases hlt : k < s.size
    · by_cases ha : (s[k]'hlt).toNat < 128
      · have hnx : ∀ ty, (Instr.next (.pointer (some ⟨w.heap.size, 0, none⟩)) true ty).run Try.prog (w.iter s k) = _ := fun ty => run_next_ascii w s k ty hlt ha
        obtain ⟨c, hc⟩ : ∃ c : Nat, Hid ((s[k]'hlt).toNat = c) := ⟨_, rfl⟩
        rw [hc.out] at hnx
        have HS : Hid (restB s k = (okC c && restB s (k + 1))) := by rw [← hc.out]; exact restB_step s k hlt
        have H0 : Hid (k = 0 → leftB s 0 = (smallC c && restB s 1)) := by
          intro e; subst e; rw [← hc.out]; exact leftB_first s hlt h1
        cases hc1 : smallC c
        · by_cases hz : k = 0
          · subst hz
            go_wp2_with (first | (go_at_call 185; refine (small_impl _ _).mono ?_; rintro e w' ⟨rfl, rfl⟩) | (go_at_call 186; refine (digit_impl _ _).mono ?_; rintro e w' ⟨rfl, rfl⟩))
            go_ret
            exact ⟨ret_bool (by rw [← hR.out, H0.out (by trivial), hc1]; rfl), balloc0 _ _⟩
          · have hz' : ¬ (k : Int) = 0 := by omega
            cases hc2 : (decide (48 ≤ (c : Int)) && decide ((c : Int) ≤ 57))
            · by_cases hc3 : (c : Int) = 45
              · obtain rfl : c = 45 := by omega
                go_wp2_with (first | (go_at_call 185; refine (small_impl _ _).mono ?_; rintro e w' ⟨rfl, rfl⟩) | (go_at_call 186; refine (digit_impl _ _).mono ?_; rintro e w' ⟨rfl, rfl⟩))
                go_roundw
                case rel => exact ⟨k + 1, rfl, by omega, by show leftB s (k + 1) = nameB s; rw [← hR.out, leftB_pos s k (by omega), leftB_pos s (k + 1) (by omega), HS.out]; rfl⟩
                case measure => simp; omega
              · have hc3' : ((c : Int) != 45) = true := by simp [hc3]
                go_wp2_with (first | (go_at_call 185; refine (small_impl _ _).mono ?_; rintro e w' ⟨rfl, rfl⟩) | (go_at_call 186; refine (digit_impl _ _).mono ?_; rintro e w' ⟨rfl, rfl⟩))
                go_ret
                exact ⟨ret_bool (by rw [← hR.out, leftB_pos s k (by omega), HS.out, okC_eq, hc1, digC, hc2]; simp [hc3]), balloc0 _ _⟩
            · go_wp2_with (first | (go_at_call 185; refine (small_impl _ _).mono ?_; rintro e w' ⟨rfl, rfl⟩) | (go_at_call 186; refine (digit_impl _ _).mono ?_; rintro e w' ⟨rfl, rfl⟩))
              go_roundw
              case rel => exact ⟨k + 1, rfl, by omega, by show leftB s (k + 1) = nameB s; rw [← hR.out, leftB_pos s k (by omega), leftB_pos s (k + 1) (by omega), HS.out, okC_eq, hc1, digC, hc2]; simp⟩
              case measure => simp; omega
        · go_wp2_with (first | (go_at_call 185; refine (small_impl _ _).mono ?_; rintro e w' ⟨rfl, rfl⟩) | (go_at_call 186; refine (digit_impl _ _).mono ?_; rintro e w' ⟨rfl, rfl⟩))
          go_roundw
          case rel =>
            refine ⟨k + 1, rfl, by omega, ?_⟩
            show leftB s (k + 1) = nameB s
            rw [← hR.out, leftB_pos s (k + 1) (by omega)]
            by_cases hz : k = 0
            · subst hz; rw [H0.out (by trivial), hc1]; rfl
            · rw [leftB_pos s k (by omega), HS.out, okC_eq, hc1]; simp
          case measure => simp; omega
      · have hnx : ∀ ty, (Instr.next (.pointer (some ⟨w.heap.size, 0, none⟩)) true ty).run Try.prog (w.iter s k) = _ := fun ty => run_next_any w s k ty hlt
        have hd := decode_high s k hlt (by omega)
        obtain ⟨r, hr⟩ : ∃ r : Nat, (Utf8.decode s k).1 = r := ⟨_, rfl⟩
        obtain ⟨d, hd2⟩ : ∃ d : Nat, (Utf8.decode s k).2 = d := ⟨_, rfl⟩
        rw [hr, hd2] at hnx
        rw [hr] at hd
        have h128 := hd.1
        have hF : Hid (nameB s = false) := by
          show nameB s = false
          rw [← hR.out]
          by_cases hz : k = 0
          · subst hz; rw [leftB_first s hlt h1, smallC_high _ (by omega)]; rfl
          · rw [leftB_pos s k (by omega), restB_step s k hlt, okC_high _ (by omega)]; rfl
        have hs1 : smallC (r : Int) = false := smallC_high _ (by omega)
        have hs2 : (decide (48 ≤ (r : Int)) && decide ((r : Int) ≤ 57)) = false := by simp; omega
        have hs3 : ((r : Int) != 45) = true := by simp; omega
        clear hr hd2 hd ha
        by_cases hz : k = 0
        · subst hz
          go_wp2_with (first | (go_at_call 185; refine (small_impl _ _).mono ?_; rintro e w' ⟨rfl, rfl⟩) | (go_at_call 186; refine (digit_impl _ _).mono ?_; rintro e w' ⟨rfl, rfl⟩))
          go_ret
          exact ⟨ret_bool hF.out.symm, balloc0 _ _⟩
        · have hz' : ¬ (k : Int) = 0 := by omega
          go_wp2_with (first | (go_at_call 185; refine (small_impl _ _).mono ?_; rintro e w' ⟨rfl, rfl⟩) | (go_at_call 186; refine (digit_impl _ _).mono ?_; rintro e w' ⟨rfl, rfl⟩))
          go_ret
          exact ⟨ret_bool hF.out.symm, balloc0 _ _⟩
    · have hnx : ∀ ty, (Instr.next (.pointer (some ⟨w.heap.size, 0, none⟩)) true ty).run Try.prog (w.iter s k) = _ := fun ty => run_next_end w s k ty hlt
      go_wp2
      go_ret
      exact ⟨ret_bool (by rw [← hR.out, leftB_pos s k (by omega), restB_end s k (by omega)]), balloc0 _ _⟩

end Go.Proofs.Ytlglijalhacmhab
