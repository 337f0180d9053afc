/-
  What the drawn laws ask besides: code that is short, equal lists of numbers, sums; and what lasts.
-/
import Derived.Test.YtdandhmallbemaaDoorDrP
import Derived.Test.YtdandhmallbemaaDoorInts
namespace Go.Proofs.YtdandhmallbemaaDoor
open Go.ChangeShapes Go.WideShapes Go.ChangeAt Go.RowKit Go.Joins

theorem big6 (a : Option Addr) (len cap : Nat) (w : World) : Calls Tryd.prog 4 #[.slice a len cap] w fun e w' => e = .returned (.bool (decide ((4096 : Int) < (len : Int)))) ∧ w = w' := by
  go_enter Tryd.func4, Tryd.ntmps4
  go_wp2
  go_ret
  first | exact ⟨rfl, rfl⟩ | exact ⟨ret_bool (by simp), rfl⟩
/-- Code that came in is there in every later world. -/
theorem code_later {w wx : World} {cv : Value} (h : CodeAt w w.heap.size cv) (hb : Below w.heap.size w wx) : CodeAt wx wx.heap.size cv := by
  rcases h with h | ⟨b, o, len, cap, z, h1, h2, h3, h4⟩
  · exact .inl h
  · exact .inr ⟨b, o, len, cap, z, h1, by have := hb.size; omega, h3, fun i hi => ⟨(hb.cell (p := ⟨b, o + i, none⟩) h2).trans (h4 i hi).1, (h4 i hi).2⟩⟩
theorem MoRow.later {b : Nat} {L : List Mo} {v : Value} {w w' : World} (h : MoRow b L v w) (hb : Below w.heap.size w w') : MoRow b L v w' := row_on h hb
theorem MoRow.arg {b cap : Nat} {L : List Mo} {a : Option Addr} {w : World} (h : MoRow b L (.slice a L.length cap) w) : MoArg w a L := by
  by_cases h0 : L.length = 0
  · exact .inl (List.length_eq_zero_iff.1 h0)
  · obtain ⟨g, cp, hv, ho⟩ := own_moulds rfl h0 h
    cases hv
    exact ho.arg
/-- Equal lists of numbers. -/
theorem ints6 (P : List Int) (a a' : Option Addr) (cap cap' : Nat) (hl : P.length ≤ 1048577) (w : World) (ha : IntArg w a P) (ha' : IntArg w a' P) :
    Calls Tryd.prog 18 #[.slice a P.length cap, .slice a' P.length cap'] w fun e w' => e = .returned (.bool true) ∧ Below w.heap.size w w' := by
  have HA := Lib.hid ha
  have HA' := Lib.hid ha'
  clear ha ha'
  go_enter Tryd.func18, Tryd.ntmps18
  go_wp2
  go_loopw [5] (fun i wr => ∃ k : Nat, k ≤ P.length ∧ i = .int .i64 k ∧ Hid (Below w.heap.size w wr)) (fun i _ => P.length - (intOf i).toNat)
  case atStart => exact ⟨0, Nat.zero_le _, rfl, Below.refl _ _⟩
  case round =>
    obtain ⟨k, hk, rfl, hB⟩ := hrel
    by_cases hlt : k < P.length
    · have hlt' : (k : Int) < (P.length : Int) := by omega
      have hk0 : (0 : Int) ≤ (k : Int) := by omega
      obtain ⟨b, o, z, rfl, hz, hat⟩ := (HA.out.later hB.out).at hlt
      obtain ⟨b', o', z', rfl, hz', hat'⟩ := (HA'.out.later hB.out).at hlt
      rw [hz] at hz'
      cases hz'
      have c0 := hat k z hz
      have c1 := hat' k z hz
      clear hz hat hat'
      go_wp2
      go_region
      all_goals
        go_wp2
        go_roundw
        case rel => exact ⟨k + 1, by omega, by go_num, hB.out.drew⟩
        case measure => simp [intOf]; omega
    · have hge : ¬ (k : Int) < (P.length : Int) := by omega
      go_wp2
      go_ret
      exact ⟨rfl, hB.out⟩
theorem sum_take {P : List Int} {k : Nat} {z : Int} (h : P[k]? = some z) : (P.take (k + 1)).sum = (P.take k).sum + z := by
  rw [List.take_add_one, h, List.sum_append]
  simp
/-- The sum of numbers. -/
theorem sum6 (P : List Int) (a : Option Addr) (cap : Nat) (hl : P.length ≤ 100000) (hr : ∀ (k : Nat) (z : Int), P[k]? = some z → 0 ≤ z ∧ z ≤ 1000000) (w : World) (ha : IntArg w a P) :
    Calls Tryd.prog 24 #[.slice a P.length cap] w fun e w' => e = .returned (.int .i64 P.sum) ∧ Below w.heap.size w w' := by
  have HA := Lib.hid ha
  have HR := Lib.hid hr
  clear ha hr
  go_enter Tryd.func24, Tryd.ntmps24
  go_wp2
  go_loopw [3, 4] (fun s i wr => ∃ (k : Nat) (t : Int), k ≤ P.length ∧ s = .int .i64 t ∧ i = .int .i64 k ∧ Hid (t = (P.take k).sum) ∧ 0 ≤ t ∧ t ≤ 1000000 * (k : Int) ∧ Hid (Below w.heap.size w wr)) (fun _ i _ => P.length - (intOf i).toNat)
  case atStart => exact ⟨0, 0, Nat.zero_le _, rfl, rfl, rfl, by omega, by omega, Below.refl _ _⟩
  case round =>
    obtain ⟨k, t, hk, rfl, rfl, hT, t0, t1, hB⟩ := hrel
    by_cases hlt : k < P.length
    · have hlt' : (k : Int) < (P.length : Int) := by omega
      have hk0 : (0 : Int) ≤ (k : Int) := by omega
      obtain ⟨b, o, z, rfl, hz, hat⟩ := (HA.out.later hB.out).at hlt
      have c0 := hat k z hz
      obtain ⟨z0, z1⟩ := HR.out k z hz
      have HS : Hid (t + z = (P.take (k + 1)).sum) := by show _ = _; rw [sum_take hz, hT.out]
      have e1 : IntKind.i64.wrap (t + z) = t + z := IntWalk.i64_in _ (by omega)
      clear hz hat
      go_wp2
      go_roundw
      case rel => exact ⟨k + 1, t + z, by omega, by first | rfl | go_num, by go_num, HS.out, by omega, by omega, hB.out⟩
      case measure => simp [intOf]; omega
    · have hge : ¬ (k : Int) < (P.length : Int) := by omega
      have hkk : k = P.length := by omega
      have HS : Hid (t = P.sum) := by show _ = _; rw [hT.out, hkk, List.take_length]
      go_wp2
      go_ret
      exact ⟨by rw [← HS.out]; rfl, hB.out⟩
end Go.Proofs.YtdandhmallbemaaDoor
