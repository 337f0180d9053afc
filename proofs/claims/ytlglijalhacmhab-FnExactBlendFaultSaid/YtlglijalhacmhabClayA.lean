/-
  What the laws ask of clays before and behind the call: their size, copies, equality.
-/
import Derived.Test.YtlglijalhacmhabClay
import Derived.Test.YtlglijalhacmhabClayZ
import Derived.Deep.RegionWith
import Derived.Deep.OwnRows
namespace Go.Proofs.Ytlglijalhacmhab
open Go.ChangeShapes Go.WideShapes Go.ChangeAt Go.RowKit Go.Joins

set_option maxHeartbeats 1600000 in
theorem sz_clays (L : List Cl) (a : Option Addr) (cap : Nat) (left : Int) (h0 : 0 ≤ left) (h1 : left ≤ 1048576) (hl : L.length ≤ 9223372036854775807) (hs : NamesLe 9223372036854775807 L) (w : World) (ha : ClArg w a L) :
    Calls Try.prog 11 #[.slice a L.length cap, .int .i64 left] w fun e w' => ∃ r : Int, e = .returned (.int .i64 r) ∧ -1 ≤ r ∧ r ≤ left ∧ (0 ≤ r → L.length ≤ 1048576 ∧ NamesLe 1048576 L) ∧ Below w.heap.size w w' := by
  by_cases hm : left - (L.length : Int) < 0
  · go_enter Try.func11, Try.ntmps11
    go_wp2
    go_ret
    exact ⟨-1, rfl, by omega, by omega, fun h => by omega, Below.refl _ _⟩
  have HA := Lib.hid ha
  have HS := Lib.hid hs
  clear ha hs
  go_enter Try.func11, Try.ntmps11
  go_wp2
  go_loopw [1, 5] (fun u i wr => ∃ (k : Nat) (r : Int), k ≤ L.length ∧ u = .int .i64 r ∧ i = .int .i64 k ∧ 0 ≤ r ∧ r ≤ left ∧ Hid (∀ (j : Nat) (c : Cl), j < k → L[j]? = some c → c.name.size ≤ 1048576) ∧ Hid (Below w.heap.size w wr)) (fun _ i _ => L.length - (intOf i).toNat)
  case atStart => exact ⟨0, _, Nat.zero_le _, rfl, rfl, by omega, by omega, fun j c hj => by omega, Below.refl _ _⟩
  case round =>
    obtain ⟨k, r, hk, rfl, rfl, hr0, hr1, hM, hB⟩ := hrel
    by_cases hlt : k < L.length
    · have hlt' : (k : Int) < (L.length : Int) := by omega
      have hk0 : (0 : Int) ≤ (k : Int) := by omega
      obtain ⟨b, o, c, rfl, hc, hat⟩ := (HA.out.later hB.out).at hlt
      obtain ⟨c0, c1, c2, c3, c4⟩ := hat.cells hc
      have C := Lib.hid (sz_clay c r hr0 (by omega) (HS.out k c hc))
      have HC := Lib.hid hc
      clear hc hat
      go_wp2_with fail
      refine (C.out _).mono ?_
      rintro e w1 ⟨q, rfl, hq0, hq1, hq2, hb1⟩
      have B1 := Lib.hid (bnext hB.out hb1)
      have HQ := Lib.hid hq2
      clear hb1 hq2
      by_cases hq : q < 0
      · go_wp2
        go_ret
        exact ⟨-1, rfl, by omega, by omega, fun h => by omega, B1.out⟩
      · go_wp2
        go_roundw
        case rel =>
          refine ⟨k + 1, q, by omega, rfl, by go_num, by omega, by omega, fun j d hj hd => ?_, B1.out⟩
          by_cases e : j = k
          · subst e
            rw [HC.out] at hd
            cases hd
            exact HQ.out (by omega)
          · exact hM.out j d (by omega) hd
        case measure => simp [intOf]; omega
    · have hge : ¬ (k : Int) < (L.length : Int) := by omega
      have hkn : k = L.length := by omega
      subst hkn
      go_wp2
      go_ret
      exact ⟨r, rfl, by omega, by omega, fun _ => ⟨by omega, fun j c hj => hM.out j c (List.getElem?_eq_some_iff.1 hj).1 hj⟩, hB.out⟩
end Go.Proofs.Ytlglijalhacmhab
