/-
  Whether clays are as told: the model's word.
-/
import Derived.Test.YtlglijalhacmhabClay
import Derived.Test.YtlglijalhacmhabClayM
import Derived.Deep.RegionWith
namespace Go.Proofs.Ytlglijalhacmhab
open Go.ChangeShapes Go.WideShapes Go.ChangeAt Go.RowKit Go.Joins

set_option maxHeartbeats 3200000 in
theorem okC_spec (L : List Cl) (a : Option Addr) (cap : Nat) (hl : L.length ≤ 1048576) (w : World) (ha : ClArg w a L) : Calls Try.prog 98 #[.slice a L.length cap] w fun e w' => e = .returned (.bool (okCls L)) ∧ Below w.heap.size w w' := by
  have HA := Lib.hid ha
  clear ha
  go_enter Try.func98, Try.ntmps98
  go_wp2
  go_loopw [3] (fun i wr => ∃ (k : Nat), k ≤ L.length ∧ i = .int .i64 k ∧ Hid (fromB L k = fromB L 0) ∧ Hid (Below w.heap.size w wr)) (fun i _ => L.length - (intOf i).toNat)
  case atStart => exact ⟨0, Nat.zero_le _, rfl, rfl, Below.refl _ _⟩
  case round =>
    obtain ⟨k, hk, rfl, hF, hB⟩ := hrel
    by_cases hlt : k < L.length
    · have hlt' : (k : Int) < (L.length : Int) := by omega
      have hk0 : (0 : Int) ≤ (k : Int) := by omega
      obtain ⟨b, o, c, rfl, hc, hat⟩ := (HA.out.later hB.out).at hlt
      obtain ⟨c0, c1, c2, c3, c4⟩ := hat.cells hc
      have HT := Lib.hid hat
      have HC := Lib.hid hc
      have C := Lib.hid (one_spec c b (o + k * 5))
      have HS : Hid (fromB L k = (c.ok && !seenB L k c.name && fromB L (k + 1))) := by
        show fromB L k = _
        rw [fromB_step L k hlt, fineAt_eq hc]
      clear hc hat
      cases hok : c.ok
      · go_wp2_with (go_at_call 140; refine (C.out _ c0 c1 c2 c3 c4).mono ?_; rintro e w1 ⟨rfl, rfl⟩)
        go_ret
        refine ⟨ret_bool ?_, hB.out⟩
        have hz : fromB L 0 = false := by rw [← hF.out, HS.out, hok]; simp
        rw [okCls, hz]
        simp
      · go_wp2_with (go_at_call 140; refine (C.out _ c0 c1 c2 c3 c4).mono ?_; rintro e w1 ⟨rfl, rfl⟩)
        clear c1 c2 c3 c4 C
        go_loopw [4] (fun u wq => ∃ (m : Nat), m ≤ k ∧ u = .int .i64 m ∧ Hid (seenB L m c.name = false) ∧ Hid (Below w.heap.size w wq)) (fun u _ => k - (intOf u).toNat)
        case atStart => exact ⟨0, Nat.zero_le _, rfl, seenB_zero L _, hB.out⟩
        case round =>
          obtain ⟨m, hm, rfl, hE, hBq⟩ := hrel
          by_cases hmk : m < k
          · have hmk' : (m : Int) < (k : Int) := by omega
            have hm0 : (0 : Int) ≤ (m : Int) := by omega
            have hml : (m : Int) < (L.length : Int) := by omega
            obtain ⟨d, hd⟩ : ∃ d, L[m]? = some d := ⟨_, List.getElem?_eq_getElem (by omega)⟩
            have hat := (HA.out.later hBq.out).lies
            have d0 := (hat.cells hd).1
            have e0 := (hat.cells HC.out).1
            have HN : Hid (seenB L (m + 1) c.name = (seenB L m c.name || decide (d.name = c.name))) := seenB_step hd c.name
            obtain ⟨x, hx⟩ : ∃ x, d.name = x := ⟨_, rfl⟩
            obtain ⟨y, hy⟩ : ∃ y, c.name = y := ⟨_, rfl⟩
            rw [hx] at d0 HN
            rw [hy] at e0 HN hE HS
            have HY := Lib.hid hy
            clear hat hd hx hy c0
            by_cases hxy : x = y
            · subst hxy
              go_wp2
              go_region
              go_wp2
              go_ret
              refine ⟨ret_bool ?_, hBq.out.drew⟩
              have h1 : seenB L (m + 1) x = true := by rw [HN.out]; simp
              have h2 := seenB_mono (k := k) (by omega) h1
              have hz : fromB L 0 = false := by rw [← hF.out, HS.out, h2]; simp
              rw [okCls, hz]
              simp
            · have hne := sneB hxy
              go_wp2
              go_region
              go_wp2
              go_roundw
              case rel =>
                refine ⟨m + 1, by omega, by go_num, ?_, hBq.out.drew⟩
                show seenB L (m + 1) c.name = false
                rw [HY.out, HN.out, hE.out]
                simp [hxy]
              case measure => simp [intOf]; omega
          · have hge : ¬ (m : Int) < (k : Int) := by omega
            have hmk : m = k := by omega
            subst hmk
            go_wp2
            go_roundw
            case rel =>
              refine ⟨m + 1, by omega, by go_num, ?_, hBq.out⟩
              show fromB L (m + 1) = fromB L 0
              rw [← hF.out, HS.out, hok, hE.out]
              simp
            case measure => simp [intOf]; omega
    · have hge : ¬ (k : Int) < (L.length : Int) := by omega
      have hkn : k = L.length := by omega
      subst hkn
      by_cases h6 : (L.length : Int) ≤ 6
      all_goals
        go_wp2
        go_ret
        refine ⟨ret_bool ?_, hB.out⟩
        have hz : fromB L 0 = true := by rw [← hF.out]; exact fromB_end L _ (Nat.le_refl _)
        rw [okCls, hz]
        simp
        omega
end Go.Proofs.Ytlglijalhacmhab
