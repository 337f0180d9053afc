/-
  Lists of moulds as told: the model's word.
-/
import Derived.Test.YtdandhmallbemaaDoorMoS
namespace Go.Proofs.YtdandhmallbemaaDoor
open Go.ChangeShapes Go.WideShapes Go.ChangeAt Go.RowKit Go.Joins


set_option maxHeartbeats 1600000 in
theorem okM_spec (L : List Mo) (a : Option Addr) (cap : Nat) (hl : L.length ≤ 1048576) (w : World) (ha : MoArg w a L) : Calls Tryd.prog 33 #[.slice a L.length cap] w fun e w' => e = .returned (.bool (okMos L)) ∧ Below w.heap.size w w' := by
  have HA := Lib.hid ha
  clear ha
  go_enter Tryd.func33, Tryd.ntmps33
  go_wp2
  go_loopw [3] (fun i wr => ∃ (k : Nat), k ≤ L.length ∧ i = .int .i64 k ∧ Hid (∀ (j : Nat) (c : Mo), j < k → L[j]? = some c → c.ok = true) ∧ Hid (Below w.heap.size w wr)) (fun i _ => L.length - (intOf i).toNat)
  case atStart => exact ⟨0, Nat.zero_le _, rfl, fun j c hj => by omega, Below.refl _ _⟩
  case round =>
    obtain ⟨k, hk, rfl, hF, hB⟩ := hrel
    by_cases hlt : k < L.length
    · have hlt' : (k : Int) < (L.length : Int) := by omega
      have hk0 : (0 : Int) ≤ (k : Int) := by omega
      obtain ⟨b, o, c, rfl, hc, hat⟩ := (HA.out.later hB.out).at hlt
      obtain ⟨c0, c1, c2, c3⟩ := hat.cells hc
      have HC := Lib.hid hc
      have C := Lib.hid (mo_one_spec c b (o + k * 4))
      clear hc hat
      cases hok : c.ok
      · go_wp2_with (go_at_call 46; refine (C.out _ c0 c1 c2 c3).mono ?_; rintro e w1 ⟨rfl, rfl⟩)
        go_ret
        exact ⟨ret_bool (okMos_no HC.out hok).symm, hB.out⟩
      · have HK := Lib.hid hok
        go_wp2_with (go_at_call 46; refine (C.out _ c0 c1 c2 c3).mono ?_; rintro e w1 ⟨rfl, rfl⟩)
        go_roundw
        case rel =>
          refine ⟨k + 1, by omega, by go_num, fun j d hj hd => ?_, hB.out⟩
          by_cases e : j = k
          · subst e
            have := HC.out
            rw [hd] at this
            cases this
            exact HK.out
          · exact hF.out j d (by omega) hd
        case measure => simp [intOf]; omega
    · have hge : ¬ (k : Int) < (L.length : Int) := by omega
      have hkn : k = L.length := by omega
      subst hkn
      have HF : Hid (okMos L = decide (L.length ≤ 20)) := by
        show okMos L = _
        by_cases h20 : L.length ≤ 20
        · rw [okMos_yes (fun j c hc => hF.out j c (List.getElem?_eq_some_iff.1 hc).1 hc) h20]; simp [h20]
        · rw [okMos_long h20]; simp [h20]
      by_cases h20 : (L.length : Int) ≤ 20
      all_goals
        go_wp2
        go_ret
        refine ⟨ret_bool ?_, hB.out⟩
        rw [HF.out]
        simp
        omega
theorem valid_mospec (L : List Mo) (a : Option Addr) (cap : Nat) (hl : L.length ≤ 1048576) (w : World) (ha : MoArg w a L) : Calls Tryd.prog 22 #[.slice a L.length cap] w fun e w' => e = .returned (.bool (okMos L)) ∧ Below w.heap.size w w' := by
  have C := Lib.hid (okM_spec L a cap hl w ha)
  clear ha
  go_enter Tryd.func22, Tryd.ntmps22
  go_wp2_with fail
  refine C.out.mono ?_
  rintro e w1 ⟨rfl, hb1⟩
  go_wp2
  go_ret
  exact ⟨rfl, hb1⟩

/-- A mould in a box of its own. -/
theorem box_mo (w : World) (c : Mo) : ∀ wx, Below (w.alloc (.cells #[.int .i64 c.le, .int .i64 c.wi, .int .i64 c.he, .int .i64 c.us] 47)).heap.size (w.alloc (.cells #[.int .i64 c.le, .int .i64 c.wi, .int .i64 c.he, .int .i64 c.us] 47)) wx → wx.cell? ⟨w.heap.size, 0, none⟩ = some (.int .i64 c.le) ∧ wx.cell? ⟨w.heap.size, 1, none⟩ = some (.int .i64 c.wi) ∧ wx.cell? ⟨w.heap.size, 2, none⟩ = some (.int .i64 c.he) ∧ wx.cell? ⟨w.heap.size, 3, none⟩ = some (.int .i64 c.us) := by
  intro wx h
  have hr : (w.alloc (.cells #[.int .i64 c.le, .int .i64 c.wi, .int .i64 c.he, .int .i64 c.us] 47)).rangeAt w.heap.size 0 c.vals := range_new w #[.int .i64 c.le, .int .i64 c.wi, .int .i64 c.he, .int .i64 c.us] 47
  have := boxedMo (range_below hr h)
  simpa using this
end Go.Proofs.YtdandhmallbemaaDoor
