/-
  SameBond: the model's and the program's answer.
-/
import Derived.Test.YtnkaafpdlmmdfaaCoP
import Derived.Test.YtnkaafpdlmmdfaaRow
import Derived.Deep.RegionWith
import Derived.Deep.QuietTactic
import Derived.BigQuiet
import Derived.Laws.StructEq
namespace Go.Proofs.Ytnkaafpdlmmdfaa
open Go.ChangeShapes Go.WideShapes Go.ChangeAt Go.RowKit Go.Joins
/-- Two courses are the same. -/
def Co.same (c d : Co) : Bool := c.lead.toList == d.lead.toList && c.cyc.toList == d.cyc.toList
def sameCoTo (L M : List Co) : Nat → Bool
  | 0 => true
  | k + 1 => sameCoTo L M k && (match L[k]?, M[k]? with | some c, some d => c.same d | _, _ => true)
def sameCoB (L M : List Co) : Bool := decide (L.length = M.length) && sameCoTo L M L.length
def sameBondB (n : ByteArray) (L : List Co) (m : ByteArray) (M : List Co) : Bool := n.toList == m.toList && sameCoB L M
theorem sameCoTo_step {L M : List Co} {k : Nat} {c d : Co} (hc : L[k]? = some c) (hd : M[k]? = some d) : sameCoTo L M (k + 1) = (sameCoTo L M k && c.same d) := by simp [sameCoTo, hc, hd]
theorem sameCoTo_false {L M : List Co} {j k : Nat} (hjk : j ≤ k) (h : sameCoTo L M j = false) : sameCoTo L M k = false := by
  induction k with
  | zero => have : j = 0 := by omega
            subst this; exact h
  | succ k ih =>
    by_cases e : j = k + 1
    · subst e; exact h
    · simp only [sameCoTo]
      rw [ih (by omega)]
      rfl
theorem sameCoTo_refl (L : List Co) : ∀ k, sameCoTo L L k = true
  | 0 => rfl
  | k + 1 => by
    simp only [sameCoTo, sameCoTo_refl L k, Bool.true_and]
    cases h : L[k]? <;> simp [Co.same]
theorem sameBondB_refl (n : ByteArray) (L : List Co) : sameBondB n L n L = true := by simp [sameBondB, sameCoB, sameCoTo_refl]

set_option maxRecDepth 100000 in
set_option maxHeartbeats 1600000 in
theorem sameCos_equal (L M : List Co) (a a' : Option Addr) (cap cap' : Nat) (hl : L.length ≤ 1048576) (_hm : M.length ≤ 1048576) (w : World) (ha : CoArg w a L) (ha' : CoArg w a' M) :
    Calls Try.prog 11 #[.slice a L.length cap, .slice a' M.length cap'] w fun e w' => e = .returned (.bool (sameCoB L M)) ∧ Below w.heap.size w w' := by
  by_cases hlm : L.length = M.length
  case neg =>
    have hlm' : ¬ (L.length : Int) = (M.length : Int) := by omega
    have HE : Hid (sameCoB L M = false) := by show sameCoB L M = false; simp [sameCoB, hlm]
    clear ha ha'
    go_enter Try.func11, Try.ntmps11
    go_wp2
    go_ret
    exact ⟨by rw [HE.out]; rfl, Below.refl _ _⟩
  have HA := Lib.hid ha
  have HA' := Lib.hid ha'
  have HL := Lib.hid hlm
  have hlm' : (L.length : Int) = (M.length : Int) := by omega
  clear ha ha' hlm
  go_enter Try.func11, Try.ntmps11
  go_wp2
  go_loopw [13] (fun i wr => ∃ k : Nat, k ≤ M.length ∧ i = .int .i64 k ∧ Hid (sameCoTo L M k = true) ∧ Hid (Below w.heap.size w wr)) (fun i _ => M.length - (intOf i).toNat)
  case atStart => exact ⟨0, Nat.zero_le _, rfl, rfl, Below.refl _ _⟩
  case round =>
    obtain ⟨k, hk, rfl, hS, hB⟩ := hrel
    by_cases hlt : k < M.length
    · have hlt' : (k : Int) < (M.length : Int) := by omega
      have hk0 : (0 : Int) ≤ (k : Int) := by omega
      obtain ⟨b, o, ⟨n, s1⟩, rfl, hc, hat⟩ := (HA.out.later hB.out).at (k := k) (by rw [HL.out]; exact hlt)
      obtain ⟨b', o', ⟨m, t1⟩, rfl, hd, hat'⟩ := (HA'.out.later hB.out).at hlt
      obtain ⟨c0, c1⟩ := hat.cells hc
      obtain ⟨d0, d1⟩ := hat'.cells hd
      have HC := Lib.hid (sameCoTo_step hc hd)
      dsimp only at c0 c1 d0 d1
      clear hc hd hat hat'
      by_cases e0 : n.toList = m.toList
      case neg =>
        go_wp2_with fail
        go_region
        go_wp2
        go_ret
        refine ⟨ret_bool ?_, hB.out.drew⟩
        have h1 : sameCoTo L M (k + 1) = false := by rw [HC.out]; simp [Co.same, e0]
        have h2 : sameCoTo L M L.length = false := sameCoTo_false (by rw [HL.out]; omega) h1
        rw [sameCoB, h2]
        simp
      obtain rfl := toList_same2 e0
      clear e0
      by_cases e1 : s1.toList = t1.toList
      case neg =>
        go_wp2_with fail
        go_region
        go_wp2
        go_ret
        refine ⟨ret_bool ?_, hB.out.drew⟩
        have h1 : sameCoTo L M (k + 1) = false := by rw [HC.out]; simp [Co.same, e1]
        have h2 : sameCoTo L M L.length = false := sameCoTo_false (by rw [HL.out]; omega) h1
        rw [sameCoB, h2]
        simp
      obtain rfl := toList_same2 e1
      clear e1
      go_wp2_with fail
      go_region
      go_wp2
      go_roundw
      case rel =>
        refine ⟨k + 1, by omega, by go_num, ?_, hB.out.drew⟩
        show sameCoTo L M (k + 1) = true
        rw [HC.out, hS.out]
        simp [Co.same]
      case measure => simp [intOf]; omega
    · have hge : ¬ (k : Int) < (M.length : Int) := by omega
      have hkn : k = M.length := by omega
      subst hkn
      go_wp2
      go_ret
      refine ⟨ret_bool ?_, hB.out⟩
      have h1 := HL.out
      rw [sameCoB, h1, hS.out]
      simp
theorem boxE (w : World) (nm : ByteArray) (v : Value) (t : TypeId) : (w.alloc (.cells #[.string nm, v] t)).cell? ⟨w.heap.size, 0, none⟩ = some (.string nm) ∧ (w.alloc (.cells #[.string nm, v] t)).cell? ⟨w.heap.size, 1, none⟩ = some v := by
  refine ⟨?_, ?_⟩ <;> (rw [cell_of_row _ _ _ _ t (0, 0) (heap_alloc_new w _)]; rfl)
set_option maxRecDepth 100000 in
set_option maxHeartbeats 1600000 in
theorem sameBond_impl (n m : ByteArray) (L M : List Co) (a a' : Option Addr) (cap cap' : Nat) (hl : L.length ≤ 1048576) (hm : M.length ≤ 1048576) (w : World) (ha : CoArg w a L) (ha' : CoArg w a' M) :
    Calls Try.prog 7 #[.agg #[.string n, .slice a L.length cap], .agg #[.string m, .slice a' M.length cap']] w fun e w' => e = .returned (.bool (sameBondB n L m M)) ∧ Below w.heap.size w w' := by
  have C := Lib.hid (fun wx (hx : Below w.heap.size w wx) => sameCos_equal L M a a' cap cap' hl hm wx (ha.later hx) (ha'.later hx))
  clear ha ha'
  by_cases hn : n.toList = m.toList
  · obtain rfl := toList_same2 hn
    have HE : Hid (sameBondB n L n M = sameCoB L M) := by show sameBondB n L n M = _; simp [sameBondB]
    rw [HE.out]
    clear hn
    go_enter Try.func7, Try.ntmps7
    go_wp2_with (go_at_call 11; refine (C.out _ (balloc (balloc0 _ _) _)).mono ?_; rintro e w1 ⟨rfl, hb1⟩; have B1 : Hid (Below w.heap.size w w1) := bnext (balloc (balloc0 _ _) _) hb1; clear hb1)
    go_ret
    exact ⟨rfl, B1.out⟩
  · have HE : Hid (sameBondB n L m M = false) := by show sameBondB n L m M = _; simp [sameBondB, hn]
    rw [HE.out]
    go_enter Try.func7, Try.ntmps7
    go_wp2
    go_ret
    exact ⟨rfl, balloc (balloc0 _ _) _⟩
set_option maxRecDepth 100000 in
set_option maxHeartbeats 3200000 in
theorem sameBond_spec (x y : ByteArray) (L M : List Co) (a a' : Option Addr) (cap cap' : Nat) (hl : L.length ≤ 1048576) (_hm : M.length ≤ 1048576) (w : World) (ha : CoArg w a L) (ha' : CoArg w a' M) :
    Calls Try.prog 5 #[.agg #[.string x, .slice a L.length cap], .agg #[.string y, .slice a' M.length cap']] w fun e w' => e = .returned (.bool (sameBondB x L y M)) ∧ Below w.heap.size w w' := by
  obtain ⟨q0, q1⟩ := boxE w x (.slice a L.length cap) 29
  obtain ⟨p0, p1⟩ := boxE (w.alloc (.cells #[.string x, .slice a L.length cap] 29)) y (.slice a' M.length cap') 29
  have q0' := (World.cell?_alloc_lt (w.alloc (.cells #[.string x, .slice a L.length cap] 29)) (.cells #[.string y, .slice a' M.length cap'] 29) ⟨w.heap.size, 0, none⟩ (by simp)).trans q0
  have q1' := (World.cell?_alloc_lt (w.alloc (.cells #[.string x, .slice a L.length cap] 29)) (.cells #[.string y, .slice a' M.length cap'] 29) ⟨w.heap.size, 1, none⟩ (by simp)).trans q1
  obtain ⟨W0, hW⟩ : ∃ W0, (w.alloc (.cells #[.string x, .slice a L.length cap] 29)).alloc (.cells #[.string y, .slice a' M.length cap'] 29) = W0 := ⟨_, rfl⟩
  have hsz : (w.alloc (.cells #[.string x, .slice a L.length cap] 29)).heap.size = w.heap.size + 1 := by simp
  rw [hsz] at p0 p1
  rw [hW] at p0 p1 q0' q1'
  have E1 : Hid (Below w.heap.size w W0) := by show Below w.heap.size w W0; rw [← hW]; exact balloc (balloc0 _ _) _
  have E0 : Hid (∀ wx, Below W0.heap.size W0 wx → Below w.heap.size w wx) := fun wx h => bnext E1.out h
  have K : Hid (∀ wx, Below W0.heap.size W0 wx → wx.cell? ⟨w.heap.size, 0, none⟩ = some (.string x) ∧ wx.cell? ⟨w.heap.size, 1, none⟩ = some (.slice a L.length cap) ∧ wx.cell? ⟨w.heap.size + 1, 0, none⟩ = some (.string y) ∧ wx.cell? ⟨w.heap.size + 1, 1, none⟩ = some (.slice a' M.length cap')) := fun wx hx =>
    ⟨(hx.cell (World.block_lt_of_cell? W0 _ q0')).trans q0', (hx.cell (World.block_lt_of_cell? W0 _ q1')).trans q1', (hx.cell (World.block_lt_of_cell? W0 _ p0)).trans p0, (hx.cell (World.block_lt_of_cell? W0 _ p1)).trans p1⟩
  have HW := Lib.hid hW
  have HA := Lib.hid (ha.later E1.out)
  have HA' := Lib.hid (ha'.later E1.out)
  clear ha ha' hW hsz q0 q1 q0' q1' p0 p1
  by_cases hxy : x.toList = y.toList
  case neg =>
    have HE : Hid (sameBondB x L y M = false) := by show sameBondB x L y M = _; simp [sameBondB, hxy]
    rw [HE.out]
    go_enter Try.func5, Try.ntmps5
    go_wp2
    go_ret
    exact ⟨rfl, balloc (balloc0 _ _) _⟩
  obtain rfl := toList_same2 hxy
  clear hxy
  by_cases hlm : L.length = M.length
  case neg =>
    have hlm' : ¬ (L.length : Int) = (M.length : Int) := by omega
    have HE : Hid (sameBondB x L x M = false) := by show sameBondB x L x M = false; simp [sameBondB, sameCoB, hlm]
    rw [HE.out]
    go_enter Try.func5, Try.ntmps5
    go_wp2
    go_ret
    exact ⟨rfl, balloc (balloc0 _ _) _⟩
  have HL := Lib.hid hlm
  have hlm' : (L.length : Int) = (M.length : Int) := by omega
  clear hlm
  go_enter Try.func5, Try.ntmps5
  go_wp2
  rw [HW.out]
  go_loopw [5] (fun i wr => ∃ k : Nat, k ≤ M.length ∧ i = .int .i64 k ∧ Hid (sameCoTo L M k = true) ∧ Hid (Below W0.heap.size W0 wr)) (fun i _ => M.length - (intOf i).toNat)
  case atStart => exact ⟨0, Nat.zero_le _, rfl, rfl, Below.refl _ _⟩
  case round =>
    obtain ⟨k, hk, rfl, hS, hB⟩ := hrel
    obtain ⟨q0, q1, p0, p1⟩ := K.out _ hB.out
    by_cases hlt : k < M.length
    · have hlt' : (k : Int) < (M.length : Int) := by omega
      have hk0 : (0 : Int) ≤ (k : Int) := by omega
      obtain ⟨b, o, ⟨n, s1⟩, rfl, hc, hat⟩ := (HA.out.later hB.out).at (k := k) (by rw [HL.out]; exact hlt)
      obtain ⟨b', o', ⟨m, t1⟩, rfl, hd, hat'⟩ := (HA'.out.later hB.out).at hlt
      obtain ⟨c0, c1⟩ := hat.cells hc
      obtain ⟨d0, d1⟩ := hat'.cells hd
      have HC := Lib.hid (sameCoTo_step hc hd)
      dsimp only at c0 c1 d0 d1
      clear hc hd hat hat'
      by_cases e0 : n.toList = m.toList
      case neg =>
        go_wp2_with fail
        go_region
        go_wp2
        go_ret
        refine ⟨ret_bool ?_, E0.out _ hB.out.drew⟩
        have h1 : sameCoTo L M (k + 1) = false := by rw [HC.out]; simp [Co.same, e0]
        have h2 : sameCoTo L M L.length = false := sameCoTo_false (by rw [HL.out]; omega) h1
        rw [sameBondB, sameCoB, h2]
        simp
      obtain rfl := toList_same2 e0
      clear e0
      by_cases e1 : s1.toList = t1.toList
      case neg =>
        go_wp2_with fail
        go_region
        go_wp2
        go_ret
        refine ⟨ret_bool ?_, E0.out _ hB.out.drew⟩
        have h1 : sameCoTo L M (k + 1) = false := by rw [HC.out]; simp [Co.same, e1]
        have h2 : sameCoTo L M L.length = false := sameCoTo_false (by rw [HL.out]; omega) h1
        rw [sameBondB, sameCoB, h2]
        simp
      obtain rfl := toList_same2 e1
      clear e1
      go_wp2_with fail
      go_region
      go_wp2
      go_roundw
      case rel =>
        refine ⟨k + 1, by omega, by go_num, ?_, hB.out.drew⟩
        show sameCoTo L M (k + 1) = true
        rw [HC.out, hS.out]
        simp [Co.same]
      case measure => simp [intOf]; omega
    · have hge : ¬ (k : Int) < (M.length : Int) := by omega
      have hkn : k = M.length := by omega
      subst hkn
      go_wp2
      go_ret
      refine ⟨ret_bool ?_, E0.out _ hB.out⟩
      have h1 := HL.out
      rw [sameBondB, sameCoB, h1, hS.out]
      simp

end Go.Proofs.Ytnkaafpdlmmdfaa
