/-
  Rows of courses that are handed back: read, marked, held.
-/
import Derived.Test.YtgffgcobgjngnaaDoorRbS
import Derived.Test.YtgffgcobgjngnaaDoorCoM
namespace Go.Proofs.YtgffgcobgjngnaaDoor
open Go.ChangeShapes Go.WideShapes Go.ChangeAt Go.RowKit Go.Joins

theorem coVals_length : ∀ L : List Co, (coVals L).length = L.length * 2
  | [] => rfl
  | a :: L => by
    have e : coVals (a :: L) = .string a.lead :: .string a.cyc :: coVals L := by simp [coVals]
    rw [e, List.length_cons, List.length_cons, coVals_length L, List.length_cons]
    omega
theorem coVals_at : ∀ (L : List Co) (k : Nat) (c : Co), L[k]? = some c → (coVals L)[k * 2]? = some (.string c.lead) ∧ (coVals L)[k * 2 + 1]? = some (.string c.cyc)
  | [], k, c, h => by simp at h
  | a :: L, 0, c, h => by
    have e : coVals (a :: L) = .string a.lead :: .string a.cyc :: coVals L := by simp [coVals]
    simp only [List.getElem?_cons_zero, Option.some.injEq] at h
    subst h
    rw [e]
    exact ⟨rfl, rfl⟩
  | a :: L, k + 1, c, h => by
    have e : coVals (a :: L) = .string a.lead :: .string a.cyc :: coVals L := by simp [coVals]
    rw [List.getElem?_cons_succ] at h
    obtain ⟨h1, h2⟩ := coVals_at L k c h
    rw [e]
    have e1 : (k + 1) * 2 = k * 2 + 1 + 1 := by omega
    rw [e1]
    exact ⟨h1, h2⟩
/-- An own row of courses is nothing or lies in a block of its own. -/
theorem own_co {w : World} {B : Nat} {L : List Co} {ao : Option Addr} {cp : Nat} (h : w.ownsRow B 68 2 (.slice ao L.length cp) L.length (coVals L)) : L = [] ∨ ∃ g, ao = some ⟨g, 0, none⟩ ∧ CoOwn B L g w := by
  rcases h.2 with ⟨_, h0⟩ | ⟨g, c, cur, hv, hB, hg, _⟩
  · exact .inl (List.eq_nil_of_length_eq_zero h0)
  · cases hv
    refine .inr ⟨g, rfl, hB, fun k c hk j v hv => ?_, fun j hj => ?_, (Array.getElem?_eq_some_iff.1 hg).1⟩
    · have hl := (List.getElem?_eq_some_iff.1 hk).1
      obtain ⟨h1, h2⟩ := coVals_at L k c hk
      have hj : j = 0 ∨ j = 1 := by
        have := (List.getElem?_eq_some_iff.1 hv).1
        simp [Co.vals] at this
        omega
      rcases hj with rfl | rfl
      · have e : v = .string c.lead := by simpa [Co.vals] using hv.symm
        subst e
        show w.cell? ⟨g, 0 + k * 2 + 0, none⟩ = _
        rw [show 0 + k * 2 + 0 = k * 2 by omega, World.ownsRow.cellAt h (k * 2) (by omega)]
        exact h1
      · have e : v = .string c.cyc := by simpa [Co.vals] using hv.symm
        subst e
        show w.cell? ⟨g, 0 + k * 2 + 1, none⟩ = _
        rw [show 0 + k * 2 + 1 = k * 2 + 1 by omega, World.ownsRow.cellAt h (k * 2 + 1) (by omega)]
        exact h2
    · rw [Nat.zero_add]
      refine ⟨?_, World.ownsRow.frozenAt h j⟩
      rw [World.ownsRow.cellAt h j (by omega), List.getElem?_eq_getElem (by rw [coVals_length]; exact hj)]
      rfl
theorem only_afterR {g : Nat} {w v u : World} (h : Below w.heap.size w v) (k : Only g v u) : Only g w u :=
  ⟨k.os.trans h.os, k.tape.trans h.tape, k.output.trans h.output, Nat.le_trans h.size k.size, fun i hi hne => (k.block i (Nat.lt_of_lt_of_le hi h.size) hne).trans (h.block i hi)⟩

theorem mark_bondR (nm : ByteArray) (n : Nat) (hn : n ≤ 1048577) (K : Nat) (h1 : 1 ≤ K) (hK2 : K ≤ 100000000) (g cap : Nat) (w : World) (h : w.there g 0 (n * 2)) :
    Calls Tryd.prog 12 #[.agg #[.string nm, .slice (some ⟨g, 0, none⟩) n cap], .int .i64 K] w fun e w' => e = .returned (.int .i64 ((K + 2 * n : Nat) : Int)) ∧ Only g w w' ∧ CoAt w' g 0 (mcoL K n) := by
  have hsz : g < w.heap.size ∨ n = 0 := by
    by_cases h0 : n = 0
    · exact .inr h0
    · obtain ⟨h2, _⟩ := h 0 (by omega)
      obtain ⟨u, hu⟩ := Option.isSome_iff_exists.1 h2
      exact .inl (World.block_lt_of_cell? w _ hu)
  have C := Lib.hid (fun wx (hx : Below w.heap.size w wx) => mark_courses n hn K h1 hK2 g cap wx (there_below h hx))
  clear h
  go_enter Tryd.func12, Tryd.ntmps12
  go_wp2_with fail
  refine (C.out _ (balloc0 _ _)).mono ?_
  rintro e w1 ⟨rfl, ho, hc, _⟩
  have O1 := Lib.hid (only_afterR (balloc0 _ _) ho)
  have C1 := Lib.hid hc
  clear ho hc hsz
  go_wp2
  go_ret
  exact ⟨rfl, O1.out, C1.out⟩

theorem held_bond (nm : ByteArray) (n : Nat) (hn : n ≤ 1048577) (K : Nat) (h1 : 1 ≤ K) (hK2 : K ≤ 100000000) (g cap : Nat) (w : World) (h : CoAt w g 0 (mcoL K n)) :
    Calls Tryd.prog 13 #[.agg #[.string nm, .slice (some ⟨g, 0, none⟩) n cap], .int .i64 K] w fun e w' => e = .returned (.int .i64 ((K + 2 * n : Nat) : Int)) ∧ Below w.heap.size w w' := by
  have C := Lib.hid (fun wx (hx : Below w.heap.size w wx) => held_courses n hn K h1 hK2 g cap wx (h.later hx))
  have hz : ¬ ((K + 2 * n : Nat) : Int) < 0 := by omega
  obtain ⟨z, hzz⟩ : ∃ z : Int, ((K + 2 * n : Nat) : Int) = z := ⟨_, rfl⟩
  rw [hzz] at hz ⊢
  have HZ := Lib.hid hzz
  clear h hzz
  go_enter Tryd.func13, Tryd.ntmps13
  go_wp2_with fail
  refine (C.out _ (balloc0 _ _)).mono ?_
  rintro e w1 ⟨rfl, hb⟩
  rw [HZ.out]
  have B1 := Lib.hid (bnext (balloc0 _ _) hb)
  clear hb
  go_wp2
  go_ret
  exact ⟨rfl, B1.out⟩
theorem mark_none (nm : ByteArray) (K : Int) (a : Option Addr) (cap : Nat) (w : World) :
    Calls Tryd.prog 12 #[.agg #[.string nm, .slice a 0 cap], .int .i64 K] w fun e w' => e = .returned (.int .i64 K) ∧ Below w.heap.size w w' := by
  have C : Hid (∀ w, Calls Tryd.prog 34 #[.slice a 0 cap, .int .i64 K] w fun e w' => e = .returned (.int .i64 K) ∧ Below w.heap.size w w') := fun w => by
    go_enter Tryd.func34, Tryd.ntmps34
    go_wp2
    refine wp_loop_rounds 1 ?_
    rw [rounds_succ]
    go_wp2
    go_ret
    exact ⟨rfl, Below.refl _ _⟩
  go_enter Tryd.func12, Tryd.ntmps12
  go_wp2_with fail
  refine (C.out _).mono ?_
  rintro e w1 ⟨rfl, hb⟩
  have B1 := Lib.hid (bnext (balloc0 _ _) hb)
  clear hb
  go_wp2
  go_ret
  exact ⟨rfl, B1.out⟩
theorem held_none (nm : ByteArray) (K : Int) (hK : ¬ K < 0) (a : Option Addr) (cap : Nat) (w : World) :
    Calls Tryd.prog 13 #[.agg #[.string nm, .slice a 0 cap], .int .i64 K] w fun e w' => e = .returned (.int .i64 K) ∧ Below w.heap.size w w' := by
  have C : Hid (∀ w, Calls Tryd.prog 35 #[.slice a 0 cap, .int .i64 K] w fun e w' => e = .returned (.int .i64 K) ∧ Below w.heap.size w w') := fun w => by
    go_enter Tryd.func35, Tryd.ntmps35
    go_wp2
    refine wp_loop_rounds 1 ?_
    rw [rounds_succ]
    go_wp2
    go_ret
    exact ⟨rfl, Below.refl _ _⟩
  go_enter Tryd.func13, Tryd.ntmps13
  go_wp2_with fail
  refine (C.out _).mono ?_
  rintro e w1 ⟨rfl, hb⟩
  have B1 := Lib.hid (bnext (balloc0 _ _) hb)
  clear hb
  go_wp2
  go_ret
  exact ⟨rfl, B1.out⟩
end Go.Proofs.YtgffgcobgjngnaaDoor
