/-
  Perpends by the model.
-/
import Derived.Test.YtbhjdhkabhafmaaDoorPerp
import Derived.Test.YtbhjdhkabhafmaaDoorInts
namespace Go.Proofs.YtbhjdhkabhafmaaDoor
open Go.ChangeShapes Go.WideShapes Go.ChangeAt Go.RowKit Go.Joins


theorem box2c (w : World) (x y : ByteArray) (t : TypeId) : (w.alloc (.cells #[.string x, .string y] t)).cell? ⟨w.heap.size, 0, none⟩ = some (.string x) ∧ (w.alloc (.cells #[.string x, .string y] t)).cell? ⟨w.heap.size, 1, none⟩ = some (.string y) := by
  refine ⟨?_, ?_⟩ <;> (rw [cell_of_row _ _ _ _ t (0, 0) (heap_alloc_new w _)]; rfl)

set_option maxRecDepth 100000 in
set_option maxHeartbeats 1600000 in
theorem letter_spec (c : Co) (hok : c.ok = true) (i : Nat) (hi : i ≤ 1000) (w : World) :
    Calls Tryd.prog 92 #[.agg #[.string c.lead, .string c.cyc], .int .i64 (i : Int)] w fun e w' => e = .returned (.int .u8 ((letterAt c i).toNat : Int)) ∧ Below w.heap.size w w' := by
  obtain ⟨l1, _, y1, y2, _⟩ := Co.ok_facts hok
  have hi0 : (0 : Int) ≤ (i : Int) := by omega
  clear hok
  by_cases hlt : i < c.lead.size
  · have hlt' : (i : Int) < (c.lead.size : Int) := by omega
    have HE := Lib.hid (letterAt_lead c i hlt)
    go_enter Tryd.func92, Tryd.ntmps92
    go_wp2
    go_ret
    exact ⟨by rw [HE.out]; rfl, balloc0 _ _⟩
  · have hge : ¬ (i : Int) < (c.lead.size : Int) := by omega
    have hm : (i - c.lead.size) % c.cyc.size < c.cyc.size := Nat.mod_lt _ (by omega)
    have HE := Lib.hid (letterAt_cyc c i hlt hm)
    have hz : ¬ (c.cyc.size : Int) = 0 := by omega
    obtain ⟨j, hj⟩ : ∃ j : Nat, Hid ((i - c.lead.size) % c.cyc.size = j) := ⟨_, rfl⟩
    have hjc : (j : Int) < (c.cyc.size : Int) := by have := hj.out; omega
    have hj0 : (0 : Int) ≤ (j : Int) := by omega
    have e1 : ((i : Int) - (c.lead.size : Int)) % (c.cyc.size : Int) = (j : Int) := by
      have h1 : (i : Int) - (c.lead.size : Int) = ((i - c.lead.size : Nat) : Int) := by omega
      rw [h1, ← hj.out]
      exact (Int.natCast_emod _ _).symm
    have hjn : j < c.cyc.size := by omega
    have HF : Hid (letterAt c i = c.cyc[j]'hjn) := by
      show letterAt c i = _
      rw [HE.out]
      congr 1
    clear hm HE
    obtain ⟨g0, g1⟩ := box2c w c.lead c.cyc 98
    have zz : (0 : Int) ≤ (c.cyc.size : Int) := by omega
    go_enter Tryd.func92, Tryd.ntmps92
    go_wp2
    go_region
    go_wp2
    go_ret
    exact ⟨by rw [HF.out]; rfl, (balloc0 _ _).drew⟩

/-- Perpends are handed back. -/
def PerpOut (w : World) (c : Co) (u : Nat) (e : Ending) (w' : World) : Prop :=
  ∃ m g cap, PerpIs c u m ∧ e = .returned (.slice (some ⟨g, 0, none⟩) m cap) ∧ IntOwn w.heap.size (perpL c m) g w' ∧ Below w.heap.size w w'

theorem own_later {w w' : World} {B e size n : Nat} {v : Value} {xs : List Value} (h : w.ownsRow B e size v n xs) (hb : Below w.heap.size w w') : w'.ownsRow B e size v n xs := by
  refine ⟨h.1, ?_⟩
  rcases h.2 with hn | ⟨g, cap, cur, hv, hB, hgg, rest⟩
  · exact .inl hn
  · exact .inr ⟨g, cap, cur, hv, hB, (hb.block g (Array.getElem?_eq_some_iff.1 hgg).1).trans hgg, rest⟩
theorem nums_later {W0 w w' : World} {ps : List Int} {g cap : Nat} (h : NumsAt W0 ps g cap w) (hb : Below w.heap.size w w') : NumsAt W0 ps g cap w' :=
  ⟨own_later h.1 hb, h.2.1.trans (hb.mono (Nat.le_of_succ_le h.2.2)), Nat.le_trans h.2.2 hb.size⟩
end Go.Proofs.YtbhjdhkabhafmaaDoor
