/-
  The pieces of a course by the program: its reader, and where pieces end.
-/
import Derived.Test.YtplggghhhgmebaaDoorPerpS
import Derived.Test.YtplggghhhgmebaaDoorPerpV
import Derived.Test.YtplggghhhgmebaaDoorBuildW
import Derived.Test.YtplggghhhgmebaaDoorShelfB
import Derived.Deep.DeepMust
namespace Go.Proofs.YtplggghhhgmebaaDoor
open Go.ChangeShapes Go.WideShapes Go.ChangeAt Go.RowKit Go.Joins

/-- The reader's box. -/
def RdAt (r : Nat) (c : Co) (i e : Nat) (w : World) : Prop := w.heap[r]? = some (.cells #[.string c.lead, .string c.cyc, .int .i64 (i : Int), .int .i64 (e : Int)] 82 (0, 0))
theorem RdAt.keep {ts : List TypeId} {r : Nat} {c : Co} {i e : Nat} {w w' : World} (h : RdAt r c i e w) (hk : KeepT ts w w') (ht : 82 ∉ ts) : RdAt r c i e w' := hk _ _ _ _ h ht

set_option maxRecDepth 100000 in
set_option maxHeartbeats 1600000 in
theorem read_impl (c : Co) (hok : c.ok = true) (r i e : Nat) (hi : i ≤ 1000) (w : World) (h : RdAt r c i e w) :
    Calls Tryd.prog 52 #[.pointer (some ⟨r, 0, none⟩)] w fun en w' => en = .returned (.int .u8 ((letterAt c i).toNat : Int)) ∧ RdAt r c (i + 1) e w' ∧ Below r w w' ∧ KeepT [82] w w' := by
  have c0 : w.cell? ⟨r, 0, none⟩ = some (.string c.lead) := (cell_of_block h 0).trans rfl
  have c1 : w.cell? ⟨r, 1, none⟩ = some (.string c.cyc) := (cell_of_block h 1).trans rfl
  have c2 : w.cell? ⟨r, 2, none⟩ = some (.int .i64 (i : Int)) := (cell_of_block h 2).trans rfl
  have f2 : w.frozen? ⟨r, 2, none⟩ = false := unfrozen_of_block h 2
  have R1 : Hid (∀ v : Int, v = (i : Int) + 1 → RdAt r c (i + 1) e (w.drew.setCell ⟨r, 2, none⟩ (.int .i64 v))) := fun v hv => by
    have h2 := block_setCell (w := w.drew) (i := 2) h (.int .i64 v)
    unfold RdAt
    subst hv
    simpa using h2
  have R2 : Hid (∀ v : Value, Below r w (w.drew.setCell ⟨r, 2, none⟩ v)) := fun v => (Below.refl r w).drew.setCell (p := ⟨r, 2, none⟩) (Nat.le_refl _) v
  have R3 : Hid (∀ v : Value, KeepT [82] w (w.drew.setCell ⟨r, 2, none⟩ v)) := fun v => KeepT.set (w := w.drew) h (by simp)
  obtain ⟨l1, _, y1, y2, _⟩ := Co.ok_facts hok
  have hi0 : (0 : Int) ≤ (i : Int) := by omega
  clear hok h
  by_cases hlt : i < c.lead.size
  · have hlt' : (i : Int) < (c.lead.size : Int) := by omega
    have HE := Lib.hid (letterAt_lead c i hlt)
    go_enter Tryd.func52, Tryd.ntmps52
    go_wp2
    go_region
    go_wp2
    go_ret
    exact ⟨by rw [HE.out]; rfl, R1.out _ rfl, R2.out _, R3.out _⟩
  · have hge : ¬ (i : Int) < (c.lead.size : Int) := by omega
    have hm : (i - c.lead.size) % c.cyc.size < c.cyc.size := Nat.mod_lt _ (by omega)
    have HE := Lib.hid (letterAt_cyc c i hlt hm)
    have hz : ¬ (c.cyc.size : Int) = 0 := by omega
    obtain ⟨j, hj⟩ : ∃ j : Nat, Hid ((i - c.lead.size) % c.cyc.size = j) := ⟨_, rfl⟩
    have hjc : (j : Int) < (c.cyc.size : Int) := by have := hj.out; omega
    have hj0 : (0 : Int) ≤ (j : Int) := by omega
    have e1 : ((i : Int) - (c.lead.size : Int)) % (c.cyc.size : Int) = (j : Int) := by
      have h1 : (i : Int) - (c.lead.size : Int) = ((i - c.lead.size : Nat) : Int) := by omega
      rw [h1, ← hj.out]
      exact (Int.natCast_emod _ _).symm
    have hjn : j < c.cyc.size := by omega
    have HF : Hid (letterAt c i = c.cyc[j]'hjn) := by
      show letterAt c i = _
      rw [HE.out]
      congr 1
    clear hm HE
    go_enter Tryd.func52, Tryd.ntmps52
    go_wp2
    go_region
    go_wp2
    go_ret
    exact ⟨by rw [HF.out]; rfl, R1.out _ rfl, R2.out _, R3.out _⟩

theorem quartersI (k : Int) (w : World) : Calls Tryd.prog 53 #[.int .u8 k] w fun e w' => ∃ z : Int, e = .returned (.tuple #[.int .i64 (qtrI k), .int .i64 z]) ∧ w = w' := by
  by_cases h1 : k = 83
  · subst h1
    go_enter Tryd.func53, Tryd.ntmps53
    go_wp2
    go_ret2
    exact ⟨0, rfl, rfl⟩
  by_cases h2 : k = 84
  · subst h2
    go_enter Tryd.func53, Tryd.ntmps53
    go_wp2
    go_ret2
    exact ⟨0, rfl, rfl⟩
  by_cases h3 : k = 72
  · subst h3
    go_enter Tryd.func53, Tryd.ntmps53
    go_wp2
    go_ret2
    exact ⟨0, rfl, rfl⟩
  by_cases h4 : k = 66
  · subst h4
    go_enter Tryd.func53, Tryd.ntmps53
    go_wp2
    go_ret2
    exact ⟨0, rfl, rfl⟩
  by_cases h5 : k = 67
  · subst h5
    go_enter Tryd.func53, Tryd.ntmps53
    go_wp2
    go_ret2
    exact ⟨0, rfl, rfl⟩
  go_enter Tryd.func53, Tryd.ntmps53
  go_wp2
  go_ret2
  exact ⟨2, by simp [qtrI, h1, h2, h3, h4, h5], rfl⟩

set_option maxRecDepth 100000 in
set_option maxHeartbeats 1600000 in
theorem readPlace_impl (c : Co) (hok : c.ok = true) (r i : Nat) (hi : i ≤ 1000) (w : World) (h : RdAt r c i (ends c i) w) :
    Calls Tryd.prog 48 #[.pointer (some ⟨r, 0, none⟩)] w fun en w' => en = .returned (.tuple #[.int .u8 ((letterAt c i).toNat : Int), .int .i64 ((ends c (i + 1) : Nat) : Int)]) ∧ RdAt r c (i + 1) (ends c (i + 1)) w' ∧ Below r w w' ∧ KeepT [82] w w' := by
  have hb : ends c i ≤ 4 * i := by
    clear h
    induction i with
    | zero => exact Nat.le_refl _
    | succ i ih => have := ih (by omega); have := (ends_step hok i).2; omega
  have C := Lib.hid (read_impl c hok r i (ends c i) hi w h)
  have Q := Lib.hid (quartersI ((letterAt c i).toNat : Int))
  rw [← qtr_eq] at Q
  have hq4 := qtr_le (letterAt c i)
  have HS : Hid (ends c (i + 1) = ends c i + qtr (letterAt c i)) := rfl
  obtain ⟨E, hE⟩ : ∃ E, ends c i = E := ⟨_, rfl⟩
  obtain ⟨q, hq⟩ : ∃ q, qtr (letterAt c i) = q := ⟨_, rfl⟩
  obtain ⟨x, hx⟩ : ∃ x : Int, ((letterAt c i).toNat : Int) = x := ⟨_, rfl⟩
  rw [hE] at C HS hb
  rw [hq] at Q HS hq4
  rw [hx] at C Q ⊢
  rw [HS.out]
  clear hE hq hx h
  go_enter Tryd.func48, Tryd.ntmps48
  go_wp2_with fail
  refine C.out.mono ?_
  rintro en w1 ⟨rfl, h1, hb1, hk1⟩
  have B1 := Lib.hid hb1
  have K1 := Lib.hid hk1
  have H1 := Lib.hid h1
  have c3 : w1.cell? ⟨r, 3, none⟩ = some (.int .i64 (E : Int)) := (cell_of_block h1 3).trans rfl
  have f3 : w1.frozen? ⟨r, 3, none⟩ = false := unfrozen_of_block h1 3
  clear h1 hb1 hk1
  go_wp2_with fail
  refine (Q.out _).mono ?_
  rintro en w2 ⟨z, rfl, rfl⟩
  have R1 : Hid (∀ v : Int, v = (E : Int) + q → RdAt r c (i + 1) (E + q) (w1.setCell ⟨r, 3, none⟩ (.int .i64 v))) := fun v hv => by
    have h2 := block_setCell (i := 3) H1.out (.int .i64 v)
    unfold RdAt
    subst hv
    simpa using h2
  have R2 : Hid (∀ v : Value, Below r w (w1.setCell ⟨r, 3, none⟩ v)) := fun v => B1.out.setCell (p := ⟨r, 3, none⟩) (Nat.le_refl _) v
  have R3 : Hid (∀ v : Value, KeepT [82] w (w1.setCell ⟨r, 3, none⟩ v)) := fun v => K1.out.trans (KeepT.set H1.out (by simp))
  have c4 : (w1.setCell ⟨r, 3, none⟩ (.int .i64 ((E : Int) + q))).cell? ⟨r, 3, none⟩ = some (.int .i64 ((E : Int) + q)) := World.cell?_setCell_same _ _ _ c3
  go_wp2
  go_region
  go_wp2
  go_ret2
  exact ⟨by simp, R1.out _ rfl, (R2.out _).drew, R3.out _⟩
end Go.Proofs.YtplggghhhgmebaaDoor
