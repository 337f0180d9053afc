/-
  CheckBond: the model.
-/
import Derived.Test.YtgffgcobgjngnaaDoorRbL
namespace Go.Proofs.YtgffgcobgjngnaaDoor
open Go.ChangeShapes Go.WideShapes Go.ChangeAt Go.RowKit Go.Joins

set_option maxRecDepth 100000 in
set_option maxHeartbeats 6400000 in
theorem checkText_spec (s : ByteArray) (hs : s.size ≤ 1048576) (w : World) :
    Calls Tryd.prog 14 #[.string s] w (ChkOut s w) := by
  by_cases hbig : 400 < s.size
  · have HO := Lib.hid (fun w' hb => chk_bad s w w' hbig hb)
    have hb' : (400 : Int) < (s.size : Int) := by omega
    clear hbig hs
    go_enter Tryd.func14, Tryd.ntmps14
    go_wp2
    refine bodyPost_ret (v := .tuple #[.agg #[.string ⟨#[]⟩, .slice none 0 0], .slice none 0 0, .int .i64 5]) (by simp [results, Tryd.results14, go_sem]) rfl (HO.out _ (balloc0 w _))
  have hb' : ¬ (400 : Int) < (s.size : Int) := by omega
  have B0 : Hid (Below w.heap.size w (w.alloc (.cells #[.string ⟨#[]⟩, .slice none 0 0] 24))) := balloc0 _ _
  have T0 : Hid ((w.alloc (.cells #[.string ⟨#[]⟩, .slice none 0 0] 24)).there w.heap.size 0 2) := there_new w _ _ 2 rfl
  have C := Lib.hid (lcheck_spec s (by omega) (w.alloc (.cells #[.string ⟨#[]⟩, .slice none 0 0] 24)))
  have hsz : (w.alloc (.cells #[.string ⟨#[]⟩, .slice none 0 0] 24)).heap.size = w.heap.size + 1 := by simp
  obtain ⟨W0, hW⟩ : ∃ W0, w.alloc (.cells #[.string ⟨#[]⟩, .slice none 0 0] 24) = W0 := ⟨_, rfl⟩
  rw [hW] at C B0 T0 hsz
  have HW := Lib.hid hW
  unfold LckOut at C
  rw [hsz] at C
  have HZ := Lib.hid hsz
  have HG : Hid (chkP s = [] → chkBad s = false ∧ ckN s = (wordsB s).getD 0 .empty ∧ ckL s = cosTo (wordsB s) (wordsB s).length) := fun h => by
    have e : chkBad s = false := by simp [chkBad, h]; omega
    have e' : ¬ chkBad s = true := by rw [e]; decide
    exact ⟨e, by rw [ckN, if_neg e'], by rw [ckL, if_neg e']⟩
  have HBd : Hid (¬ chkP s = [] → chkBad s = true ∧ ckN s = .empty ∧ ckL s = []) := fun h => by
    have e : chkBad s = true := by
      have : (chkP s).isEmpty = false := by cases hq : chkP s with | nil => exact absurd hq h | cons a b => rfl
      simp [chkBad, this]
    exact ⟨e, by rw [ckN, if_pos e], by rw [ckL, if_pos e]⟩
  have HCd : Hid (ckC s = 0 ∧ ckP s = chkP s) := ⟨by rw [ckC, if_neg hbig], by rw [ckP, if_neg hbig]⟩
  clear hbig hs hsz hW
  go_enter Tryd.func14, Tryd.ntmps14
  go_wp2_with fail
  rw [HW.out]
  refine C.out.mono ?_
  rintro e w1 ⟨N, cv, pv, rfl, hN, hcg, hcb, hp, hb⟩
  have HB1 : Below W0.heap.size W0 w1 := by rw [HZ.out]; exact hb
  have B1 := Lib.hid (bnext B0.out HB1)
  have TX := there_below T0.out HB1
  obtain ⟨ap, cp, hv⟩ := own_slice hp
  subst hv
  have OC : Hid (w1.ownsRow (w.heap.size + 1) 68 2 cv (ckL s).length (coVals (ckL s)) ∧ N = ckN s ∧ chkBad s = !decide ((chkP s).length = 0)) := by
    by_cases h : chkP s = []
    · obtain ⟨e1, e2, e3⟩ := HG.out h
      exact ⟨by rw [e3]; exact hcg h, by rw [hN, if_pos h, e2], by rw [e1, h]; rfl⟩
    · obtain ⟨e1, e2, e3⟩ := HBd.out h
      have hl : ¬ (chkP s).length = 0 := fun e => h (List.eq_nil_of_length_eq_zero e)
      exact ⟨by rw [e3, hcb h]; exact ⟨rfl, .inl ⟨rfl, rfl⟩⟩, by rw [hN, if_neg h, e2], by rw [e1, decide_eq_false hl]; rfl⟩
  obtain ⟨ac, cc, hv⟩ := own_slice OC.out.1
  subst hv
  obtain ⟨lc, hlc⟩ : ∃ l, (ckL s).length = l := ⟨_, rfl⟩
  obtain ⟨l, hl⟩ : ∃ l, (chkP s).length = l := ⟨_, rfl⟩
  rw [hlc, hl] at OC
  rw [hl] at hp
  rw [hlc, hl]
  have TN := there_below TX (balloc0 w1 (.cells #[.string N, .slice ac lc cc] 24))
  have OPr := Lib.hid hp
  have fin : Hid (∀ ob w2, w2 = ((w1.alloc ob).setCell ⟨w.heap.size, 0, none⟩ (.string N)).setCell ⟨w.heap.size, 1, none⟩ (.slice ac lc cc) → ChkOut s w (.returned (.tuple #[.agg #[.string N, .slice ac lc cc], .slice ap l cp, .int .i64 0])) w2) := fun ob w2 hw2 => by
    subst hw2
    refine ⟨_, _, by rw [OC.out.2.1, HCd.out.1], ?_, ?_, (((balloc B1.out _).setCell (Nat.le_refl _) _).setCell (Nat.le_refl _) _)⟩
    · rw [hlc]
      exact own_low (B := w.heap.size + 1) (own_set (own_set (OC.out.1.alloc _) (by omega)) (by omega)) (by omega)
    · rw [HCd.out.2, hl]
      exact own_low (B := w.heap.size + 1) (own_set (own_set (OPr.out.alloc _) (by omega)) (by omega)) (by omega)
  clear hN hcg hcb hp hb HB1 TX hlc hl
  obtain ⟨u0, x0, t0⟩ := there_at TN (k := 0) (by omega)
  obtain ⟨u1, x1, t1⟩ := there_at TN (k := 1) (by omega)
  clear TN
  go_wp2
  refine bodyPost_ret (v := .tuple #[.agg #[.string N, .slice ac lc cc], .slice ap l cp, .int .i64 0]) (by simp [results, Tryd.results14, go_sem, x0, x1]) rfl (fin.out _ _ rfl)
end Go.Proofs.YtgffgcobgjngnaaDoor
