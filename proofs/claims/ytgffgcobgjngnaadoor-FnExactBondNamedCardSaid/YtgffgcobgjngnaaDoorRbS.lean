/-
  ReadBond: the program and the model.
-/
import Derived.Test.YtgffgcobgjngnaaDoorChkD
import Derived.Test.YtgffgcobgjngnaaDoorChkT
namespace Go.Proofs.YtgffgcobgjngnaaDoor
open Go.ChangeShapes Go.WideShapes Go.ChangeAt Go.RowKit Go.Joins

/-- What ReadBond hands back. -/
def RbOut (s : ByteArray) (w : World) (e : Ending) (w' : World) : Prop :=
  ∃ cv, e = .returned (.tuple #[.agg #[.string (ckN s), cv], .bool (!chkBad s)]) ∧ w'.ownsRow w.heap.size 68 2 cv (ckL s).length (coVals (ckL s)) ∧ Below w.heap.size w w'
theorem own_slice {w : World} {B e size n : Nat} {v : Value} {xs : List Value} (h : w.ownsRow B e size v n xs) : ∃ ao cp, v = .slice ao n cp := by
  rcases h.2 with ⟨hv, h0⟩ | ⟨g, c, cur, hv, _⟩
  · exact ⟨_, _, by rw [h0]; exact hv⟩
  · exact ⟨_, _, hv⟩
theorem own_low {w : World} {B B' e size n : Nat} {v : Value} {xs : List Value} (h : w.ownsRow B e size v n xs) (hb : B' ≤ B) : w.ownsRow B' e size v n xs := by
  refine ⟨h.1, ?_⟩
  rcases h.2 with hn | ⟨g, cap, cur, hv, hB, rest⟩
  · exact .inl hn
  · exact .inr ⟨g, cap, cur, hv, Nat.le_trans hb hB, rest⟩
/-- An own row stays where a low block is written that it does not lie in. -/
theorem own_set {w : World} {B e size n b o : Nat} {v u : Value} {xs : List Value} (h : w.ownsRow B e size v n xs) (hb : b < B) : (w.setCell ⟨b, o, none⟩ u).ownsRow B e size v n xs := by
  refine ⟨h.1, ?_⟩
  rcases h.2 with hn | ⟨g, cap, cur, hv, hB, hgg, rest⟩
  · exact .inl hn
  · exact .inr ⟨g, cap, cur, hv, hB, (Below.heap_setCell _ _ _ _ (by show g ≠ b; omega)).trans hgg, rest⟩
theorem bad_eq (s : ByteArray) : (!chkBad s) = (decide (ckC s = 0) && decide ((ckP s).length = 0)) := by
  unfold chkBad ckC ckP
  by_cases h : 400 < s.size
  · simp [h]
  · cases hp : chkP s <;> simp [h]
set_option maxRecDepth 100000 in
set_option maxHeartbeats 6400000 in
theorem readBond_impl (s : ByteArray) (hs : s.size ≤ 1048576) (m : Int) (w : World) (hm : w.cell? ⟨2, 0, none⟩ = some (.int .i64 m)) :
    Calls Tryd.prog 32 #[.string s] w (RbOut s w) := by
  have B0 : Hid (Below w.heap.size w (w.alloc (.cells #[.string ⟨#[]⟩, .slice none 0 0] 24))) := balloc0 _ _
  have T0 : Hid ((w.alloc (.cells #[.string ⟨#[]⟩, .slice none 0 0] 24)).there w.heap.size 0 2) := there_new w _ _ 2 rfl
  have C := Lib.hid (checkText_impl s hs m (w.alloc (.cells #[.string ⟨#[]⟩, .slice none 0 0] 24)) ((B0.out.cell (p := ⟨2, 0, none⟩) (World.block_lt_of_cell? w _ hm)).trans hm))
  have hsz : (w.alloc (.cells #[.string ⟨#[]⟩, .slice none 0 0] 24)).heap.size = w.heap.size + 1 := by simp
  have HB := Lib.hid (bad_eq s)
  obtain ⟨W0, hW⟩ : ∃ W0, w.alloc (.cells #[.string ⟨#[]⟩, .slice none 0 0] 24) = W0 := ⟨_, rfl⟩
  rw [hW] at C B0 T0 hsz
  have HW := Lib.hid hW
  unfold ChkOut at C
  rw [hsz] at C
  obtain ⟨N, hN⟩ : ∃ N, ckN s = N := ⟨_, rfl⟩
  obtain ⟨k, hk⟩ : ∃ k, ckC s = k := ⟨_, rfl⟩
  obtain ⟨l, hl⟩ : ∃ l, (ckP s).length = l := ⟨_, rfl⟩
  have HR : Hid (∀ w' cv, w'.ownsRow w.heap.size 68 2 cv (ckL s).length (coVals (ckL s)) → Below w.heap.size w w' → RbOut s w (.returned (.tuple #[.agg #[.string N, cv], .bool (decide (k = 0) && decide (l = 0))])) w') := fun w' cv h1 h2 => ⟨cv, by rw [hN, HB.out, hk, hl], h1, h2⟩
  have HZ := Lib.hid hsz
  have HK5 : Hid (k = 0 ∨ k = 5) := by
    show k = 0 ∨ k = 5
    rw [← hk]
    unfold ckC
    split
    · exact .inr rfl
    · exact .inl rfl
  rw [hN, hk, hl] at C
  clear hm hs hsz hW hN HB
  go_enter Tryd.func32, Tryd.ntmps32
  go_wp2_with fail
  rw [HW.out]
  refine C.out.mono ?_
  rintro e w1 ⟨cv, pv, rfl, hc, hp, hb⟩
  obtain ⟨ac, cc, hv⟩ := own_slice hc
  subst hv
  obtain ⟨ap, cp, hv⟩ := own_slice hp
  subst hv
  have HB1 : Below W0.heap.size W0 w1 := by rw [HZ.out]; exact hb
  have B1 := Lib.hid (bnext B0.out HB1)
  have OC := Lib.hid hc
  have TN := there_below (there_below T0.out HB1) (balloc0 w1 (.cells #[.string N, .slice ac (ckL s).length cc] 24))
  clear hc hp hb HB1
  obtain ⟨lc, hlc⟩ : ∃ l, (ckL s).length = l := ⟨_, rfl⟩
  rw [hlc] at OC HR TN ⊢
  obtain ⟨u0, x0, t0⟩ := there_at TN (k := 0) (by omega)
  obtain ⟨u1, x1, t1⟩ := there_at TN (k := 1) (by omega)
  clear TN hlc
  have HKL : Hid (k = 0 ∨ k = 5) := HK5.out
  have lz : (l : Int) = 0 ∨ (0 : Int) < (l : Int) := by omega
  have fin : ∀ bb : Bool, bb = (decide (k = 0) && decide (l = 0)) → Hid (∀ ob w2, w2 = ((w1.alloc ob).setCell ⟨w.heap.size, 0, none⟩ (.string N)).setCell ⟨w.heap.size, 1, none⟩ (.slice ac lc cc) → RbOut s w (.returned (.tuple #[.agg #[.string N, .slice ac lc cc], .bool bb])) w2) := fun bb hbb ob w2 hw2 => by
    subst hw2
    rw [hbb]
    refine HR.out _ _ (own_low (B := w.heap.size + 1) (own_set (own_set (OC.out.alloc _) (by omega)) (by omega)) (by omega)) (((balloc B1.out _).setCell (Nat.le_refl _) _).setCell (Nat.le_refl _) _)
  rcases HKL.out with hk0 | hk5
  · subst hk0
    by_cases hl0 : l = 0
    · have F := fin true (by simp [hl0])
      have hl1 : ((l : Int) == 0) = true := by rw [hl0]; rfl
      clear fin lz hl0
      go_wp2
      refine bodyPost_ret (v := .tuple #[.agg #[.string N, .slice ac lc cc], .bool true]) (by simp [results, Tryd.results32, go_sem, x0, x1]) rfl (F.out _ _ rfl)
    · have F := fin false (by simp [hl0])
      have hl1 : ((l : Int) == 0) = false := by simp; omega
      clear fin lz hl0
      go_wp2
      refine bodyPost_ret (v := .tuple #[.agg #[.string N, .slice ac lc cc], .bool false]) (by simp [results, Tryd.results32, go_sem, x0, x1]) rfl (F.out _ _ rfl)
  · have F := fin false (by rw [hk5]; rfl)
    subst hk5
    clear fin lz
    go_wp2
    refine bodyPost_ret (v := .tuple #[.agg #[.string N, .slice ac lc cc], .bool false]) (by simp [results, Tryd.results32, go_sem, x0, x1]) rfl (F.out _ _ rfl)

set_option maxRecDepth 100000 in
set_option maxHeartbeats 6400000 in
theorem readBond_spec (s : ByteArray) (hs : s.size ≤ 1048576) (w : World) :
    Calls Tryd.prog 31 #[.string s] w (RbOut s w) := by
  by_cases hbig : 400 < s.size
  · have hbad : chkBad s = true := by simp [chkBad, hbig]
    have HO : Hid (∀ w', Below w.heap.size w w' → RbOut s w (.returned (.tuple #[.agg #[.string ⟨#[]⟩, .slice none 0 0], .bool false])) w') := fun w' hb => by
      have e1 : ckN s = .empty := by rw [ckN, if_pos hbad]
      have e2 : ckL s = [] := by rw [ckL, if_pos hbad]
      exact ⟨.slice none 0 0, by rw [e1, hbad]; rfl, by rw [e2]; exact ⟨rfl, .inl ⟨rfl, rfl⟩⟩, hb⟩
    have hb' : (400 : Int) < (s.size : Int) := by omega
    clear hbig hbad hs
    go_enter Tryd.func31, Tryd.ntmps31
    go_wp2
    refine bodyPost_ret (v := .tuple #[.agg #[.string ⟨#[]⟩, .slice none 0 0], .bool false]) (by simp [results, Tryd.results31, go_sem]) rfl (HO.out _ (balloc0 w _))
  have hb' : ¬ (400 : Int) < (s.size : Int) := by omega
  have B0 : Hid (Below w.heap.size w (w.alloc (.cells #[.string ⟨#[]⟩, .slice none 0 0] 24))) := balloc0 _ _
  have T0 : Hid ((w.alloc (.cells #[.string ⟨#[]⟩, .slice none 0 0] 24)).there w.heap.size 0 2) := there_new w _ _ 2 rfl
  have C := Lib.hid (lcheck_spec s (by omega) (w.alloc (.cells #[.string ⟨#[]⟩, .slice none 0 0] 24)))
  have hsz : (w.alloc (.cells #[.string ⟨#[]⟩, .slice none 0 0] 24)).heap.size = w.heap.size + 1 := by simp
  obtain ⟨W0, hW⟩ : ∃ W0, w.alloc (.cells #[.string ⟨#[]⟩, .slice none 0 0] 24) = W0 := ⟨_, rfl⟩
  rw [hW] at C B0 T0 hsz
  have HW := Lib.hid hW
  unfold LckOut at C
  rw [hsz] at C
  have HZ := Lib.hid hsz
  have HG : Hid (chkP s = [] → chkBad s = false ∧ ckN s = (wordsB s).getD 0 .empty ∧ ckL s = cosTo (wordsB s) (wordsB s).length) := fun h => by
    have e : chkBad s = false := by simp [chkBad, h]; omega
    have e' : ¬ chkBad s = true := by rw [e]; decide
    exact ⟨e, by rw [ckN, if_neg e'], by rw [ckL, if_neg e']⟩
  have HBd : Hid (¬ chkP s = [] → chkBad s = true ∧ ckN s = .empty ∧ ckL s = []) := fun h => by
    have e : chkBad s = true := by
      have : (chkP s).isEmpty = false := by cases hq : chkP s with | nil => exact absurd hq h | cons a b => rfl
      simp [chkBad, this]
    exact ⟨e, by rw [ckN, if_pos e], by rw [ckL, if_pos e]⟩
  clear hbig hs hsz hW
  go_enter Tryd.func31, Tryd.ntmps31
  go_wp2_with fail
  rw [HW.out]
  refine C.out.mono ?_
  rintro e w1 ⟨N, cv, pv, rfl, hN, hcg, hcb, hp, hb⟩
  have HB1 : Below W0.heap.size W0 w1 := by rw [HZ.out]; exact hb
  have B1 := Lib.hid (bnext B0.out HB1)
  have TX := there_below T0.out HB1
  obtain ⟨ap, cp, hv⟩ := own_slice hp
  subst hv
  have OC : Hid (w1.ownsRow (w.heap.size + 1) 68 2 cv (ckL s).length (coVals (ckL s)) ∧ N = ckN s ∧ chkBad s = !decide ((chkP s).length = 0)) := by
    by_cases h : chkP s = []
    · obtain ⟨e1, e2, e3⟩ := HG.out h
      exact ⟨by rw [e3]; exact hcg h, by rw [hN, if_pos h, e2], by rw [e1, h]; rfl⟩
    · obtain ⟨e1, e2, e3⟩ := HBd.out h
      have hl : ¬ (chkP s).length = 0 := fun e => h (List.eq_nil_of_length_eq_zero e)
      exact ⟨by rw [e3, hcb h]; exact ⟨rfl, .inl ⟨rfl, rfl⟩⟩, by rw [hN, if_neg h, e2], by rw [e1, decide_eq_false hl]; rfl⟩
  obtain ⟨ac, cc, hv⟩ := own_slice OC.out.1
  subst hv
  obtain ⟨lc, hlc⟩ : ∃ l, (ckL s).length = l := ⟨_, rfl⟩
  obtain ⟨l, hl⟩ : ∃ l, (chkP s).length = l := ⟨_, rfl⟩
  rw [hlc, hl] at OC
  rw [hlc, hl]
  have TN := there_below TX (balloc0 w1 (.cells #[.string N, .slice ac lc cc] 24))
  have fin : Hid (∀ ob w2, w2 = ((w1.alloc ob).setCell ⟨w.heap.size, 0, none⟩ (.string N)).setCell ⟨w.heap.size, 1, none⟩ (.slice ac lc cc) → RbOut s w (.returned (.tuple #[.agg #[.string N, .slice ac lc cc], .bool (decide (l = 0))])) w2) := fun ob w2 hw2 => by
    subst hw2
    refine ⟨_, by rw [OC.out.2.1, OC.out.2.2, Bool.not_not], ?_, (((balloc B1.out _).setCell (Nat.le_refl _) _).setCell (Nat.le_refl _) _)⟩
    rw [hlc]
    exact own_low (B := w.heap.size + 1) (own_set (own_set (OC.out.1.alloc _) (by omega)) (by omega)) (by omega)
  clear hN hcg hcb hp hb HB1 TX hlc hl
  obtain ⟨u0, x0, t0⟩ := there_at TN (k := 0) (by omega)
  obtain ⟨u1, x1, t1⟩ := there_at TN (k := 1) (by omega)
  clear TN
  by_cases hl0 : l = 0
  · subst hl0
    go_wp2
    refine bodyPost_ret (v := .tuple #[.agg #[.string N, .slice ac lc cc], .bool true]) (by simp [results, Tryd.results31, go_sem, x0, x1]) rfl (fin.out _ _ rfl)
  · have hl1 : ((l : Int) == 0) = false := by simp; omega
    rw [decide_eq_false hl0] at fin
    clear hl0
    go_wp2
    refine bodyPost_ret (v := .tuple #[.agg #[.string N, .slice ac lc cc], .bool false]) (by simp [results, Tryd.results31, go_sem, x0, x1]) rfl (fin.out _ _ rfl)
end Go.Proofs.YtgffgcobgjngnaaDoor
