/-
  Copies of rows of numbers in the opposite order: the program.
-/
import Derived.Test.YtlglijalhacmhaaBkN
namespace Go.Proofs.Ytlglijalhacmhaa
open Go.ChangeShapes Go.WideShapes Go.ChangeAt Go.RowKit Go.Joins

/-- Numbers lie in a block from its beginning on, and may be written. -/
def NRow (w : World) (g : Nat) (ds : List Int) : Prop := ∀ k (x : Int), ds[k]? = some x → w.cell? ⟨g, k, none⟩ = some (.int .i64 x) ∧ w.frozen? ⟨g, k, none⟩ = false
/-- The first k and the last k have changed places. -/
def swpI (l : List Int) (k : Nat) : List Int := (List.range l.length).map fun i => if i < k ∨ l.length ≤ i + k then l.getD (l.length - 1 - i) 0 else l.getD i 0
theorem swpI_length (l : List Int) (k : Nat) : (swpI l k).length = l.length := by simp [swpI]
theorem swpI_at (l : List Int) (k i : Nat) (h : i < l.length) : (swpI l k)[i]? = some (if i < k ∨ l.length ≤ i + k then l.getD (l.length - 1 - i) 0 else l.getD i 0) := by simp [swpI, h]
theorem swpI_zero (l : List Int) : swpI l 0 = l := by
  refine List.ext_getElem? fun i => ?_
  by_cases h : i < l.length
  · rw [swpI_at l 0 i h, if_neg (by omega), List.getD_eq_getElem?_getD, List.getElem?_eq_getElem h]; rfl
  · rw [List.getElem?_eq_none (by rw [swpI_length]; omega), List.getElem?_eq_none (by omega)]
theorem swpI_all (l : List Int) {k : Nat} (h : l.length ≤ 2 * k + 1) : swpI l k = l.reverse := by
  refine List.ext_getElem? fun i => ?_
  by_cases hi : i < l.length
  · rw [swpI_at l k i hi, List.getElem?_reverse hi, List.getElem?_eq_getElem (show l.length - 1 - i < l.length by omega)]
    by_cases hc : i < k ∨ l.length ≤ i + k
    · rw [if_pos hc, List.getD_eq_getElem?_getD, List.getElem?_eq_getElem (show l.length - 1 - i < l.length by omega)]; rfl
    · rw [if_neg hc, List.getD_eq_getElem?_getD, List.getElem?_eq_getElem hi]
      have : l.length - 1 - i = i := by omega
      simp [this]
  · rw [List.getElem?_eq_none (by rw [swpI_length]; omega), List.getElem?_eq_none (by simp <;> omega)]
set_option maxRecDepth 100000 in
set_option maxHeartbeats 3200000 in
theorem reverseI_impl (l : List Int) (hl : l.length ≤ 1048576) (g cap : Nat) (w : World) (hr : NRow w g l) :
    Calls Try.prog 103 #[.slice (some ⟨g, 0, none⟩) l.length cap] w fun e w' => (∃ v, e = .returned v) ∧ NRow w' g l.reverse ∧ ∀ B, B ≤ g → Below B w w' := by
  have HR := Lib.hid hr
  clear hr
  go_enter Try.func103, Try.ntmps103
  go_wp2
  go_loopw [2, 3] (fun i j wr => ∃ k : Nat, i = .int .i64 (k : Int) ∧ j = .int .i64 ((l.length : Int) - 1 - k) ∧ 2 * k ≤ l.length + 1 ∧ Hid (NRow wr g (swpI l k)) ∧ Hid (∀ B, B ≤ g → Below B w wr)) (fun i _ _ => l.length - (intOf i).toNat)
  case atStart => exact ⟨0, rfl, by simp, by omega, by rw [swpI_zero]; exact HR.out, fun B _ => Below.refl _ _⟩
  case round =>
    obtain ⟨k, rfl, rfl, hk, hB, hW⟩ := hrel
    by_cases hlt : (k : Int) < (l.length : Int) - 1 - (k : Int)
    · obtain ⟨j, hj⟩ : ∃ j : Nat, Hid (l.length - 1 - k = j) := ⟨_, rfl⟩
      have hj' := hj.out
      have ej : (l.length : Int) - 1 - (k : Int) = (j : Int) := by omega
      have hkj : k < j := by omega
      have hjl : j < l.length := by omega
      have HNJ : Hid ((j : Int) - 1 = (l.length : Int) - 1 - ((k + 1 : Nat) : Int)) := by show _ = _; omega
      have hk2 : 2 * (k + 1) ≤ l.length + 1 := by omega
      clear hj'
      rw [ej] at hlt ⊢
      clear ej
      obtain ⟨ck, fk⟩ := hB.out k (l.getD k 0) (by rw [swpI_at l k k (by omega), if_neg (by have := hj.out; omega)])
      obtain ⟨cj, fj⟩ := hB.out j (l.getD j 0) (by rw [swpI_at l k j hjl, if_neg (by have := hj.out; omega)])
      have hk0 : (0 : Int) ≤ (k : Int) := by omega
      have hj0 : (0 : Int) ≤ (j : Int) := by omega
      have hkl : (k : Int) < (l.length : Int) := by omega
      have hjl' : (j : Int) < (l.length : Int) := by omega
      have HN : Hid (NRow ((wr.setCell ⟨g, k, none⟩ (.int .i64 (l.getD j 0))).setCell ⟨g, j, none⟩ (.int .i64 (l.getD k 0))) g (swpI l (k + 1))) := by
        intro i x hx
        have hil : i < l.length := by have := (List.getElem?_eq_some_iff.1 hx).1; rwa [swpI_length] at this
        rw [swpI_at l (k + 1) i hil] at hx
        have hjj := hj.out
        have hold := hB.out i _ (swpI_at l k i hil)
        refine ⟨?_, by rw [World.frozen?_setCell, World.frozen?_setCell]; exact hold.2⟩
        by_cases e1 : i = j
        · subst e1
          rw [World.cell?_setCell_same' _ _ _ (by rw [World.cell?_setCell_other _ _ _ _ (by simp <;> omega), hold.1]; rfl)]
          rw [if_pos (by omega)] at hx
          have : l.length - 1 - i = k := by omega
          rw [this] at hx
          cases hx
          rfl
        · rw [World.cell?_setCell_other _ _ _ _ (by simp <;> omega)]
          by_cases e2 : i = k
          · subst e2
            rw [World.cell?_setCell_same' _ _ _ (by rw [hold.1]; rfl)]
            rw [if_pos (by omega), hjj] at hx
            cases hx
            rfl
          · rw [World.cell?_setCell_other _ _ _ _ (by simp <;> omega), hold.1]
            by_cases hc : i < k ∨ l.length ≤ i + k
            · rw [if_pos (by omega)] at hx
              rw [if_pos hc]
              cases hx
              rfl
            · rw [if_neg (by omega)] at hx
              rw [if_neg hc]
              cases hx
              rfl
      have HW : Hid (∀ B, B ≤ g → Below B w ((wr.setCell ⟨g, k, none⟩ (.int .i64 (l.getD j 0))).setCell ⟨g, j, none⟩ (.int .i64 (l.getD k 0)))) := fun B hb => ((hW.out B hb).setCell (p := ⟨g, k, none⟩) hb _).setCell (p := ⟨g, j, none⟩) hb _
      have cj2 : (wr.setCell ⟨g, k, none⟩ (.int .i64 (l.getD j 0))).cell? ⟨g, j, none⟩ = some (.int .i64 (l.getD j 0)) := by rw [World.cell?_setCell_other _ _ _ _ (by simp <;> omega)]; exact cj
      obtain ⟨x, hx⟩ : ∃ x : Int, l.getD k 0 = x := ⟨_, rfl⟩
      obtain ⟨y, hy⟩ : ∃ y : Int, l.getD j 0 = y := ⟨_, rfl⟩
      rw [hx] at ck HN HW
      rw [hy] at cj cj2 HN HW
      clear hx hy
      have hne : ¬ j = k := by omega
      have hne2 : ¬ k = j := by omega
      go_wp2
      go_region
      all_goals
        go_wp2
        go_roundw
        case rel => exact ⟨k + 1, by simp, by rw [← HNJ.out], hk2, HN.out, fun B hb => (HW.out B hb).drew⟩
        case measure => simp [intOf]; omega
    · have hge : ¬ (k : Int) < (l.length : Int) - 1 - (k : Int) := hlt
      have HE : Hid (NRow wr g l.reverse) := by have := hB.out; rw [swpI_all l (by omega)] at this; exact this
      go_wp2
      go_end0
      exact ⟨⟨_, rfl⟩, HE.out, hW.out⟩

theorem int_news {w : World} {b o : Nat} {Q : List Int} (h : IntAt w b o Q) : ∀ (j : Nat) (u : Value), (intVals Q)[j]? = some u → w.cell? ((⟨b, o, none⟩ : Addr).add j) = some u := by
  intro j u hu
  simp [intVals] at hu
  obtain ⟨z, hz, rfl⟩ := hu
  rw [Addr.add_mid]
  exact h j z hz
set_option maxRecDepth 100000 in
set_option maxHeartbeats 1600000 in
theorem cloneI_impl (Q : List Int) (s : Option Addr) (cp : Nat) (h1 : 1 ≤ Q.length) (hl : Q.length ≤ 1048576) (w : World) (h : IntArg w s Q) :
    Calls Try.prog 102 #[.slice s Q.length cp] w fun e w' => ∃ g' cp', e = .returned (.slice (some ⟨g', 0, none⟩) Q.length cp') ∧ IntOwn w.heap.size Q g' w' ∧ Below w.heap.size w w' := by
  obtain ⟨b, o, z0, rfl, hz0, hat⟩ := h.at (show 0 < Q.length by omega)
  have HC := Lib.hid (int_news (hat.later (balloc0 w (.cells #[] 2))))
  have HS := Lib.hid (IRow.start w)
  have hql : (intVals Q).length = Q.length * 1 := by simp [intVals]
  have hone := Lib.hid (intVals_one Q)
  have m1 : Hid (0 + Q.length ≤ maxLen) := by show 0 + Q.length ≤ maxLen; unfold maxLen; omega
  obtain ⟨i0, hi, hz0', hz1, hz2⟩ := info_partsQ
  have hnil : ∀ (w : World) (p : Addr) (n c : Nat), (binOp .eql 22 (.slice (some p) n c) (.slice none 0 0)).run Try.prog w = .ok (.bool false) w := fun w p n c => Lib.run_eql_slice_nil (P := Try.prog) w 22 2 (some p) n c 0 0 Try.underlying22
  clear h hat hz0
  go_enter Try.func102, Try.ntmps102
  go_wp2_with (at_builtin; (refine wpList_append_own _ rfl _ _ 22 rfl w.heap.size 2 i0 (.int .i64 0) 1 8 Try.underlying22 hi hz0' hz1 hz2 rfl (by decide) (.slice (some ⟨w.heap.size, 0, none⟩) 0 0) 0 [] rfl HS.out ⟨b, o, none⟩ Q.length cp (intVals Q) rfl hql HC.out hone.out m1.out (by omega) (by simp) ?_; intro v1 w1 hown hgrow _))
  have hown1 : w1.ownsRow w.heap.size 2 1 v1 Q.length (intVals Q) := by simpa using hown
  obtain ⟨g1, c1, hv⟩ := own_form8 hown1 (by omega)
  subst hv
  have HI : IRow w.heap.size Q (some ⟨g1, 0, none⟩) c1 w1 := hown1
  go_ret
  have HR := HI.res
  rcases HR with hn | ⟨g2, e2, o2⟩
  · subst hn; simp at h1
  · cases e2
    exact ⟨g1, c1, rfl, o2, (balloc0 w _).grown hgrow (by simp) (fun k hk => by cases hk; exact Nat.le_refl _)⟩
set_option maxHeartbeats 1600000 in
theorem reversed_impl (Q : List Int) (s : Option Addr) (cp : Nat) (h1 : 1 ≤ Q.length) (hl : Q.length ≤ 1048576) (w : World) (h : IntArg w s Q) :
    Calls Try.prog 80 #[.slice s Q.length cp] w fun e w' => ∃ g' cp', e = .returned (.slice (some ⟨g', 0, none⟩) Q.length cp') ∧ IntOwn w.heap.size Q.reverse g' w' ∧ Below w.heap.size w w' := by
  have C := Lib.hid (cloneI_impl Q s cp h1 hl w h)
  clear h
  go_enter Try.func80, Try.ntmps80
  go_wp2_with fail
  refine C.out.mono ?_
  rintro e w1 ⟨g, c1, rfl, o1, hb1⟩
  have B1 := Lib.hid hb1
  have NR : NRow w1 g Q := fun k x hx => by
    have h2 := o1.2.1 k x hx
    obtain ⟨_, h3⟩ := o1.2.2.1 k (List.getElem?_eq_some_iff.1 hx).1
    rw [Nat.zero_add] at h2 h3
    exact ⟨h2, h3⟩
  have R := Lib.hid (reverseI_impl Q hl g c1 w1 NR)
  have HG : Hid (w.heap.size ≤ g ∧ g < w1.heap.size) := ⟨o1.1, o1.2.2.2⟩
  clear hb1 o1 NR
  go_wp2_with fail
  refine R.out.mono ?_
  rintro e w2 ⟨⟨v, rfl⟩, r2, hb2⟩
  have B2 := Lib.hid (hb2 w.heap.size HG.out.1)
  have B3 := Lib.hid (B1.out.trans B2.out)
  have R2 := Lib.hid r2
  clear hb2 r2
  go_wp2
  go_ret
  refine ⟨g, c1, rfl, ⟨HG.out.1, fun k z hk => ?_, fun j hj => ?_, Nat.lt_of_lt_of_le HG.out.2 B2.out.size⟩, B3.out⟩
  · rw [Nat.zero_add]; exact (R2.out k z hk).1
  · obtain ⟨h3, h4⟩ := R2.out j _ (List.getElem?_eq_getElem hj)
    rw [Nat.zero_add]
    exact ⟨by rw [h3]; rfl, h4⟩
end Go.Proofs.Ytlglijalhacmhaa
