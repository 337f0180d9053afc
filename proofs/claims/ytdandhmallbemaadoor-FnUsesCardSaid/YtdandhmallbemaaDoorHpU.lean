/-
  container/heap: up, by the program.
-/
import Derived.Test.YtdandhmallbemaaDoorHpQ
namespace Go.Proofs.YtdandhmallbemaaDoor
open Go.ChangeShapes Go.WideShapes Go.ChangeAt Go.RowKit Go.Joins

theorem half_up (k : Nat) : ((k : Int) - 1).tdiv 2 = (((k - 1) / 2 : Nat) : Int) := by
  by_cases h : k = 0
  · subst h; decide
  · rw [Int.tdiv_eq_ediv_of_nonneg (by omega)]
    omega
/-- What a heap's call leaves. -/
def HpOut (B q : Nat) (P : List (Int × Int) → Prop) (w w' : World) : Prop := (∃ M, QAt B q M w' ∧ P M) ∧ Below B w w' ∧ KeepT [56, 60] w w'
theorem QAt.swapped {B q g cap i j : Nat} {M : List (Int × Int)} {w w' : World} (hBq : B ≤ q) (hq : w.heap[q]? = some (.cells #[.slice (some ⟨g, 0, none⟩) M.length cap] 56 (0, 0))) (ho : TnOwn B (.slice (some ⟨g, 0, none⟩) M.length cap) (swapL M i j) w') (hk : KeepT [60] w w') : QAt B q (swapL M i j) w' :=
  ⟨hBq, _, hk _ _ _ _ hq (by simp [tt_ne]), ho⟩
theorem KeepT.more {w w' : World} (h : KeepT [60] w w') : KeepT [56, 60] w w' := fun k T cs fr h1 h2 => h k T cs fr h1 (fun h3 => h2 (by simp at h3; simp [h3]))

set_option maxRecDepth 100000 in
set_option maxHeartbeats 6400000 in
theorem up_impl (B q j : Nat) (L : List (Int × Int)) (hj : j < L.length) (hl : L.length ≤ 1000) (hu : UpAt L j) (w : World) (h : QAt B q L w) (hB : B ≤ w.heap.size) : Calls Tryd.prog 53 #[.iface 58 (.pointer (some ⟨q, 0, none⟩)), .int .i64 (j : Int)] w fun e w' => e = .returned (.tuple #[]) ∧ HpOut B q (fun M => HeapN M M.length ∧ M.Perm L) w w' := by
  have H0 := Lib.hid h
  have HU := Lib.hid hu
  clear h hu
  go_enter Tryd.func53, Tryd.ntmps53
  go_wp2
  go_loopw [1] (fun v wr => ∃ (k : Nat) (M : List (Int × Int)), v = .int .i64 (k : Int) ∧ k < M.length ∧ M.length ≤ 1000 ∧ Hid (UpAt M k) ∧ Hid (M.Perm L) ∧ Hid (QAt B q M wr) ∧ Hid (Below B w wr) ∧ Hid (KeepT [56, 60] w wr)) (fun v _ => (intOf v).toNat)
  case atStart => exact ⟨j, L, rfl, hj, hl, HU.out, List.Perm.refl _, H0.out, Below.refl _ _, KeepT.refl _ _⟩
  case round =>
    obtain ⟨k, M, rfl, hk, hM, hU, hP, hQ, hBl, hK⟩ := hrel
    obtain ⟨i, hi⟩ : ∃ i, (k - 1) / 2 = i := ⟨_, rfl⟩
    have e0 : IntKind.i64.wrap ((k : Int) - 1) = (k : Int) - 1 := IntWalk.i64_in _ (by omega)
    have e1 : ((k : Int) - 1).tdiv 2 = (i : Int) := by rw [half_up, hi]
    have e2 : IntKind.i64.wrap (i : Int) = (i : Int) := IntWalk.i64_in _ (by omega)
    by_cases hk0 : k = 0
    · have hik : i = k := by omega
      have HR : Hid (HeapN M M.length) := up_done hU.out (.inl hk0)
      subst hik
      clear hi hk0
      go_wp2
      go_end0
      exact ⟨rfl, ⟨M, hQ.out, HR.out, hP.out⟩, hBl.out, hK.out⟩
    · have hne : ¬ (i : Int) = (k : Int) := by omega
      have hnb : ((i : Int) == (k : Int)) = false := beq_eq_false_iff_ne.2 hne
      have hil : i < M.length := by omega
      have hik : i < k := by omega
      obtain ⟨hBq, v, hq, ho⟩ := hQ.out
      obtain ⟨g, cap, rfl⟩ := ho.form (by omega)
      obtain ⟨a0, a1⟩ := ho.cells hk
      obtain ⟨b0, b1⟩ := ho.cells hil
      have mL := meth_less 220 q _ wr (box_cell hq)
      have C := Lib.hid (less_impl g M.length cap k i (tg M k) (tg M i) hk hil wr a0 a1 b0 b1)
      have HO := Lib.hid ho
      have HQ := Lib.hid hq
      clear a0 a1 b0 b1 ho hq
      by_cases hlt : tlt (tg M k) (tg M i)
      · rw [decide_eq_true hlt] at C
        have HS : Hid (UpAt (swapL M i k) i) := by
          have := up_step hU.out (by omega) hk (by rw [hi]; exact hlt)
          rw [hi] at this
          exact this
        have HPS : Hid ((swapL M i k).Perm L) := (swapL_perm hil hk).trans hP.out
        clear hlt hi
        go_wp2_with fail
        refine C.out.mono ?_
        rintro e w2 ⟨rfl, hb2⟩
        have hq2 : w2.heap[q]? = some (.cells #[.slice (some ⟨g, 0, none⟩) M.length cap] 56 (0, 0)) := (hb2.block q (Array.getElem?_eq_some_iff.1 HQ.out).1).trans HQ.out
        have ho2 : TnOwn B (.slice (some ⟨g, 0, none⟩) M.length cap) M w2 := own_later2 HO.out hb2
        have HQ2 := Lib.hid hq2
        have SW := Lib.hid (swap_impl B g cap i k M hil hk w2 ho2)
        have mS := meth_swap 220 q _ w2 (box_cell hq2)
        have B2 := Lib.hid (hBl.out.trans (hb2.mono (Nat.le_trans hB hBl.out.size)))
        have K2 := Lib.hid (hK.out.trans (KeepT.below hb2))
        clear hb2 hq2 ho2 mL
        go_wp2_with fail
        refine SW.out.mono ?_
        rintro e w3 ⟨rfl, ho3, hb3, hk3⟩
        have HQ3 := Lib.hid (QAt.swapped hBq HQ2.out ho3 hk3)
        have B3 := Lib.hid (B2.out.trans hb3)
        have K3 := Lib.hid (K2.out.trans hk3.more)
        clear ho3 hb3 hk3 mS
        go_wp2
        go_roundw
        case rel => exact ⟨i, swapL M i k, rfl, by simpa using hil, by simpa using hM, HS.out, HPS.out, HQ3.out, B3.out, K3.out⟩
        case measure => simp [intOf]; omega
      · rw [decide_eq_false hlt] at C
        have HR : Hid (HeapN M M.length) := up_done hU.out (.inr (by rw [hi]; exact hlt))
        clear hlt hi
        go_wp2_with fail
        refine C.out.mono ?_
        rintro e w2 ⟨rfl, hb2⟩
        have Q2 := Lib.hid (hQ.out.later hb2)
        have B2 := Lib.hid (hBl.out.trans (hb2.mono (Nat.le_trans hB hBl.out.size)))
        have K2 := Lib.hid (hK.out.trans (KeepT.below hb2))
        clear hb2 mL
        go_wp2
        go_end0
        exact ⟨rfl, ⟨M, Q2.out, HR.out, hP.out⟩, B2.out, K2.out⟩
end Go.Proofs.YtdandhmallbemaaDoor
