/-
  container/heap: down, by the program.
-/
import Derived.Test.YtdandhmallbemaaDoorHpU
namespace Go.Proofs.YtdandhmallbemaaDoor
open Go.ChangeShapes Go.WideShapes Go.ChangeAt Go.RowKit Go.Joins

theorem own_later3 {B q g cap : Nat} {M : List (Int × Int)} {w w2 : World} (hq : w.heap[q]? = some (.cells #[.slice (some ⟨g, 0, none⟩) M.length cap] 56 (0, 0))) (ho : TnOwn B (.slice (some ⟨g, 0, none⟩) M.length cap) M w) (hb : Below w.heap.size w w2) : w2.heap[q]? = some (.cells #[.slice (some ⟨g, 0, none⟩) M.length cap] 56 (0, 0)) ∧ TnOwn B (.slice (some ⟨g, 0, none⟩) M.length cap) M w2 :=
  ⟨(hb.block q (Array.getElem?_eq_some_iff.1 hq).1).trans hq, own_later2 ho hb⟩
/-- A bool is handed back. -/
def RetB (e : Ending) : Prop := ∃ b, e = .returned (.bool b)
theorem child_one {M : List (Int × Int)} {n k p : Nat} (hp : 2 * k + 1 = p) (hpn : p < n) (h : ¬ p + 1 < n) : Child M n k p := ⟨hpn, by omega, fun x hx h2 => by
  have : x = p := by omega
  subst this; exact tle_refl _⟩
theorem child_left {M : List (Int × Int)} {n k p r : Nat} (hp : 2 * k + 1 = p) (hr : p + 1 = r) (hpn : p < n) (h : ¬ tlt (tg M r) (tg M p)) : Child M n k p := by
 subst hr
 exact ⟨hpn, by omega, fun x _ h2 => by
  rcases h2 with h2 | h2
  · have : x = p := by omega
    subst this; exact tle_refl _
  · have : x = p + 1 := by omega
    subst this; exact h⟩
theorem child_right {M : List (Int × Int)} {n k p r : Nat} (hp : 2 * k + 1 = p) (hr : p + 1 = r) (hpn : r < n) (h : tlt (tg M r) (tg M p)) : Child M n k r := by
 subst hr
 exact ⟨hpn, by omega, fun x _ h2 => by
  rcases h2 with h2 | h2
  · have : x = p := by omega
    subst this; exact tle_of_lt h
  · have : x = p + 1 := by omega
    subst this; exact tle_refl _⟩

set_option maxRecDepth 100000 in
set_option maxHeartbeats 12800000 in
theorem down_impl (B q n : Nat) (L : List (Int × Int)) (hl : L.length = n + 1) (hn : n ≤ 1000) (hd : DownAt L n 0) (w : World) (h : QAt B q L w) (hB : B ≤ w.heap.size) : Calls Tryd.prog 54 #[.iface 58 (.pointer (some ⟨q, 0, none⟩)), .int .i64 0, .int .i64 (n : Int)] w fun e w' => RetB e ∧ HpOut B q (fun M => HeapN M n ∧ M.Perm L ∧ tg M n = tg L n) w w' := by
  have H0 := Lib.hid h
  have HD := Lib.hid hd
  have HLN := Lib.hid hl
  clear h hd hl
  go_enter Tryd.func54, Tryd.ntmps54
  go_wp2
  go_loopw [7] (fun v wr => ∃ (k : Nat) (M : List (Int × Int)), v = .int .i64 (k : Int) ∧ k ≤ n ∧ Hid (M.length = n + 1) ∧ Hid (DownAt M n k) ∧ Hid (M.Perm L) ∧ Hid (tg M n = tg L n) ∧ Hid (QAt B q M wr) ∧ Hid (Below B w wr) ∧ Hid (KeepT [56, 60] w wr)) (fun v _ => n - (intOf v).toNat)
  case atStart => exact ⟨0, L, rfl, by omega, HLN.out, HD.out, List.Perm.refl _, rfl, H0.out, Below.refl _ _, KeepT.refl _ _⟩
  case round =>
    obtain ⟨k, M, rfl, hk, hM, hU, hP, hT, hQ, hBl, hK⟩ := hrel
    obtain ⟨p, hp⟩ : ∃ p, 2 * k + 1 = p := ⟨_, rfl⟩
    have e0 : IntKind.i64.wrap (2 * (k : Int)) = 2 * (k : Int) := IntWalk.i64_in _ (by omega)
    have e1 : 2 * (k : Int) + 1 = (p : Int) := by omega
    have e2 : IntKind.i64.wrap (p : Int) = (p : Int) := IntWalk.i64_in _ (by omega)
    obtain ⟨r, hr⟩ : ∃ r, p + 1 = r := ⟨_, rfl⟩
    have e4 : (p : Int) + 1 = (r : Int) := by omega
    have e5 : IntKind.i64.wrap (r : Int) = (r : Int) := IntWalk.i64_in _ (by omega)
    have hp0 : ¬ (p : Int) < 0 := by omega
    by_cases hleaf : n ≤ p
    · have hge : (n : Int) ≤ (p : Int) := by omega
      have HR : Hid (HeapN M n) := down_leaf hU.out (by omega)
      clear hp hr hleaf
      go_wp2
      go_ret
      exact ⟨⟨_, rfl⟩, ⟨M, hQ.out, HR.out, hP.out, hT.out⟩, hBl.out, hK.out⟩
    · have hge : ¬ (n : Int) ≤ (p : Int) := by omega
      have hkM : k < M.length := by rw [hM.out]; omega
      have hpM : p < M.length := by rw [hM.out]; omega
      have hkp : k < p := by omega
      have hkr : k < r := by omega
      obtain ⟨hBq, v, hq, ho⟩ := hQ.out
      obtain ⟨g, cap, rfl⟩ := ho.form (by omega)
      have HO := Lib.hid ho
      have HQ := Lib.hid hq
      clear ho hq
      by_cases h2 : r < n
      · have h2' : (r : Int) < (n : Int) := by omega
        have h2M : r < M.length := by rw [hM.out]; omega
        have mL := meth_less 220 q _ wr (box_cell HQ.out)
        have C1 := Lib.hid (less_impl g M.length cap r p (tg M r) (tg M p) h2M hpM wr (HO.out.cells h2M).1 (HO.out.cells h2M).2 (HO.out.cells hpM).1 (HO.out.cells hpM).2)
        by_cases h3 : tlt (tg M r) (tg M p)
        · rw [decide_eq_true h3] at C1
          have HC : Hid (Child M n k r) := child_right hp hr h2 h3
          clear h3 hp hr
          go_wp2_with fail
          refine C1.out.mono ?_
          rintro e w1 ⟨rfl, hb1⟩
          obtain ⟨hq1, ho1⟩ := own_later3 HQ.out HO.out hb1
          have HQ1 := Lib.hid hq1
          have HO1 := Lib.hid ho1
          have B1 := Lib.hid (hBl.out.trans (hb1.mono (Nat.le_trans hB hBl.out.size)))
          have K1 := Lib.hid (hK.out.trans (KeepT.below hb1))
          clear hb1 hq1 ho1 mL
          have hjM : r < M.length := by rw [hM.out]; omega
          have mLw1 := meth_less 220 q _ w1 (box_cell HQ1.out)
          have CC := Lib.hid (less_impl g M.length cap r k (tg M r) (tg M k) hjM hkM w1 (HO1.out.cells hjM).1 (HO1.out.cells hjM).2 (HO1.out.cells hkM).1 (HO1.out.cells hkM).2)
          by_cases hlt : tlt (tg M r) (tg M k)
          · rw [decide_eq_true hlt] at CC
            have HS : Hid (DownAt (swapL M k r) n r) := down_step hU.out (by rw [hM.out]; omega) HC.out hlt
            have HPS : Hid ((swapL M k r).Perm L) := (swapL_perm hkM hjM).trans hP.out
            have HTS : Hid (tg (swapL M k r) n = tg L n) := by
              show tg (swapL M k r) n = tg L n
              rw [tg_swap hkM hjM, if_neg (by have := HC.out.1; omega), if_neg (by omega)]
              exact hT.out
            have hjn := HC.out.1
            have hkj : k < r := by omega
            clear hlt
            go_wp2_with fail
            refine CC.out.mono ?_
            rintro e wl ⟨rfl, hbl⟩
            obtain ⟨hql, hol⟩ := own_later3 HQ1.out HO1.out hbl
            have HQl := Lib.hid hql
            have SW := Lib.hid (swap_impl B g cap k (r) M hkM hjM wl hol)
            have mS := meth_swap 220 q _ wl (box_cell hql)
            have Bl := Lib.hid (B1.out.trans (hbl.mono (Nat.le_trans hB B1.out.size)))
            have Kl := Lib.hid (K1.out.trans (KeepT.below hbl))
            clear hbl hql hol mLw1
            go_wp2_with fail
            refine SW.out.mono ?_
            rintro e ws ⟨rfl, hos, hbs, hks⟩
            have HQs := Lib.hid (QAt.swapped hBq HQl.out hos hks)
            have Bs := Lib.hid (Bl.out.trans hbs)
            have Ks := Lib.hid (Kl.out.trans hks.more)
            clear hos hbs hks mS
            go_wp2
            go_roundw
            case rel => exact ⟨r, swapL M k (r), by first | rfl | go_num, by omega, by show (swapL M k (r)).length = n + 1; rw [swapL_length]; exact hM.out, HS.out, HPS.out, HTS.out, HQs.out, Bs.out, Ks.out⟩
            case measure => simp [intOf]; omega
          · rw [decide_eq_false hlt] at CC
            have HR : Hid (HeapN M n) := down_done hU.out HC.out hlt
            clear hlt
            go_wp2_with fail
            refine CC.out.mono ?_
            rintro e wl ⟨rfl, hbl⟩
            have Ql := Lib.hid (QAt.later (w := w1) ⟨hBq, _, HQ1.out, HO1.out⟩ hbl)
            have Bl := Lib.hid (B1.out.trans (hbl.mono (Nat.le_trans hB B1.out.size)))
            have Kl := Lib.hid (K1.out.trans (KeepT.below hbl))
            clear hbl mLw1
            go_wp2
            go_ret
            exact ⟨⟨_, rfl⟩, ⟨M, Ql.out, HR.out, hP.out, hT.out⟩, Bl.out, Kl.out⟩
        · rw [decide_eq_false h3] at C1
          have HC : Hid (Child M n k p) := child_left hp hr (by omega) h3
          clear h3 hp hr
          go_wp2_with fail
          refine C1.out.mono ?_
          rintro e w1 ⟨rfl, hb1⟩
          obtain ⟨hq1, ho1⟩ := own_later3 HQ.out HO.out hb1
          have HQ1 := Lib.hid hq1
          have HO1 := Lib.hid ho1
          have B1 := Lib.hid (hBl.out.trans (hb1.mono (Nat.le_trans hB hBl.out.size)))
          have K1 := Lib.hid (hK.out.trans (KeepT.below hb1))
          clear hb1 hq1 ho1 mL
          have hjM : p < M.length := by rw [hM.out]; omega
          have mLw1 := meth_less 220 q _ w1 (box_cell HQ1.out)
          have CC := Lib.hid (less_impl g M.length cap p k (tg M p) (tg M k) hjM hkM w1 (HO1.out.cells hjM).1 (HO1.out.cells hjM).2 (HO1.out.cells hkM).1 (HO1.out.cells hkM).2)
          by_cases hlt : tlt (tg M p) (tg M k)
          · rw [decide_eq_true hlt] at CC
            have HS : Hid (DownAt (swapL M k p) n p) := down_step hU.out (by rw [hM.out]; omega) HC.out hlt
            have HPS : Hid ((swapL M k p).Perm L) := (swapL_perm hkM hjM).trans hP.out
            have HTS : Hid (tg (swapL M k p) n = tg L n) := by
              show tg (swapL M k p) n = tg L n
              rw [tg_swap hkM hjM, if_neg (by have := HC.out.1; omega), if_neg (by omega)]
              exact hT.out
            have hjn := HC.out.1
            have hkj : k < p := by omega
            clear hlt
            go_wp2_with fail
            refine CC.out.mono ?_
            rintro e wl ⟨rfl, hbl⟩
            obtain ⟨hql, hol⟩ := own_later3 HQ1.out HO1.out hbl
            have HQl := Lib.hid hql
            have SW := Lib.hid (swap_impl B g cap k (p) M hkM hjM wl hol)
            have mS := meth_swap 220 q _ wl (box_cell hql)
            have Bl := Lib.hid (B1.out.trans (hbl.mono (Nat.le_trans hB B1.out.size)))
            have Kl := Lib.hid (K1.out.trans (KeepT.below hbl))
            clear hbl hql hol mLw1
            go_wp2_with fail
            refine SW.out.mono ?_
            rintro e ws ⟨rfl, hos, hbs, hks⟩
            have HQs := Lib.hid (QAt.swapped hBq HQl.out hos hks)
            have Bs := Lib.hid (Bl.out.trans hbs)
            have Ks := Lib.hid (Kl.out.trans hks.more)
            clear hos hbs hks mS
            go_wp2
            go_roundw
            case rel => exact ⟨p, swapL M k (p), by first | rfl | go_num, by omega, by show (swapL M k (p)).length = n + 1; rw [swapL_length]; exact hM.out, HS.out, HPS.out, HTS.out, HQs.out, Bs.out, Ks.out⟩
            case measure => simp [intOf]; omega
          · rw [decide_eq_false hlt] at CC
            have HR : Hid (HeapN M n) := down_done hU.out HC.out hlt
            clear hlt
            go_wp2_with fail
            refine CC.out.mono ?_
            rintro e wl ⟨rfl, hbl⟩
            have Ql := Lib.hid (QAt.later (w := w1) ⟨hBq, _, HQ1.out, HO1.out⟩ hbl)
            have Bl := Lib.hid (B1.out.trans (hbl.mono (Nat.le_trans hB B1.out.size)))
            have Kl := Lib.hid (K1.out.trans (KeepT.below hbl))
            clear hbl mLw1
            go_wp2
            go_ret
            exact ⟨⟨_, rfl⟩, ⟨M, Ql.out, HR.out, hP.out, hT.out⟩, Bl.out, Kl.out⟩
      · have h2' : ¬ (r : Int) < (n : Int) := by omega
        have HC : Hid (Child M n k p) := child_one hp (by omega) (by omega)
        clear hp hr
        have hjM : p < M.length := by rw [hM.out]; omega
        have mLwr := meth_less 220 q _ wr (box_cell HQ.out)
        have CC := Lib.hid (less_impl g M.length cap p k (tg M p) (tg M k) hjM hkM wr (HO.out.cells hjM).1 (HO.out.cells hjM).2 (HO.out.cells hkM).1 (HO.out.cells hkM).2)
        by_cases hlt : tlt (tg M p) (tg M k)
        · rw [decide_eq_true hlt] at CC
          have HS : Hid (DownAt (swapL M k p) n p) := down_step hU.out (by rw [hM.out]; omega) HC.out hlt
          have HPS : Hid ((swapL M k p).Perm L) := (swapL_perm hkM hjM).trans hP.out
          have HTS : Hid (tg (swapL M k p) n = tg L n) := by
            show tg (swapL M k p) n = tg L n
            rw [tg_swap hkM hjM, if_neg (by have := HC.out.1; omega), if_neg (by omega)]
            exact hT.out
          have hjn := HC.out.1
          have hkj : k < p := by omega
          clear hlt
          go_wp2_with fail
          refine CC.out.mono ?_
          rintro e wl ⟨rfl, hbl⟩
          obtain ⟨hql, hol⟩ := own_later3 HQ.out HO.out hbl
          have HQl := Lib.hid hql
          have SW := Lib.hid (swap_impl B g cap k (p) M hkM hjM wl hol)
          have mS := meth_swap 220 q _ wl (box_cell hql)
          have Bl := Lib.hid (hBl.out.trans (hbl.mono (Nat.le_trans hB hBl.out.size)))
          have Kl := Lib.hid (hK.out.trans (KeepT.below hbl))
          clear hbl hql hol mLwr
          go_wp2_with fail
          refine SW.out.mono ?_
          rintro e ws ⟨rfl, hos, hbs, hks⟩
          have HQs := Lib.hid (QAt.swapped hBq HQl.out hos hks)
          have Bs := Lib.hid (Bl.out.trans hbs)
          have Ks := Lib.hid (Kl.out.trans hks.more)
          clear hos hbs hks mS
          go_wp2
          go_roundw
          case rel => exact ⟨p, swapL M k (p), by first | rfl | go_num, by omega, by show (swapL M k (p)).length = n + 1; rw [swapL_length]; exact hM.out, HS.out, HPS.out, HTS.out, HQs.out, Bs.out, Ks.out⟩
          case measure => simp [intOf]; omega
        · rw [decide_eq_false hlt] at CC
          have HR : Hid (HeapN M n) := down_done hU.out HC.out hlt
          clear hlt
          go_wp2_with fail
          refine CC.out.mono ?_
          rintro e wl ⟨rfl, hbl⟩
          have Ql := Lib.hid (QAt.later (w := wr) ⟨hBq, _, HQ.out, HO.out⟩ hbl)
          have Bl := Lib.hid (hBl.out.trans (hbl.mono (Nat.le_trans hB hBl.out.size)))
          have Kl := Lib.hid (hK.out.trans (KeepT.below hbl))
          clear hbl mLwr
          go_wp2
          go_ret
          exact ⟨⟨_, rfl⟩, ⟨M, Ql.out, HR.out, hP.out, hT.out⟩, Bl.out, Kl.out⟩
end Go.Proofs.YtdandhmallbemaaDoor
