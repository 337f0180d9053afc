/-
  container/heap: Push and Pop, by the program.
-/
import Derived.Test.YtdandhmallbemaaDoorHpD
namespace Go.Proofs.YtdandhmallbemaaDoor
open Go.ChangeShapes Go.WideShapes Go.ChangeAt Go.RowKit Go.Joins

set_option maxRecDepth 100000 in
set_option maxHeartbeats 3200000 in
theorem hpush_impl (B q : Nat) (L : List (Int × Int)) (u m : Int) (hl : L.length < 1000) (hh : HeapN L L.length) (w : World) (h : QAt B q L w) (hB : B ≤ w.heap.size) : Calls Tryd.prog 31 #[.iface 58 (.pointer (some ⟨q, 0, none⟩)), .iface 60 (.agg #[.int .i64 u, .int .i64 m])] w fun e w' => e = .returned (.tuple #[]) ∧ HpOut B q (fun M => HeapN M M.length ∧ M.Perm ((u, m) :: L)) w w' := by
  have C := Lib.hid (tpush_impl B q L u m w h hB (by omega))
  have hu := up_start (u, m) hh
  have HP : Hid ((L ++ [(u, m)]).Perm ((u, m) :: L)) := List.perm_append_singleton _ _
  obtain ⟨M, hM⟩ : ∃ M, L ++ [(u, m)] = M := ⟨_, rfl⟩
  obtain ⟨n, hn⟩ : ∃ n, L.length = n := ⟨_, rfl⟩
  have hlM : M.length = n + 1 := by rw [← hM]; simp [hn]
  rw [hM] at C hu HP
  rw [hn] at hu
  have U := Lib.hid (fun wx (hq : QAt B q M wx) (hb : B ≤ wx.heap.size) => up_impl B q n M (by omega) (by omega) hu wx hq hb)
  have HLM := Lib.hid hlM
  have mP := meth_push 220 q w
  have e1 : ((n : Int) + 1) - 1 = (n : Int) := by omega
  have e2 : IntKind.i64.wrap (n : Int) = (n : Int) := IntWalk.i64_in _ (by omega)
  clear h hh hu hM hlM hn
  go_enter Tryd.func31, Tryd.ntmps31
  go_wp2_with fail
  refine C.out.mono ?_
  rintro e w1 ⟨rfl, hq1, hb1, hk1⟩
  have HB1 := Lib.hid hb1
  have HK1 := Lib.hid hk1
  have HQ1 := Lib.hid hq1
  obtain ⟨hBq, v, hqv, hov⟩ := hq1
  have mL := meth_len 220 q v w1 (box_cell hqv)
  have LN := Lib.hid (len_impl M v w1 hov.shape)
  rw [HLM.out] at LN
  have LN2 : Hid (Calls Tryd.prog 88 #[v] w1 fun e w' => e = .returned (.int .i64 ((n : Int) + 1)) ∧ w1 = w') := by
    have := LN.out
    rwa [show ((n + 1 : Nat) : Int) = (n : Int) + 1 by omega] at this
  clear hb1 hk1 hqv hov LN mP
  go_wp2_with fail
  refine LN2.out.mono ?_
  rintro e w2 ⟨rfl, rfl⟩
  go_wp2_with fail
  refine (U.out w1 HQ1.out (Nat.le_trans hB HB1.out.size)).mono ?_
  rintro e w3 ⟨rfl, ⟨N, hN, hNh, hNp⟩, hb3, hk3⟩
  have HN : Hid (HpOut B q (fun M => HeapN M M.length ∧ M.Perm ((u, m) :: L)) w w3) := ⟨⟨N, hN, hNh, hNp.trans HP.out⟩, HB1.out.trans hb3, HK1.out.trans hk3⟩
  clear hN hNh hNp hb3 hk3
  go_wp2
  go_end0
  exact ⟨rfl, HN.out⟩

set_option maxRecDepth 100000 in
set_option maxHeartbeats 3200000 in
theorem hpop_impl (B q n : Nat) (L : List (Int × Int)) (hl : L.length = n + 1) (hn : n ≤ 1000) (hh : HeapN L L.length) (w : World) (h : QAt B q L w) (hB : B ≤ w.heap.size) : Calls Tryd.prog 32 #[.iface 58 (.pointer (some ⟨q, 0, none⟩))] w fun e w' => e = .returned (.iface 60 (.agg #[.int .i64 (tg L 0).1, .int .i64 (tg L 0).2])) ∧ HpOut B q (fun M => HeapN M M.length ∧ M.length = n ∧ (tg L 0 :: M).Perm L) w w' := by
  obtain ⟨hBq, v, hq, ho⟩ := h
  obtain ⟨g, cap, rfl⟩ := ho.form (by omega)
  have mL := meth_len 220 q _ w (box_cell hq)
  have mS := meth_swap 220 q _ w (box_cell hq)
  have LN := len_impl L _ w ho.shape
  have SW := Lib.hid (swap_impl B g cap 0 n L (by omega) (by omega) w ho)
  have hd := down_start hl hh
  have hsl : (swapL L 0 n).length = n + 1 := by rw [swapL_length]; exact hl
  have D := Lib.hid (fun wx (hq : QAt B q (swapL L 0 n) wx) (hb : B ≤ wx.heap.size) => down_impl B q n (swapL L 0 n) hsl hn hd wx hq hb)
  have HT : Hid (tg (swapL L 0 n) n = tg L 0) := by show _ = _; rw [tg_swap (by omega) (by omega), if_pos rfl]
  have HPL : Hid ((swapL L 0 n).Perm L) := swapL_perm (by omega) (by omega)
  have HSL := Lib.hid hsl
  have HQ := Lib.hid hq
  rw [show ((L.length : Nat) : Int) = (n : Int) + 1 by omega] at LN
  have LN2 := Lib.hid LN
  have e1 : ((n : Int) + 1) - 1 = (n : Int) := by omega
  have e2 : IntKind.i64.wrap (n : Int) = (n : Int) := IntWalk.i64_in _ (by omega)
  have hHL := Lib.hid hl
  clear LN hd hsl hq ho hh hl
  go_enter Tryd.func32, Tryd.ntmps32
  go_wp2_with fail
  refine LN2.out.mono ?_
  rintro e w1 ⟨rfl, rfl⟩
  go_wp2_with fail
  refine SW.out.mono ?_
  rintro e w2 ⟨rfl, ho2, hb2, hk2⟩
  have Q2 := Lib.hid (QAt.swapped hBq HQ.out ho2 hk2)
  have B2 := Lib.hid hb2
  have K2 := Lib.hid hk2.more
  clear ho2 hb2 hk2 mL mS
  go_wp2_with fail
  refine (D.out w2 Q2.out (Nat.le_trans hB B2.out.size)).mono ?_
  rintro e w3 ⟨⟨b, rfl⟩, ⟨M, hqM, hMh, hMp, hMt⟩, hb3, hk3⟩
  have hlM : M.length = n + 1 := by rw [hMp.length_eq]; exact HSL.out
  have PO := Lib.hid (tpop_impl B q n M hlM w3 hqM (Nat.le_trans hB (Nat.le_trans B2.out.size hb3.size)) hn)
  have hr : tg M n = tg L 0 := hMt.trans HT.out
  rw [hr] at PO
  have B3 := Lib.hid (B2.out.trans hb3)
  have K3 := Lib.hid (K2.out.trans hk3)
  have HF : Hid (HeapN (M.take n) (M.take n).length ∧ (M.take n).length = n ∧ (tg L 0 :: M.take n).Perm L) := by
    refine ⟨heap_take hMh (by omega), by simp; omega, ?_⟩
    have h1 : M.take n ++ [tg M n] = M := take_last hlM
    rw [hr] at h1
    have h2 : (tg L 0 :: M.take n).Perm (M.take n ++ [tg L 0]) := (List.perm_append_singleton _ _).symm
    rw [h1] at h2
    exact h2.trans (hMp.trans HPL.out)
  have mP := meth_pop 220 q w3
  clear hqM hMh hMp hMt hb3 hk3 hlM hr
  go_wp2_with fail
  refine PO.out.mono ?_
  rintro e w4 ⟨rfl, hq4, hb4, hk4⟩
  have HN : Hid (HpOut B q (fun M => HeapN M M.length ∧ M.length = n ∧ (tg L 0 :: M).Perm L) w w4) := ⟨⟨_, hq4, HF.out⟩, B3.out.trans hb4, K3.out.trans hk4⟩
  clear hq4 hb4 hk4 mP
  go_wp2
  go_ret
  exact ⟨rfl, HN.out⟩
end Go.Proofs.YtdandhmallbemaaDoor
