/-
  The model's drawn moulds: a list.
-/
import Derived.Test.YtdandhmallbemaaDoorDrM
import Derived.Deep.DeepMust
namespace Go.Proofs.YtdandhmallbemaaDoor
open Go.ChangeShapes Go.WideShapes Go.ChangeAt Go.RowKit Go.Joins

theorem touch_grown {B b e size n : Nat} {v : Value} {xs : List Value} {w w1 w2 : World} (h : Touch B w w1) (ho : w1.ownsRow b e size v n xs) (hb : w.heap.size ≤ b) (hg : w1.grownBy w2 v.ownBlock) : Touch B w w2 :=
  h.trans' w2 hg.os hg.tape hg.output hg.size (fun i hi => hg.block i (by have := h.size; omega) (fun he => by have := (ho.lt i he.symm).1; omega))
theorem own_weak {w : World} {B B' e size n : Nat} {v : Value} {xs : List Value} (h : w.ownsRow B e size v n xs) (hle : B' ≤ B) : w.ownsRow B' e size v n xs := by
  refine ⟨h.1, ?_⟩
  rcases h.2 with hn | ⟨g, cap, cur, hv, hB, rest⟩
  · exact .inl hn
  · exact .inr ⟨g, cap, cur, hv, Nat.le_trans hle hB, rest⟩
/-- A row of moulds of the call's own. -/
def MoRow (b : Nat) (L : List Mo) (v : Value) (w : World) : Prop := w.ownsRow b 47 4 v L.length (mouldVals L)
/-- Moulds have been drawn. -/
def ListDrawn (N : Nat) (w0 w : World) (B : Nat) (cv : Value) (k : Nat) (e : Ending) (w' : World) : Prop :=
  ∃ (L : List Mo) (v : Value), L.length ≤ N ∧ e = .returned v ∧ MoRow w.heap.size L v w' ∧ Src w0 w' B cv k ∧ Touch B w w'

/-- Moulds have been drawn; their slice is there. -/
def ListSome (N : Nat) (w0 w : World) (B : Nat) (cv : Value) (k : Nat) (e : Ending) (w' : World) : Prop :=
  ∃ (L : List Mo) (g cap : Nat), L.length ≤ N ∧ e = .returned (.slice (some ⟨g, 0, none⟩) L.length cap) ∧ MoRow w.heap.size L (.slice (some ⟨g, 0, none⟩) L.length cap) w' ∧ Src w0 w' B cv k ∧ Touch B w w'
theorem moRow_some {b : Nat} {L : List Mo} {v : Value} {w : World} (h : MoRow b L v w) (hn : L.length ≠ 0) : ∃ g cap, v = .slice (some ⟨g, 0, none⟩) L.length cap := by
  rcases h.2 with ⟨_, h1⟩ | ⟨g, cap, cur, e, _⟩
  · exact absurd h1 hn
  · exact ⟨g, cap, e⟩
set_option maxRecDepth 100000 in
set_option maxHeartbeats 3200000 in
theorem draw_some (w0 w : World) (B : Nat) (cv : Value) (k : Nat) (hk : k ≤ 800000) (hB : B < w0.heap.size) (hw : w0.heap.size ≤ w.heap.size) (h : Src w0 w B cv k) :
    Calls Tryd.prog 47 #[.pointer (some ⟨B, 0, none⟩)] w (ListSome 6 w0 w B cv (k + 60)) := by
  have HS := Lib.hid h
  clear h
  obtain ⟨i0, hi, hz0, hz1, hz2⟩ := info_parts infoMould
  have hBw : B < w.heap.size := by omega
  go_enter Tryd.func47, Tryd.ntmps47
  go_wp2_with fail
  refine (src_pick w0 _ B cv k 7 (by omega) (by omega) (by omega) (HS.out.alloc _)).mono ?_
  rintro e w1 ⟨r, ha, hb, rfl, h1, t1⟩
  have H1 := Lib.hid h1
  have T1 := Lib.hid ((touch_alloc B w _).trans t1)
  have O1 : Hid (MoRow w.heap.size [] (.slice (some ⟨w.heap.size, 0, none⟩) 0 0) w1) := row_touch (own_mouldStart w) t1 hBw
  clear h1 t1
  obtain ⟨j0, rfl⟩ := Int.eq_ofNat_of_zero_le ha
  go_wp2
  go_loopw [3, 4] (fun v i wr => ∃ (j : Nat) (L : List Mo) (vv : Value), v = vv ∧ i = .int .i64 (j : Int) ∧ j + L.length ≤ 6 ∧ Hid (∃ g cap, vv = .slice (some ⟨g, 0, none⟩) L.length cap) ∧ Hid (MoRow w.heap.size L vv wr) ∧ Hid (Src w0 wr B cv (k + 2 + 8 * L.length)) ∧ Hid (Touch B w wr)) (fun _ i _ => (intOf i).toNat)
  case atStart => exact ⟨j0, [], _, rfl, rfl, by simp; omega, ⟨_, _, rfl⟩, O1.out, H1.out, T1.out⟩
  case round =>
    obtain ⟨j, L, vv, hvv, rfl, hj, hF, hO, hS, hT⟩ := hrel
    have hvs := hvv.symm
    clear hvv
    subst hvs
    by_cases hlt : 0 < j
    · have hlt' : (0 : Int) < (j : Int) := by omega
      have hws : w.heap.size ≤ wr.heap.size := hT.out.size
      have DM := Lib.hid (draw_mould w0 wr B cv (k + 2 + 8 * L.length) (by omega) hB (by omega) hS.out)
      have c3 : Hid (L.length + 1 ≤ maxLen) := by show L.length + 1 ≤ maxLen; unfold maxLen; omega
      go_wp2_with fail
      refine DM.out.mono ?_
      rintro e w4 ⟨c, rfl, h4, t4⟩
      have hO4 : Hid (MoRow w.heap.size L vv w4) := row_touch hO.out t4 hBw
      have hS4 := Lib.hid (h4.alloc (.cells #[.int .i64 c.le, .int .i64 c.wi, .int .i64 c.he, .int .i64 c.us] 47))
      have hT4 := Lib.hid ((hT.out.trans t4).trans (touch_alloc B w4 (.cells #[.int .i64 c.le, .int .i64 c.wi, .int .i64 c.he, .int .i64 c.us] 47)))
      have hbase : w.heap.size ≤ w4.heap.size := by have := t4.size; omega
      clear h4 t4
      go_wp2_with (at_builtin; go_must ((refine wpList_append_own _ rfl _ _ 24 rfl w.heap.size 47 i0 (.agg #[.int .i64 0, .int .i64 0, .int .i64 0, .int .i64 0]) 4 32 Tryd.underlying24 hi hz0 hz1 hz2 rfl (by decide) vv L.length (mouldVals L) rfl (World.ownsRow.alloc hO4.out _) ⟨w4.heap.size, 0, none⟩ 1 1 c.vals rfl rfl ((lit_mould w.heap.size w4 c hbase).cells rfl) (by simp [Mo.vals, Value.oneCell']) c3.out (by omega) (by simp; omega) ?_; intro v1 w5 hown1 hgrow1 _)))
      have HO5 : Hid (MoRow w.heap.size (L ++ [c]) v1 w5) := by
        show w5.ownsRow w.heap.size 47 4 v1 (L ++ [c]).length (mouldVals (L ++ [c]))
        rw [← mouldVals_snoc, List.length_append]
        exact hown1
      have HS5 := Lib.hid (hS4.out.grown hB (own_weak (World.ownsRow.alloc hO4.out (.cells #[.int .i64 c.le, .int .i64 c.wi, .int .i64 c.he, .int .i64 c.us] 47)) hw) hgrow1)
      have HT5 := Lib.hid (touch_grown hT4.out (World.ownsRow.alloc hO4.out (.cells #[.int .i64 c.le, .int .i64 c.wi, .int .i64 c.he, .int .i64 c.us] 47)) (Nat.le_refl _) hgrow1)
      clear hown1 hgrow1
      go_roundw
      case rel => exact ⟨j - 1, L ++ [c], v1, rfl, by go_num, by simp; omega, moRow_some HO5.out (by simp), HO5.out, HS5.out.mono (by simp; omega), HT5.out⟩
      case measure => simp [intOf]; omega
    · have hge : ¬ (0 : Int) < (j : Int) := by omega
      obtain ⟨g, cap, rfl⟩ := hF.out
      clear hF
      go_wp2
      go_ret
      exact ⟨L, g, cap, by omega, rfl, hO.out, hS.out.mono (by omega), hT.out⟩
theorem draw_moulds (w0 w : World) (B : Nat) (cv : Value) (k : Nat) (hk : k ≤ 800000) (hB : B < w0.heap.size) (hw : w0.heap.size ≤ w.heap.size) (h : Src w0 w B cv k) :
    Calls Tryd.prog 47 #[.pointer (some ⟨B, 0, none⟩)] w (ListDrawn 6 w0 w B cv (k + 60)) :=
  (draw_some w0 w B cv k hk hB hw h).mono fun _ _ ⟨L, _, _, h1, h2, h3, h4, h5⟩ => ⟨L, _, h1, h2, h3, h4, h5⟩
end Go.Proofs.YtdandhmallbemaaDoor
