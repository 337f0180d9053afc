/-
  The model's drawn arguments of the law on the best mould.
-/
import Derived.Test.YtdandhmallbemaaDoorDrQ
import Derived.Test.YtdandhmallbemaaDoorDrF
namespace Go.Proofs.YtdandhmallbemaaDoor
open Go.ChangeShapes Go.WideShapes Go.ChangeAt Go.RowKit Go.Joins

/-- A list, a format and a number. -/
def DrawB (w : World) (e : Ending) (w' : World) : Prop :=
  ∃ (L : List Mo) (a : Option Addr) (cap : Nat) (l wd ht j s : Int), L.length ≤ 21 ∧ e = .returned (.tuple #[.slice a L.length cap, .agg #[.int .i64 l, .int .i64 wd, .int .i64 ht, .int .i64 j], .int .i64 s]) ∧ MoRow w.heap.size L (.slice a L.length cap) w' ∧ Below w.heap.size w w'
theorem CodeAt.alloc {w : World} {cv : Value} (h : CodeAt w w.heap.size cv) (o : Obj) : CodeAt (w.alloc o) (w.alloc o).heap.size cv := by
  rcases h with h | ⟨b, o', len, cap, z, h1, h2, h3, h4⟩
  · exact .inl h
  · exact .inr ⟨b, o', len, cap, z, h1, by simp; omega, h3, fun i hi => ⟨(World.cell?_alloc_lt _ _ _ h2).trans (h4 i hi).1, (h4 i hi).2⟩⟩
/-- Two moulds' fields are stored: the second one is the first one. -/
theorem moRow_copy {b g cap : Nat} {L : List Mo} {w : World} (h : MoRow b L (.slice (some ⟨g, 0, none⟩) L.length cap) w) (hi : 1 < L.length) (x0 x1 x2 x3 : Int) : ∃ L', L'.length = L.length ∧ MoRow b L' (.slice (some ⟨g, 0, none⟩) L.length cap) ((((w.setCell ⟨g, 4, none⟩ (.int .i64 x0)).setCell ⟨g, 5, none⟩ (.int .i64 x1)).setCell ⟨g, 6, none⟩ (.int .i64 x2)).setCell ⟨g, 7, none⟩ (.int .i64 x3)) := by
  obtain ⟨L1, e1, r1⟩ := moRow_put h hi (show 0 < 4 by omega) x0
  rw [← e1] at r1
  obtain ⟨L2, e2, r2⟩ := moRow_put r1 (by omega : 1 < L1.length) (show 1 < 4 by omega) x1
  rw [← e2] at r2
  obtain ⟨L3, e3, r3⟩ := moRow_put r2 (by omega : 1 < L2.length) (show 2 < 4 by omega) x2
  rw [← e3] at r3
  obtain ⟨L4, e4, r4⟩ := moRow_put r3 (by omega : 1 < L3.length) (show 3 < 4 by omega) x3
  refine ⟨L4, by omega, ?_⟩
  rw [show L3.length = L.length by omega] at r4
  exact r4

theorem row_set {b x o : Nat} {L : List Mo} {v u : Value} {w : World} (h : MoRow b L v w) (hx : x < b) : MoRow b L v (w.setCell ⟨x, o, none⟩ u) := by
  refine ⟨h.1, ?_⟩
  rcases h.2 with hn | ⟨g, cap, cur, hv, hB, hgg, rest⟩
  · exact .inl hn
  · exact .inr ⟨g, cap, cur, hv, hB, (Below.heap_setCell _ _ _ _ (by show g ≠ x; omega)).trans hgg, rest⟩
set_option maxRecDepth 100000 in
set_option maxHeartbeats 6400000 in
theorem drawBestMould_spec (w : World) (cv : Value) (hcv : CodeAt w w.heap.size cv) (hsl : ∃ a l c, cv = .slice a l c) : Calls Tryd.prog 8 #[cv] w (DrawB w) := by
  have HN := Lib.hid (src_new _ cv (hcv.alloc (.cells #[.int .i64 0, .int .i64 0, .int .i64 0, .int .i64 0] 31)))
  have SF := Lib.hid (src_from _ cv (hcv.alloc (.cells #[.int .i64 0, .int .i64 0, .int .i64 0, .int .i64 0] 31)) hsl)
  obtain ⟨a, l, c, rfl⟩ := hsl
  clear hcv
  obtain ⟨V, hV⟩ : ∃ V, w.alloc (.cells #[.int .i64 0, .int .i64 0, .int .i64 0, .int .i64 0] 31) = V := ⟨_, rfl⟩
  have RV : V.heap[w.heap.size]? = some (.cells #[.int .i64 0, .int .i64 0, .int .i64 0, .int .i64 0] 31 (0, 0)) := by rw [← hV]; exact heap_alloc_new w _
  have BV : Below w.heap.size w V := by rw [← hV]; exact balloc0 w _
  have zV : V.heap.size = w.heap.size + 1 := by rw [← hV]; simp
  rw [hV] at HN SF
  have HV := Lib.hid hV
  obtain ⟨W, hW⟩ : ∃ W, V.alloc (.cells #[.slice a l c, .int .i64 0, .int .u64 0] 80) = W := ⟨_, rfl⟩
  have zW : W.heap.size = w.heap.size + 2 := by rw [← hW]; simp [zV]
  have RW : W.heap[w.heap.size]? = some (.cells #[.int .i64 0, .int .i64 0, .int .i64 0, .int .i64 0] 31 (0, 0)) := by rw [← hW]; exact (Below.heap_alloc V _ _ (by omega)).trans RV
  have BW : Below w.heap.size w W := by rw [← hW]; exact balloc BV _
  rw [hW] at HN SF
  obtain ⟨B, hBB⟩ : ∃ B, V.heap.size = B := ⟨_, rfl⟩
  rw [hBB] at HN SF
  have hB : B < W.heap.size := by omega
  have hBw : w.heap.size < B := by omega
  have hR : Hid (∀ wx, Touch B W wx → wx.heap[w.heap.size]? = some (.cells #[.int .i64 0, .int .i64 0, .int .i64 0, .int .i64 0] 31 (0, 0))) := fun wx h => (h.block _ (by omega) (by omega)).trans RW
  have hD : Hid (∀ wx, Touch B W wx → Below w.heap.size w wx) := fun wx h => BW.trans (h.below (by omega) (by omega))
  have zWx := Lib.hid zW
  clear hV hW RV BV RW BW hBB zV zW
  go_enter Tryd.func8, Tryd.ntmps8
  go_wp2_with fail
  rw [HV.out]
  refine SF.out.mono ?_
  rintro e w1 ⟨rfl, rfl⟩
  go_wp2_with fail
  refine (draw_bent W _ B (.slice a l c) 0 (by omega) hB (Nat.le_refl _) HN.out).mono ?_
  rintro e w2 ⟨L, v, hl, rfl, ho, h2, t2⟩
  have H2 := Lib.hid h2
  have O2 := Lib.hid ho
  have T2 := Lib.hid t2
  have hs2 : W.heap.size ≤ w2.heap.size := t2.size
  clear h2 ho t2
  have zW3 := zWx.out
  rcases O2.out.shape with ⟨rfl, hL⟩ | ⟨g, cap, rfl⟩
  · subst hL
    go_wp2_with fail
    refine (fmt_bent W _ B (.slice a l c) (0 + 400) (by omega) hB (by omega) H2.out).mono ?_
    rintro e wf ⟨fl, fw, fh, fj, rfl, hf, tf⟩
    have FH := Lib.hid (hf.alloc (.cells #[.int .i64 fl, .int .i64 fw, .int .i64 fh, .int .i64 fj] 31))
    have FO : Hid (MoRow W.heap.size ([] : List Mo) (.slice none ([] : List Mo).length 0) (wf.alloc (.cells #[.int .i64 fl, .int .i64 fw, .int .i64 fh, .int .i64 fj] 31))) := row_touch (row_touch O2.out tf hB) (touch_alloc B wf _) hB
    have FTc := Lib.hid ((T2.out.trans tf).trans (touch_alloc B wf (.cells #[.int .i64 fl, .int .i64 fw, .int .i64 fh, .int .i64 fj] 31)))
    have zf : W.heap.size ≤ wf.heap.size := (T2.out.trans tf).size
    have FB : Hid ((wf.alloc (.cells #[.int .i64 fl, .int .i64 fw, .int .i64 fh, .int .i64 fj] 31)).heap[wf.heap.size]? = some (.cells #[.int .i64 fl, .int .i64 fw, .int .i64 fh, .int .i64 fj] 31 (0, 0))) := heap_alloc_new wf _
    clear hf tf
    obtain ⟨wg, hg⟩ : ∃ wg, wf.alloc (.cells #[.int .i64 fl, .int .i64 fw, .int .i64 fh, .int .i64 fj] 31) = wg := ⟨_, rfl⟩
    have hzg : wg.heap.size = wf.heap.size + 1 := by rw [← hg]; simp
    rw [hg] at FH FO FTc FB
    have c0 : wg.cell? ⟨wf.heap.size, 0, none⟩ = some (.int .i64 fl) := by rw [cell_of_block FB.out]; rfl
    have c1 : wg.cell? ⟨wf.heap.size, 1, none⟩ = some (.int .i64 fw) := by rw [cell_of_block FB.out]; rfl
    have c2 : wg.cell? ⟨wf.heap.size, 2, none⟩ = some (.int .i64 fh) := by rw [cell_of_block FB.out]; rfl
    have c3 : wg.cell? ⟨wf.heap.size, 3, none⟩ = some (.int .i64 fj) := by rw [cell_of_block FB.out]; rfl
    have hgH := Lib.hid hg
    clear hg
    go_wp2
    rw [hgH.out]
    go_region_with (first
      | (go_at_call 36; refine (draw_shrink W _ B (.slice a l c) ((0 + 400) + 30) (by omega) hB (by simp; omega) FH.out.drew).mono ?_; rintro e wh ⟨x, rfl, hh, th⟩; have HT := Lib.hid (FTc.out.drew.trans th); have HO : Hid (MoRow W.heap.size ([] : List Mo) (.slice none ([] : List Mo).length 0) wh) := row_touch (show MoRow W.heap.size ([] : List Mo) (.slice none ([] : List Mo).length 0) wg.drew from FO.out) th hB; have hb := (th.block wf.heap.size (by simp; omega) (by omega)).trans FB.out; have e0 : wh.cell? ⟨wf.heap.size, 0, none⟩ = some (.int .i64 fl) := (by rw [cell_of_block hb]; rfl); have e1 : wh.cell? ⟨wf.heap.size, 1, none⟩ = some (.int .i64 fw) := (by rw [cell_of_block hb]; rfl); have e2 : wh.cell? ⟨wf.heap.size, 2, none⟩ = some (.int .i64 fh) := (by rw [cell_of_block hb]; rfl); have e3 : wh.cell? ⟨wf.heap.size, 3, none⟩ = some (.int .i64 fj) := (by rw [cell_of_block hb]; rfl); have hr := hR.out wh HT.out; have d0 : wh.cell? ⟨w.heap.size, 0, none⟩ = some (.int .i64 0) := (cell_of_block hr 0).trans rfl; have d1 : wh.cell? ⟨w.heap.size, 1, none⟩ = some (.int .i64 0) := (cell_of_block hr 1).trans rfl; have d2 : wh.cell? ⟨w.heap.size, 2, none⟩ = some (.int .i64 0) := (cell_of_block hr 2).trans rfl; have d3 : wh.cell? ⟨w.heap.size, 3, none⟩ = some (.int .i64 0) := (cell_of_block hr 3).trans rfl; have q0 : wh.frozen? ⟨w.heap.size, 0, none⟩ = false := unfrozen_of_block hr 0; have q1 : wh.frozen? ⟨w.heap.size, 1, none⟩ = false := unfrozen_of_block hr 1; have q2 : wh.frozen? ⟨w.heap.size, 2, none⟩ = false := unfrozen_of_block hr 2; have q3 : wh.frozen? ⟨w.heap.size, 3, none⟩ = false := unfrozen_of_block hr 3; clear hh th hb hr))
    all_goals
      go_wp2
      refine bodyPost_ret (v := .tuple #[.slice none ([] : List Mo).length 0, .agg #[.int .i64 fl, .int .i64 fw, .int .i64 fh, .int .i64 fj], .int .i64 x]) (by simp [results, Tryd.results8, go_sem, d0, d1, d2, d3]) rfl ⟨([] : List Mo), none, 0, fl, fw, fh, fj, x, hl, rfl, ?_, ?_⟩
      · exact own_weak (row_set (row_set (row_set (row_set HO.out (by omega)) (by omega)) (by omega)) (by omega)) (by omega)
      · exact ((((hD.out _ HT.out).setCell (p := ⟨w.heap.size, 0, none⟩) (Nat.le_refl _) _).setCell (p := ⟨w.heap.size, 1, none⟩) (Nat.le_refl _) _).setCell (p := ⟨w.heap.size, 2, none⟩) (Nat.le_refl _) _).setCell (p := ⟨w.heap.size, 3, none⟩) (Nat.le_refl _) _
  · have hbg := moRow_base O2.out
    by_cases hn : L.length ≤ 1
    · have hn1 : ¬ (1 : Int) < (L.length : Int) := by omega
      go_wp2_with fail
      refine (fmt_bent W _ B (.slice a l c) (0 + 400) (by omega) hB (by omega) H2.out).mono ?_
      rintro e wf ⟨fl, fw, fh, fj, rfl, hf, tf⟩
      have FH := Lib.hid (hf.alloc (.cells #[.int .i64 fl, .int .i64 fw, .int .i64 fh, .int .i64 fj] 31))
      have FO : Hid (MoRow W.heap.size L (.slice (some ⟨g, 0, none⟩) L.length cap) (wf.alloc (.cells #[.int .i64 fl, .int .i64 fw, .int .i64 fh, .int .i64 fj] 31))) := row_touch (row_touch O2.out tf hB) (touch_alloc B wf _) hB
      have FTc := Lib.hid ((T2.out.trans tf).trans (touch_alloc B wf (.cells #[.int .i64 fl, .int .i64 fw, .int .i64 fh, .int .i64 fj] 31)))
      have zf : W.heap.size ≤ wf.heap.size := (T2.out.trans tf).size
      have FB : Hid ((wf.alloc (.cells #[.int .i64 fl, .int .i64 fw, .int .i64 fh, .int .i64 fj] 31)).heap[wf.heap.size]? = some (.cells #[.int .i64 fl, .int .i64 fw, .int .i64 fh, .int .i64 fj] 31 (0, 0))) := heap_alloc_new wf _
      clear hf tf
      obtain ⟨wg, hg⟩ : ∃ wg, wf.alloc (.cells #[.int .i64 fl, .int .i64 fw, .int .i64 fh, .int .i64 fj] 31) = wg := ⟨_, rfl⟩
      have hzg : wg.heap.size = wf.heap.size + 1 := by rw [← hg]; simp
      rw [hg] at FH FO FTc FB
      have c0 : wg.cell? ⟨wf.heap.size, 0, none⟩ = some (.int .i64 fl) := by rw [cell_of_block FB.out]; rfl
      have c1 : wg.cell? ⟨wf.heap.size, 1, none⟩ = some (.int .i64 fw) := by rw [cell_of_block FB.out]; rfl
      have c2 : wg.cell? ⟨wf.heap.size, 2, none⟩ = some (.int .i64 fh) := by rw [cell_of_block FB.out]; rfl
      have c3 : wg.cell? ⟨wf.heap.size, 3, none⟩ = some (.int .i64 fj) := by rw [cell_of_block FB.out]; rfl
      have hgH := Lib.hid hg
      clear hg
      go_wp2
      rw [hgH.out]
      go_region_with (first
        | (go_at_call 36; refine (draw_shrink W _ B (.slice a l c) ((0 + 400) + 30) (by omega) hB (by simp; omega) FH.out.drew).mono ?_; rintro e wh ⟨x, rfl, hh, th⟩; have HT := Lib.hid (FTc.out.drew.trans th); have HO : Hid (MoRow W.heap.size L (.slice (some ⟨g, 0, none⟩) L.length cap) wh) := row_touch (show MoRow W.heap.size L (.slice (some ⟨g, 0, none⟩) L.length cap) wg.drew from FO.out) th hB; have hb := (th.block wf.heap.size (by simp; omega) (by omega)).trans FB.out; have e0 : wh.cell? ⟨wf.heap.size, 0, none⟩ = some (.int .i64 fl) := (by rw [cell_of_block hb]; rfl); have e1 : wh.cell? ⟨wf.heap.size, 1, none⟩ = some (.int .i64 fw) := (by rw [cell_of_block hb]; rfl); have e2 : wh.cell? ⟨wf.heap.size, 2, none⟩ = some (.int .i64 fh) := (by rw [cell_of_block hb]; rfl); have e3 : wh.cell? ⟨wf.heap.size, 3, none⟩ = some (.int .i64 fj) := (by rw [cell_of_block hb]; rfl); have hr := hR.out wh HT.out; have d0 : wh.cell? ⟨w.heap.size, 0, none⟩ = some (.int .i64 0) := (cell_of_block hr 0).trans rfl; have d1 : wh.cell? ⟨w.heap.size, 1, none⟩ = some (.int .i64 0) := (cell_of_block hr 1).trans rfl; have d2 : wh.cell? ⟨w.heap.size, 2, none⟩ = some (.int .i64 0) := (cell_of_block hr 2).trans rfl; have d3 : wh.cell? ⟨w.heap.size, 3, none⟩ = some (.int .i64 0) := (cell_of_block hr 3).trans rfl; have q0 : wh.frozen? ⟨w.heap.size, 0, none⟩ = false := unfrozen_of_block hr 0; have q1 : wh.frozen? ⟨w.heap.size, 1, none⟩ = false := unfrozen_of_block hr 1; have q2 : wh.frozen? ⟨w.heap.size, 2, none⟩ = false := unfrozen_of_block hr 2; have q3 : wh.frozen? ⟨w.heap.size, 3, none⟩ = false := unfrozen_of_block hr 3; clear hh th hb hr))
      all_goals
        go_wp2
        refine bodyPost_ret (v := .tuple #[.slice (some ⟨g, 0, none⟩) L.length cap, .agg #[.int .i64 fl, .int .i64 fw, .int .i64 fh, .int .i64 fj], .int .i64 x]) (by simp [results, Tryd.results8, go_sem, d0, d1, d2, d3]) rfl ⟨L, (some ⟨g, 0, none⟩), cap, fl, fw, fh, fj, x, hl, rfl, ?_, ?_⟩
        · exact own_weak (row_set (row_set (row_set (row_set HO.out (by omega)) (by omega)) (by omega)) (by omega)) (by omega)
        · exact ((((hD.out _ HT.out).setCell (p := ⟨w.heap.size, 0, none⟩) (Nat.le_refl _) _).setCell (p := ⟨w.heap.size, 1, none⟩) (Nat.le_refl _) _).setCell (p := ⟨w.heap.size, 2, none⟩) (Nat.le_refl _) _).setCell (p := ⟨w.heap.size, 3, none⟩) (Nat.le_refl _) _
    · have hn1 : (1 : Int) < (L.length : Int) := by omega
      have hn2 : (0 : Int) < (L.length : Int) := by omega
      have hn3 : 1 < L.length := by omega
      have hn4 : 0 < L.length := by omega
      go_wp2_with fail
      refine (src_one W _ B (.slice a l c) (0 + 400) 3 (by omega) (by omega) (by omega) H2.out).mono ?_
      rintro e w3 ⟨bo, rfl, h3, t3⟩
      have H3 := Lib.hid h3
      have O3 : Hid (MoRow W.heap.size L (.slice (some ⟨g, 0, none⟩) L.length cap) w3) := row_touch O2.out t3 hB
      have T3 := Lib.hid (T2.out.trans t3)
      have hs3 : W.heap.size ≤ w3.heap.size := T3.out.size
      clear h3 t3
      cases bo
      · go_wp2_with fail
        refine (fmt_bent W _ B (.slice a l c) (0 + 400 + 2) (by omega) hB (by omega) H3.out).mono ?_
        rintro e wf ⟨fl, fw, fh, fj, rfl, hf, tf⟩
        have FH := Lib.hid (hf.alloc (.cells #[.int .i64 fl, .int .i64 fw, .int .i64 fh, .int .i64 fj] 31))
        have FO : Hid (MoRow W.heap.size L (.slice (some ⟨g, 0, none⟩) L.length cap) (wf.alloc (.cells #[.int .i64 fl, .int .i64 fw, .int .i64 fh, .int .i64 fj] 31))) := row_touch (row_touch O3.out tf hB) (touch_alloc B wf _) hB
        have FTc := Lib.hid ((T3.out.trans tf).trans (touch_alloc B wf (.cells #[.int .i64 fl, .int .i64 fw, .int .i64 fh, .int .i64 fj] 31)))
        have zf : W.heap.size ≤ wf.heap.size := (T3.out.trans tf).size
        have FB : Hid ((wf.alloc (.cells #[.int .i64 fl, .int .i64 fw, .int .i64 fh, .int .i64 fj] 31)).heap[wf.heap.size]? = some (.cells #[.int .i64 fl, .int .i64 fw, .int .i64 fh, .int .i64 fj] 31 (0, 0))) := heap_alloc_new wf _
        clear hf tf
        obtain ⟨wg, hg⟩ : ∃ wg, wf.alloc (.cells #[.int .i64 fl, .int .i64 fw, .int .i64 fh, .int .i64 fj] 31) = wg := ⟨_, rfl⟩
        have hzg : wg.heap.size = wf.heap.size + 1 := by rw [← hg]; simp
        rw [hg] at FH FO FTc FB
        have c0 : wg.cell? ⟨wf.heap.size, 0, none⟩ = some (.int .i64 fl) := by rw [cell_of_block FB.out]; rfl
        have c1 : wg.cell? ⟨wf.heap.size, 1, none⟩ = some (.int .i64 fw) := by rw [cell_of_block FB.out]; rfl
        have c2 : wg.cell? ⟨wf.heap.size, 2, none⟩ = some (.int .i64 fh) := by rw [cell_of_block FB.out]; rfl
        have c3 : wg.cell? ⟨wf.heap.size, 3, none⟩ = some (.int .i64 fj) := by rw [cell_of_block FB.out]; rfl
        have hgH := Lib.hid hg
        clear hg
        go_wp2
        rw [hgH.out]
        go_region_with (first
          | (go_at_call 36; refine (draw_shrink W _ B (.slice a l c) ((0 + 400 + 2) + 30) (by omega) hB (by simp; omega) FH.out.drew).mono ?_; rintro e wh ⟨x, rfl, hh, th⟩; have HT := Lib.hid (FTc.out.drew.trans th); have HO : Hid (MoRow W.heap.size L (.slice (some ⟨g, 0, none⟩) L.length cap) wh) := row_touch (show MoRow W.heap.size L (.slice (some ⟨g, 0, none⟩) L.length cap) wg.drew from FO.out) th hB; have hb := (th.block wf.heap.size (by simp; omega) (by omega)).trans FB.out; have e0 : wh.cell? ⟨wf.heap.size, 0, none⟩ = some (.int .i64 fl) := (by rw [cell_of_block hb]; rfl); have e1 : wh.cell? ⟨wf.heap.size, 1, none⟩ = some (.int .i64 fw) := (by rw [cell_of_block hb]; rfl); have e2 : wh.cell? ⟨wf.heap.size, 2, none⟩ = some (.int .i64 fh) := (by rw [cell_of_block hb]; rfl); have e3 : wh.cell? ⟨wf.heap.size, 3, none⟩ = some (.int .i64 fj) := (by rw [cell_of_block hb]; rfl); have hr := hR.out wh HT.out; have d0 : wh.cell? ⟨w.heap.size, 0, none⟩ = some (.int .i64 0) := (cell_of_block hr 0).trans rfl; have d1 : wh.cell? ⟨w.heap.size, 1, none⟩ = some (.int .i64 0) := (cell_of_block hr 1).trans rfl; have d2 : wh.cell? ⟨w.heap.size, 2, none⟩ = some (.int .i64 0) := (cell_of_block hr 2).trans rfl; have d3 : wh.cell? ⟨w.heap.size, 3, none⟩ = some (.int .i64 0) := (cell_of_block hr 3).trans rfl; have q0 : wh.frozen? ⟨w.heap.size, 0, none⟩ = false := unfrozen_of_block hr 0; have q1 : wh.frozen? ⟨w.heap.size, 1, none⟩ = false := unfrozen_of_block hr 1; have q2 : wh.frozen? ⟨w.heap.size, 2, none⟩ = false := unfrozen_of_block hr 2; have q3 : wh.frozen? ⟨w.heap.size, 3, none⟩ = false := unfrozen_of_block hr 3; clear hh th hb hr))
        all_goals
          go_wp2
          refine bodyPost_ret (v := .tuple #[.slice (some ⟨g, 0, none⟩) L.length cap, .agg #[.int .i64 fl, .int .i64 fw, .int .i64 fh, .int .i64 fj], .int .i64 x]) (by simp [results, Tryd.results8, go_sem, d0, d1, d2, d3]) rfl ⟨L, (some ⟨g, 0, none⟩), cap, fl, fw, fh, fj, x, hl, rfl, ?_, ?_⟩
          · exact own_weak (row_set (row_set (row_set (row_set HO.out (by omega)) (by omega)) (by omega)) (by omega)) (by omega)
          · exact ((((hD.out _ HT.out).setCell (p := ⟨w.heap.size, 0, none⟩) (Nat.le_refl _) _).setCell (p := ⟨w.heap.size, 1, none⟩) (Nat.le_refl _) _).setCell (p := ⟨w.heap.size, 2, none⟩) (Nat.le_refl _) _).setCell (p := ⟨w.heap.size, 3, none⟩) (Nat.le_refl _) _
      · obtain ⟨x0, a0, _⟩ := moRow_cell O3.out (show 0 < L.length by omega) (show 0 < 4 by omega)
        obtain ⟨x1, a1, _⟩ := moRow_cell O3.out (show 0 < L.length by omega) (show 1 < 4 by omega)
        obtain ⟨x2, a2, _⟩ := moRow_cell O3.out (show 0 < L.length by omega) (show 2 < 4 by omega)
        obtain ⟨x3, a3, _⟩ := moRow_cell O3.out (show 0 < L.length by omega) (show 3 < 4 by omega)
        obtain ⟨y0, b0, f0⟩ := moRow_cell O3.out (show 1 < L.length by omega) (show 0 < 4 by omega)
        obtain ⟨y1, b1, f1⟩ := moRow_cell O3.out (show 1 < L.length by omega) (show 1 < 4 by omega)
        obtain ⟨y2, b2, f2⟩ := moRow_cell O3.out (show 1 < L.length by omega) (show 2 < 4 by omega)
        obtain ⟨y3, b3, f3⟩ := moRow_cell O3.out (show 1 < L.length by omega) (show 3 < 4 by omega)
        simp only [Nat.zero_mul, Nat.one_mul, Nat.zero_add, Nat.add_zero, Nat.reduceAdd] at a0 a1 a2 a3 b0 b1 b2 b3 f0 f1 f2 f3
        obtain ⟨L', hl', hr'⟩ := moRow_copy O3.out (by omega) x0 x1 x2 x3
        have H4 := Lib.hid ((((H3.out.setCell hB (show W.heap.size ≤ g from hbg) 4 (.int .i64 x0)).setCell hB hbg 5 (.int .i64 x1)).setCell hB hbg 6 (.int .i64 x2)).setCell hB hbg 7 (.int .i64 x3))
        have T4 := Lib.hid (touch_setCell B g 7 W _ (.int .i64 x3) (touch_setCell B g 6 W _ (.int .i64 x2) (touch_setCell B g 5 W _ (.int .i64 x1) (touch_setCell B g 4 W _ (.int .i64 x0) T3.out hbg) hbg) hbg) hbg)
        obtain ⟨L2, hL2⟩ : ∃ L2, L' = L2 := ⟨_, rfl⟩
        subst hL2
        rw [← hl'] at hr' hn1 hn2 hn3 hn4 hl ⊢
        have O4 := Lib.hid hr'
        clear hr' hl' hn
        go_wp2_with fail
        refine (src_pick W _ B (.slice a l c) (0 + 400 + 2) 20 (by omega) (by omega) (by omega) H4.out).mono ?_
        rintro e w5 ⟨r, ra, rb, rfl, h5, t5⟩
        have H5 := Lib.hid h5
        have O5 : Hid (MoRow W.heap.size L' (.slice (some ⟨g, 0, none⟩) L'.length cap) w5) := row_touch O4.out t5 hB
        have T5 := Lib.hid (T4.out.trans t5)
        have hs5 : W.heap.size ≤ w5.heap.size := T5.out.size
        clear h5 t5 a0 a1 a2 a3 b0 b1 b2 b3 f0 f1 f2 f3
        obtain ⟨y, k0, kf0⟩ := moRow_cell O5.out hn3 (show 3 < 4 by omega)
        obtain ⟨L3, hl3, hr3⟩ := moRow_put O5.out hn3 (show 3 < 4 by omega) (5 * r)
        simp only [Nat.one_mul, Nat.reduceAdd] at k0 kf0 hr3
        have H6 := Lib.hid (H5.out.setCell hB (show W.heap.size ≤ g from hbg) 7 (.int .i64 (5 * r)))
        have T6 := Lib.hid (touch_setCell B g 7 W _ (.int .i64 (5 * r)) T5.out hbg)
        have hs6 : W.heap.size ≤ (w5.setCell ⟨g, 7, none⟩ (.int .i64 (5 * r))).heap.size := by simpa [World.setCell] using hs5
        rw [← hl3] at hr3 hl hn1 hn2 hn3 hn4 ⊢
        have O6 := Lib.hid hr3
        clear hr3 hl3
        go_wp2_with fail
        refine (fmt_bent W _ B (.slice a l c) (0 + 400 + 2 + 2) (by omega) hB (by omega) H6.out).mono ?_
        rintro e wf ⟨fl, fw, fh, fj, rfl, hf, tf⟩
        have FH := Lib.hid (hf.alloc (.cells #[.int .i64 fl, .int .i64 fw, .int .i64 fh, .int .i64 fj] 31))
        have FO : Hid (MoRow W.heap.size L3 (.slice (some ⟨g, 0, none⟩) L3.length cap) (wf.alloc (.cells #[.int .i64 fl, .int .i64 fw, .int .i64 fh, .int .i64 fj] 31))) := row_touch (row_touch O6.out tf hB) (touch_alloc B wf _) hB
        have FTc := Lib.hid ((T6.out.trans tf).trans (touch_alloc B wf (.cells #[.int .i64 fl, .int .i64 fw, .int .i64 fh, .int .i64 fj] 31)))
        have zf : W.heap.size ≤ wf.heap.size := (T6.out.trans tf).size
        have FB : Hid ((wf.alloc (.cells #[.int .i64 fl, .int .i64 fw, .int .i64 fh, .int .i64 fj] 31)).heap[wf.heap.size]? = some (.cells #[.int .i64 fl, .int .i64 fw, .int .i64 fh, .int .i64 fj] 31 (0, 0))) := heap_alloc_new wf _
        clear hf tf k0 kf0 hn1 hn2 hn3 hn4 ra rb
        obtain ⟨wg, hg⟩ : ∃ wg, wf.alloc (.cells #[.int .i64 fl, .int .i64 fw, .int .i64 fh, .int .i64 fj] 31) = wg := ⟨_, rfl⟩
        have hzg : wg.heap.size = wf.heap.size + 1 := by rw [← hg]; simp
        rw [hg] at FH FO FTc FB
        have c0 : wg.cell? ⟨wf.heap.size, 0, none⟩ = some (.int .i64 fl) := by rw [cell_of_block FB.out]; rfl
        have c1 : wg.cell? ⟨wf.heap.size, 1, none⟩ = some (.int .i64 fw) := by rw [cell_of_block FB.out]; rfl
        have c2 : wg.cell? ⟨wf.heap.size, 2, none⟩ = some (.int .i64 fh) := by rw [cell_of_block FB.out]; rfl
        have c3 : wg.cell? ⟨wf.heap.size, 3, none⟩ = some (.int .i64 fj) := by rw [cell_of_block FB.out]; rfl
        have hgH := Lib.hid hg
        clear hg
        go_wp2
        rw [hgH.out]
        go_region_with (first
          | (go_at_call 36; refine (draw_shrink W _ B (.slice a l c) ((0 + 400 + 2 + 2) + 30) (by omega) hB (by simp; omega) FH.out.drew).mono ?_; rintro e wh ⟨x, rfl, hh, th⟩; have HT := Lib.hid (FTc.out.drew.trans th); have HO : Hid (MoRow W.heap.size L3 (.slice (some ⟨g, 0, none⟩) L3.length cap) wh) := row_touch (show MoRow W.heap.size L3 (.slice (some ⟨g, 0, none⟩) L3.length cap) wg.drew from FO.out) th hB; have hb := (th.block wf.heap.size (by simp; omega) (by omega)).trans FB.out; have e0 : wh.cell? ⟨wf.heap.size, 0, none⟩ = some (.int .i64 fl) := (by rw [cell_of_block hb]; rfl); have e1 : wh.cell? ⟨wf.heap.size, 1, none⟩ = some (.int .i64 fw) := (by rw [cell_of_block hb]; rfl); have e2 : wh.cell? ⟨wf.heap.size, 2, none⟩ = some (.int .i64 fh) := (by rw [cell_of_block hb]; rfl); have e3 : wh.cell? ⟨wf.heap.size, 3, none⟩ = some (.int .i64 fj) := (by rw [cell_of_block hb]; rfl); have hr := hR.out wh HT.out; have d0 : wh.cell? ⟨w.heap.size, 0, none⟩ = some (.int .i64 0) := (cell_of_block hr 0).trans rfl; have d1 : wh.cell? ⟨w.heap.size, 1, none⟩ = some (.int .i64 0) := (cell_of_block hr 1).trans rfl; have d2 : wh.cell? ⟨w.heap.size, 2, none⟩ = some (.int .i64 0) := (cell_of_block hr 2).trans rfl; have d3 : wh.cell? ⟨w.heap.size, 3, none⟩ = some (.int .i64 0) := (cell_of_block hr 3).trans rfl; have q0 : wh.frozen? ⟨w.heap.size, 0, none⟩ = false := unfrozen_of_block hr 0; have q1 : wh.frozen? ⟨w.heap.size, 1, none⟩ = false := unfrozen_of_block hr 1; have q2 : wh.frozen? ⟨w.heap.size, 2, none⟩ = false := unfrozen_of_block hr 2; have q3 : wh.frozen? ⟨w.heap.size, 3, none⟩ = false := unfrozen_of_block hr 3; clear hh th hb hr))
        all_goals
          go_wp2
          refine bodyPost_ret (v := .tuple #[.slice (some ⟨g, 0, none⟩) L3.length cap, .agg #[.int .i64 fl, .int .i64 fw, .int .i64 fh, .int .i64 fj], .int .i64 x]) (by simp [results, Tryd.results8, go_sem, d0, d1, d2, d3]) rfl ⟨L3, (some ⟨g, 0, none⟩), cap, fl, fw, fh, fj, x, hl, rfl, ?_, ?_⟩
          · exact own_weak (row_set (row_set (row_set (row_set HO.out (by omega)) (by omega)) (by omega)) (by omega)) (by omega)
          · exact ((((hD.out _ HT.out).setCell (p := ⟨w.heap.size, 0, none⟩) (Nat.le_refl _) _).setCell (p := ⟨w.heap.size, 1, none⟩) (Nat.le_refl _) _).setCell (p := ⟨w.heap.size, 2, none⟩) (Nat.le_refl _) _).setCell (p := ⟨w.heap.size, 3, none⟩) (Nat.le_refl _) _
end Go.Proofs.YtdandhmallbemaaDoor
