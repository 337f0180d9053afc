/-
  The model's drawn arguments of the law on equal lists of moulds.
-/
import Derived.Test.YtdandhmallbemaaDoorDrB
namespace Go.Proofs.YtdandhmallbemaaDoor
open Go.ChangeShapes Go.WideShapes Go.ChangeAt Go.RowKit Go.Joins

/-- Two lists. -/
def DrawS (w : World) (e : Ending) (w' : World) : Prop :=
  ∃ (L M : List Mo) (a b : Option Addr) (cap cap' : Nat), L.length ≤ 21 ∧ M.length ≤ 21 ∧ e = .returned (.tuple #[.slice a L.length cap, .slice b M.length cap']) ∧ MoRow w.heap.size L (.slice a L.length cap) w' ∧ MoRow w.heap.size M (.slice b M.length cap') w' ∧ Below w.heap.size w w'
theorem row_other {b x o : Nat} {L : List Mo} {v u : Value} {w : World} (h : MoRow b L v w) (hx : v.ownBlock ≠ some x) : MoRow b L v (w.setCell ⟨x, o, none⟩ u) := by
  refine ⟨h.1, ?_⟩
  rcases h.2 with hn | ⟨g, cap, cur, hv, hB, hgg, rest⟩
  · exact .inl hn
  · refine .inr ⟨g, cap, cur, hv, hB, (Below.heap_setCell _ _ _ _ ?_).trans hgg, rest⟩
    intro e
    apply hx
    rw [hv]
    show some g = some x
    rw [show g = x from e]

theorem snoc_form {w : World} {b e size n : Nat} {v1 : Value} {xs : List Value} (h : w.ownsRow b e size v1 (n + 1) xs) : ∃ gb cb, v1 = .slice (some ⟨gb, 0, none⟩) (n + 1) cb := by
  rcases h.2 with ⟨_, e⟩ | ⟨gb, cb, cur, e, _⟩
  · omega
  · exact ⟨gb, cb, e⟩
theorem app_form {w : World} {b e size n m : Nat} {v1 : Value} {xs : List Value} {q cap : Nat} (h : w.ownsRow b e size v1 (0 + n) xs) (hiff : v1 = .slice none 0 0 ↔ Value.slice (some ⟨q, 0, none⟩) 0 cap = .slice none 0 0 ∧ m = 0) : ∃ gb cb, v1 = .slice (some ⟨gb, 0, none⟩) n cb := by
  rw [Nat.zero_add] at h
  rcases h.2 with ⟨e, _⟩ | ⟨gb, cb, cur, e, _⟩
  · exact absurd (hiff.1 e).1 (by simp)
  · exact ⟨gb, cb, e⟩
set_option maxRecDepth 100000 in
set_option maxHeartbeats 6400000 in
theorem drawSameMoulds_spec (w : World) (cv : Value) (hcv : CodeAt w w.heap.size cv) (hsl : ∃ a l c, cv = .slice a l c) : Calls Tryd.prog 17 #[cv] w (DrawS w) := by
  have HN := Lib.hid (src_new w cv hcv)
  have SF := Lib.hid (src_from w cv hcv hsl)
  obtain ⟨a, l, c, rfl⟩ := hsl
  clear hcv
  obtain ⟨i0, hi, hz0, hz1, hz2⟩ := info_parts infoMould
  have hB : w.heap.size < (w.alloc (.cells #[.slice a l c, .int .i64 0, .int .u64 0] 80)).heap.size := by simp
  obtain ⟨W, hW⟩ : ∃ W, w.alloc (.cells #[.slice a l c, .int .i64 0, .int .u64 0] 80) = W := ⟨_, rfl⟩
  have DB : Hid (∀ w', Touch w.heap.size W w' → Below w.heap.size w w') := fun w' h => drawn_below (hW ▸ h)
  rw [hW] at HN SF hB
  obtain ⟨B, hBB⟩ : ∃ B, w.heap.size = B := ⟨_, rfl⟩
  rw [hBB] at HN SF hB DB
  have HB2 := Lib.hid hBB
  clear hW hBB
  go_enter Tryd.func17, Tryd.ntmps17
  go_wp2_with fail
  refine SF.out.mono ?_
  rintro e w1 ⟨rfl, rfl⟩
  go_wp2_with fail
  refine (draw_some W _ B (.slice a l c) 0 (by omega) hB (Nat.le_refl _) HN.out).mono ?_
  rintro e w2 ⟨L, g, cap, hl, rfl, ho, h2, t2⟩
  have H2 := Lib.hid h2
  have O2 := Lib.hid ho
  have T2 := Lib.hid t2
  have hs2 : W.heap.size ≤ w2.heap.size := t2.size
  have hgl : g < w2.heap.size := (ho.lt g rfl).2
  have hbg := moRow_base ho
  have c3 : Hid (0 + L.length ≤ maxLen) := by show 0 + L.length ≤ maxLen; unfold maxLen; omega
  clear h2 ho t2
  by_cases hn : L.length = 0
  · have hL := List.length_eq_zero_iff.1 hn
    subst hL
    clear hn
    go_wp2_with (at_builtin; go_must ((refine wpList_append_own _ rfl _ _ 24 rfl w2.heap.size 47 i0 (.agg #[.int .i64 0, .int .i64 0, .int .i64 0, .int .i64 0]) 4 32 Tryd.underlying24 hi hz0 hz1 hz2 rfl (by decide) (.slice (some ⟨w2.heap.size, 0, none⟩) 0 0) 0 [] rfl (own_mouldStart w2) ⟨g, 0, none⟩ ([] : List Mo).length cap (mouldVals ([] : List Mo)) rfl (mouldVals_length []) ((World.ownsRow.alloc O2.out _).cells rfl) (mouldVals_one []) c3.out (by omega) (by simp) ?_; intro v1 w3 hown1 hgrow1 hiff; obtain ⟨gb, cb, hv1⟩ := app_form hown1 hiff; subst hv1)))
    have O3 : Hid (MoRow W.heap.size ([] : List Mo) (.slice (some ⟨g, 0, none⟩) ([] : List Mo).length cap) w3) := World.ownsRow.kept (World.ownsRow.alloc O2.out _) hgrow1 (.inr (by show some g ≠ some w2.heap.size; intro e; cases e; omega))
    have P3' : MoRow w2.heap.size ([] : List Mo) (.slice (some ⟨gb, 0, none⟩) ([] : List Mo).length cb) w3 := by
      show w3.ownsRow w2.heap.size 47 4 (.slice (some ⟨gb, 0, none⟩) ([] : List Mo).length cb) ([] : List Mo).length (mouldVals ([] : List Mo))
      have := hown1
      rw [Nat.zero_add, List.nil_append] at this
      exact this
    have P3 := Lib.hid P3'
    have H3 := Lib.hid ((H2.out.alloc (.cells #[] 47)).grown hB (own_weak (own_mouldStart w2) hs2) hgrow1)
    have T3 := Lib.hid (touch_grown (T2.out.trans (touch_alloc B w2 (.cells #[] 47))) (own_mouldStart w2) hs2 hgrow1)
    have hgb := moRow_base P3'
    have hs3 : W.heap.size ≤ w3.heap.size := T3.out.size
    have h23 : w2.heap.size ≤ w3.heap.size := by have := hgrow1.size; simp at this; omega
    clear hown1 hgrow1 hiff P3'
    refine (src_one W _ B (.slice a l c) (0 + 60) 5 (by omega) (by omega) (by omega) H3.out).mono ?_
    rintro e we ⟨be, rfl, he, te⟩
    have OE : Hid (MoRow W.heap.size ([] : List Mo) (.slice (some ⟨g, 0, none⟩) ([] : List Mo).length cap) we) := row_touch O3.out te hB
    have PE : Hid (MoRow w2.heap.size ([] : List Mo) (.slice (some ⟨gb, 0, none⟩) ([] : List Mo).length cb) we) := row_touch P3.out te (by omega)
    have TE := Lib.hid (T3.out.trans te)
    have hse : w2.heap.size ≤ we.heap.size := by have := te.size; omega
    clear he te
    cases be
    · go_wp2
      go_ret2
      exact ⟨[], ([] : List Mo), _, _, _, _, by omega, by omega, rfl, by rw [HB2.out]; exact own_weak OE.out (by omega), by rw [HB2.out]; exact own_weak PE.out (by omega), by rw [HB2.out]; exact DB.out _ TE.out⟩
    · have c4 : Hid (([] : List Mo).length + 1 ≤ maxLen) := by show ([] : List Mo).length + 1 ≤ maxLen; unfold maxLen; omega
      go_wp2_with (at_builtin; go_must ((refine wpList_append_own _ rfl _ _ 24 rfl w2.heap.size 47 i0 (.agg #[.int .i64 0, .int .i64 0, .int .i64 0, .int .i64 0]) 4 32 Tryd.underlying24 hi hz0 hz1 hz2 rfl (by decide) (.slice (some ⟨gb, 0, none⟩) ([] : List Mo).length cb) ([] : List Mo).length (mouldVals ([] : List Mo)) rfl (World.ownsRow.alloc PE.out _) ⟨we.heap.size, 0, none⟩ 1 1 (⟨0, 0, 0, 0⟩ : Mo).vals rfl rfl ((lit_mould w2.heap.size we ⟨0, 0, 0, 0⟩ hse).cells rfl) (by simp [Mo.vals, Value.oneCell']) c4.out (by omega) (by simp; omega) ?_; intro v2 wz hown2 hgrow2 _; obtain ⟨gz, cz, hv2⟩ := snoc_form hown2; subst hv2)))
      have PZ' : MoRow w2.heap.size (([] : List Mo) ++ [(⟨0, 0, 0, 0⟩ : Mo)]) (.slice (some ⟨gz, 0, none⟩) (([] : List Mo).length + 1) cz) wz := by
        show wz.ownsRow w2.heap.size 47 4 (.slice (some ⟨gz, 0, none⟩) (([] : List Mo).length + 1) cz) (([] : List Mo) ++ [(⟨0, 0, 0, 0⟩ : Mo)]).length (mouldVals (([] : List Mo) ++ [(⟨0, 0, 0, 0⟩ : Mo)]))
        rw [← mouldVals_snoc, List.length_append]
        exact hown2
      have OZ : Hid (MoRow W.heap.size ([] : List Mo) (.slice (some ⟨g, 0, none⟩) ([] : List Mo).length cap) wz) := World.ownsRow.kept (World.ownsRow.alloc OE.out _) hgrow2 (.inr (by show some g ≠ some gb; intro e; cases e; omega))
      have TZ := Lib.hid (touch_grown (TE.out.trans (touch_alloc B we (.cells #[.int .i64 0, .int .i64 0, .int .i64 0, .int .i64 0] 47))) (World.ownsRow.alloc PE.out _) hs2 hgrow2)
      have hlz : (([] : List Mo) ++ [(⟨0, 0, 0, 0⟩ : Mo)]).length ≤ 21 := by rw [List.length_append]; show ([] : List Mo).length + 1 ≤ 21; first | omega | decide
      have PZ := Lib.hid PZ'
      have hlm : ([] : List Mo).length + 1 = (([] : List Mo) ++ [(⟨0, 0, 0, 0⟩ : Mo)]).length := by simp
      rw [hlm] at PZ
      obtain ⟨MZ, hMZ⟩ : ∃ MZ, ([] : List Mo) ++ [(⟨0, 0, 0, 0⟩ : Mo)] = MZ := ⟨_, rfl⟩
      rw [hMZ] at PZ hlz hlm
      have HLM := Lib.hid hlm
      clear PZ' hown2 hgrow2 hMZ hlm
      go_wp2
      go_ret2
      exact ⟨[], MZ, _, _, _, _, by omega, hlz, by rw [← HLM.out]; rfl, by rw [HB2.out]; exact own_weak OZ.out (by omega), by rw [HB2.out]; exact own_weak PZ.out (by omega), by rw [HB2.out]; exact DB.out _ TZ.out⟩
  · have hn1 : (0 : Int) < (L.length : Int) := by omega
    have hn2 : 0 < L.length := by omega
    go_wp2_with (at_builtin; go_must ((refine wpList_append_own _ rfl _ _ 24 rfl w2.heap.size 47 i0 (.agg #[.int .i64 0, .int .i64 0, .int .i64 0, .int .i64 0]) 4 32 Tryd.underlying24 hi hz0 hz1 hz2 rfl (by decide) (.slice (some ⟨w2.heap.size, 0, none⟩) 0 0) 0 [] rfl (own_mouldStart w2) ⟨g, 0, none⟩ L.length cap (mouldVals L) rfl (mouldVals_length L) ((World.ownsRow.alloc O2.out _).cells rfl) (mouldVals_one L) c3.out (by omega) (by simp) ?_; intro v1 w3 hown1 hgrow1 hiff; obtain ⟨gb, cb, hv1⟩ := app_form hown1 hiff; subst hv1)))
    have O3 : Hid (MoRow W.heap.size L (.slice (some ⟨g, 0, none⟩) L.length cap) w3) := World.ownsRow.kept (World.ownsRow.alloc O2.out _) hgrow1 (.inr (by show some g ≠ some w2.heap.size; intro e; cases e; omega))
    have P3' : MoRow w2.heap.size L (.slice (some ⟨gb, 0, none⟩) L.length cb) w3 := by
      show w3.ownsRow w2.heap.size 47 4 (.slice (some ⟨gb, 0, none⟩) L.length cb) L.length (mouldVals L)
      have := hown1
      rw [Nat.zero_add, List.nil_append] at this
      exact this
    have P3 := Lib.hid P3'
    have H3 := Lib.hid ((H2.out.alloc (.cells #[] 47)).grown hB (own_weak (own_mouldStart w2) hs2) hgrow1)
    have T3 := Lib.hid (touch_grown (T2.out.trans (touch_alloc B w2 (.cells #[] 47))) (own_mouldStart w2) hs2 hgrow1)
    have hgb := moRow_base P3'
    have hs3 : W.heap.size ≤ w3.heap.size := T3.out.size
    have h23 : w2.heap.size ≤ w3.heap.size := by have := hgrow1.size; simp at this; omega
    clear hown1 hgrow1 hiff P3'
    refine (src_one W _ B (.slice a l c) (0 + 60) 2 (by omega) (by omega) (by omega) H3.out).mono ?_
    rintro e w4 ⟨bo, rfl, h4, t4⟩
    have H4 := Lib.hid h4
    have O4 : Hid (MoRow W.heap.size L (.slice (some ⟨g, 0, none⟩) L.length cap) w4) := row_touch O3.out t4 hB
    have P4 : Hid (MoRow w2.heap.size L (.slice (some ⟨gb, 0, none⟩) L.length cb) w4) := row_touch P3.out t4 (by omega)
    have T4 := Lib.hid (T3.out.trans t4)
    have hs4 : W.heap.size ≤ w4.heap.size := T4.out.size
    have h24 : w2.heap.size ≤ w4.heap.size := by have := t4.size; omega
    clear h4 t4
    cases bo
    · go_wp2_with fail
      refine (src_one W _ B (.slice a l c) (0 + 60 + 2) 5 (by omega) (by omega) (by omega) H4.out).mono ?_
      rintro e we ⟨be, rfl, he, te⟩
      have OE : Hid (MoRow W.heap.size L (.slice (some ⟨g, 0, none⟩) L.length cap) we) := row_touch O4.out te hB
      have PE : Hid (MoRow w2.heap.size L (.slice (some ⟨gb, 0, none⟩) L.length cb) we) := row_touch P4.out te (by omega)
      have TE := Lib.hid (T4.out.trans te)
      have hse : w2.heap.size ≤ we.heap.size := by have := te.size; omega
      clear he te
      cases be
      · go_wp2
        go_ret2
        exact ⟨L, L, _, _, _, _, by omega, by omega, rfl, by rw [HB2.out]; exact own_weak OE.out (by omega), by rw [HB2.out]; exact own_weak PE.out (by omega), by rw [HB2.out]; exact DB.out _ TE.out⟩
      · have c4 : Hid (L.length + 1 ≤ maxLen) := by show L.length + 1 ≤ maxLen; unfold maxLen; omega
        go_wp2_with (at_builtin; go_must ((refine wpList_append_own _ rfl _ _ 24 rfl w2.heap.size 47 i0 (.agg #[.int .i64 0, .int .i64 0, .int .i64 0, .int .i64 0]) 4 32 Tryd.underlying24 hi hz0 hz1 hz2 rfl (by decide) (.slice (some ⟨gb, 0, none⟩) L.length cb) L.length (mouldVals L) rfl (World.ownsRow.alloc PE.out _) ⟨we.heap.size, 0, none⟩ 1 1 (⟨0, 0, 0, 0⟩ : Mo).vals rfl rfl ((lit_mould w2.heap.size we ⟨0, 0, 0, 0⟩ hse).cells rfl) (by simp [Mo.vals, Value.oneCell']) c4.out (by omega) (by simp; omega) ?_; intro v2 wz hown2 hgrow2 _; obtain ⟨gz, cz, hv2⟩ := snoc_form hown2; subst hv2)))
        have PZ' : MoRow w2.heap.size (L ++ [(⟨0, 0, 0, 0⟩ : Mo)]) (.slice (some ⟨gz, 0, none⟩) (L.length + 1) cz) wz := by
          show wz.ownsRow w2.heap.size 47 4 (.slice (some ⟨gz, 0, none⟩) (L.length + 1) cz) (L ++ [(⟨0, 0, 0, 0⟩ : Mo)]).length (mouldVals (L ++ [(⟨0, 0, 0, 0⟩ : Mo)]))
          rw [← mouldVals_snoc, List.length_append]
          exact hown2
        have OZ : Hid (MoRow W.heap.size L (.slice (some ⟨g, 0, none⟩) L.length cap) wz) := World.ownsRow.kept (World.ownsRow.alloc OE.out _) hgrow2 (.inr (by show some g ≠ some gb; intro e; cases e; omega))
        have TZ := Lib.hid (touch_grown (TE.out.trans (touch_alloc B we (.cells #[.int .i64 0, .int .i64 0, .int .i64 0, .int .i64 0] 47))) (World.ownsRow.alloc PE.out _) hs2 hgrow2)
        have hlz : (L ++ [(⟨0, 0, 0, 0⟩ : Mo)]).length ≤ 21 := by rw [List.length_append]; show L.length + 1 ≤ 21; first | omega | decide
        have PZ := Lib.hid PZ'
        have hlm : L.length + 1 = (L ++ [(⟨0, 0, 0, 0⟩ : Mo)]).length := by simp
        rw [hlm] at PZ
        obtain ⟨MZ, hMZ⟩ : ∃ MZ, L ++ [(⟨0, 0, 0, 0⟩ : Mo)] = MZ := ⟨_, rfl⟩
        rw [hMZ] at PZ hlz hlm
        have HLM := Lib.hid hlm
        clear PZ' hown2 hgrow2 hMZ hlm
        go_wp2
        go_ret2
        exact ⟨L, MZ, _, _, _, _, by omega, hlz, by rw [← HLM.out]; rfl, by rw [HB2.out]; exact own_weak OZ.out (by omega), by rw [HB2.out]; exact own_weak PZ.out (by omega), by rw [HB2.out]; exact DB.out _ TZ.out⟩
    · obtain ⟨y, k0, kf0⟩ := moRow_cell P4.out hn2 (show 3 < 4 by omega)
      simp only [Nat.zero_mul, Nat.zero_add] at k0 kf0
      go_wp2_with fail
      go_region_with (first
        | (go_at_call 29; refine (src_pick W _ B (.slice a l c) (0 + 60 + 2) 2 (by omega) (by omega) (by omega) H4.out.drew).mono ?_; rintro e w5 ⟨r, ra, rb, rfl, h5, t5⟩; have H5 := Lib.hid h5; have O5 : Hid (MoRow W.heap.size L (.slice (some ⟨g, 0, none⟩) L.length cap) w5) := row_touch (show MoRow W.heap.size L (.slice (some ⟨g, 0, none⟩) L.length cap) w4.drew from O4.out) t5 hB; have P5 : Hid (MoRow w2.heap.size L (.slice (some ⟨gb, 0, none⟩) L.length cb) w5) := row_touch (show MoRow w2.heap.size L (.slice (some ⟨gb, 0, none⟩) L.length cb) w4.drew from P4.out) t5 (by omega); have T5 := Lib.hid (T4.out.drew.trans t5); have m0 : w5.cell? ⟨gb, 3, none⟩ = some (.int .i64 y) := (t5.cell (p := ⟨gb, 3, none⟩) (by simpa using World.block_lt_of_cell? w4 _ k0) (by show gb ≠ B; omega)).trans k0; obtain ⟨_, _, mf0⟩ := moRow_cell P5.out hn2 (show 3 < 4 by omega); simp only [Nat.zero_mul, Nat.zero_add] at mf0; clear h5 t5))
      all_goals
        obtain ⟨z, hz⟩ : ∃ z, IntKind.i64.wrap (y + r) = z := ⟨_, rfl⟩
        rw [hz]
        clear hz
        obtain ⟨L2, hl2, hr2⟩ := moRow_put P5.out hn2 (show 3 < 4 by omega) z
        simp only [Nat.zero_mul, Nat.zero_add] at hr2
        have H6 := Lib.hid (H5.out.setCell hB (show W.heap.size ≤ gb by omega) 3 (.int .i64 z))
        have T6 := Lib.hid (touch_setCell B gb 3 W _ (.int .i64 z) T5.out (by omega))
        have hs6 : w2.heap.size ≤ (w5.setCell ⟨gb, 3, none⟩ (.int .i64 z)).heap.size := by
          have h1 := T5.out.size
          have h2 := (P5.out.lt gb rfl).2
          simp [World.setCell]
          omega
        have O6 : Hid (MoRow W.heap.size L (.slice (some ⟨g, 0, none⟩) L.length cap) (w5.setCell ⟨gb, 3, none⟩ (.int .i64 z))) := row_other O5.out (by show some g ≠ some gb; intro e; cases e; omega)
        have HL2 := Lib.hid hl2
        have P6 := Lib.hid hr2
        rw [← hl2] at O6 P6 ⊢
        have hl3 : L2.length ≤ 6 := by omega
        clear hl2 hr2 k0 kf0 m0 mf0 hn1 hn2 hn ra rb
        go_wp2_with fail
        refine (src_one W _ B (.slice a l c) (0 + 60 + 2 + 2) 5 (by omega) (by omega) (by omega) H6.out).mono ?_
        rintro e we ⟨be, rfl, he, te⟩
        have OE : Hid (MoRow W.heap.size L (.slice (some ⟨g, 0, none⟩) L2.length cap) we) := row_touch O6.out te hB
        have PE : Hid (MoRow w2.heap.size L2 (.slice (some ⟨gb, 0, none⟩) L2.length cb) we) := row_touch P6.out te (by omega)
        have TE := Lib.hid (T6.out.trans te)
        have hse : w2.heap.size ≤ we.heap.size := by have := te.size; omega
        clear he te
        cases be
        · go_wp2
          go_ret2
          exact ⟨L, L2, _, _, _, _, by omega, by omega, by rw [← HL2.out]; rfl, by rw [HB2.out, ← HL2.out]; exact own_weak OE.out (by omega), by rw [HB2.out]; exact own_weak PE.out (by omega), by rw [HB2.out]; exact DB.out _ TE.out⟩
        · have c4 : Hid (L2.length + 1 ≤ maxLen) := by show L2.length + 1 ≤ maxLen; unfold maxLen; omega
          go_wp2_with (at_builtin; go_must ((refine wpList_append_own _ rfl _ _ 24 rfl w2.heap.size 47 i0 (.agg #[.int .i64 0, .int .i64 0, .int .i64 0, .int .i64 0]) 4 32 Tryd.underlying24 hi hz0 hz1 hz2 rfl (by decide) (.slice (some ⟨gb, 0, none⟩) L2.length cb) L2.length (mouldVals L2) rfl (World.ownsRow.alloc PE.out _) ⟨we.heap.size, 0, none⟩ 1 1 (⟨0, 0, 0, 0⟩ : Mo).vals rfl rfl ((lit_mould w2.heap.size we ⟨0, 0, 0, 0⟩ hse).cells rfl) (by simp [Mo.vals, Value.oneCell']) c4.out (by omega) (by simp; omega) ?_; intro v2 wz hown2 hgrow2 _; obtain ⟨gz, cz, hv2⟩ := snoc_form hown2; subst hv2)))
          have PZ' : MoRow w2.heap.size (L2 ++ [(⟨0, 0, 0, 0⟩ : Mo)]) (.slice (some ⟨gz, 0, none⟩) (L2.length + 1) cz) wz := by
            show wz.ownsRow w2.heap.size 47 4 (.slice (some ⟨gz, 0, none⟩) (L2.length + 1) cz) (L2 ++ [(⟨0, 0, 0, 0⟩ : Mo)]).length (mouldVals (L2 ++ [(⟨0, 0, 0, 0⟩ : Mo)]))
            rw [← mouldVals_snoc, List.length_append]
            exact hown2
          have OZ : Hid (MoRow W.heap.size L (.slice (some ⟨g, 0, none⟩) L2.length cap) wz) := World.ownsRow.kept (World.ownsRow.alloc OE.out _) hgrow2 (.inr (by show some g ≠ some gb; intro e; cases e; omega))
          have TZ := Lib.hid (touch_grown (TE.out.trans (touch_alloc B we (.cells #[.int .i64 0, .int .i64 0, .int .i64 0, .int .i64 0] 47))) (World.ownsRow.alloc PE.out _) hs2 hgrow2)
          have hlz : (L2 ++ [(⟨0, 0, 0, 0⟩ : Mo)]).length ≤ 21 := by rw [List.length_append]; show L2.length + 1 ≤ 21; first | omega | decide
          have PZ := Lib.hid PZ'
          have hlm : L2.length + 1 = (L2 ++ [(⟨0, 0, 0, 0⟩ : Mo)]).length := by simp
          rw [hlm] at PZ
          obtain ⟨MZ, hMZ⟩ : ∃ MZ, L2 ++ [(⟨0, 0, 0, 0⟩ : Mo)] = MZ := ⟨_, rfl⟩
          rw [hMZ] at PZ hlz hlm
          have HLM := Lib.hid hlm
          clear PZ' hown2 hgrow2 hMZ hlm
          go_wp2
          go_ret2
          exact ⟨L, MZ, _, _, _, _, by omega, hlz, by rw [← HLM.out, ← HL2.out]; rfl, by rw [HB2.out, ← HL2.out]; exact own_weak OZ.out (by omega), by rw [HB2.out]; exact own_weak PZ.out (by omega), by rw [HB2.out]; exact DB.out _ TZ.out⟩
end Go.Proofs.YtdandhmallbemaaDoor
