/-
  AddClay: the program's answer, whole.
-/
import Derived.Test.YtpmklnldgafkjaaAddI
namespace Go.Proofs.Ytpmklnldgafkjaa
open Go.ChangeShapes Go.WideShapes Go.ChangeAt Go.RowKit Go.Joins

theorem one_at {w : World} {g : Nat} {c : Cl} (h : w.rangeAt g 0 c.vals) : ClAt w g 0 [c] := fun k d hk => by
  have hl := (List.getElem?_eq_some_iff.1 hk).1
  have h0 : k = 0 := by simp at hl; omega
  subst h0
  have e : d = c := by simpa using hk.symm
  subst e
  exact h

set_option maxRecDepth 100000 in
set_option maxHeartbeats 3200000 in
theorem add_impl (L : List Cl) (c : Cl) (b o cap : Nat) (hl : L.length ≤ 1048576) (w : World) (ha : ClAt w b o L) :
    Calls Try.prog 25 #[.slice (some ⟨b, o, none⟩) L.length cap, .agg #[.string c.name, .int .i64 c.sh, .int .i64 c.li, .int .i64 c.sa, .int .i64 c.pr]] w fun e w' => AddOut w L c e w' := by
  have RX0 : (w.alloc (.cells #[.string c.name, .int .i64 c.sh, .int .i64 c.li, .int .i64 c.sa, .int .i64 c.pr] 35)).rangeAt w.heap.size 0 c.vals := range_new w #[.string c.name, .int .i64 c.sh, .int .i64 c.li, .int .i64 c.sa, .int .i64 c.pr] 35
  have B0 : Hid (Below w.heap.size w (w.alloc (.cells #[.string c.name, .int .i64 c.sh, .int .i64 c.li, .int .i64 c.sa, .int .i64 c.pr] 35))) := balloc0 _ _
  obtain ⟨W0, hW0⟩ : ∃ W0, w.alloc (.cells #[.string c.name, .int .i64 c.sh, .int .i64 c.li, .int .i64 c.sa, .int .i64 c.pr] 35) = W0 := ⟨_, rfl⟩
  rw [hW0] at RX0 B0
  have HW := Lib.hid hW0
  have HA : Hid (∀ wx, Below W0.heap.size W0 wx → ClAt wx b o L ∧ wx.rangeAt w.heap.size 0 c.vals) := fun wx h => ⟨(ha.later B0.out).later h, range_below RX0 h⟩
  have C := Lib.hid (valid_impl L (some ⟨b, o, none⟩) cap hl W0 (.inr ⟨b, o, rfl, ha.later B0.out⟩))
  have C1 := Lib.hid (isClay_impl c)
  clear ha hW0 RX0
  cases h1 : okCls L
  · have HO : Hid (addCode L c = 1) := by show addCode L c = 1; simp [addCode, h1]
    rw [h1] at C
    go_enter Try.func25, Try.ntmps25
    go_wp2_with fail
    rw [HW.out]
    refine C.out.mono ?_
    rintro e w1 ⟨rfl, hb1⟩
    go_wp2
    refine bodyPost_ret (v := .tuple #[.slice none 0 0, .int .i64 1]) (by simp [results, Try.results25, go_sem]) rfl (AddOut.bad HO.out (by omega) (B0.out.trans (hb1.mono B0.out.size)))
  rw [h1] at C
  cases h2 : c.ok
  · have HO : Hid (addCode L c = 2) := by show addCode L c = 2; simp [addCode, h1, h2]
    rw [h2] at C1
    go_enter Try.func25, Try.ntmps25
    go_wp2_with fail
    rw [HW.out]
    refine C.out.mono ?_
    rintro e w1 ⟨rfl, hb1⟩
    have H1 := Lib.hid hb1
    obtain ⟨e0, e1, e2, e3, e4⟩ := boxed (HA.out _ H1.out).2
    clear hb1
    go_wp2_with fail
    refine (C1.out _).mono ?_
    rintro e w2 ⟨rfl, hb2⟩
    have H2 := Lib.hid (bnext H1.out hb2)
    clear hb2 e0 e1 e2 e3 e4
    go_wp2
    refine bodyPost_ret (v := .tuple #[.slice none 0 0, .int .i64 2]) (by simp [results, Try.results25, go_sem]) rfl (AddOut.bad HO.out (by omega) (B0.out.trans (H2.out.mono B0.out.size)))
  rw [h2] at C1
  have H6 := (okCls_all h1).1
  have H12 := Lib.hid (And.intro h1 h2)
  clear h1 h2
  cases h3 : seenB L L.length c.name
  case true =>
    have HO : Hid (addCode L c = 4) := by show addCode L c = 4; simp [addCode, H12.out.1, H12.out.2, h3]
    have H3 := Lib.hid h3
    clear h3
    go_enter Try.func25, Try.ntmps25
    go_wp2_with fail
    rw [HW.out]
    refine C.out.mono ?_
    rintro e w1 ⟨rfl, hb1⟩
    have H1 := Lib.hid hb1
    obtain ⟨e0, e1, e2, e3, e4⟩ := boxed (HA.out _ H1.out).2
    clear hb1
    go_wp2_with fail
    refine (C1.out _).mono ?_
    rintro e w2 ⟨rfl, hb2⟩
    have H2 := Lib.hid (bnext H1.out hb2)
    clear hb2 e0 e1 e2 e3 e4
    go_wp2_with fail
    refine (contains_impl L c.name w.heap.size b o cap hl _ (HA.out _ H2.out).1 ((HA.out _ H2.out).2 0 _ rfl)).mono ?_
    rintro e w3 ⟨rfl, hb3⟩
    rw [H3.out]
    have HB3 := Lib.hid (bnext H2.out hb3)
    clear hb3
    go_wp2
    refine bodyPost_ret (v := .tuple #[.slice none 0 0, .int .i64 4]) (by simp [results, Try.results25, go_sem]) rfl (AddOut.bad HO.out (by omega) (B0.out.trans (HB3.out.mono B0.out.size)))
  have H3 := Lib.hid h3
  clear h3
  by_cases h6 : (6 : Int) ≤ (L.length : Int)
  · have HO : Hid (addCode L c = 5) := by
      have h7 : 6 ≤ L.length := by omega
      show addCode L c = 5
      simp [addCode, H12.out.1, H12.out.2, H3.out, h7]
    go_enter Try.func25, Try.ntmps25
    go_wp2_with fail
    rw [HW.out]
    refine C.out.mono ?_
    rintro e w1 ⟨rfl, hb1⟩
    have H1 := Lib.hid hb1
    obtain ⟨e0, e1, e2, e3, e4⟩ := boxed (HA.out _ H1.out).2
    clear hb1
    go_wp2_with fail
    refine (C1.out _).mono ?_
    rintro e w2 ⟨rfl, hb2⟩
    have H2 := Lib.hid (bnext H1.out hb2)
    clear hb2 e0 e1 e2 e3 e4
    go_wp2_with fail
    refine (contains_impl L c.name w.heap.size b o cap hl _ (HA.out _ H2.out).1 ((HA.out _ H2.out).2 0 _ rfl)).mono ?_
    rintro e w3 ⟨rfl, hb3⟩
    rw [H3.out]
    have HB3 := Lib.hid (bnext H2.out hb3)
    clear hb3
    go_wp2
    refine bodyPost_ret (v := .tuple #[.slice none 0 0, .int .i64 5]) (by simp [results, Try.results25, go_sem]) rfl (AddOut.bad HO.out (by omega) (B0.out.trans (HB3.out.mono B0.out.size)))
  · have HO : Hid (addCode L c = 0) := by
      have h7 : ¬ 6 ≤ L.length := by omega
      show addCode L c = 0
      simp [addCode, H12.out.1, H12.out.2, H3.out, h7]
    go_enter Try.func25, Try.ntmps25
    go_wp2_with fail
    rw [HW.out]
    refine C.out.mono ?_
    rintro e w1 ⟨rfl, hb1⟩
    have H1 := Lib.hid hb1
    obtain ⟨e0, e1, e2, e3, e4⟩ := boxed (HA.out _ H1.out).2
    clear hb1
    go_wp2_with fail
    refine (C1.out _).mono ?_
    rintro e w2 ⟨rfl, hb2⟩
    have H2 := Lib.hid (bnext H1.out hb2)
    clear hb2 e0 e1 e2 e3 e4
    go_wp2_with fail
    refine (contains_impl L c.name w.heap.size b o cap hl _ (HA.out _ H2.out).1 ((HA.out _ H2.out).2 0 _ rfl)).mono ?_
    rintro e w3 ⟨rfl, hb3⟩
    rw [H3.out]
    have HB3 := Lib.hid (bnext H2.out hb3)
    obtain ⟨e0, e1, e2, e3, e4⟩ := boxed (HA.out _ HB3.out).2
    clear hb3
    go_wp2_with fail
    have hq := range_new2 w3 (.cells #[.string c.name, .int .i64 c.sh, .int .i64 c.li, .int .i64 c.sa, .int .i64 c.pr] 35) #[.slice (some ⟨b, o, none⟩) L.length cap, .slice (some ⟨w3.heap.size, 0, none⟩) 1 1] 25
    have hc := one_at (c := c) (range_old w3 (.cells #[.slice (some ⟨b, o, none⟩) L.length cap, .slice (some ⟨w3.heap.size, 0, none⟩) 1 1] 25) #[.string c.name, .int .i64 c.sh, .int .i64 c.li, .int .i64 c.sa, .int .i64 c.pr] 35)
    refine (concat_impl L c b o cap (w3.heap.size + 1) w3.heap.size H6 _ (HA.out _ (balloc (balloc HB3.out _) _)).1 hc (hq 0 _ rfl) (hq 1 _ rfl)).mono ?_
    rintro e w4 ⟨g4, cap4, rfl, ho4, hb4⟩
    have H4 := Lib.hid (bnext (balloc (balloc HB3.out _) _) hb4)
    have HB : Hid (Below w.heap.size w w4) := B0.out.trans (H4.out.mono B0.out.size)
    have HO4 : Hid (ClOwn w.heap.size (L ++ [c]) g4 w4) := by
      refine ⟨Nat.le_trans ?_ ho4.1, ho4.2⟩
      have := HB3.out.size
      have := B0.out.size
      simp
      omega
    clear hq hc ho4 hb4 e0 e1 e2 e3 e4
    go_wp2
    refine bodyPost_ret (v := .tuple #[.slice (some ⟨g4, 0, none⟩) (L.length + 1) cap4, .int .i64 0]) (by simp [results, Try.results25, go_sem]) rfl (AddOut.good HO.out HO4.out HB.out)
end Go.Proofs.Ytpmklnldgafkjaa
