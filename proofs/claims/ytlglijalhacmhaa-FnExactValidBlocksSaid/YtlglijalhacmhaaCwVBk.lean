/-
  The walk of the law on ValidBlocks.
-/
import Derived.Test.YtlglijalhacmhaaBkW
import Derived.Deep.RegionWith
namespace Go.Proofs.Ytlglijalhacmhaa
open Go.ChangeShapes Go.WideShapes Go.ChangeAt Go.RowKit Go.Joins

set_option maxRecDepth 100000 in
set_option maxHeartbeats 12800000 in
theorem walk_FnExactValidBlocks (X : Bk) (a b c : Option Addr) (ca cb cc : Nat) (hl : BkLen X maxLen) (w : World) (ha : BkArg w a b c X) :
    Calls Try.prog 3 #[.agg #[.slice a X.A.length ca, .slice b X.L.length cb, .slice c X.H.length cc]] w fun e w' => e = .returned (.bool true) ∧ Below w.heap.size w w' := by
  have k0 := BkBox.new w X a b c ca cb cc 24
  have E0 := Lib.hid (balloc0 w (.cells #[.slice a X.A.length ca, .slice b X.L.length cb, .slice c X.H.length cc] 24))
  obtain ⟨U0, hU⟩ : ∃ U, World.alloc w (.cells #[.slice a X.A.length ca, .slice b X.L.length cb, .slice c X.H.length cc] 24) = U := ⟨_, rfl⟩
  rw [hU] at k0 E0
  have E0 : Hid (Below w.heap.size w U0) := E0.out
  have KB : Hid (∀ wx, Below U0.heap.size U0 wx → BkBox w.heap.size X a b c ca cb cc wx) := fun wx hx => k0.later hx
  have zz := k0.lt
  have HU := Lib.hid hU
  clear hU k0
  have Z := Lib.hid (sz_bk X a b c ca cb cc 1048576 (by omega) (by omega) (by obtain ⟨h1, h2, h3⟩ := hl; unfold maxLen at h1 h2 h3; exact ⟨by omega, by omega, by omega⟩) U0)
  have HA := Lib.hid (ha.later E0.out)
  clear ha hl
  go_enter Try.func3, Try.ntmps3
  obtain ⟨p0, p1, p2⟩ := KB.out _ (Below.refl _ _)
  go_wp2_with fail
  rw [HU.out]
  refine Z.out.mono ?_
  rintro e w1 ⟨r, rfl, r0, r1, r2, hb1⟩
  have B1 := Lib.hid hb1
  have R2 := Lib.hid r2
  clear hb1 r2 p0 p1 p2
  by_cases hr : r < 0
  · go_wp2
    go_ret
    exact ⟨rfl, bnext E0.out B1.out⟩
  have HL := Lib.hid (R2.out (by omega))
  have S := Lib.hid (fun (a b c : Option Addr) (ca cb cc : Nat) (wx : World) (h : BkArg wx a b c X) => spec_valid_bk X a b c ca cb cc HL.out wx h)
  have I := Lib.hid (fun (a b c : Option Addr) (ca cb cc : Nat) (wx : World) (h : BkArg wx a b c X) => bk_impl X a b c ca cb cc HL.out wx h)
  obtain ⟨v0, hv⟩ : ∃ v : Bool, okBk X = v := ⟨_, rfl⟩
  rw [hv] at S I
  clear hv
  obtain ⟨p0, p1, p2⟩ := KB.out _ B1.out
  go_wp2_with fail
  refine (to_bk X a b c ca cb cc HL.out _ (HA.out.later B1.out)).mono ?_
  rintro e w2 ⟨gS, hS, mS, rfl, oS, hb2⟩
  have B2 := Lib.hid (bnext B1.out hb2)
  clear hb2 p0 p1 p2
  have OS := Lib.hid oS.arg
  clear oS
  go_wp2_with fail
  refine (S.out _ _ _ _ _ _ _ OS.out).mono ?_
  rintro e w3 ⟨rfl, hb3⟩
  have B3 := Lib.hid (bnext B2.out hb3)
  have OS := Lib.hid (OS.out.later hb3)
  clear hb3
  obtain ⟨p0, p1, p2⟩ := KB.out _ B3.out
  go_wp2_with fail
  refine (to_bk X a b c ca cb cc HL.out _ (HA.out.later B3.out)).mono ?_
  rintro e w4 ⟨gI, hI, mI, rfl, oI, hb4⟩
  have B4 := Lib.hid (bnext B3.out hb4)
  clear hb4 p0 p1 p2
  have OI := Lib.hid oI.arg
  clear oI
  have bq := balloc0 w4 (.cells #[.slice (some ⟨gI, 0, none⟩) X.A.length X.A.length, .slice (some ⟨hI, 0, none⟩) X.L.length X.L.length, .slice (some ⟨mI, 0, none⟩) X.H.length X.H.length] 27)
  have BQ := Lib.hid (bnext B4.out bq)
  have BX := Lib.hid (BkBox.new w4 X (some ⟨gI, 0, none⟩) (some ⟨hI, 0, none⟩) (some ⟨mI, 0, none⟩) X.A.length X.L.length X.H.length 27)
  have OI := Lib.hid (OI.out.later bq)
  obtain ⟨QIW0, hQIW0⟩ : ∃ V, w4.alloc (.cells #[.slice (some ⟨gI, 0, none⟩) X.A.length X.A.length, .slice (some ⟨hI, 0, none⟩) X.L.length X.L.length, .slice (some ⟨mI, 0, none⟩) X.H.length X.H.length] 27) = V := ⟨_, rfl⟩
  have QIy0 : QIW0.heap.size = w4.heap.size + 1 := by rw [← hQIW0]; simp
  rw [hQIW0] at BQ BX OI
  have BQIW0 := BQ
  clear BQ bq
  have HQIW0 := Lib.hid hQIW0
  clear hQIW0
  go_wp2_with fail
  rw [HQIW0.out]
  refine (I.out _ _ _ _ _ _ _ OI.out).mono ?_
  rintro e w5 ⟨rfl, hb5⟩
  have B5 := Lib.hid (bnext BQIW0.out hb5)
  have OI := Lib.hid (OI.out.later hb5)
  have BX := Lib.hid (BX.out.later hb5)
  clear hb5
  obtain ⟨p0, p1, p2⟩ := KB.out _ B5.out
  have p0 : w5.drew.cell? ⟨w.heap.size, 0, none⟩ = _ := p0
  have p1 : w5.drew.cell? ⟨w.heap.size, 1, none⟩ = _ := p1
  have p2 : w5.drew.cell? ⟨w.heap.size, 2, none⟩ = _ := p2
  obtain ⟨y0, y1, y2⟩ := BX.out
  have y3 := BX.out.lt
  have y0 : w5.drew.cell? _ = _ := y0
  have y1 : w5.drew.cell? _ = _ := y1
  have y2 : w5.drew.cell? _ = _ := y2
  go_wp2_with fail
  go_region_with (first | (go_at_call 17; refine (to_bk X a b c ca cb cc HL.out _ (HA.out.later (below_drewN B5.out 1))).mono ?_; rintro e w6 ⟨gT, hT, mT, rfl, oT, hb6⟩; have B6 := Lib.hid (bnext B5.out.drew hb6); have ET := Lib.hid oT.arg; have EI := Lib.hid (BkArg.later (w := w5.drew) OI.out hb6); obtain ⟨z0, z1, z2⟩ := BkBox.later (w := w5.drew) BX.out hb6; clear hb6 oT) | (go_at_call 19; refine (eq_bk X _ _ _ _ _ _ _ _ _ _ _ _ ⟨by have := HL.out.1; omega, by have := HL.out.2.1; omega, by have := HL.out.2.2; omega⟩ _ EI.out ET.out).mono ?_; rintro e w7 ⟨rfl, hb7⟩; have B7 := Lib.hid (bnext B6.out hb7); clear hb7))
  all_goals
    go_wp2
    go_ret
    exact ⟨rfl, bnext E0.out B7.out⟩
end Go.Proofs.Ytlglijalhacmhaa
