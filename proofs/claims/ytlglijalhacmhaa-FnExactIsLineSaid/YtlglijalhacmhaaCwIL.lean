/-
  The walk of the law on IsLine.
-/
import Derived.Test.YtlglijalhacmhaaBkL
import Derived.Test.YtlglijalhacmhaaBkK
import Derived.Deep.RegionWith
namespace Go.Proofs.Ytlglijalhacmhaa
open Go.ChangeShapes Go.WideShapes Go.ChangeAt Go.RowKit Go.Joins

set_option maxRecDepth 100000 in
set_option maxHeartbeats 12800000 in
theorem walk_FnExactIsLine (X : Bk) (a b c : Option Addr) (ca cb cc : Nat) (hl : BkLen X maxLen) (P1 : List Int) (s1 : Option Addr) (t1 : Nat) (_hl1 : P1.length ≤ maxLen) (x2 : Int) (_wx2 : (Lit.int .i64 x2).wf = true) (w : World) (ha : BkArg w a b c X) (ha1 : IntArg w s1 P1) :
    Calls Try.prog 9 #[.agg #[.slice a X.A.length ca, .slice b X.L.length cb, .slice c X.H.length cc], .slice s1 P1.length t1, .int .i64 x2] w fun e w' => e = .returned (.bool true) ∧ Below w.heap.size w w' := by
  have k0 := BkBox.new w X a b c ca cb cc 24
  have E0 := Lib.hid (balloc0 w (.cells #[.slice a X.A.length ca, .slice b X.L.length cb, .slice c X.H.length cc] 24))
  obtain ⟨U0, hU⟩ : ∃ U, World.alloc w (.cells #[.slice a X.A.length ca, .slice b X.L.length cb, .slice c X.H.length cc] 24) = U := ⟨_, rfl⟩
  rw [hU] at k0 E0
  have E0 : Hid (Below w.heap.size w U0) := E0.out
  have KB : Hid (∀ wx, Below U0.heap.size U0 wx → BkBox w.heap.size X a b c ca cb cc wx) := fun wx hx => k0.later hx
  have zz := k0.lt
  have HU := Lib.hid hU
  clear hU k0
  by_cases hp1 : (1048576 : Int) < (P1.length : Int)
  · clear ha ha1
    go_enter Try.func9, Try.ntmps9
    go_wp2_with fail
    rw [HU.out]
    go_ret
    exact ⟨rfl, E0.out⟩
  have hl1 : P1.length ≤ 1048576 := by omega
  have Z := Lib.hid (sz_bk X a b c ca cb cc 1048576 (by omega) (by omega) (by obtain ⟨h1, h2, h3⟩ := hl; unfold maxLen at h1 h2 h3; exact ⟨by omega, by omega, by omega⟩) U0)
  have HA := Lib.hid (ha.later E0.out)
  clear ha hl
  have HA1 := Lib.hid (ha1.later E0.out)
  clear ha1
  go_enter Try.func9, Try.ntmps9
  obtain ⟨p0, p1, p2⟩ := KB.out _ (Below.refl _ _)
  go_wp2_with fail
  rw [HU.out]
  refine Z.out.mono ?_
  rintro e w1 ⟨r, rfl, r0, r1, r2, hb1⟩
  have B1 := Lib.hid hb1
  have R2 := Lib.hid r2
  clear hb1 r2 p0 p1 p2
  by_cases hr : r < 0
  · go_wp2
    go_ret
    exact ⟨rfl, bnext E0.out B1.out⟩
  have HL := Lib.hid (R2.out (by omega))
  have S := Lib.hid (fun (a b c : Option Addr) (ca cb cc : Nat) (g1 : Option Addr) (q1 : Nat) (wx : World) (h : BkArg wx a b c X) (h1 : IntArg wx g1 P1) => IsLine_spec X P1 x2 a b c ca cb cc HL.out g1 q1 hl1 wx h h1)
  have I := Lib.hid (fun (a b c : Option Addr) (ca cb cc : Nat) (g1 : Option Addr) (q1 : Nat) (wx : World) (h : BkArg wx a b c X) (h1 : IntArg wx g1 P1) => IsLine_impl X P1 x2 a b c ca cb cc HL.out g1 q1 hl1 wx h h1)
  obtain ⟨v0, hv⟩ : ∃ v : Bool, lnV X P1 x2 = v := ⟨_, rfl⟩
  rw [hv] at S I
  clear hv
  obtain ⟨v1, hv⟩ : ∃ v : Int, lnC X P1 x2 = v := ⟨_, rfl⟩
  rw [hv] at S I
  clear hv
  obtain ⟨p0, p1, p2⟩ := KB.out _ B1.out
  go_wp2_with fail
  refine (to_bk X a b c ca cb cc HL.out _ (HA.out.later B1.out)).mono ?_
  rintro e w2 ⟨gS, hS, mS, rfl, oS, hb2⟩
  have B2 := Lib.hid (bnext B1.out hb2)
  have zq2 := hb2.size
  clear hb2 p0 p1 p2
  have OS := Lib.hid oS.arg
  clear oS
  go_wp2_with fail
  refine (to_ints P1 s1 t1 hl1 _ (HA1.out.later B2.out)).mono ?_
  rintro e w3 ⟨rS1, rfl, oS1, hb3⟩
  have B3 := Lib.hid (bnext B2.out hb3)
  have zq3 := hb3.size
  have OS := Lib.hid (OS.out.later hb3)
  clear hb3
  have OS1 := Lib.hid oS1.arg
  clear oS1
  go_wp2_with fail
  refine (S.out _ _ _ _ _ _ _ _ _ OS.out OS1.out).mono ?_
  rintro e w4 ⟨rfl, hb4⟩
  have B4 := Lib.hid (bnext B3.out hb4)
  have zq4 := hb4.size
  have OS := Lib.hid (OS.out.later hb4)
  have OS1 := Lib.hid (OS1.out.later hb4)
  clear hb4
  obtain ⟨p0, p1, p2⟩ := KB.out _ B4.out
  go_wp2_with fail
  refine (to_bk X a b c ca cb cc HL.out _ (HA.out.later B4.out)).mono ?_
  rintro e w5 ⟨gI, hI, mI, rfl, oI, hb5⟩
  have B5 := Lib.hid (bnext B4.out hb5)
  have zq5 := hb5.size
  clear hb5 p0 p1 p2
  have OI := Lib.hid oI.arg
  clear oI
  have bq := balloc0 w5 (.cells #[.slice (some ⟨gI, 0, none⟩) X.A.length X.A.length, .slice (some ⟨hI, 0, none⟩) X.L.length X.L.length, .slice (some ⟨mI, 0, none⟩) X.H.length X.H.length] 27)
  have BQ := Lib.hid (bnext B5.out bq)
  have BX := Lib.hid (BkBox.new w5 X (some ⟨gI, 0, none⟩) (some ⟨hI, 0, none⟩) (some ⟨mI, 0, none⟩) X.A.length X.L.length X.H.length 27)
  have OI := Lib.hid (OI.out.later bq)
  obtain ⟨QIW0, hQIW0⟩ : ∃ V, w5.alloc (.cells #[.slice (some ⟨gI, 0, none⟩) X.A.length X.A.length, .slice (some ⟨hI, 0, none⟩) X.L.length X.L.length, .slice (some ⟨mI, 0, none⟩) X.H.length X.H.length] 27) = V := ⟨_, rfl⟩
  have QIy0 : QIW0.heap.size = w5.heap.size + 1 := by rw [← hQIW0]; simp
  rw [hQIW0] at BQ BX OI
  have BQIW0 := BQ
  clear BQ bq
  have HQIW0 := Lib.hid hQIW0
  clear hQIW0
  go_wp2_with fail
  rw [HQIW0.out]
  refine (to_ints P1 s1 t1 hl1 _ (HA1.out.later BQIW0.out)).mono ?_
  rintro e w6 ⟨rI1, rfl, oI1, hb6⟩
  have B6 := Lib.hid (bnext BQIW0.out hb6)
  have zq6 := hb6.size
  have OI := Lib.hid (OI.out.later hb6)
  have BX := Lib.hid (BX.out.later hb6)
  clear hb6
  have OI1 := Lib.hid oI1.arg
  clear oI1
  obtain ⟨y0, y1, y2⟩ := BX.out
  have y3 := BX.out.lt
  go_wp2_with fail
  refine (I.out _ _ _ _ _ _ _ _ _ OI.out OI1.out).mono ?_
  rintro e w7 ⟨rfl, hb7⟩
  have B7 := Lib.hid (bnext B6.out hb7)
  have zq7 := hb7.size
  have OI := Lib.hid (OI.out.later hb7)
  have BX := Lib.hid (BX.out.later hb7)
  have OI1 := Lib.hid (OI1.out.later hb7)
  clear hb7 y0 y1 y2 y3
  obtain ⟨p0, p1, p2⟩ := KB.out _ B7.out
  have p0 : w7.drew.cell? ⟨w.heap.size, 0, none⟩ = _ := p0
  have p1 : w7.drew.cell? ⟨w.heap.size, 1, none⟩ = _ := p1
  have p2 : w7.drew.cell? ⟨w.heap.size, 2, none⟩ = _ := p2
  obtain ⟨y0, y1, y2⟩ := BX.out
  have y3 := BX.out.lt
  have y0 : w7.drew.cell? _ = _ := y0
  have y1 : w7.drew.cell? _ = _ := y1
  have y2 : w7.drew.cell? _ = _ := y2
  go_wp2_with fail
  go_region_with (first | (go_at_call 17; refine (to_bk X a b c ca cb cc HL.out _ (HA.out.later (below_drewN B7.out 1))).mono ?_; rintro e w8 ⟨gT, hT, mT, rfl, oT, hb8⟩; have B8 := Lib.hid (bnext B7.out.drew hb8); have ET := Lib.hid oT.arg; have EI := Lib.hid (BkArg.later (w := w7.drew) OI.out hb8); have OI1 := Lib.hid (IntArg.later (w := w7.drew) OI1.out hb8); obtain ⟨z0, z1, z2⟩ := BkBox.later (w := w7.drew) BX.out hb8; clear hb8 oT) | (go_at_call 19; refine (eq_bk X _ _ _ _ _ _ _ _ _ _ _ _ ⟨by have := HL.out.1; omega, by have := HL.out.2.1; omega, by have := HL.out.2.2; omega⟩ _ EI.out ET.out).mono ?_; rintro e w9 ⟨rfl, hb9⟩; have B9 := Lib.hid (bnext B8.out hb9); have OI1 := Lib.hid (OI1.out.later hb9); clear hb9))
  all_goals
    go_wp2_with fail
    refine (to_ints P1 s1 t1 hl1 _ (HA1.out.later B9.out)).mono ?_
    rintro e w10 ⟨rT1, rfl, oT1, hb10⟩
    have B10 := Lib.hid (bnext B9.out hb10)
    have zq10 := hb10.size
    have OI1 := Lib.hid (OI1.out.later hb10)
    clear hb10
    have OT1 := Lib.hid oT1.arg
    clear oT1
    go_wp2_with fail
    refine (eq_ints P1 _ _ _ _ (by omega) _ OI1.out OT1.out).mono ?_
    rintro e w11 ⟨rfl, hb11⟩
    have B11 := Lib.hid (bnext B10.out hb11)
    have zq11 := hb11.size
    have OI1 := Lib.hid (OI1.out.later hb11)
    have OT1 := Lib.hid (OT1.out.later hb11)
    clear hb11
    go_wp2
    go_ret
    exact ⟨rfl, bnext E0.out B11.out⟩
end Go.Proofs.Ytlglijalhacmhaa
