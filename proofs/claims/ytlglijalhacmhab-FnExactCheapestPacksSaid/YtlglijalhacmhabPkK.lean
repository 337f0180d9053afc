/-
  The cheapest packs: the program's answer.
-/
import Derived.Test.YtlglijalhacmhabPkJ
namespace Go.Proofs.Ytlglijalhacmhab
open Go.ChangeShapes Go.WideShapes Go.ChangeAt Go.RowKit Go.Joins

set_option maxRecDepth 100000 in
set_option maxHeartbeats 12800000 in
theorem packs_impl (S P : List Int) (N : Int) (a : Option Addr) (ca : Nat) (hl : S.length ≤ 1048576) (b : Option Addr) (cb : Nat) (hp : P.length ≤ 1048576) (w : World) (ha : IntArg w a S) (hb : IntArg w b P) :
    Calls Try.prog 35 #[.slice a S.length ca, .slice b P.length cb, .int .i64 N] w fun e w' => ∃ ao cp, e = .returned (.tuple #[.slice ao (pkL S P N).length cp, .int .i64 (pkC S P N)]) ∧ IntRes w.heap.size (pkL S P N) ao w' ∧ Below w.heap.size w w' := by
  have C := Lib.hid (arePacks_impl S P a b ca cb hl hp w ha hb)
  have I := Lib.hid (fun wx => within_impl N 0 3000 wx)
  cases h1 : pkOk S P
  · have hc : pkC S P N = 2 := by simp [pkC, pkG, h1]
    have hq : pkL S P N = [] := by simp [pkL, pkG, h1]
    rw [hc, hq]
    rw [h1] at C
    clear ha hb h1 hc hq
    go_enter Try.func35, Try.ntmps35
    go_wp2_with fail
    refine C.out.mono ?_
    rintro e w1 ⟨rfl, rfl⟩
    go_wp2
    go_ret2
    exact ⟨none, 0, rfl, .inl rfl, Below.refl _ _⟩
  cases h2 : inB N 0 3000
  · have hc : pkC S P N = 2 := by simp [pkC, pkG, h2]
    have hq : pkL S P N = [] := by simp [pkL, pkG, h2]
    rw [hc, hq]
    rw [h1] at C
    rw [h2] at I
    clear ha hb h1 hc hq h2
    go_enter Try.func35, Try.ntmps35
    go_wp2_with fail
    refine C.out.mono ?_
    rintro e w1 ⟨rfl, rfl⟩
    go_wp2_with fail
    refine (I.out _).mono ?_
    rintro e w2 ⟨rfl, rfl⟩
    go_wp2
    go_ret2
    exact ⟨none, 0, rfl, .inl rfl, Below.refl _ _⟩
  have hg : pkG S P N = true := by simp [pkG, h1, h2]
  obtain ⟨n0, n1⟩ := inB_true.1 h2
  obtain ⟨M, rfl⟩ : ∃ M : Nat, N = (M : Int) := ⟨N.toNat, by omega⟩
  have hc : pkC S P (M : Int) = 0 := by simp [pkC, hg]
  rw [hc, pkL_good hg, pkP_length, List.length_replicate]
  rw [h1] at C
  rw [h2] at I
  obtain ⟨⟨s0, s1⟩, -, hS, -⟩ := pkOk_true h1
  have HS := Lib.hid hS
  have HOK := Lib.hid h1
  have PU := Lib.hid (purchases_impl S P M (by omega) h1 a ca hl b cb hp w ha hb)
  obtain ⟨R, hR⟩ : ∃ R, pkP S P M M (List.replicate S.length 0) = R := ⟨_, rfl⟩
  rw [hR]
  have HR := Lib.hid hR
  clear ha hb h1 h2 hc hg hS hR
  go_enter Try.func35, Try.ntmps35
  go_wp2_with fail
  refine C.out.mono ?_
  rintro e w1 ⟨rfl, rfl⟩
  go_wp2_with fail
  refine (I.out _).mono ?_
  rintro e w2 ⟨rfl, rfl⟩
  go_wp2_with fail
  refine PU.out.mono ?_
  rintro e w3 ⟨g, cap, rfl, hpu, hb3⟩
  have B3 := Lib.hid hb3
  have hmk := make_nuz S.length hl w3
  have R0 := Lib.hid (NzOwn.new (B := w.heap.size) (n := S.length) hb3.size hl)
  have B4 := Lib.hid (balloc hb3 (.cells (madeCells #[.int .i64 0] S.length) 2))
  have U4 := Lib.hid (hpu.later (balloc0 w3 (.cells (madeCells #[.int .i64 0] S.length) 2)))
  have hgl := hpu.lt.2
  obtain ⟨g2, hg2⟩ : ∃ g2, w3.heap.size = g2 := ⟨_, rfl⟩
  rw [hg2] at hmk R0 hgl
  obtain ⟨W, hW⟩ : ∃ W, w3.alloc (.cells (madeCells #[.int .i64 0] S.length) 2) = W := ⟨_, rfl⟩
  rw [hW] at hmk R0 B4
  have U4 : Hid (PuRow w.heap.size S P (M + 1) g cap W) := by have := U4.out; rw [hW] at this; exact this
  clear hW hg2 hpu hb3
  go_wp2
  clear hmk
  go_loopw [10] (fun v wx => ∃ (r : Nat) (Z : List Int), v = .int .i64 (r : Int) ∧ Hid (PkAt S P M r Z) ∧ Hid (NzOwn w.heap.size g2 S.length Z wx) ∧ Hid (PuRow w.heap.size S P (M + 1) g cap wx) ∧ Hid (Below w.heap.size w wx)) (fun v _ => (intOf v).toNat)
  case atStart => exact ⟨M, List.replicate S.length 0, rfl, PkAt.start S P M, R0.out, U4.out, B4.out⟩
  case round =>
    obtain ⟨r, Z, rfl, hK, hZ, hU, hB⟩ := hrel
    have rM := hK.out.1
    by_cases hr : 0 < r
    · have hr' : (r : Int) > 0 := by omega
      have hr0 : (0 : Int) ≤ (r : Int) := by omega
      have hrM : (r : Int) < (M : Int) + 1 := by omega
      obtain ⟨-, c1, c2⟩ := hU.out.cells (i := r) (by omega)
      obtain ⟨L, hL⟩ : ∃ L, S.length = L + 1 := ⟨S.length - 1, by omega⟩
      have hj := (agK_val (csP S P r) L).2.1
      rw [← hL] at hj
      have hA : puA S P r = agK (csP S P r) S.length := by unfold puA; rw [if_neg (by omega)]
      have hQ : puR S P r = ((r : Int) - S.getD (agK (csP S P r) S.length) 0).toNat := by unfold puR; rw [if_neg (by omega)]
      obtain ⟨j, hjj⟩ : ∃ j, agK (csP S P r) S.length = j := ⟨_, rfl⟩
      rw [hjj] at hj hA hQ
      have HJ : Hid (j = agK (csP S P r) S.length) := hjj.symm
      have sj := HS.out j hj
      obtain ⟨q, hq⟩ : ∃ q, puR S P r = q := ⟨_, rfl⟩
      rw [hq] at hQ c2
      rw [hA] at c1
      have HQ := Lib.hid hQ
      have hqr : q < r := by omega
      have HKN : Hid (PkAt S P M q (Z.set j (Z.getD j 0 + 1))) := hK.out.next (by omega) HJ.out HQ.out hqr
      have cz := hZ.out.cell (k := j) hj
      have fz := hZ.out.frozen (k := j)
      have bz := hK.out.2.2.1 j
      have hj0 : (0 : Int) ≤ (j : Int) := by omega
      have hj1 : (j : Int) < (S.length : Int) := by omega
      obtain ⟨z, hz⟩ : ∃ z, Z.getD j 0 = z := ⟨_, rfl⟩
      rw [hz] at cz bz HKN
      obtain ⟨bz0, bz1⟩ := bz
      have PX := Lib.hid (hZ.out.put (k := j) (z + 1))
      have UX := Lib.hid (hU.out.set (b := g2) (o := j) (u := .int .i64 (z + 1)) (by omega))
      have BX := Lib.hid (hB.out.setCell (p := ⟨g2, j, none⟩) hZ.out.base (.int .i64 (z + 1)))
      have c2' := (UX.out.cells (i := r) (by omega)).2.2
      rw [hq] at c2'
      have e3 : IntKind.i64.wrap (z + 1) = z + 1 := IntWalk.i64_in _ (by omega)
      clear hL hjj hA hQ hq hz sj
      go_wp2
      go_roundw
      case rel => exact ⟨q, Z.set j (z + 1), rfl, HKN.out, PX.out, UX.out, BX.out⟩
      case measure => simp [intOf] <;> omega
    · obtain rfl : r = 0 := by omega
      have hz' : ¬ ((0 : Nat) : Int) > 0 := by omega
      have HD : Hid (R = Z) := by show _ = _; rw [← HR.out]; exact hK.out.done
      have HO := Lib.hid hZ.out.own
      have HI : Hid (IntRes w.heap.size R (some ⟨g2, 0, none⟩) wr) := by rw [HD.out]; exact .inr ⟨g2, rfl, HO.out⟩
      go_wp2
      go_ret2
      first | exact ⟨some ⟨g2, 0, none⟩, ⟨S.length, rfl⟩, HI.out, hB.out⟩ | exact ⟨some ⟨g2, 0, none⟩, S.length, rfl, HI.out, hB.out⟩
end Go.Proofs.Ytlglijalhacmhab
