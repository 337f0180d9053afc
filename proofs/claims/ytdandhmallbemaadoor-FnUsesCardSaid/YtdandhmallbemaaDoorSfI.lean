/-
  SizeFault: plain facts, and the model's answer.
-/
import Derived.Test.YtdandhmallbemaaDoorMoDP
import Derived.Test.YtdandhmallbemaaDoorMoV
import Derived.Test.YtdandhmallbemaaDoorC2a
import Derived.Deep.QuietTactic
import Derived.Test.YtdandhmallbemaaDoorMoD
import Derived.Test.YtdandhmallbemaaDoorC2v
namespace Go.Proofs.YtdandhmallbemaaDoor
open Go.ChangeShapes Go.WideShapes Go.ChangeAt Go.RowKit Go.Joins


/-- The name of the first size that is too far off. -/
def faultN (c : Mo) (s l wd ht off : Int) : ByteArray := if off < absD (firedF c.le s) l then ⟨#[108, 101, 110, 103, 116, 104]⟩ else if off < absD (firedF c.wi s) wd then ⟨#[119, 105, 100, 116, 104]⟩ else if off < absD (firedF c.he s) ht then ⟨#[104, 101, 105, 103, 104, 116]⟩ else ⟨#[110, 111, 110, 101]⟩
def sfC (c : Mo) (l wd ht j s off : Int) : Int := if c.ok = true ∧ okB l wd ht j = true then (if inB s 0 200 = true ∧ inB off 0 100 = true then 0 else 2) else 1
def sfN (c : Mo) (l wd ht j s off : Int) : ByteArray := if sfC c l wd ht j s off = 0 then faultN c s l wd ht off else ⟨#[]⟩
def sfE (c : Mo) (l wd ht j s off : Int) : Ending := .returned (.tuple #[.string (sfN c l wd ht j s off), .int .i64 (sfC c l wd ht j s off)])
theorem sf_bad {c : Mo} {l wd ht j s off q : Int} (h : sfC c l wd ht j s off = q) (hq : ¬ q = 0) : sfE c l wd ht j s off = .returned (.tuple #[.string ⟨#[]⟩, .int .i64 q]) := by
  unfold sfE sfN
  rw [h, if_neg hq]
theorem sf_good {c : Mo} {l wd ht j s off : Int} (h : sfC c l wd ht j s off = 0) : sfE c l wd ht j s off = .returned (.tuple #[.string (faultN c s l wd ht off), .int .i64 0]) := by
  unfold sfE sfN
  rw [h, if_pos rfl]
theorem sz2_spec (x y : Int) (hx : 0 ≤ x ∧ x ≤ 1000) (hy : 0 ≤ y ∧ y ≤ 1000) (w : World) : Calls Tryd.prog 61 #[.int .i64 (x - y)] w fun e w' => e = .returned (.int .i64 (absD x y)) ∧ w' = w := by
  by_cases h : x - y < 0
  all_goals
    go_enter Tryd.func61, Tryd.ntmps61
    go_wp2
    go_ret
    exact ⟨ret_int (by unfold absD; omega), rfl⟩
end Go.Proofs.YtdandhmallbemaaDoor
/-
  SizeFault: the model's answer.
-/
namespace Go.Proofs.YtdandhmallbemaaDoor
open Go.ChangeShapes Go.WideShapes Go.ChangeAt Go.RowKit Go.Joins


theorem box_mf (w : World) (c : Mo) (l wd ht j : Int) : ∀ wx, Below ((w.alloc (.cells #[.int .i64 c.le, .int .i64 c.wi, .int .i64 c.he, .int .i64 c.us] 47)).alloc (.cells #[.int .i64 l, .int .i64 wd, .int .i64 ht, .int .i64 j] 31)).heap.size ((w.alloc (.cells #[.int .i64 c.le, .int .i64 c.wi, .int .i64 c.he, .int .i64 c.us] 47)).alloc (.cells #[.int .i64 l, .int .i64 wd, .int .i64 ht, .int .i64 j] 31)) wx → (wx.cell? ⟨w.heap.size, 0, none⟩ = some (.int .i64 c.le) ∧ wx.cell? ⟨w.heap.size, 1, none⟩ = some (.int .i64 c.wi) ∧ wx.cell? ⟨w.heap.size, 2, none⟩ = some (.int .i64 c.he) ∧ wx.cell? ⟨w.heap.size, 3, none⟩ = some (.int .i64 c.us)) ∧ wx.cell? ⟨w.heap.size + 1, 0, none⟩ = some (.int .i64 l) ∧ wx.cell? ⟨w.heap.size + 1, 1, none⟩ = some (.int .i64 wd) ∧ wx.cell? ⟨w.heap.size + 1, 2, none⟩ = some (.int .i64 ht) ∧ wx.cell? ⟨w.heap.size + 1, 3, none⟩ = some (.int .i64 j) := by
  intro wx h
  have h1 := box_mo w c wx ((balloc0 _ _).trans (h.mono (by simp)))
  have hr : ((w.alloc (.cells #[.int .i64 c.le, .int .i64 c.wi, .int .i64 c.he, .int .i64 c.us] 47)).alloc (.cells #[.int .i64 l, .int .i64 wd, .int .i64 ht, .int .i64 j] 31)).rangeAt (w.heap.size + 1) 0 (⟨l, wd, ht, j⟩ : Mo).vals := range_new2 w _ #[.int .i64 l, .int .i64 wd, .int .i64 ht, .int .i64 j] 31
  have h2 := boxedMo (range_below hr h)
  refine ⟨h1, ?_⟩
  simpa using h2
end Go.Proofs.YtdandhmallbemaaDoor
/-
  SizeFault: the program's answer.
-/
namespace Go.Proofs.YtdandhmallbemaaDoor
open Go.ChangeShapes Go.WideShapes Go.ChangeAt Go.RowKit Go.Joins

/-- The names of the sizes. -/
def nmAt : Nat → ByteArray
  | 0 => ⟨#[108, 101, 110, 103, 116, 104]⟩
  | 1 => ⟨#[119, 105, 100, 116, 104]⟩
  | _ => ⟨#[104, 101, 105, 103, 104, 116]⟩
/-- The cells of the names. -/
def SzAt (w : World) : Prop := ∀ k, k < 3 → w.cell? ⟨0, k, none⟩ = some (.string (nmAt k))
theorem SzAt.later {w w' : World} (h : SzAt w) (hb : Below w.heap.size w w') : SzAt w' := fun k hk => (hb.cell (World.block_lt_of_cell? w _ (h k hk))).trans (h k hk)
theorem fault_at {c : Mo} {s l wd ht off z : Int} {k : Nat} (hF : ∀ (jj : Nat) (y : Int), jj < k → (diffL c s l wd ht)[jj]? = some y → ¬ off < y) (hz : (diffL c s l wd ht)[k]? = some z) (h : off < z) : faultN c s l wd ht off = nmAt k := by
  have h0 := hF 0 (absD (firedF c.le s) l)
  have h1 := hF 1 (absD (firedF c.wi s) wd)
  match k, hz with
  | 0, hz =>
    have e : absD (firedF c.le s) l = z := by simpa [diffL] using hz
    unfold faultN
    rw [if_pos (by omega)]
    rfl
  | 1, hz =>
    have e : absD (firedF c.wi s) wd = z := by simpa [diffL] using hz
    have g0 := h0 (by omega) rfl
    unfold faultN
    rw [if_neg g0, if_pos (by omega)]
    rfl
  | 2, hz =>
    have e : absD (firedF c.he s) ht = z := by simpa [diffL] using hz
    have g0 := h0 (by omega) rfl
    have g1 := h1 (by omega) rfl
    unfold faultN
    rw [if_neg g0, if_neg g1, if_pos (by omega)]
    rfl
  | k + 3, hz => simp [diffL] at hz
theorem fault_none {c : Mo} {s l wd ht off : Int} (hF : ∀ (jj : Nat) (y : Int), jj < 3 → (diffL c s l wd ht)[jj]? = some y → ¬ off < y) : faultN c s l wd ht off = ⟨#[110, 111, 110, 101]⟩ := by
  unfold faultN
  rw [if_neg (hF 0 _ (by omega) rfl), if_neg (hF 1 _ (by omega) rfl), if_neg (hF 2 _ (by omega) rfl)]
set_option maxRecDepth 100000 in
set_option maxHeartbeats 3200000 in
theorem sf_impl (c : Mo) (l wd ht j s off : Int) (w : World) (hn : SzAt w) : Calls Tryd.prog 23 #[.agg #[.int .i64 c.le, .int .i64 c.wi, .int .i64 c.he, .int .i64 c.us], .agg #[.int .i64 l, .int .i64 wd, .int .i64 ht, .int .i64 j], .int .i64 s, .int .i64 off] w fun e w' => e = sfE c l wd ht j s off ∧ Below w.heap.size w w' := by
  have HS := Lib.hid (fun wx (h : Below w.heap.size w wx) => hn.later h)
  clear hn
  have X := Lib.hid (box_mf w c l wd ht j)
  have HB0 := Lib.hid (balloc (balloc0 w (.cells #[.int .i64 c.le, .int .i64 c.wi, .int .i64 c.he, .int .i64 c.us] 47)) (.cells #[.int .i64 l, .int .i64 wd, .int .i64 ht, .int .i64 j] 31))
  obtain ⟨W0, hW⟩ : ∃ W0, (w.alloc (.cells #[.int .i64 c.le, .int .i64 c.wi, .int .i64 c.he, .int .i64 c.us] 47)).alloc (.cells #[.int .i64 l, .int .i64 wd, .int .i64 ht, .int .i64 j] 31) = W0 := ⟨_, rfl⟩
  rw [hW] at X HB0
  have HW := Lib.hid hW
  clear hW
  cases h1 : c.ok
  · have E : Hid (sfC c l wd ht j s off = 1) := by show sfC c l wd ht j s off = 1; simp [sfC, h1]
    rw [sf_bad E.out (by omega)]
    have C1 := Lib.hid (isMould_impl c W0)
    rw [h1] at C1
    clear h1
    obtain ⟨⟨c0, c1, c2, c3⟩, -⟩ := X.out _ (Below.refl _ _)
    go_enter Tryd.func23, Tryd.ntmps23
    go_wp2_with fail
    rw [HW.out]
    go_wp2_with fail
    refine C1.out.mono ?_
    rintro e w1 ⟨rfl, hb1⟩
    have B1 := Lib.hid hb1
    clear hb1 c0 c1 c2 c3
    go_wp2
    go_ret2
    exact ⟨rfl, HB0.out.trans (B1.out.mono HB0.out.size)⟩
  cases h2 : okB l wd ht j
  · have E : Hid (sfC c l wd ht j s off = 1) := by show sfC c l wd ht j s off = 1; simp [sfC, h2]
    rw [sf_bad E.out (by omega)]
    have C1 := Lib.hid (isMould_impl c W0)
    rw [h1] at C1
    have C2 := Lib.hid (vf_any l wd ht j)
    rw [h2] at C2
    clear h1 h2
    obtain ⟨⟨c0, c1, c2, c3⟩, -⟩ := X.out _ (Below.refl _ _)
    go_enter Tryd.func23, Tryd.ntmps23
    go_wp2_with fail
    rw [HW.out]
    go_wp2_with fail
    refine C1.out.mono ?_
    rintro e w1 ⟨rfl, hb1⟩
    have B1 := Lib.hid hb1
    clear hb1 c0 c1 c2 c3
    obtain ⟨-, f0, f1, f2, f3⟩ := X.out _ B1.out
    go_wp2_with fail
    refine (C2.out _).mono ?_
    rintro e w2 ⟨rfl, hb2⟩
    have B2 := Lib.hid (bnext B1.out hb2)
    clear hb2 f0 f1 f2 f3
    go_wp2
    go_ret2
    exact ⟨rfl, HB0.out.trans (B2.out.mono HB0.out.size)⟩
  have I1 := Lib.hid (within_impl s 0 200)
  have I2 := Lib.hid (within_impl off 0 100)
  cases h3 : inB s 0 200
  · have E : Hid (sfC c l wd ht j s off = 2) := by show sfC c l wd ht j s off = 2; simp [sfC, h1, h2, h3]
    rw [sf_bad E.out (by omega)]
    have C1 := Lib.hid (isMould_impl c W0)
    rw [h1] at C1
    have C2 := Lib.hid (vf_any l wd ht j)
    rw [h2] at C2
    rw [h3] at I1
    clear h1 h2 h3
    obtain ⟨⟨c0, c1, c2, c3⟩, -⟩ := X.out _ (Below.refl _ _)
    go_enter Tryd.func23, Tryd.ntmps23
    go_wp2_with fail
    rw [HW.out]
    go_wp2_with fail
    refine C1.out.mono ?_
    rintro e w1 ⟨rfl, hb1⟩
    have B1 := Lib.hid hb1
    clear hb1 c0 c1 c2 c3
    obtain ⟨-, f0, f1, f2, f3⟩ := X.out _ B1.out
    go_wp2_with fail
    refine (C2.out _).mono ?_
    rintro e w2 ⟨rfl, hb2⟩
    have B2 := Lib.hid (bnext B1.out hb2)
    clear hb2 f0 f1 f2 f3
    go_wp2_with fail
    refine (I1.out _).mono ?_
    rintro e w3 ⟨rfl, rfl⟩
    go_wp2
    go_ret2
    exact ⟨rfl, HB0.out.trans (B2.out.mono HB0.out.size)⟩
  cases h4 : inB off 0 100
  · have E : Hid (sfC c l wd ht j s off = 2) := by show sfC c l wd ht j s off = 2; simp [sfC, h1, h2, h3, h4]
    rw [sf_bad E.out (by omega)]
    have C1 := Lib.hid (isMould_impl c W0)
    rw [h1] at C1
    have C2 := Lib.hid (vf_any l wd ht j)
    rw [h2] at C2
    rw [h3] at I1
    rw [h4] at I2
    clear h1 h2 h3 h4
    obtain ⟨⟨c0, c1, c2, c3⟩, -⟩ := X.out _ (Below.refl _ _)
    go_enter Tryd.func23, Tryd.ntmps23
    go_wp2_with fail
    rw [HW.out]
    go_wp2_with fail
    refine C1.out.mono ?_
    rintro e w1 ⟨rfl, hb1⟩
    have B1 := Lib.hid hb1
    clear hb1 c0 c1 c2 c3
    obtain ⟨-, f0, f1, f2, f3⟩ := X.out _ B1.out
    go_wp2_with fail
    refine (C2.out _).mono ?_
    rintro e w2 ⟨rfl, hb2⟩
    have B2 := Lib.hid (bnext B1.out hb2)
    clear hb2 f0 f1 f2 f3
    go_wp2_with fail
    refine (I1.out _).mono ?_
    rintro e w3 ⟨rfl, rfl⟩
    go_wp2_with fail
    refine (I2.out _).mono ?_
    rintro e w3 ⟨rfl, rfl⟩
    go_wp2
    go_ret2
    exact ⟨rfl, HB0.out.trans (B2.out.mono HB0.out.size)⟩
  have E : Hid (sfC c l wd ht j s off = 0) := by show sfC c l wd ht j s off = 0; simp [sfC, h1, h2, h3, h4]
  rw [sf_good E.out]
  obtain ⟨s0, s1⟩ := inB_true.1 h3
  have DD := Lib.hid (diffs_impl l wd ht j s h2 s0 s1 c h1)
  have C1 := Lib.hid (isMould_impl c W0)
  rw [h1] at C1
  have C2 := Lib.hid (vf_any l wd ht j)
  rw [h2] at C2
  rw [h3] at I1
  rw [h4] at I2
  clear h1 h2 h3 h4 s0 s1
  obtain ⟨⟨c0, c1, c2, c3⟩, -⟩ := X.out _ (Below.refl _ _)
  go_enter Tryd.func23, Tryd.ntmps23
  go_wp2_with fail
  rw [HW.out]
  go_wp2_with fail
  refine C1.out.mono ?_
  rintro e w1 ⟨rfl, hb1⟩
  have B1 := Lib.hid hb1
  clear hb1 c0 c1 c2 c3
  obtain ⟨-, f0, f1, f2, f3⟩ := X.out _ B1.out
  go_wp2_with fail
  refine (C2.out _).mono ?_
  rintro e w2 ⟨rfl, hb2⟩
  have B2 := Lib.hid (bnext B1.out hb2)
  clear hb2 f0 f1 f2 f3
  go_wp2_with fail
  refine (I1.out _).mono ?_
  rintro e w3 ⟨rfl, rfl⟩
  go_wp2_with fail
  refine (I2.out _).mono ?_
  rintro e w3 ⟨rfl, rfl⟩
  obtain ⟨⟨c0, c1, c2, c3⟩, f0, f1, f2, f3⟩ := X.out _ B2.out
  go_wp2_with fail
  refine (DD.out _).mono ?_
  rintro e w4 ⟨g, cp, rfl, o4, hb4⟩
  have B4 := Lib.hid (bnext B2.out hb4)
  have Y4 := Lib.hid o4.2.1
  clear hb4 o4 f0 f1 f2 f3 c0 c1 c2 c3
  go_wp2
  go_loopw [36] (fun i wr => ∃ k : Nat, k ≤ 3 ∧ i = .int .i64 k ∧ Hid (∀ (jj : Nat) (z : Int), jj < k → (diffL c s l wd ht)[jj]? = some z → ¬ off < z) ∧ Hid (Below w4.heap.size w4 wr)) (fun i _ => 3 - (intOf i).toNat)
  case atStart => exact ⟨0, by omega, rfl, (fun jj z hj => by omega), Below.refl _ _⟩
  case round =>
    obtain ⟨k, hk, rfl, hF, hB⟩ := hrel
    have HB := Lib.hid (HB0.out.trans ((B4.out.trans (hB.out.mono B4.out.size)).mono HB0.out.size))
    by_cases hlt : k < 3
    · have hlt' : (k : Int) < 3 := by omega
      have hk0 : (0 : Int) ≤ (k : Int) := by omega
      obtain ⟨z, hz⟩ : ∃ z, (diffL c s l wd ht)[k]? = some z := ⟨_, List.getElem?_eq_getElem (by simpa [diffL] using hlt)⟩
      have cz := (Y4.out.later hB.out) k z hz
      rw [Nat.zero_add] at cz
      have HZ := Lib.hid hz
      clear hz
      by_cases hgt : off < z
      · have HN : Hid (faultN c s l wd ht off = nmAt k) := fault_at hF.out HZ.out hgt
        have nk := (HS.out _ HB.out) k (by omega)
        go_wp2
        go_ret2
        rw [HN.out]
        exact ⟨rfl, HB.out⟩
      · have HG := Lib.hid hgt
        go_wp2
        go_roundw
        case rel =>
          refine ⟨k + 1, by omega, by go_num, fun jj y hj hy => ?_, hB.out⟩
          by_cases e : jj = k
          · subst e
            have h5 := HZ.out
            rw [hy] at h5
            cases h5
            exact HG.out
          · exact hF.out jj y (by omega) hy
        case measure => simp [intOf]; omega
    · have hge : ¬ (k : Int) < 3 := by omega
      have hk3 : k = 3 := by omega
      subst hk3
      have HN : Hid (faultN c s l wd ht off = ⟨#[110, 111, 110, 101]⟩) := fault_none hF.out
      go_wp2
      go_ret2
      rw [HN.out]
      exact ⟨rfl, HB.out⟩
end Go.Proofs.YtdandhmallbemaaDoor
