/-
  SizeFault: plain facts, and the model's answer.
-/
import Derived.Test.YtgffgcobgjngnaaDoorMoDP
import Derived.Test.YtgffgcobgjngnaaDoorMoV
import Derived.Test.YtgffgcobgjngnaaDoorC2a
import Derived.Deep.QuietTactic
namespace Go.Proofs.YtgffgcobgjngnaaDoor
open Go.ChangeShapes Go.WideShapes Go.ChangeAt Go.RowKit Go.Joins

/-- The name of the first size that is too far off. -/
def faultN (c : Mo) (s l wd ht off : Int) : ByteArray := if off < absD (firedF c.le s) l then ⟨#[108, 101, 110, 103, 116, 104]⟩ else if off < absD (firedF c.wi s) wd then ⟨#[119, 105, 100, 116, 104]⟩ else if off < absD (firedF c.he s) ht then ⟨#[104, 101, 105, 103, 104, 116]⟩ else ⟨#[110, 111, 110, 101]⟩
def sfC (c : Mo) (l wd ht j s off : Int) : Int := if c.ok = true ∧ okB l wd ht j = true then (if inB s 0 200 = true ∧ inB off 0 100 = true then 0 else 2) else 1
def sfN (c : Mo) (l wd ht j s off : Int) : ByteArray := if sfC c l wd ht j s off = 0 then faultN c s l wd ht off else ⟨#[]⟩
def sfE (c : Mo) (l wd ht j s off : Int) : Ending := .returned (.tuple #[.string (sfN c l wd ht j s off), .int .i64 (sfC c l wd ht j s off)])
theorem sf_bad {c : Mo} {l wd ht j s off q : Int} (h : sfC c l wd ht j s off = q) (hq : ¬ q = 0) : sfE c l wd ht j s off = .returned (.tuple #[.string ⟨#[]⟩, .int .i64 q]) := by
  unfold sfE sfN
  rw [h, if_neg hq]
theorem sf_good {c : Mo} {l wd ht j s off : Int} (h : sfC c l wd ht j s off = 0) : sfE c l wd ht j s off = .returned (.tuple #[.string (faultN c s l wd ht off), .int .i64 0]) := by
  unfold sfE sfN
  rw [h, if_pos rfl]
theorem sz2_spec (x y : Int) (hx : 0 ≤ x ∧ x ≤ 1000) (hy : 0 ≤ y ∧ y ≤ 1000) (w : World) : Calls Tryd.prog 78 #[.int .i64 (x - y)] w fun e w' => e = .returned (.int .i64 (absD x y)) ∧ w' = w := by
  by_cases h : x - y < 0
  all_goals
    go_enter Tryd.func78, Tryd.ntmps78
    go_wp2
    go_ret
    exact ⟨ret_int (by unfold absD; omega), rfl⟩

set_option maxRecDepth 100000 in
set_option maxHeartbeats 6400000 in
theorem fault_spec (c : Mo) (hok : c.ok = true) (l wd ht j s off : Int) (hf : okB l wd ht j = true) (s0 : 0 ≤ s) (s1 : s ≤ 200) (b : Nat) (w : World) (c0 : w.cell? ⟨b, 0, none⟩ = some (.int .i64 c.le)) (c1 : w.cell? ⟨b, 1, none⟩ = some (.int .i64 c.wi)) (c2 : w.cell? ⟨b, 2, none⟩ = some (.int .i64 c.he)) :
    Calls Tryd.prog 55 #[.pointer (some ⟨b, 0, none⟩), .agg #[.int .i64 l, .int .i64 wd, .int .i64 ht, .int .i64 j], .int .i64 s, .int .i64 off] w fun e w' => e = .returned (.string (faultN c s l wd ht off)) ∧ Below w.heap.size w w' := by
  have hb : b < w.heap.size := World.block_lt_of_cell? w _ c0
  have B0 := Lib.hid (balloc0 w (.cells #[.int .i64 l, .int .i64 wd, .int .i64 ht, .int .i64 j] 48))
  have AL := Lib.hid (all_spec c hok s s0 s1 b 0 (w.alloc (.cells #[.int .i64 l, .int .i64 wd, .int .i64 ht, .int .i64 j] 48)) ((World.cell?_alloc_lt _ _ _ hb).trans c0) ((World.cell?_alloc_lt _ _ _ hb).trans c1) ((World.cell?_alloc_lt _ _ _ hb).trans c2))
  have r0 := firedL_range hok s0 s1 (k := 0) (x := firedF c.le s) rfl
  have r1 := firedL_range hok s0 s1 (k := 1) (x := firedF c.wi s) rfl
  have r2 := firedL_range hok s0 s1 (k := 2) (x := firedF c.he s) rfl
  have q0 := okB_size hf (k := 0) (y := l) rfl
  have q1 := okB_size hf (k := 1) (y := wd) rfl
  have q2 := okB_size hf (k := 2) (y := ht) rfl
  have S0 := Lib.hid (sz2_spec (firedF c.le s) l r0 q0)
  have S1 := Lib.hid (sz2_spec (firedF c.wi s) wd r1 q1)
  have S2 := Lib.hid (sz2_spec (firedF c.he s) ht r2 q2)
  have HL : firedL c s = [firedF c.le s, firedF c.wi s, firedF c.he s] := rfl
  rw [HL] at AL
  unfold faultN
  obtain ⟨x0, e0⟩ : ∃ x, firedF c.le s = x := ⟨_, rfl⟩
  obtain ⟨x1, e1⟩ : ∃ x, firedF c.wi s = x := ⟨_, rfl⟩
  obtain ⟨x2, e2⟩ : ∃ x, firedF c.he s = x := ⟨_, rfl⟩
  rw [e0] at S0 r0 AL ⊢
  rw [e1] at S1 r1 AL ⊢
  rw [e2] at S2 r2 AL ⊢
  obtain ⟨d0, f0⟩ : ∃ d, absD x0 l = d := ⟨_, rfl⟩
  obtain ⟨d1, f1⟩ : ∃ d, absD x1 wd = d := ⟨_, rfl⟩
  obtain ⟨d2, f2⟩ : ∃ d, absD x2 ht = d := ⟨_, rfl⟩
  rw [f0] at S0 ⊢
  rw [f1] at S1 ⊢
  rw [f2] at S2 ⊢
  clear HL e0 e1 e2 f0 f1 f2 c0 c1 c2 hok hf s0 s1
  have v0 : IntKind.i64.wrap (x0 - l) = x0 - l := IntWalk.i64_in _ (by omega)
  have v1 : IntKind.i64.wrap (x1 - wd) = x1 - wd := IntWalk.i64_in _ (by omega)
  have v2 : IntKind.i64.wrap (x2 - ht) = x2 - ht := IntWalk.i64_in _ (by omega)
  clear r0 r1 r2 q0 q1 q2
  by_cases h0 : off < d0
  · go_enter Tryd.func55, Tryd.ntmps55
    go_wp2_with fail
    refine AL.out.mono ?_
    rintro e w1 ⟨g, cp, rfl, o1, hb1⟩
    have Bw1 := Lib.hid (bnext B0.out hb1)
    have y0 := o1.2.1 0 x0 rfl
    have y1 := o1.2.1 1 x1 rfl
    have y2 := o1.2.1 2 x2 rfl
    simp only [Nat.zero_add] at y0 y1 y2
    obtain ⟨hc1, hf1⟩ := bcell hb1
    have z0 : w1.cell? ⟨w.heap.size, 0, none⟩ = some (.int .i64 l) := (hc1 w.heap.size 0 (by simp)).trans (by simp)
    have z1 : w1.cell? ⟨w.heap.size, 1, none⟩ = some (.int .i64 wd) := (hc1 w.heap.size 1 (by simp)).trans (by simp)
    have z2 : w1.cell? ⟨w.heap.size, 2, none⟩ = some (.int .i64 ht) := (hc1 w.heap.size 2 (by simp)).trans (by simp)
    clear hb1 hc1 hf1 o1
    go_wp2
    go_quiet (first | (go_at_call 78; exact Calls.quiet_of_same (S0.out _)))
    go_wp2
    go_ret
    exact ⟨by first | rfl | (simp [h0]; done), below_drewN Bw1.out _⟩
  by_cases h1 : off < d1
  · go_enter Tryd.func55, Tryd.ntmps55
    go_wp2_with fail
    refine AL.out.mono ?_
    rintro e w1 ⟨g, cp, rfl, o1, hb1⟩
    have Bw1 := Lib.hid (bnext B0.out hb1)
    have y0 := o1.2.1 0 x0 rfl
    have y1 := o1.2.1 1 x1 rfl
    have y2 := o1.2.1 2 x2 rfl
    simp only [Nat.zero_add] at y0 y1 y2
    obtain ⟨hc1, hf1⟩ := bcell hb1
    have z0 : w1.cell? ⟨w.heap.size, 0, none⟩ = some (.int .i64 l) := (hc1 w.heap.size 0 (by simp)).trans (by simp)
    have z1 : w1.cell? ⟨w.heap.size, 1, none⟩ = some (.int .i64 wd) := (hc1 w.heap.size 1 (by simp)).trans (by simp)
    have z2 : w1.cell? ⟨w.heap.size, 2, none⟩ = some (.int .i64 ht) := (hc1 w.heap.size 2 (by simp)).trans (by simp)
    clear hb1 hc1 hf1 o1
    go_wp2
    go_quiet (first | (go_at_call 78; exact Calls.quiet_of_same (S0.out _)))
    go_wp2
    obtain ⟨W2, hW2⟩ : ∃ W2, w1.drewN nq = W2 := ⟨_, rfl⟩
    have BW2 : Hid (Below w.heap.size w W2) := by show Below w.heap.size w W2; rw [← hW2]; exact below_drewN Bw1.out _
    have y1W2 : W2.cell? ⟨g, 1, none⟩ = some (.int .i64 x1) := by rw [← hW2]; simpa using y1
    have z1W2 : W2.cell? ⟨w.heap.size, 1, none⟩ = some (.int .i64 wd) := by rw [← hW2]; simpa using z1
    have y2W2 : W2.cell? ⟨g, 2, none⟩ = some (.int .i64 x2) := by rw [← hW2]; simpa using y2
    have z2W2 : W2.cell? ⟨w.heap.size, 2, none⟩ = some (.int .i64 ht) := by rw [← hW2]; simpa using z2
    rw [hW2]
    clear hW2 y0 y1 y2 z0 z1 z2
    go_quiet (first | (go_at_call 78; exact Calls.quiet_of_same (S1.out _)))
    go_wp2
    go_ret
    exact ⟨by first | rfl | (simp [h0, h1]; done), below_drewN BW2.out _⟩
  by_cases h2 : off < d2
  · go_enter Tryd.func55, Tryd.ntmps55
    go_wp2_with fail
    refine AL.out.mono ?_
    rintro e w1 ⟨g, cp, rfl, o1, hb1⟩
    have Bw1 := Lib.hid (bnext B0.out hb1)
    have y0 := o1.2.1 0 x0 rfl
    have y1 := o1.2.1 1 x1 rfl
    have y2 := o1.2.1 2 x2 rfl
    simp only [Nat.zero_add] at y0 y1 y2
    obtain ⟨hc1, hf1⟩ := bcell hb1
    have z0 : w1.cell? ⟨w.heap.size, 0, none⟩ = some (.int .i64 l) := (hc1 w.heap.size 0 (by simp)).trans (by simp)
    have z1 : w1.cell? ⟨w.heap.size, 1, none⟩ = some (.int .i64 wd) := (hc1 w.heap.size 1 (by simp)).trans (by simp)
    have z2 : w1.cell? ⟨w.heap.size, 2, none⟩ = some (.int .i64 ht) := (hc1 w.heap.size 2 (by simp)).trans (by simp)
    clear hb1 hc1 hf1 o1
    go_wp2
    go_quiet (first | (go_at_call 78; exact Calls.quiet_of_same (S0.out _)))
    go_wp2
    obtain ⟨W2, hW2⟩ : ∃ W2, w1.drewN nq = W2 := ⟨_, rfl⟩
    have BW2 : Hid (Below w.heap.size w W2) := by show Below w.heap.size w W2; rw [← hW2]; exact below_drewN Bw1.out _
    have y1W2 : W2.cell? ⟨g, 1, none⟩ = some (.int .i64 x1) := by rw [← hW2]; simpa using y1
    have z1W2 : W2.cell? ⟨w.heap.size, 1, none⟩ = some (.int .i64 wd) := by rw [← hW2]; simpa using z1
    have y2W2 : W2.cell? ⟨g, 2, none⟩ = some (.int .i64 x2) := by rw [← hW2]; simpa using y2
    have z2W2 : W2.cell? ⟨w.heap.size, 2, none⟩ = some (.int .i64 ht) := by rw [← hW2]; simpa using z2
    rw [hW2]
    clear hW2 y0 y1 y2 z0 z1 z2
    go_quiet (first | (go_at_call 78; exact Calls.quiet_of_same (S1.out _)))
    go_wp2
    obtain ⟨W3, hW3⟩ : ∃ W3, W2.drewN nq = W3 := ⟨_, rfl⟩
    have BW3 : Hid (Below w.heap.size w W3) := by show Below w.heap.size w W3; rw [← hW3]; exact below_drewN BW2.out _
    have y2W3 : W3.cell? ⟨g, 2, none⟩ = some (.int .i64 x2) := by rw [← hW3]; simpa using y2W2
    have z2W3 : W3.cell? ⟨w.heap.size, 2, none⟩ = some (.int .i64 ht) := by rw [← hW3]; simpa using z2W2
    rw [hW3]
    clear hW3 y1W2 z1W2 y2W2 z2W2
    go_quiet (first | (go_at_call 78; exact Calls.quiet_of_same (S2.out _)))
    go_wp2
    go_ret
    exact ⟨by first | rfl | (simp [h0, h1, h2]; done), below_drewN BW3.out _⟩
  · go_enter Tryd.func55, Tryd.ntmps55
    go_wp2_with fail
    refine AL.out.mono ?_
    rintro e w1 ⟨g, cp, rfl, o1, hb1⟩
    have Bw1 := Lib.hid (bnext B0.out hb1)
    have y0 := o1.2.1 0 x0 rfl
    have y1 := o1.2.1 1 x1 rfl
    have y2 := o1.2.1 2 x2 rfl
    simp only [Nat.zero_add] at y0 y1 y2
    obtain ⟨hc1, hf1⟩ := bcell hb1
    have z0 : w1.cell? ⟨w.heap.size, 0, none⟩ = some (.int .i64 l) := (hc1 w.heap.size 0 (by simp)).trans (by simp)
    have z1 : w1.cell? ⟨w.heap.size, 1, none⟩ = some (.int .i64 wd) := (hc1 w.heap.size 1 (by simp)).trans (by simp)
    have z2 : w1.cell? ⟨w.heap.size, 2, none⟩ = some (.int .i64 ht) := (hc1 w.heap.size 2 (by simp)).trans (by simp)
    clear hb1 hc1 hf1 o1
    go_wp2
    go_quiet (first | (go_at_call 78; exact Calls.quiet_of_same (S0.out _)))
    go_wp2
    obtain ⟨W2, hW2⟩ : ∃ W2, w1.drewN nq = W2 := ⟨_, rfl⟩
    have BW2 : Hid (Below w.heap.size w W2) := by show Below w.heap.size w W2; rw [← hW2]; exact below_drewN Bw1.out _
    have y1W2 : W2.cell? ⟨g, 1, none⟩ = some (.int .i64 x1) := by rw [← hW2]; simpa using y1
    have z1W2 : W2.cell? ⟨w.heap.size, 1, none⟩ = some (.int .i64 wd) := by rw [← hW2]; simpa using z1
    have y2W2 : W2.cell? ⟨g, 2, none⟩ = some (.int .i64 x2) := by rw [← hW2]; simpa using y2
    have z2W2 : W2.cell? ⟨w.heap.size, 2, none⟩ = some (.int .i64 ht) := by rw [← hW2]; simpa using z2
    rw [hW2]
    clear hW2 y0 y1 y2 z0 z1 z2
    go_quiet (first | (go_at_call 78; exact Calls.quiet_of_same (S1.out _)))
    go_wp2
    obtain ⟨W3, hW3⟩ : ∃ W3, W2.drewN nq = W3 := ⟨_, rfl⟩
    have BW3 : Hid (Below w.heap.size w W3) := by show Below w.heap.size w W3; rw [← hW3]; exact below_drewN BW2.out _
    have y2W3 : W3.cell? ⟨g, 2, none⟩ = some (.int .i64 x2) := by rw [← hW3]; simpa using y2W2
    have z2W3 : W3.cell? ⟨w.heap.size, 2, none⟩ = some (.int .i64 ht) := by rw [← hW3]; simpa using z2W2
    rw [hW3]
    clear hW3 y1W2 z1W2 y2W2 z2W2
    go_quiet (first | (go_at_call 78; exact Calls.quiet_of_same (S2.out _)))
    go_wp2
    go_ret
    exact ⟨by first | rfl | (simp [h0, h1, h2]; done), below_drewN BW3.out _⟩
end Go.Proofs.YtgffgcobgjngnaaDoor
