/-
  The best mould: the model's answer.
-/
import Derived.Test.YtcjmdmkcipiabaaBeP
import Derived.Test.YtcjmdmkcipiabaaMoV
import Derived.Test.YtcjmdmkcipiabaaC2a
import Derived.Deep.QuietTactic
import Derived.Deep.RegionWith
namespace Go.Proofs.Ytcjmdmkcipiabaa
open Go.ChangeShapes Go.WideShapes Go.ChangeAt Go.RowKit Go.Joins

theorem sz3_spec (x y : Int) (hx : 0 ≤ x ∧ x ≤ 1000) (hy : 0 ≤ y ∧ y ≤ 1000) (w : World) : Calls Try.prog 34 #[.int .i64 (x - y)] w fun e w' => e = .returned (.int .i64 (absD x y)) ∧ w' = w := by
  by_cases h : x - y < 0
  all_goals
    go_enter Try.func34, Try.ntmps34
    go_wp2
    go_ret
    exact ⟨ret_int (by unfold absD; omega), rfl⟩

set_option maxRecDepth 100000 in
set_option maxHeartbeats 3200000 in
theorem off_spec (c : Mo) (hok : c.ok = true) (l wd ht j s : Int) (hf : okB l wd ht j = true) (s0 : 0 ≤ s) (s1 : s ≤ 200) (b o : Nat) (w : World) (c0 : w.cell? ⟨b, o, none⟩ = some (.int .i64 c.le)) (c1 : w.cell? ⟨b, o + 1, none⟩ = some (.int .i64 c.wi)) (c2 : w.cell? ⟨b, o + 2, none⟩ = some (.int .i64 c.he)) :
    Calls Try.prog 20 #[.pointer (some ⟨b, o, none⟩), .agg #[.int .i64 l, .int .i64 wd, .int .i64 ht, .int .i64 j], .int .i64 s] w fun e w' => e = .returned (.int .i64 (offF c s l wd ht)) ∧ Below w.heap.size w w' := by
  have hb : b < w.heap.size := World.block_lt_of_cell? w _ c0
  have B0 := Lib.hid (balloc0 w (.cells #[.int .i64 l, .int .i64 wd, .int .i64 ht, .int .i64 j] 30))
  have AL := Lib.hid (all_spec c hok s s0 s1 b o (w.alloc (.cells #[.int .i64 l, .int .i64 wd, .int .i64 ht, .int .i64 j] 30)) ((World.cell?_alloc_lt _ _ _ hb).trans c0) ((World.cell?_alloc_lt _ _ _ hb).trans c1) ((World.cell?_alloc_lt _ _ _ hb).trans c2))
  have r0 := firedL_range hok s0 s1 (k := 0) (x := firedF c.le s) rfl
  have r1 := firedL_range hok s0 s1 (k := 1) (x := firedF c.wi s) rfl
  have r2 := firedL_range hok s0 s1 (k := 2) (x := firedF c.he s) rfl
  have q0 := okB_size hf (k := 0) (y := l) rfl
  have q1 := okB_size hf (k := 1) (y := wd) rfl
  have q2 := okB_size hf (k := 2) (y := ht) rfl
  have S0 := Lib.hid (sz3_spec (firedF c.le s) l r0 q0)
  have S1 := Lib.hid (sz3_spec (firedF c.wi s) wd r1 q1)
  have S2 := Lib.hid (sz3_spec (firedF c.he s) ht r2 q2)
  have p0 := absD_range r0 q0
  have p1 := absD_range r1 q1
  have p2 := absD_range r2 q2
  have HL : firedL c s = [firedF c.le s, firedF c.wi s, firedF c.he s] := rfl
  rw [HL] at AL
  unfold offF
  obtain ⟨x0, e0⟩ : ∃ x, firedF c.le s = x := ⟨_, rfl⟩
  obtain ⟨x1, e1⟩ : ∃ x, firedF c.wi s = x := ⟨_, rfl⟩
  obtain ⟨x2, e2⟩ : ∃ x, firedF c.he s = x := ⟨_, rfl⟩
  rw [e0] at S0 r0 AL p0 ⊢
  rw [e1] at S1 r1 AL p1 ⊢
  rw [e2] at S2 r2 AL p2 ⊢
  obtain ⟨d0, f0⟩ : ∃ d, absD x0 l = d := ⟨_, rfl⟩
  obtain ⟨d1, f1⟩ : ∃ d, absD x1 wd = d := ⟨_, rfl⟩
  obtain ⟨d2, f2⟩ : ∃ d, absD x2 ht = d := ⟨_, rfl⟩
  rw [f0] at S0 p0 ⊢
  rw [f1] at S1 p1 ⊢
  rw [f2] at S2 p2 ⊢
  have v0 : IntKind.i64.wrap (x0 - l) = x0 - l := IntWalk.i64_in _ (by omega)
  have v1 : IntKind.i64.wrap (x1 - wd) = x1 - wd := IntWalk.i64_in _ (by omega)
  have v2 : IntKind.i64.wrap (x2 - ht) = x2 - ht := IntWalk.i64_in _ (by omega)
  have v3 : IntKind.i64.wrap (d0 + d1) = d0 + d1 := IntWalk.i64_in _ (by omega)
  have v4 : IntKind.i64.wrap (d0 + d1 + d2) = d0 + d1 + d2 := IntWalk.i64_in _ (by omega)
  clear HL e0 e1 e2 f0 f1 f2 c0 c1 c2 hok hf s0 s1 r0 r1 r2 q0 q1 q2 p0 p1 p2
  go_enter Try.func20, Try.ntmps20
  go_wp2_with fail
  refine AL.out.mono ?_
  rintro e w1 ⟨g, cp, rfl, o1, hb1⟩
  have B1 := Lib.hid (bnext B0.out hb1)
  have y0 := o1.2.1 0 x0 rfl
  have y1 := o1.2.1 1 x1 rfl
  have y2 := o1.2.1 2 x2 rfl
  simp only [Nat.zero_add] at y0 y1 y2
  obtain ⟨hc1, hf1⟩ := bcell hb1
  have z0 : w1.cell? ⟨w.heap.size, 0, none⟩ = some (.int .i64 l) := (hc1 w.heap.size 0 (by simp)).trans (by simp)
  have z1 : w1.cell? ⟨w.heap.size, 1, none⟩ = some (.int .i64 wd) := (hc1 w.heap.size 1 (by simp)).trans (by simp)
  have z2 : w1.cell? ⟨w.heap.size, 2, none⟩ = some (.int .i64 ht) := (hc1 w.heap.size 2 (by simp)).trans (by simp)
  clear hb1 hc1 hf1 o1
  go_wp2
  go_quiet (first | (go_at_call_of 34 (Value.int .i64 (x0 - l)); exact Calls.quiet_of_same (S0.out _)) | (go_at_call_of 34 (Value.int .i64 (x1 - wd)); exact Calls.quiet_of_same (S1.out _)) | (go_at_call_of 34 (Value.int .i64 (x2 - ht)); exact Calls.quiet_of_same (S2.out _)))
  go_wp2
  go_ret
  exact ⟨rfl, below_drewN B1.out _⟩
end Go.Proofs.Ytcjmdmkcipiabaa
