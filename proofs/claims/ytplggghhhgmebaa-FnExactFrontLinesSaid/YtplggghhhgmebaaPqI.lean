/-
  Parts of a course by the program: rows of two, one behind the other.
-/
import Derived.RangeFuncNested
import Derived.RangeFuncBound
import Derived.RangeFuncCalls
import Derived.RangeFuncLeaves
import Derived.Shelf.Abstract
import Derived.Shelf.RegionOpen
import Derived.WalkKit
import Derived.OwnWalkIn
import Derived.TacticsInMore
import Derived.LoopNIn
import Derived.LoopIn
import Derived.Stop.RegionWithIn
import Derived.Maps.AppendAt
import Derived.Test.YtplggghhhgmebaaPq
import Derived.Test.YtplggghhhgmebaaFvJ
import Derived.Test.YtplggghhhgmebaaInts
import Derived.Test.YtplggghhhgmebaaTk
namespace Go.Proofs.Ytplggghhhgmebaa
open Go.ChangeShapes Go.WideShapes Go.ChangeAt Go.RowKit Go.Joins Go.Shelf

attribute [local go_sem] Oper.semAt_some

/-- The blocks of two boxes hold what they held. -/
def KpT (b c : Nat) (W W' : World) : Prop := (∀ o : Obj, W.heap[b]? = some o → o.isCells = true → W'.heap[b]? = some o) ∧ ∀ o : Obj, W.heap[c]? = some o → o.isCells = true → W'.heap[c]? = some o
theorem KpT.t {b c : Nat} {A B C : World} (h : KpT b c A B) (k : KpT b c B C) : KpT b c A C := ⟨fun o h0 h1 => k.1 o (h.1 o h0 h1) h1, fun o h0 h1 => k.2 o (h.2 o h0 h1) h1⟩
theorem KpT.b {b c n : Nat} (W : World) (l : Nat) (o o' : Obj) (_ : n ≤ l) (h : W.heap[l]? = some o) (ho : o.isCells = false) (_ : o.isWalk = false) : KpT b c W (W.putObj l o') := by
  refine ⟨fun x hx hc => ?_, fun x hx hc => ?_⟩
  · have hne : b ≠ l := fun e => by subst e; rw [h] at hx; cases hx; rw [ho] at hc; cases hc
    exact (World.putObj_heap_other hne).trans hx
  · have hne : c ≠ l := fun e => by subst e; rw [h] at hx; cases hx; rw [ho] at hc; cases hc
    exact (World.putObj_heap_other hne).trans hx
/-- Number k of m rows of two. -/
def encT (g : Nat) {m : Nat} (x : Fin m) : Array Value := #[.slice (some ⟨g, 2 * x.1, none⟩) 2 2]
/-- The first k numbers. -/
def firstT (m k : Nat) : List (Fin m) := (List.finRange m).take k
theorem firstT_length {m k : Nat} (h : k ≤ m) : (firstT m k).length = k := by simp [firstT]; omega
theorem firstT_all (m : Nat) : firstT m m = List.finRange m := by unfold firstT; rw [List.take_of_length_le (by simp)]
theorem firstT_succ {m k : Nat} (h : k < m) : firstT m (k + 1) = firstT m k ++ [⟨k, h⟩] := by
  unfold firstT
  rw [List.take_add_one]
  simp [h]
set_option maxRecDepth 100000 in
set_option maxHeartbeats 40000000 in
theorem chunk1_in (n : Nat) (hn : 1 ≤ n) (l bs bn g m cp : Nat) (hm : m ≤ 100) (hcp : 2 * m ≤ cp) (J Jx : List (Fin m) → World → Prop)
    (hY : ∀ pre x W, J pre W → pre.length < m → YieldAt Fence.wide (n - 1) Try.prog l (encT g x) W fun e W' =>
      (e = .returned (.bool true) ∧ J (pre ++ [x]) W' ∧ KpT bs bn W W') ∨ (e = .returned (.bool false) ∧ Jx (pre ++ [x]) W'))
    (W : World) (hs : Boxed W bs 86 (.slice (some ⟨g, 0, none⟩) (2 * m) cp)) (hb : Boxed W bn 3 (.int .i64 2)) (h0 : J [] W) (hJd : ∀ s W, J s W → J s W.drew) :
    CallsIn Fence.wide n Try.prog 94 #[.func (.yield l) #[] #[], .pointer (some ⟨bs, 0, none⟩), .pointer (some ⟨bn, 0, none⟩)] W fun e W' => (∃ v, e = .returned v) ∧
      ((∃ ys, ys = List.finRange m ∧ J ys W') ∨ (∃ pre, pre <+: List.finRange m ∧ Jx pre W')) := by
  have c0 := hs.cell
  have d0 := hb.cell
  refine callsIn_of_wp Try.func94 rfl trivial ?_ rfl
  simp only [Try.ntmps94, List.size_toArray, List.length_cons, List.length_nil, Nat.reduceAdd, Nat.reduceSub, Array.replicate_succ, Array.replicate_zero, List.push_toArray, List.append_toArray, List.nil_append, List.cons_append]
  gi_wp2
  gi_loopw [4] (fun i wr => ∃ (k : Nat), k ≤ m ∧ i = .int .i64 (2 * (k : Int)) ∧ Hid (Boxed wr bs 86 (.slice (some ⟨g, 0, none⟩) (2 * m) cp)) ∧ Hid (Boxed wr bn 3 (.int .i64 2)) ∧ Hid (J (firstT m k) wr)) (fun i _ => 2 * m - (intOf i).toNat)
  case atStart => exact ⟨0, Nat.zero_le _, rfl, hs, hb, h0⟩
  case round =>
    obtain ⟨k, hk, rfl, hS, hN, hJ⟩ := hrel
    have c1 := hS.out.cell
    have d1 := hN.out.cell
    by_cases hlt : k < m
    · have hlt' : 2 * (k : Int) < ((2 * m : Nat) : Int) := by omega
      have hk0 : (0 : Int) ≤ 2 * (k : Int) := by omega
      obtain ⟨fn, tmps, assign, body, hy, hR⟩ := hY (firstT m k) ⟨k, hlt⟩ wr.drew (hJd _ _ hJ.out) (by rw [firstT_length (by omega)]; exact hlt)
      have ht : (2 * (k : Int)).toNat = 2 * k := by omega
      have hne : ¬ cp = 2 * k := by omega
      have HRd := Lib.hid hR
      have HFS := Lib.hid (firstT_succ hlt)
      clear hR
      gi_wp2_with fail
      have hHeld : (fun W => W.cell? ⟨bs, 0, none⟩ = some (.slice (some ⟨g, 0, none⟩) (2 * m) cp) ∧ W.cell? ⟨bn, 0, none⟩ = some (.int .i64 2) : World → Prop) wr.drew := ⟨c1, d1⟩
      refine wpIn_region_S (S := fun W => W.cell? ⟨bs, 0, none⟩ = some (.slice (some ⟨g, 0, none⟩) (2 * m) cp) ∧ W.cell? ⟨bn, 0, none⟩ = some (.int .i64 2)) (by kernel_rfl) ?_
      refine wpAnyS_take (i := 0) (v := .int .i64 2) rfl (noDefer_of (by kernel_rfl)) (by kernel_rfl) (by kernel_rfl) (by kernel_rfl) (fun _ _ _ h => h) ⟨Or.inl ⟨by kernel_rfl, ?_⟩, fun w => by first | rfl | simp [Oper.about, resolve, Target.leads, go_sem]⟩ hHeld ?_
      · intro w hSw
        try dsimp only at hSw
        obtain ⟨s0, s1⟩ := hSw
        go_simp
      try simp only [Act.put, List.setIfInBounds_toArray, List.set_cons_zero, List.set_cons_succ, List.getElem_toArray, List.getElem_cons_zero]
      refine wpAnyS_take (i := 1) (v := .slice (some ⟨g, 0, none⟩) (2 * m) cp) rfl (noDefer_of (by kernel_rfl)) (by kernel_rfl) (by kernel_rfl) (by kernel_rfl) (fun _ _ _ h => h) ⟨Or.inl ⟨by kernel_rfl, ?_⟩, fun w => by first | rfl | simp [Oper.about, resolve, Target.leads, go_sem]⟩ hHeld ?_
      · intro w hSw
        try dsimp only at hSw
        obtain ⟨s0, s1⟩ := hSw
        go_simp
      try simp only [Act.put, List.setIfInBounds_toArray, List.set_cons_zero, List.set_cons_succ, List.getElem_toArray, List.getElem_cons_zero, List.getElem_cons_succ]
      refine wpAnyS_take (i := 2) (v := .int .i64 (2 * (k : Int))) rfl (noDefer_of (by kernel_rfl)) (by kernel_rfl) (by kernel_rfl) (by kernel_rfl) (fun _ _ _ h => h) ⟨Or.inl ⟨by kernel_rfl, ?_⟩, fun w => by first | rfl | simp [Oper.about, resolve, Target.leads, go_sem]⟩ hHeld ?_
      · intro w hSw
        try dsimp only at hSw
        skip
        go_simp
      try simp only [Act.put, List.setIfInBounds_toArray, List.set_cons_zero, List.set_cons_succ, List.getElem_toArray, List.getElem_cons_zero, List.getElem_cons_succ]
      refine wpAnyS_take (i := 3) (v := .slice (some ⟨g, 2 * k, none⟩) (2 * m - 2 * k) (cp - 2 * k)) rfl (noDefer_of (by kernel_rfl)) (by kernel_rfl) (by kernel_rfl) (by kernel_rfl) (fun _ _ _ h => h) ⟨Or.inl ⟨by kernel_rfl, ?_⟩, fun w => by first | rfl | simp [Oper.about, resolve, Target.leads, go_sem]⟩ hHeld ?_
      · intro w hSw
        try dsimp only at hSw
        skip
        go_simp
        all_goals first | omega | exact IntWalk.i64_in _ (by omega) | simp [ht, hne]
      try simp only [Act.put, List.setIfInBounds_toArray, List.set_cons_zero, List.set_cons_succ, List.getElem_toArray, List.getElem_cons_zero, List.getElem_cons_succ]
      refine wpAnyS_take (i := 4) (v := .int .i64 ((2 * m - 2 * k : Nat) : Int)) rfl (noDefer_of (by kernel_rfl)) (by kernel_rfl) (by kernel_rfl) (by kernel_rfl) (fun _ _ _ h => h) ⟨Or.inl ⟨by kernel_rfl, ?_⟩, fun w => by first | rfl | simp [Oper.about, resolve, Target.leads, go_sem]⟩ hHeld ?_
      · intro w hSw
        try dsimp only at hSw
        skip
        go_simp
        all_goals first | omega | exact IntWalk.i64_in _ (by omega) | simp [ht, hne]
      try simp only [Act.put, List.setIfInBounds_toArray, List.set_cons_zero, List.set_cons_succ, List.getElem_toArray, List.getElem_cons_zero, List.getElem_cons_succ]
      refine wpAnyS_take (i := 5) (v := .int .i64 2) rfl (noDefer_of (by kernel_rfl)) (by kernel_rfl) (by kernel_rfl) (by kernel_rfl) (fun _ _ _ h => h) ⟨Or.inl ⟨by kernel_rfl, ?_⟩, fun w => by first | rfl | simp [Oper.about, resolve, Target.leads, go_sem]⟩ hHeld ?_
      · intro w hSw
        try dsimp only at hSw
        skip
        go_simp
        all_goals first | omega | exact IntWalk.i64_in _ (by omega) | simp [ht, hne]
      try simp only [Act.put, List.setIfInBounds_toArray, List.set_cons_zero, List.set_cons_succ, List.getElem_toArray, List.getElem_cons_zero, List.getElem_cons_succ]
      refine wpAnyS_take (i := 6) (v := .int .i64 2) rfl (noDefer_of (by kernel_rfl)) (by kernel_rfl) (by kernel_rfl) (by kernel_rfl) (fun _ _ _ h => h) ⟨Or.inl ⟨by kernel_rfl, ?_⟩, fun w => by first | rfl | simp [Oper.about, resolve, Target.leads, go_sem]⟩ hHeld ?_
      · intro w hSw
        try dsimp only at hSw
        skip
        go_simp
      try simp only [Act.put, List.setIfInBounds_toArray, List.set_cons_zero, List.set_cons_succ, List.getElem_toArray, List.getElem_cons_zero, List.getElem_cons_succ]
      refine wpAnyS_done (by kernel_rfl) ?_ _
      have B3 : Hid (Boxed wr.drew bs 86 (.slice (some ⟨g, 0, none⟩) (2 * m) cp)) := hS.out
      have N3 : Hid (Boxed wr.drew bn 3 (.int .i64 2)) := hN.out
      have hk100 : 2 * (k : Int) + 2 ≤ 1000 := by omega
      have hkc : 2 * (k : Int) + 2 ≤ (cp : Int) := by omega
      clear hHeld
      dsimp only [encT] at hy
      gi_wp2_with fail
      refine HRd.out.mono ?_
      rintro e W3 (⟨rfl, hJ3, hk3⟩ | ⟨rfl, hJx3⟩)
      · have B4 : Hid (Boxed W3 bs 86 (.slice (some ⟨g, 0, none⟩) (2 * m) cp)) := hk3.1 _ B3.out rfl
        have N4 : Hid (Boxed W3 bn 3 (.int .i64 2)) := hk3.2 _ N3.out rfl
        have c4 := B4.out.cell
        have d4 := N4.out.cell
        have J3 := Lib.hid hJ3
        clear hJ3 hk3 hy
        gi_wp2
        go_roundw
        case rel => exact ⟨k + 1, by omega, by first | rfl | (congr 1; omega) | (simp; omega), B4.out, N4.out, by rw [HFS.out]; exact J3.out⟩
        case measure => simp [intOf]; omega
      · have J3 := Lib.hid hJx3
        clear hJx3 hy
        gi_wp2
        refine bodyPost_ret (results_none rfl _ _ _) rfl ?_
        refine ⟨⟨_, rfl⟩, .inr ⟨firstT m k ++ [⟨k, hlt⟩], ?_, J3.out⟩⟩
        rw [← HFS.out]
        exact List.take_prefix _ _
    · have hge : ¬ 2 * (k : Int) < ((2 * m : Nat) : Int) := by omega
      have hkn : k = m := by omega
      have HJ : Hid (J (List.finRange m) wr) := by subst hkn; rw [← firstT_all]; exact hJ.out
      clear hkn
      gi_wp2
      go_end0
      first | exact ⟨⟨_, rfl⟩, .inl HJ.out⟩ | exact ⟨⟨_, rfl⟩, .inl ⟨_, rfl, HJ.out⟩⟩
theorem chunk_stops (n : Nat) (hn : 1 ≤ n) (bs bn g m cp : Nat) (hm : m ≤ 100) (hcp : 2 * m ≤ cp) (w : World) (hs : Boxed w bs 86 (.slice (some ⟨g, 0, none⟩) (2 * m) cp)) (hb : Boxed w bn 3 (.int .i64 2)) :
    SeqStopsK Fence.wide n Try.prog 94 #[.pointer (some ⟨bs, 0, none⟩), .pointer (some ⟨bn, 0, none⟩)] (encT g) (KpT bs bn) (fun ys => ys = List.finRange m) (fun pre => pre <+: List.finRange m) m w := fun l J Jx W hW hJ _ hY h0 =>
  chunk1_in n hn l bs bn g m cp hm hcp J Jx hY W ((hW.block bs hs.lt).trans hs) ((hW.block bn hb.lt).trans hb) h0 (fun s W h => hJ s W _ none h ⟨rfl, rfl, rfl, Nat.le_refl _, fun _ _ _ => rfl⟩ (fun r e => by cases e))
/-- A value that goes through rows of two. -/
theorem chunk_in (a : Option Addr) (n cp : Nat) (w : World) : CallsIn Fence.wide 1 Try.prog 87 #[.slice a n cp, .int .i64 2] w fun e w' => e = .returned (.func (.func 94) #[] #[.pointer (some ⟨w.heap.size, 0, none⟩), .pointer (some ⟨w.heap.size + 1, 0, none⟩)]) ∧ w' = (w.alloc (.cells #[.slice a n cp] 86)).alloc (.cells #[.int .i64 2] 3) := by
  refine callsIn_wide.2 ?_
  go_enter Try.func87, Try.ntmps87
  go_wp2
  go_ret
  exact ⟨rfl, rfl⟩
end Go.Proofs.Ytplggghhhgmebaa
