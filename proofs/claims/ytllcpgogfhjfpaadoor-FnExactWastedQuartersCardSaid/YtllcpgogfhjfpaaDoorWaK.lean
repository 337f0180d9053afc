/-
  The numbers of pieces of each kind by the program, and the cuts of a course.
-/
import Derived.Test.YtllcpgogfhjfpaaDoorWaVc
import Derived.Test.YtllcpgogfhjfpaaDoorWaC
import Derived.Test.YtllcpgogfhjfpaaDoorSt
import Derived.Test.YtllcpgogfhjfpaaDoorShelfB
import Derived.Deep.RegionWith
namespace Go.Proofs.YtllcpgogfhjfpaaDoor
open Go.ChangeShapes Go.WideShapes Go.ChangeAt Go.RowKit Go.Joins


/-- The letters of pieces in the order in which they are counted. -/
def letN (k : Nat) : UInt8 := [83, 72, 84, 66, 67].getD k 0
/-- How many pieces of a kind the first i courses have. -/
def cntTo (L : List ByteArray) (i k : Nat) : Nat := ((L.take i).map fun s => s.data.toList.count (letN k)).sum
theorem cntTo_zero (L : List ByteArray) (k : Nat) : cntTo L 0 k = 0 := by simp [cntTo]
theorem cntTo_succ {L : List ByteArray} {i : Nat} {s : ByteArray} (h : L[i]? = some s) (k : Nat) : cntTo L (i + 1) k = cntTo L i k + s.data.toList.count (letN k) := by
  unfold cntTo
  rw [List.take_add_one, h, List.map_append, List.sum_append]
  simp
theorem cntTo_le {L : List ByteArray} (h : StrLe 60 L) (k : Nat) : ∀ i, cntTo L i k ≤ 60 * i
  | 0 => by rw [cntTo_zero]; omega
  | i + 1 => by
    have ih := cntTo_le h k i
    cases hs : L[i]? with
    | none =>
      have : cntTo L (i + 1) k = cntTo L i k := by unfold cntTo; rw [List.take_add_one, hs]; simp
      omega
    | some s =>
      rw [cntTo_succ hs]
      have h1 := h i s hs
      have h2 : s.data.toList.count (letN k) ≤ s.data.toList.length := List.count_le_length
      have h3 : s.data.toList.length = s.size := by simp
      omega
/-- Five numbers that lie in a block and may be written. -/
def Five (W : World) (B : Nat) (f : Nat → Int) : Prop := ∀ k, k < 5 → W.cell? ⟨B, k, none⟩ = some (.int .i64 (f k)) ∧ W.frozen? ⟨B, k, none⟩ = false
theorem Five.put {W : World} {B j : Nat} {f : Nat → Int} (h : Five W B f) (hj : j < 5) (x : Int) : Five (W.setCell ⟨B, j, none⟩ (.int .i64 x)) B (fun k => if k = j then x else f k) := fun k hk => by
  refine ⟨?_, by rw [World.frozen?_setCell]; exact (h k hk).2⟩
  by_cases e : k = j
  · subst e
    rw [World.cell?_setCell_same' _ _ _ (by rw [(h k hk).1]; rfl)]
    simp
  · rw [World.cell?_setCell_other _ _ _ _ (by simp <;> omega), (h k hk).1]
    simp [e]
/-- Between two rounds: the first i courses, and of the next one the first j kinds. -/
def cntF (L : List ByteArray) (i j : Nat) (k : Nat) : Int := if k < j then (cntTo L (i + 1) k : Int) else (cntTo L i k : Int)
theorem five_congr {W : World} {B : Nat} {f g : Nat → Int} (h : Five W B f) (e : ∀ k, k < 5 → f k = g k) : Five W B g := fun k hk => by rw [← e k hk]; exact h k hk
theorem sliceLet (k : Nat) (h : k < 5) : (⟨#[83, 72, 84, 66, 67]⟩ : ByteArray).extract k (k + 1) = ⟨#[letN k]⟩ := by
  rcases (show k = 0 ∨ k = 1 ∨ k = 2 ∨ k = 3 ∨ k = 4 by omega) with rfl | rfl | rfl | rfl | rfl <;> rfl

theorem slice_let (k : Nat) (h : k < 5) (w : World) : (Instr.slice 9 (.string ⟨#[83, 72, 84, 66, 67]⟩) (some (.int .i64 (k : Int))) (some (.int .i64 ((k : Int) + 1))) none).run Tryd.prog w = .ok (.string ⟨#[letN k]⟩) w := by
  rcases (show k = 0 ∨ k = 1 ∨ k = 2 ∨ k = 3 ∨ k = 4 by omega) with rfl | rfl | rfl | rfl | rfl <;> kernel_rfl
theorem five_new2 (w : World) (t : TypeId) (o : Obj := .cells #[.int .i64 0, .int .i64 0, .int .i64 0, .int .i64 0, .int .i64 0] t) : Five ((w.alloc o).alloc (.cells #[.int .i64 0, .int .i64 0, .int .i64 0, .int .i64 0, .int .i64 0] t)) (w.heap.size + 1) (fun _ => 0) := fun k hk => by
  have hb : ((w.alloc o).alloc (.cells #[.int .i64 0, .int .i64 0, .int .i64 0, .int .i64 0, .int .i64 0] t)).heap[w.heap.size + 1]? = some (.cells #[.int .i64 0, .int .i64 0, .int .i64 0, .int .i64 0, .int .i64 0] t (0, 0)) := by
    have := heap_alloc_new (w.alloc o) (.cells #[.int .i64 0, .int .i64 0, .int .i64 0, .int .i64 0, .int .i64 0] t)
    simpa using this
  refine ⟨?_, by simp only [World.frozen?, hb]; simp⟩
  rw [cell_of_row _ _ _ _ t (0, 0) hb]
  rcases (show k = 0 ∨ k = 1 ∨ k = 2 ∨ k = 3 ∨ k = 4 by omega) with rfl | rfl | rfl | rfl | rfl <;> rfl
theorem five_new1 (w : World) (t : TypeId) (o : Obj) : Five ((w.alloc (.cells #[.int .i64 0, .int .i64 0, .int .i64 0, .int .i64 0, .int .i64 0] t)).alloc o) w.heap.size (fun _ => 0) := fun k hk => by
  have hb : ((w.alloc (.cells #[.int .i64 0, .int .i64 0, .int .i64 0, .int .i64 0, .int .i64 0] t)).alloc o).heap[w.heap.size]? = some (.cells #[.int .i64 0, .int .i64 0, .int .i64 0, .int .i64 0, .int .i64 0] t (0, 0)) := by
    rw [Below.heap_alloc _ _ _ (by simp)]
    exact heap_alloc_new w _
  refine ⟨?_, by simp only [World.frozen?, hb]; simp⟩
  rw [cell_of_row _ _ _ _ t (0, 0) hb]
  rcases (show k = 0 ∨ k = 1 ∨ k = 2 ∨ k = 3 ∨ k = 4 by omega) with rfl | rfl | rfl | rfl | rfl <;> rfl
theorem five_set {w : World} {g : Nat} {u0 u1 u2 u3 u4 : Value} (r0 : w.cell? ⟨g, 0, none⟩ = some u0) (r1 : w.cell? ⟨g, 1, none⟩ = some u1) (r2 : w.cell? ⟨g, 2, none⟩ = some u2) (r3 : w.cell? ⟨g, 3, none⟩ = some u3) (r4 : w.cell? ⟨g, 4, none⟩ = some u4) (v0 v1 v2 v3 v4 : Value) :
    let W := ((((w.setCell ⟨g, 0, none⟩ v0).setCell ⟨g, 1, none⟩ v1).setCell ⟨g, 2, none⟩ v2).setCell ⟨g, 3, none⟩ v3).setCell ⟨g, 4, none⟩ v4
    W.cell? ⟨g, 0, none⟩ = some v0 ∧ W.cell? ⟨g, 1, none⟩ = some v1 ∧ W.cell? ⟨g, 2, none⟩ = some v2 ∧ W.cell? ⟨g, 3, none⟩ = some v3 ∧ W.cell? ⟨g, 4, none⟩ = some v4 := by
  have ne : ∀ (i j : Nat) (u : World) (v : Value), i ≠ j → (u.setCell ⟨g, i, none⟩ v).cell? ⟨g, j, none⟩ = u.cell? ⟨g, j, none⟩ := fun i j u v h => World.cell?_setCell_other _ _ _ _ (fun e => h (by cases e; rfl))
  have eq : ∀ (i : Nat) (u : World) (v : Value), (u.cell? ⟨g, i, none⟩).isSome = true → (u.setCell ⟨g, i, none⟩ v).cell? ⟨g, i, none⟩ = some v := fun i u v h => World.cell?_setCell_same' _ _ _ h
  refine ⟨?_, ?_, ?_, ?_, ?_⟩
  · rw [ne 4 0 _ _ (by omega), ne 3 0 _ _ (by omega), ne 2 0 _ _ (by omega), ne 1 0 _ _ (by omega)]
    exact eq 0 _ _ (by rw [r0]; rfl)
  · rw [ne 4 1 _ _ (by omega), ne 3 1 _ _ (by omega), ne 2 1 _ _ (by omega)]
    exact eq 1 _ _ (by rw [ne 0 1 _ _ (by omega), r1]; rfl)
  · rw [ne 4 2 _ _ (by omega), ne 3 2 _ _ (by omega)]
    exact eq 2 _ _ (by rw [ne 1 2 _ _ (by omega), ne 0 2 _ _ (by omega), r2]; rfl)
  · rw [ne 4 3 _ _ (by omega)]
    exact eq 3 _ _ (by rw [ne 2 3 _ _ (by omega), ne 1 3 _ _ (by omega), ne 0 3 _ _ (by omega), r3]; rfl)
  · exact eq 4 _ _ (by rw [ne 3 4 _ _ (by omega), ne 2 4 _ _ (by omega), ne 1 4 _ _ (by omega), ne 0 4 _ _ (by omega), r4]; rfl)
set_option maxRecDepth 100000 in
set_option maxHeartbeats 6400000 in
theorem countEach_impl (L : List ByteArray) (a : Option Addr) (cap : Nat) (hl : L.length ≤ 40) (hs : StrLe 60 L) (w : World) (ha : StrArg w a L) :
    Calls Tryd.prog 67 #[.slice a L.length cap] w fun e w' => e = .returned (.agg #[.int .i64 (cntTo L L.length 0 : Int), .int .i64 (cntTo L L.length 1 : Int), .int .i64 (cntTo L L.length 2 : Int), .int .i64 (cntTo L L.length 3 : Int), .int .i64 (cntTo L L.length 4 : Int)]) ∧ Below w.heap.size w w' := by
  have HA := Lib.hid ha
  have HS := Lib.hid hs
  clear ha hs
  go_enter Tryd.func67, Tryd.ntmps67
  go_wp2
  have hF0 : Five ((w.alloc (.cells #[.int .i64 0, .int .i64 0, .int .i64 0, .int .i64 0, .int .i64 0] 89)).alloc (.cells #[.int .i64 0, .int .i64 0, .int .i64 0, .int .i64 0, .int .i64 0] 89)) (w.heap.size + 1) (fun _ => 0) := five_new2 w _
  have hR0 : Five ((w.alloc (.cells #[.int .i64 0, .int .i64 0, .int .i64 0, .int .i64 0, .int .i64 0] 89)).alloc (.cells #[.int .i64 0, .int .i64 0, .int .i64 0, .int .i64 0, .int .i64 0] 89)) w.heap.size (fun _ => 0) := five_new1 w _ _
  have hB0 : Below w.heap.size w ((w.alloc (.cells #[.int .i64 0, .int .i64 0, .int .i64 0, .int .i64 0, .int .i64 0] 89)).alloc (.cells #[.int .i64 0, .int .i64 0, .int .i64 0, .int .i64 0, .int .i64 0] 89)) := balloc (balloc0 _ _) _
  go_loopw [9] (fun u wr => ∃ i : Nat, i ≤ L.length ∧ u = .int .i64 (i : Int) ∧ Hid (Five wr (w.heap.size + 1) (cntF L i 0)) ∧ Hid (Five wr w.heap.size (fun _ => 0)) ∧ Hid (Below w.heap.size w wr)) (fun u _ => L.length - (intOf u).toNat)
  case atStart => exact ⟨0, Nat.zero_le _, rfl, five_congr hF0 (fun k _ => by simp [cntF, cntTo_zero]), hR0, hB0⟩
  case round =>
    clear hF0 hR0 hB0
    obtain ⟨i, hi, rfl, hF, hR, hB⟩ := hrel
    by_cases hlt : i < L.length
    · have hlt' : (i : Int) < (L.length : Int) := by omega
      have hi0 : (0 : Int) ≤ (i : Int) := by omega
      obtain ⟨b, o, s, rfl, hc, hat⟩ := (HA.out.later hB.out).at hlt
      have c0 := hat i s hc
      have HC := Lib.hid hc
      clear hc hat
      go_wp2
      go_loopw [13] (fun u wq => ∃ j : Nat, j ≤ 5 ∧ u = .int .i64 (j : Int) ∧ Hid (Five wq (w.heap.size + 1) (cntF L i j)) ∧ Hid (Five wq w.heap.size (fun _ => 0)) ∧ Hid (Below w.heap.size w wq)) (fun u _ => 5 - (intOf u).toNat)
      case atStart => exact ⟨0, by omega, rfl, hF.out, hR.out, hB.out⟩
      case round =>
        obtain ⟨j, hj, rfl, hG, hS, hD⟩ := hrel
        by_cases hjt : j < 5
        · have hjt' : (j : Int) < 5 := by omega
          have hj0 : (0 : Int) ≤ (j : Int) := by omega
          have hj1 : (j : Int) + 1 ≤ 5 := by omega
          obtain ⟨cj, fj⟩ := hG.out j hjt
          have ev : cntF L i j j = (cntTo L i j : Int) := by simp [cntF]
          rw [ev] at cj
          have hle := cntTo_le HS.out j i
          have hsl := sliceLet j hjt
          have C := Lib.hid (fun wx => Tryd.strings_Count_one s (letN j) wx)
          have hle2 : s.data.toList.count (letN j) ≤ 60 := by
            have h2 : s.data.toList.count (letN j) ≤ s.data.toList.length := List.count_le_length
            have h3 : s.data.toList.length = s.size := by simp
            have := HS.out i s HC.out
            omega
          have HN : Hid (cntTo L (i + 1) j = cntTo L i j + s.data.toList.count (letN j)) := cntTo_succ HC.out j
          have HCB : Hid (Lib.countByte s.data.toList (letN j) = s.data.toList.count (letN j)) := rfl
          obtain ⟨q, hq⟩ : ∃ q, s.data.toList.count (letN j) = q := ⟨_, rfl⟩
          rw [hq] at hle2 HN HCB
          rw [HCB.out] at C
          obtain ⟨N, hN⟩ : ∃ N, cntTo L i j = N := ⟨_, rfl⟩
          rw [hN] at cj hle HN
          have HG : Hid (Five (wr.setCell ⟨w.heap.size + 1, j, none⟩ (.int .i64 ((N : Int) + (q : Int)))) (w.heap.size + 1) (cntF L i (j + 1))) := by
            refine five_congr (hG.out.put hjt _) fun k hk => ?_
            by_cases e : k = j
            · subst e
              simp only [if_pos, cntF]
              rw [if_pos (by omega), HN.out]
              omega
            · simp only [if_neg e, cntF]
              by_cases e2 : k < j
              · rw [if_pos e2, if_pos (by omega)]
              · rw [if_neg e2, if_neg (by omega)]
          have HSS : Hid (Five (wr.setCell ⟨w.heap.size + 1, j, none⟩ (.int .i64 ((N : Int) + (q : Int)))) w.heap.size (fun _ => 0)) := fun k hk => ⟨by rw [World.cell?_setCell_other _ _ _ _ (by simp)]; exact (hS.out k hk).1, by rw [World.frozen?_setCell]; exact (hS.out k hk).2⟩
          have HD : Hid (Below w.heap.size w (wr.setCell ⟨w.heap.size + 1, j, none⟩ (.int .i64 ((N : Int) + (q : Int))))) := hD.out.setCell (p := ⟨w.heap.size + 1, j, none⟩) (by simp) _
          have hwrap : IntKind.i64.wrap ((j : Int) + 1) = (j : Int) + 1 := IntWalk.i64_in _ (by omega)
          have hwrap2 : IntKind.i64.wrap ((N : Int) + (q : Int)) = (N : Int) + (q : Int) := IntWalk.i64_in _ (by omega)
          have hslc := slice_let j hjt
          clear hq hN hsl ev
          go_wp2_with fail
          go_region_with (go_at_call 89; refine (C.out _).mono ?_; rintro e w' ⟨rfl, rfl⟩)
          all_goals
            go_wp2
            go_roundw
            case rel => exact ⟨j + 1, by omega, by go_num, HG.out, HSS.out, HD.out.drew⟩
            case measure => simp [intOf]; omega
        · have hge : ¬ (j : Int) < 5 := by omega
          have hj5 : j = 5 := by omega
          subst hj5
          go_wp2
          go_roundw
          case rel => exact ⟨i + 1, by omega, by go_num, five_congr hG.out (fun k hk => by simp [cntF, hk]), hS.out, hD.out⟩
          case measure => simp [intOf]; omega
    · have hge : ¬ (i : Int) < (L.length : Int) := by omega
      have hin : i = L.length := by omega
      subst hin
      have g0 := hF.out 0 (by omega)
      have g1 := hF.out 1 (by omega)
      have g2 := hF.out 2 (by omega)
      have g3 := hF.out 3 (by omega)
      have g4 := hF.out 4 (by omega)
      simp only [cntF, Nat.not_lt_zero, if_false] at g0 g1 g2 g3 g4
      obtain ⟨g0, _⟩ := g0
      obtain ⟨g1, _⟩ := g1
      obtain ⟨g2, _⟩ := g2
      obtain ⟨g3, _⟩ := g3
      obtain ⟨g4, _⟩ := g4
      obtain ⟨r0, s0⟩ := hR.out 0 (by omega)
      obtain ⟨r1, s1⟩ := hR.out 1 (by omega)
      obtain ⟨r2, s2⟩ := hR.out 2 (by omega)
      obtain ⟨r3, s3⟩ := hR.out 3 (by omega)
      obtain ⟨r4, s4⟩ := hR.out 4 (by omega)
      have HB : Hid (∀ v0 v1 v2 v3 v4 : Value, Below w.heap.size w (((((wr.setCell ⟨w.heap.size, 0, none⟩ v0).setCell ⟨w.heap.size, 1, none⟩ v1).setCell ⟨w.heap.size, 2, none⟩ v2).setCell ⟨w.heap.size, 3, none⟩ v3).setCell ⟨w.heap.size, 4, none⟩ v4)) := fun v0 v1 v2 v3 v4 =>
        ((((hB.out.setCell (p := ⟨w.heap.size, 0, none⟩) (Nat.le_refl _) v0).setCell (p := ⟨w.heap.size, 1, none⟩) (Nat.le_refl _) v1).setCell (p := ⟨w.heap.size, 2, none⟩) (Nat.le_refl _) v2).setCell (p := ⟨w.heap.size, 3, none⟩) (Nat.le_refl _) v3).setCell (p := ⟨w.heap.size, 4, none⟩) (Nat.le_refl _) v4
      have HC5 : Hid (∀ v0 v1 v2 v3 v4 : Value, ∃ W, (((((wr.setCell ⟨w.heap.size, 0, none⟩ v0).setCell ⟨w.heap.size, 1, none⟩ v1).setCell ⟨w.heap.size, 2, none⟩ v2).setCell ⟨w.heap.size, 3, none⟩ v3).setCell ⟨w.heap.size, 4, none⟩ v4) = W ∧ W.cell? ⟨w.heap.size, 0, none⟩ = some v0 ∧ W.cell? ⟨w.heap.size, 1, none⟩ = some v1 ∧ W.cell? ⟨w.heap.size, 2, none⟩ = some v2 ∧ W.cell? ⟨w.heap.size, 3, none⟩ = some v3 ∧ W.cell? ⟨w.heap.size, 4, none⟩ = some v4) := fun v0 v1 v2 v3 v4 => ⟨_, rfl, five_set r0 r1 r2 r3 r4 v0 v1 v2 v3 v4⟩
      go_wp2
      obtain ⟨W, hW, x0, x1, x2, x3, x4⟩ := HC5.out (.int .i64 (cntTo L L.length 0 : Int)) (.int .i64 (cntTo L L.length 1 : Int)) (.int .i64 (cntTo L L.length 2 : Int)) (.int .i64 (cntTo L L.length 3 : Int)) (.int .i64 (cntTo L L.length 4 : Int))
      have hb := HB.out (.int .i64 (cntTo L L.length 0 : Int)) (.int .i64 (cntTo L L.length 1 : Int)) (.int .i64 (cntTo L L.length 2 : Int)) (.int .i64 (cntTo L L.length 3 : Int)) (.int .i64 (cntTo L L.length 4 : Int))
      rw [hW] at hb ⊢
      refine bodyPost_ret (v := .agg #[.int .i64 (cntTo L L.length 0 : Int), .int .i64 (cntTo L L.length 1 : Int), .int .i64 (cntTo L L.length 2 : Int), .int .i64 (cntTo L L.length 3 : Int), .int .i64 (cntTo L L.length 4 : Int)]) (by simp [results, Tryd.results67, go_sem, x0, x1, x2, x3, x4]) rfl ⟨rfl, hb⟩
theorem cut_impl (k : Int) (w : World) : Calls Tryd.prog 68 #[.int .u8 k] w fun e w' => e = .returned (.bool (cutI k)) ∧ w = w' := by
  by_cases h1 : k = 84
  · subst h1
    go_enter Tryd.func68, Tryd.ntmps68
    go_wp2
    go_ret
    exact ⟨rfl, rfl⟩
  by_cases h2 : k = 66
  · subst h2
    go_enter Tryd.func68, Tryd.ntmps68
    go_wp2
    go_ret
    exact ⟨rfl, rfl⟩
  by_cases h3 : k = 67
  · subst h3
    go_enter Tryd.func68, Tryd.ntmps68
    go_wp2
    go_ret
    exact ⟨rfl, rfl⟩
  go_enter Tryd.func68, Tryd.ntmps68
  go_wp2
  go_ret
  exact ⟨ret_bool (by simp [cutI, h1, h2, h3]), rfl⟩
theorem nCut_counts (s : ByteArray) : nCut s = s.data.toList.count 84 + s.data.toList.count 66 + s.data.toList.count 67 := by
  unfold nCut
  induction s.data.toList with
  | nil => rfl
  | cons x l ih =>
    rw [List.countP_cons, List.count_cons, List.count_cons, List.count_cons, ih]
    by_cases h1 : x = 84
    · subst h1; simp [cutU]; omega
    by_cases h2 : x = 66
    · subst h2; simp [cutU]; omega
    by_cases h3 : x = 67
    · subst h3; simp [cutU]; omega
    simp [cutU, h1, h2, h3]
theorem one_str (wx : World) (s : ByteArray) : StrArg (wx.alloc (.cells #[.string s] 9)) (some ⟨wx.heap.size, 0, none⟩) [s] := .inr ⟨wx.heap.size, 0, rfl, fun k z hk => by
  match k, hk with
  | 0, hk => cases hk; rw [cell_of_row _ _ _ _ _ (0, 0) (heap_alloc_new wx _)]; rfl⟩
end Go.Proofs.YtllcpgogfhjfpaaDoor
