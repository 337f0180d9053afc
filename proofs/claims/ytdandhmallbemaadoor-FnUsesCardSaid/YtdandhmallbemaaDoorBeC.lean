/-
  The best mould: the program's order of moulds.
-/
import Derived.Test.YtdandhmallbemaaDoorBeP
import Derived.Test.YtdandhmallbemaaDoorMoD
import Derived.Test.YtdandhmallbemaaDoorCmp
import Derived.Deep.RegionHeld3
import Derived.Deep.RegionWith
namespace Go.Proofs.YtdandhmallbemaaDoor
open Go.ChangeShapes Go.WideShapes Go.ChangeAt Go.RowKit Go.Joins

set_option maxHeartbeats 1600000 in
theorem sum3_impl (d0 d1 d2 : Int) (h0 : 0 ≤ d0 ∧ d0 ≤ 1000) (h1 : 0 ≤ d1 ∧ d1 ≤ 1000) (h2 : 0 ≤ d2 ∧ d2 ≤ 1000) (g cap : Nat) (w : World) (hi : IntAt w g 0 [d0, d1, d2]) : Calls Tryd.prog 59 #[.slice (some ⟨g, 0, none⟩) 3 cap] w fun e w' => e = .returned (.int .i64 (d0 + d1 + d2)) ∧ w = w' := by
  have c0 := hi 0 d0 rfl
  have c1 := hi 1 d1 rfl
  have c2 := hi 2 d2 rfl
  simp only [Nat.zero_add] at c0 c1 c2
  clear hi
  go_enter Tryd.func59, Tryd.ntmps59
  go_wp2
  go_loop [3, 9] (fun v i => (v = .int .i64 0 ∧ i = .int .i64 0) ∨ (v = .int .i64 d0 ∧ i = .int .i64 1) ∨ (v = .int .i64 (d0 + d1) ∧ i = .int .i64 2) ∨ (v = .int .i64 (d0 + d1 + d2) ∧ i = .int .i64 3)) (fun _ i => 3 - (intOf i).toNat)
  case atStart => exact .inl ⟨rfl, rfl⟩
  case round =>
    rcases hrel with ⟨rfl, rfl⟩ | ⟨rfl, rfl⟩ | ⟨rfl, rfl⟩ | ⟨rfl, rfl⟩
    · go_wp2
      go_round
      case rel => exact .inr (.inl ⟨by simp, rfl⟩)
      case measure => simp [intOf]
    · go_wp2
      go_round
      case rel => exact .inr (.inr (.inl ⟨rfl, rfl⟩))
      case measure => simp [intOf]
    · go_wp2
      go_round
      case rel => exact .inr (.inr (.inr ⟨rfl, rfl⟩))
      case measure => simp [intOf]
    · go_wp2
      go_ret
      exact ⟨rfl, rfl⟩
/-- What compare answers. -/
def cmpV (s l wd ht : Int) (a b : Mo) : Int := if cmpI (offF a s l wd ht) (offF b s l wd ht) = 0 then cmpI a.us b.us else cmpI (offF a s l wd ht) (offF b s l wd ht)
theorem cmpV_lt {s l wd ht : Int} {a b : Mo} : cmpV s l wd ht a b < 0 ↔ keyLt s l wd ht a b := by
  unfold cmpV cmpI keyLt
  by_cases h1 : offF a s l wd ht < offF b s l wd ht
  · simp [h1]
  · by_cases h2 : offF b s l wd ht < offF a s l wd ht
    · have : ¬ offF a s l wd ht = offF b s l wd ht := by omega
      simp [h1, h2, this]
    · have e : offF a s l wd ht = offF b s l wd ht := by omega
      by_cases h3 : a.us < b.us
      · simp [e, h3]
      · by_cases h4 : b.us < a.us <;> simp [e, h3, h4]
theorem cmpV_range (s l wd ht : Int) (a b : Mo) : -1 ≤ cmpV s l wd ht a b ∧ cmpV s l wd ht a b ≤ 1 := by
  unfold cmpV cmpI
  repeat' split
  all_goals omega
theorem keepC_call {B : Nat} {w w1 w2 : World} {a b : Mo} {l wd ht j s : Int} (h : w1.cell? ⟨B, 0, none⟩ = some (.int .i64 l) ∧ w1.cell? ⟨B, 1, none⟩ = some (.int .i64 wd) ∧ w1.cell? ⟨B, 2, none⟩ = some (.int .i64 ht) ∧ w1.cell? ⟨B, 3, none⟩ = some (.int .i64 j) ∧ w1.cell? ⟨B, 4, none⟩ = some (.int .i64 s) ∧ w1.cell? ⟨B + 1, 0, none⟩ = some (.int .i64 a.le) ∧ w1.cell? ⟨B + 1, 1, none⟩ = some (.int .i64 a.wi) ∧ w1.cell? ⟨B + 1, 2, none⟩ = some (.int .i64 a.he) ∧ w1.cell? ⟨B + 1, 3, none⟩ = some (.int .i64 a.us) ∧ w1.cell? ⟨B + 2, 0, none⟩ = some (.int .i64 b.le) ∧ w1.cell? ⟨B + 2, 1, none⟩ = some (.int .i64 b.wi) ∧ w1.cell? ⟨B + 2, 2, none⟩ = some (.int .i64 b.he) ∧ w1.cell? ⟨B + 2, 3, none⟩ = some (.int .i64 b.us) ∧ Below B w w1 ∧ B + 3 ≤ w1.heap.size) (hb : Below w1.heap.size w1 w2) : w2.cell? ⟨B, 0, none⟩ = some (.int .i64 l) ∧ w2.cell? ⟨B, 1, none⟩ = some (.int .i64 wd) ∧ w2.cell? ⟨B, 2, none⟩ = some (.int .i64 ht) ∧ w2.cell? ⟨B, 3, none⟩ = some (.int .i64 j) ∧ w2.cell? ⟨B, 4, none⟩ = some (.int .i64 s) ∧ w2.cell? ⟨B + 1, 0, none⟩ = some (.int .i64 a.le) ∧ w2.cell? ⟨B + 1, 1, none⟩ = some (.int .i64 a.wi) ∧ w2.cell? ⟨B + 1, 2, none⟩ = some (.int .i64 a.he) ∧ w2.cell? ⟨B + 1, 3, none⟩ = some (.int .i64 a.us) ∧ w2.cell? ⟨B + 2, 0, none⟩ = some (.int .i64 b.le) ∧ w2.cell? ⟨B + 2, 1, none⟩ = some (.int .i64 b.wi) ∧ w2.cell? ⟨B + 2, 2, none⟩ = some (.int .i64 b.he) ∧ w2.cell? ⟨B + 2, 3, none⟩ = some (.int .i64 b.us) ∧ Below B w w2 ∧ B + 3 ≤ w2.heap.size := by
  obtain ⟨h0, h1, h2, h3, h4, h5, h6, h7, h8, h9, h10, h11, h12, h13, h14⟩ := h
  exact ⟨(hb.cell (p := ⟨B, 0, none⟩) (show B < w1.heap.size by omega)).trans h0, (hb.cell (p := ⟨B, 1, none⟩) (show B < w1.heap.size by omega)).trans h1, (hb.cell (p := ⟨B, 2, none⟩) (show B < w1.heap.size by omega)).trans h2, (hb.cell (p := ⟨B, 3, none⟩) (show B < w1.heap.size by omega)).trans h3, (hb.cell (p := ⟨B, 4, none⟩) (show B < w1.heap.size by omega)).trans h4, (hb.cell (p := ⟨B + 1, 0, none⟩) (show B + 1 < w1.heap.size by omega)).trans h5, (hb.cell (p := ⟨B + 1, 1, none⟩) (show B + 1 < w1.heap.size by omega)).trans h6, (hb.cell (p := ⟨B + 1, 2, none⟩) (show B + 1 < w1.heap.size by omega)).trans h7, (hb.cell (p := ⟨B + 1, 3, none⟩) (show B + 1 < w1.heap.size by omega)).trans h8, (hb.cell (p := ⟨B + 2, 0, none⟩) (show B + 2 < w1.heap.size by omega)).trans h9, (hb.cell (p := ⟨B + 2, 1, none⟩) (show B + 2 < w1.heap.size by omega)).trans h10, (hb.cell (p := ⟨B + 2, 2, none⟩) (show B + 2 < w1.heap.size by omega)).trans h11, (hb.cell (p := ⟨B + 2, 3, none⟩) (show B + 2 < w1.heap.size by omega)).trans h12, h13.trans (hb.mono (by omega)), Nat.le_trans h14 hb.size⟩
theorem keepC_start (w : World) (a b : Mo) (l wd ht j s : Int) : (((w.alloc (.cells #[.int .i64 l, .int .i64 wd, .int .i64 ht, .int .i64 j, .int .i64 s] 69)).alloc (.cells #[.int .i64 a.le, .int .i64 a.wi, .int .i64 a.he, .int .i64 a.us] 47)).alloc (.cells #[.int .i64 b.le, .int .i64 b.wi, .int .i64 b.he, .int .i64 b.us] 47)).cell? ⟨w.heap.size, 0, none⟩ = some (.int .i64 l) ∧ (((w.alloc (.cells #[.int .i64 l, .int .i64 wd, .int .i64 ht, .int .i64 j, .int .i64 s] 69)).alloc (.cells #[.int .i64 a.le, .int .i64 a.wi, .int .i64 a.he, .int .i64 a.us] 47)).alloc (.cells #[.int .i64 b.le, .int .i64 b.wi, .int .i64 b.he, .int .i64 b.us] 47)).cell? ⟨w.heap.size, 1, none⟩ = some (.int .i64 wd) ∧ (((w.alloc (.cells #[.int .i64 l, .int .i64 wd, .int .i64 ht, .int .i64 j, .int .i64 s] 69)).alloc (.cells #[.int .i64 a.le, .int .i64 a.wi, .int .i64 a.he, .int .i64 a.us] 47)).alloc (.cells #[.int .i64 b.le, .int .i64 b.wi, .int .i64 b.he, .int .i64 b.us] 47)).cell? ⟨w.heap.size, 2, none⟩ = some (.int .i64 ht) ∧ (((w.alloc (.cells #[.int .i64 l, .int .i64 wd, .int .i64 ht, .int .i64 j, .int .i64 s] 69)).alloc (.cells #[.int .i64 a.le, .int .i64 a.wi, .int .i64 a.he, .int .i64 a.us] 47)).alloc (.cells #[.int .i64 b.le, .int .i64 b.wi, .int .i64 b.he, .int .i64 b.us] 47)).cell? ⟨w.heap.size, 3, none⟩ = some (.int .i64 j) ∧ (((w.alloc (.cells #[.int .i64 l, .int .i64 wd, .int .i64 ht, .int .i64 j, .int .i64 s] 69)).alloc (.cells #[.int .i64 a.le, .int .i64 a.wi, .int .i64 a.he, .int .i64 a.us] 47)).alloc (.cells #[.int .i64 b.le, .int .i64 b.wi, .int .i64 b.he, .int .i64 b.us] 47)).cell? ⟨w.heap.size, 4, none⟩ = some (.int .i64 s) ∧ (((w.alloc (.cells #[.int .i64 l, .int .i64 wd, .int .i64 ht, .int .i64 j, .int .i64 s] 69)).alloc (.cells #[.int .i64 a.le, .int .i64 a.wi, .int .i64 a.he, .int .i64 a.us] 47)).alloc (.cells #[.int .i64 b.le, .int .i64 b.wi, .int .i64 b.he, .int .i64 b.us] 47)).cell? ⟨w.heap.size + 1, 0, none⟩ = some (.int .i64 a.le) ∧ (((w.alloc (.cells #[.int .i64 l, .int .i64 wd, .int .i64 ht, .int .i64 j, .int .i64 s] 69)).alloc (.cells #[.int .i64 a.le, .int .i64 a.wi, .int .i64 a.he, .int .i64 a.us] 47)).alloc (.cells #[.int .i64 b.le, .int .i64 b.wi, .int .i64 b.he, .int .i64 b.us] 47)).cell? ⟨w.heap.size + 1, 1, none⟩ = some (.int .i64 a.wi) ∧ (((w.alloc (.cells #[.int .i64 l, .int .i64 wd, .int .i64 ht, .int .i64 j, .int .i64 s] 69)).alloc (.cells #[.int .i64 a.le, .int .i64 a.wi, .int .i64 a.he, .int .i64 a.us] 47)).alloc (.cells #[.int .i64 b.le, .int .i64 b.wi, .int .i64 b.he, .int .i64 b.us] 47)).cell? ⟨w.heap.size + 1, 2, none⟩ = some (.int .i64 a.he) ∧ (((w.alloc (.cells #[.int .i64 l, .int .i64 wd, .int .i64 ht, .int .i64 j, .int .i64 s] 69)).alloc (.cells #[.int .i64 a.le, .int .i64 a.wi, .int .i64 a.he, .int .i64 a.us] 47)).alloc (.cells #[.int .i64 b.le, .int .i64 b.wi, .int .i64 b.he, .int .i64 b.us] 47)).cell? ⟨w.heap.size + 1, 3, none⟩ = some (.int .i64 a.us) ∧ (((w.alloc (.cells #[.int .i64 l, .int .i64 wd, .int .i64 ht, .int .i64 j, .int .i64 s] 69)).alloc (.cells #[.int .i64 a.le, .int .i64 a.wi, .int .i64 a.he, .int .i64 a.us] 47)).alloc (.cells #[.int .i64 b.le, .int .i64 b.wi, .int .i64 b.he, .int .i64 b.us] 47)).cell? ⟨w.heap.size + 2, 0, none⟩ = some (.int .i64 b.le) ∧ (((w.alloc (.cells #[.int .i64 l, .int .i64 wd, .int .i64 ht, .int .i64 j, .int .i64 s] 69)).alloc (.cells #[.int .i64 a.le, .int .i64 a.wi, .int .i64 a.he, .int .i64 a.us] 47)).alloc (.cells #[.int .i64 b.le, .int .i64 b.wi, .int .i64 b.he, .int .i64 b.us] 47)).cell? ⟨w.heap.size + 2, 1, none⟩ = some (.int .i64 b.wi) ∧ (((w.alloc (.cells #[.int .i64 l, .int .i64 wd, .int .i64 ht, .int .i64 j, .int .i64 s] 69)).alloc (.cells #[.int .i64 a.le, .int .i64 a.wi, .int .i64 a.he, .int .i64 a.us] 47)).alloc (.cells #[.int .i64 b.le, .int .i64 b.wi, .int .i64 b.he, .int .i64 b.us] 47)).cell? ⟨w.heap.size + 2, 2, none⟩ = some (.int .i64 b.he) ∧ (((w.alloc (.cells #[.int .i64 l, .int .i64 wd, .int .i64 ht, .int .i64 j, .int .i64 s] 69)).alloc (.cells #[.int .i64 a.le, .int .i64 a.wi, .int .i64 a.he, .int .i64 a.us] 47)).alloc (.cells #[.int .i64 b.le, .int .i64 b.wi, .int .i64 b.he, .int .i64 b.us] 47)).cell? ⟨w.heap.size + 2, 3, none⟩ = some (.int .i64 b.us) ∧ Below w.heap.size w (((w.alloc (.cells #[.int .i64 l, .int .i64 wd, .int .i64 ht, .int .i64 j, .int .i64 s] 69)).alloc (.cells #[.int .i64 a.le, .int .i64 a.wi, .int .i64 a.he, .int .i64 a.us] 47)).alloc (.cells #[.int .i64 b.le, .int .i64 b.wi, .int .i64 b.he, .int .i64 b.us] 47)) ∧ w.heap.size + 3 ≤ (((w.alloc (.cells #[.int .i64 l, .int .i64 wd, .int .i64 ht, .int .i64 j, .int .i64 s] 69)).alloc (.cells #[.int .i64 a.le, .int .i64 a.wi, .int .i64 a.he, .int .i64 a.us] 47)).alloc (.cells #[.int .i64 b.le, .int .i64 b.wi, .int .i64 b.he, .int .i64 b.us] 47)).heap.size := by
  have r1 : (((w.alloc (.cells #[.int .i64 l, .int .i64 wd, .int .i64 ht, .int .i64 j, .int .i64 s] 69)).alloc (.cells #[.int .i64 a.le, .int .i64 a.wi, .int .i64 a.he, .int .i64 a.us] 47)).alloc (.cells #[.int .i64 b.le, .int .i64 b.wi, .int .i64 b.he, .int .i64 b.us] 47)).rangeAt w.heap.size 0 [.int .i64 l, .int .i64 wd, .int .i64 ht, .int .i64 j, .int .i64 s] := World.rangeAt_alloc (range_old w _ #[.int .i64 l, .int .i64 wd, .int .i64 ht, .int .i64 j, .int .i64 s] 69) _
  have r2 : (((w.alloc (.cells #[.int .i64 l, .int .i64 wd, .int .i64 ht, .int .i64 j, .int .i64 s] 69)).alloc (.cells #[.int .i64 a.le, .int .i64 a.wi, .int .i64 a.he, .int .i64 a.us] 47)).alloc (.cells #[.int .i64 b.le, .int .i64 b.wi, .int .i64 b.he, .int .i64 b.us] 47)).rangeAt (w.heap.size + 1) 0 a.vals := World.rangeAt_alloc (range_new2 w _ #[.int .i64 a.le, .int .i64 a.wi, .int .i64 a.he, .int .i64 a.us] 47) _
  have r3 : (((w.alloc (.cells #[.int .i64 l, .int .i64 wd, .int .i64 ht, .int .i64 j, .int .i64 s] 69)).alloc (.cells #[.int .i64 a.le, .int .i64 a.wi, .int .i64 a.he, .int .i64 a.us] 47)).alloc (.cells #[.int .i64 b.le, .int .i64 b.wi, .int .i64 b.he, .int .i64 b.us] 47)).rangeAt (w.heap.size + 2) 0 b.vals := by
    have h := range_new2 (w.alloc (.cells #[.int .i64 l, .int .i64 wd, .int .i64 ht, .int .i64 j, .int .i64 s] 69)) (.cells #[.int .i64 a.le, .int .i64 a.wi, .int .i64 a.he, .int .i64 a.us] 47) #[.int .i64 b.le, .int .i64 b.wi, .int .i64 b.he, .int .i64 b.us] 47
    rwa [show (w.alloc (.cells #[.int .i64 l, .int .i64 wd, .int .i64 ht, .int .i64 j, .int .i64 s] 69)).heap.size + 1 = w.heap.size + 2 by simp] at h
  have s2 := boxedMo r2
  have s3 := boxedMo r3
  exact ⟨r1 0 _ rfl, r1 1 _ rfl, r1 2 _ rfl, r1 3 _ rfl, r1 4 _ rfl, s2.1, s2.2.1, s2.2.2.1, s2.2.2.2, s3.1, s3.2.1, s3.2.2.1, s3.2.2.2, balloc (balloc (balloc0 _ _) _) _, by simp⟩

set_option maxRecDepth 100000 in
set_option maxHeartbeats 6400000 in
theorem compare_impl (l wd ht j s : Int) (hf : okB l wd ht j = true) (s0 : 0 ≤ s) (s1 : s ≤ 200) (a b : Mo) (ha : a.ok = true) (hb : b.ok = true) (w : World) : Calls Tryd.prog 40 #[.agg #[.int .i64 l, .int .i64 wd, .int .i64 ht, .int .i64 j, .int .i64 s], .agg #[.int .i64 a.le, .int .i64 a.wi, .int .i64 a.he, .int .i64 a.us], .agg #[.int .i64 b.le, .int .i64 b.wi, .int .i64 b.he, .int .i64 b.us]] w fun e w' => e = .returned (.int .i64 (cmpV s l wd ht a b)) ∧ Below w.heap.size w w' := by
  have K0 := keepC_start w a b l wd ht j s
  have DA := Lib.hid (diffs_impl l wd ht j s hf s0 s1 a ha)
  have DB := Lib.hid (diffs_impl l wd ht j s hf s0 s1 b hb)
  have SA : Hid (∀ (g cap : Nat) (wx : World), IntAt wx g 0 (diffL a s l wd ht) → Calls Tryd.prog 59 #[.slice (some ⟨g, 0, none⟩) 3 cap] wx fun e w' => e = .returned (.int .i64 (offF a s l wd ht)) ∧ wx = w') := fun g cap wx h => sum3_impl _ _ _ (absD_range (firedL_range ha s0 s1 (k := 0) rfl) (okB_size hf (k := 0) rfl)) (absD_range (firedL_range ha s0 s1 (k := 1) rfl) (okB_size hf (k := 1) rfl)) (absD_range (firedL_range ha s0 s1 (k := 2) rfl) (okB_size hf (k := 2) rfl)) g cap wx h
  have SB : Hid (∀ (g cap : Nat) (wx : World), IntAt wx g 0 (diffL b s l wd ht) → Calls Tryd.prog 59 #[.slice (some ⟨g, 0, none⟩) 3 cap] wx fun e w' => e = .returned (.int .i64 (offF b s l wd ht)) ∧ wx = w') := fun g cap wx h => sum3_impl _ _ _ (absD_range (firedL_range hb s0 s1 (k := 0) rfl) (okB_size hf (k := 0) rfl)) (absD_range (firedL_range hb s0 s1 (k := 1) rfl) (okB_size hf (k := 1) rfl)) (absD_range (firedL_range hb s0 s1 (k := 2) rfl) (okB_size hf (k := 2) rfl)) g cap wx h
  have HV : Hid (cmpV s l wd ht a b = if cmpI (offF a s l wd ht) (offF b s l wd ht) = 0 then cmpI a.us b.us else cmpI (offF a s l wd ht) (offF b s l wd ht)) := rfl
  obtain ⟨DLa, hda⟩ : ∃ D, diffL a s l wd ht = D := ⟨_, rfl⟩
  obtain ⟨DLb, hdb⟩ : ∃ D, diffL b s l wd ht = D := ⟨_, rfl⟩
  obtain ⟨x, hx⟩ : ∃ x, offF a s l wd ht = x := ⟨_, rfl⟩
  obtain ⟨y, hy⟩ : ∃ y, offF b s l wd ht = y := ⟨_, rfl⟩
  rw [hda] at DA SA
  rw [hdb] at DB SB
  rw [hx] at SA HV
  rw [hy] at SB HV
  have C1 := Lib.hid (cmp_impl x y)
  have C2 := Lib.hid (cmp_impl a.us b.us)
  obtain ⟨u, hu⟩ : ∃ u, cmpI x y = u := ⟨_, rfl⟩
  obtain ⟨v, hv⟩ : ∃ v, cmpI a.us b.us = v := ⟨_, rfl⟩
  rw [hu] at C1 HV
  rw [hv] at C2 HV
  obtain ⟨r, hr⟩ : ∃ r, cmpV s l wd ht a b = r := ⟨_, rfl⟩
  rw [hr] at HV ⊢
  have OR : Hid (∀ (g : Nat) (wx : World), wx.cell? ⟨g, 0, none⟩ = some (.int .i64 u) → wx.cell? ⟨g, 1, none⟩ = some (.int .i64 v) → Calls Tryd.prog 57 #[.slice (some ⟨g, 0, none⟩) 2 2] wx fun e w' => e = .returned (.int .i64 r) ∧ wx = w') := fun g wx h1 h2 => or_impl u v r HV.out.symm g wx h1 h2
  obtain ⟨W0, hW⟩ : ∃ W0, ((w.alloc (.cells #[.int .i64 l, .int .i64 wd, .int .i64 ht, .int .i64 j, .int .i64 s] 69)).alloc (.cells #[.int .i64 a.le, .int .i64 a.wi, .int .i64 a.he, .int .i64 a.us] 47)).alloc (.cells #[.int .i64 b.le, .int .i64 b.wi, .int .i64 b.he, .int .i64 b.us] 47) = W0 := ⟨_, rfl⟩
  rw [hW] at K0
  have HW := Lib.hid hW
  clear hW hda hdb hx hy hu hv hr hf s0 s1 ha hb HV
  go_enter Tryd.func40, Tryd.ntmps40
  go_wp2_with fail
  rw [HW.out]
  go_region_held3 (fun w' => w'.cell? ⟨w.heap.size, 0, none⟩ = some (.int .i64 l) ∧ w'.cell? ⟨w.heap.size, 1, none⟩ = some (.int .i64 wd) ∧ w'.cell? ⟨w.heap.size, 2, none⟩ = some (.int .i64 ht) ∧ w'.cell? ⟨w.heap.size, 3, none⟩ = some (.int .i64 j) ∧ w'.cell? ⟨w.heap.size, 4, none⟩ = some (.int .i64 s) ∧ w'.cell? ⟨w.heap.size + 1, 0, none⟩ = some (.int .i64 a.le) ∧ w'.cell? ⟨w.heap.size + 1, 1, none⟩ = some (.int .i64 a.wi) ∧ w'.cell? ⟨w.heap.size + 1, 2, none⟩ = some (.int .i64 a.he) ∧ w'.cell? ⟨w.heap.size + 1, 3, none⟩ = some (.int .i64 a.us) ∧ w'.cell? ⟨w.heap.size + 2, 0, none⟩ = some (.int .i64 b.le) ∧ w'.cell? ⟨w.heap.size + 2, 1, none⟩ = some (.int .i64 b.wi) ∧ w'.cell? ⟨w.heap.size + 2, 2, none⟩ = some (.int .i64 b.he) ∧ w'.cell? ⟨w.heap.size + 2, 3, none⟩ = some (.int .i64 b.us) ∧ Below w.heap.size w w' ∧ w.heap.size + 3 ≤ w'.heap.size)
    (first | exact keepC_call (by assumption) hb | exact keepC_call (by assumption) (balloc0 _ _) | assumption | exact keepC_call K0 (Below.refl _ _).drew)
    (first
      | (go_at_call_of 49 (Value.int .i64 a.le); refine (DA.out _).mono ?_; rintro e w2 ⟨ga, ca, rfl, oa, hb⟩; have RA := Lib.hid oa.2.1; clear oa)
      | (go_at_call_of 49 (Value.int .i64 b.le); refine (DB.out _).mono ?_; rintro e w2 ⟨gb, cb, rfl, ob, hb⟩; have RB := Lib.hid ob.2.1; clear ob)
      | (go_at_call_of 59 (Value.slice (some ⟨ga, 0, none⟩) 3 ca); refine (SA.out _ _ _ RA.out).mono ?_; rintro e w2 ⟨rfl, rfl⟩)
      | (go_at_call_of 59 (Value.slice (some ⟨gb, 0, none⟩) 3 cb); refine (SB.out _ _ _ RB.out).mono ?_; rintro e w2 ⟨rfl, rfl⟩)
      | (go_at_call_of 58 (Value.int .i64 x); refine (C1.out _).mono ?_; rintro e w2 ⟨rfl, rfl⟩)
      | (go_at_call_of 58 (Value.int .i64 a.us); refine (C2.out _).mono ?_; rintro e w2 ⟨rfl, rfl⟩)
      | (go_at_call 57; refine (OR.out _ _ ?_ ?_).mono ?_; exact (cell_of_row _ _ _ _ _ (0, 0) (heap_alloc_new _ _)); exact (cell_of_row _ _ _ _ _ (0, 0) (heap_alloc_new _ _)); rintro e w2 ⟨rfl, rfl⟩))
  all_goals
    go_wp2
    go_split_ands
    go_ret
    exact ⟨rfl, by assumption⟩
end Go.Proofs.YtdandhmallbemaaDoor
