/-
  The program's blends that are kept, and CountBlends.
-/
import Derived.Test.YtpmklnldgafkjaaKeepI
import Derived.Test.YtpmklnldgafkjaaCheapS
namespace Go.Proofs.Ytpmklnldgafkjaa
open Go.ChangeShapes Go.WideShapes Go.ChangeAt Go.RowKit Go.Joins

/-- What keptBlends hands back: the rows, whose block is none of theirs. -/
def RowsAt (B : Nat) (K : List (List Int)) (vk : Value) (w : World) : Prop :=
  ∃ rows : List Value, w.ownsRow B 39 1 vk K.length rows ∧ ∀ (j : Nat) (P : List Int), K[j]? = some P → ∃ h ch, rows[j]? = some (.slice (some ⟨h, 0, none⟩) P.length ch) ∧ IntOwn B P h w
theorem RowsAt.later {B : Nat} {K : List (List Int)} {vk : Value} {w w' : World} (h : RowsAt B K vk w) (hb : Below w.heap.size w w') : RowsAt B K vk w' := by
  obtain ⟨rows, h1, h2⟩ := h
  refine ⟨rows, h1.kept (below_grown hb) (by cases e : vk.ownBlock <;> simp), fun j P hj => ?_⟩
  obtain ⟨q, cq, e1, e2⟩ := h2 j P hj
  exact ⟨q, cq, e1, e2.later hb⟩

set_option maxRecDepth 100000 in
theorem keep_start (w : World) (L : List Cl) (a : Option Addr) (cap : Nat) (x : Li) (C : Array Value) (hC : C.size = L.length) :
    Keep w L a cap x [] [] (.slice none 0 0) ((((w.alloc (.cells #[.slice a L.length cap] 25)).alloc (.cells #[.int .i64 x.lo, .int .i64 x.hi, .int .i64 x.ml, .int .i64 x.ms] 52)).alloc (.cells #[.slice none 0 0] 100)).alloc (.cells C 2)) := by
  have e1 := heap_alloc_new w (.cells #[.slice a L.length cap] 25)
  have e2 := heap_alloc_new (w.alloc (.cells #[.slice a L.length cap] 25)) (.cells #[.int .i64 x.lo, .int .i64 x.hi, .int .i64 x.ml, .int .i64 x.ms] 52)
  have e3 := heap_alloc_new ((w.alloc (.cells #[.slice a L.length cap] 25)).alloc (.cells #[.int .i64 x.lo, .int .i64 x.hi, .int .i64 x.ml, .int .i64 x.ms] 52)) (.cells #[.slice none 0 0] 100)
  have e4 := heap_alloc_new (((w.alloc (.cells #[.slice a L.length cap] 25)).alloc (.cells #[.int .i64 x.lo, .int .i64 x.hi, .int .i64 x.ml, .int .i64 x.ms] 52)).alloc (.cells #[.slice none 0 0] 100)) (.cells C 2)
  have s1 : (w.alloc (.cells #[.slice a L.length cap] 25)).heap.size = w.heap.size + 1 := by simp
  have s2 : ((w.alloc (.cells #[.slice a L.length cap] 25)).alloc (.cells #[.int .i64 x.lo, .int .i64 x.hi, .int .i64 x.ml, .int .i64 x.ms] 52)).heap.size = w.heap.size + 1 + 1 := by simp
  have s3 : (((w.alloc (.cells #[.slice a L.length cap] 25)).alloc (.cells #[.int .i64 x.lo, .int .i64 x.hi, .int .i64 x.ml, .int .i64 x.ms] 52)).alloc (.cells #[.slice none 0 0] 100)).heap.size = w.heap.size + 1 + 1 + 1 := by simp
  rw [s1] at e2
  rw [s2] at e3
  rw [s3] at e4
  refine ⟨?_, ?_, ?_, ⟨C, e4, hC, rfl⟩, ⟨[], World.ownsRow_nil _ _ _ _, fun j P h => by simp at h⟩, balloc (balloc (balloc (balloc0 _ _) _) _) _, Nat.zero_le _, by simp⟩
  · exact (heap_alloc_old _ _ (by rw [s3]; omega)).trans ((heap_alloc_old _ _ (by rw [s2]; omega)).trans ((heap_alloc_old _ _ (by rw [s1]; omega)).trans e1))
  · exact (heap_alloc_old _ _ (by rw [s3]; omega)).trans ((heap_alloc_old _ _ (by rw [s2]; omega)).trans e2)
  · exact (heap_alloc_old _ _ (by rw [s3]; omega)).trans e3

set_option maxRecDepth 100000 in
set_option maxHeartbeats 3200000 in
theorem kept_impl (L : List Cl) (a : Option Addr) (cap : Nat) (T : Nat) (x : Li) (h1 : 1 ≤ T) (h2 : T ≤ 12) (hL : okCls L = true) (hx : x.ok = true) (w : World) (ha : ClArg w a L) :
    Calls Try.prog 85 #[.slice a L.length cap, .int .i64 (T : Nat), .agg #[.int .i64 x.lo, .int .i64 x.hi, .int .i64 x.ml, .int .i64 x.ms]] w fun e w' => ∃ vk, e = .returned vk ∧ RowsAt w.heap.size (kp (okK L x) [] L.length T) vk w' ∧ Below w.heap.size w w' := by
  have H6 := (okCls_all hL).1
  have HF := combs_few (m := L.length) (r := T) H6 h2
  have hmk := make_ints L.length (by omega) (((w.alloc (.cells #[.slice a L.length cap] 25)).alloc (.cells #[.int .i64 x.lo, .int .i64 x.hi, .int .i64 x.ml, .int .i64 x.ms] 52)).alloc (.cells #[.slice none 0 0] 100))
  obtain ⟨C, hC⟩ : ∃ C, madeCells #[.int .i64 0] L.length = C := ⟨_, rfl⟩
  have hCs : C.size = L.length := by rw [← hC, size_madeCells]
  rw [hC] at hmk
  rw [show (((w.alloc (.cells #[.slice a L.length cap] 25)).alloc (.cells #[.int .i64 x.lo, .int .i64 x.hi, .int .i64 x.ml, .int .i64 x.ms] 52)).alloc (.cells #[.slice none 0 0] 100)).heap.size = w.heap.size + 1 + 1 + 1 by simp] at hmk
  have S := keep_start w L a cap x C hCs
  have W := Lib.hid (each_walk w L a cap x T h1 h2 hL hx ha L.length T [] [] _ _ (by simp) rfl (by simp [sumP, sumTo]) (by simp [sumP, sumTo]) (by simp; omega) S)
  rw [List.nil_append] at W
  clear hC hCs S hL hx ha HF
  go_enter Try.func85, Try.ntmps85
  go_wp2_with fail
  refine W.out.mono ?_
  intro e w1 hE
  unfold KeepE at hE
  obtain ⟨rfl, vk, hE⟩ := hE
  have H1 := Lib.hid hE
  obtain ⟨-, -, -, -, -, b0⟩ := hE.cells
  clear hE hmk W
  go_wp2
  go_ret
  obtain ⟨rows, k1, k2⟩ := H1.out.kept
  refine ⟨vk, rfl, ⟨rows, ?_, fun j P hj => ?_⟩, H1.out.bel⟩
  · obtain ⟨q1, q2 | ⟨g, c, cur, q2, q3, q4⟩⟩ := k1
    · exact ⟨q1, .inl q2⟩
    · exact ⟨q1, .inr ⟨g, c, cur, q2, by omega, q4⟩⟩
  · obtain ⟨q, cq, e1, e2, _⟩ := k2 j P hj
    exact ⟨q, cq, e1, e2.mono' (by omega)⟩
end Go.Proofs.Ytpmklnldgafkjaa
