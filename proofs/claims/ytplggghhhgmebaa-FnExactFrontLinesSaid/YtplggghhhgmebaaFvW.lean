/-
  Whether a front is valid, its code with a number: the model's word and the program's.
-/
import Derived.Test.YtplggghhhgmebaaFvM
import Derived.Test.YtplggghhhgmebaaFvJ
namespace Go.Proofs.Ytplggghhhgmebaa
open Go.ChangeShapes Go.WideShapes Go.ChangeAt Go.RowKit Go.Joins

set_option maxRecDepth 100000 in
set_option maxHeartbeats 1600000 in
theorem valid_frspec (F C : Int) (L : List Og) (a : Option Addr) (cap : Nat) (hl : L.length ≤ 1048576) (w : World) (ha : OgArg w a L) :
    Calls Try.prog 14 #[.agg #[.int .i64 F, .int .i64 C, .slice a L.length cap]] w fun e w' => e = .returned (.bool (okFr F C L)) ∧ Below w.heap.size w w' := by
  have X := Lib.hid (okF_spec F C L a cap hl w.heap.size (w.alloc (.cells #[.int .i64 F, .int .i64 C, .slice a L.length cap] 29)) (FrBox.new w F C a cap L 29) (ha.later (balloc0 _ _)))
  clear ha
  go_enter Try.func14, Try.ntmps14
  go_wp2_with fail
  refine X.out.mono ?_
  rintro e w1 ⟨rfl, hb1⟩
  have B1 := Lib.hid (bnext (balloc0 w _) hb1)
  clear hb1
  go_wp2
  go_ret
  exact ⟨rfl, B1.out⟩
set_option maxRecDepth 100000 in
set_option maxHeartbeats 1600000 in
theorem checkFront_impl (F C : Int) (L : List Og) (a : Option Addr) (cap : Nat) (hl : L.length ≤ 1048576) (hcap : L.length ≤ cap) (n low high : Int) (w : World) (ha : OgArg w a L) :
    Calls Try.prog 66 #[.agg #[.int .i64 F, .int .i64 C, .slice a L.length cap], .int .i64 n, .int .i64 low, .int .i64 high] w fun e w' => e = .returned (.int .i64 (frK F C L n low high)) ∧ Below w.heap.size w w' := by
  have X := Lib.hid (fun wx (hx : Below w.heap.size w wx) => validFront_impl F C L a cap hl hcap wx (ha.later hx))
  have W := Lib.hid (within_impl n low high)
  have HK : Hid (frK F C L n low high = if okFr F C L = true then (if inB n low high = true then 0 else 2) else 1) := rfl
  obtain ⟨r, hr⟩ : ∃ r, frK F C L n low high = r := ⟨_, rfl⟩
  rw [hr] at HK ⊢
  clear ha hr
  cases h1 : okFr F C L
  · rw [h1] at X HK
    clear h1
    go_enter Try.func66, Try.ntmps66
    go_wp2_with (go_at_call 16; first | refine (X.out _ (Below.refl _ _)).mono ?_ | refine (X.out _ (balloc0 _ _)).mono ?_; rintro e w1 ⟨rfl, hb1⟩; have B1 := Lib.hid hb1; clear hb1)
    go_ret
    first | exact ⟨ret_int (by rw [HK.out]; rfl), B1.out⟩ | exact ⟨ret_int (by rw [HK.out]; rfl), bnext (balloc0 _ _) B1.out⟩
  · cases h2 : inB n low high
    all_goals
      rw [h1] at X HK
      rw [h2] at W HK
      clear h1 h2
      go_enter Try.func66, Try.ntmps66
      go_wp2_with (first | (go_at_call 16; first | refine (X.out _ (Below.refl _ _)).mono ?_ | refine (X.out _ (balloc0 _ _)).mono ?_; rintro e w1 ⟨rfl, hb1⟩; have B1 := Lib.hid hb1; clear hb1) | (go_at_call 49; refine (W.out _).mono ?_; rintro e w1 ⟨rfl, rfl⟩))
      go_ret
      first | exact ⟨ret_int (by rw [HK.out]; rfl), B1.out⟩ | exact ⟨ret_int (by rw [HK.out]; rfl), bnext (balloc0 _ _) B1.out⟩
set_option maxRecDepth 100000 in
set_option maxHeartbeats 1600000 in
theorem code_frspec (F C : Int) (L : List Og) (a : Option Addr) (cap : Nat) (hl : L.length ≤ 1048576) (fb : Nat) (n : Int) (hC : 1 ≤ C ∧ C ≤ 40 ∨ okFr F C L = false) (w : World) (hf : FrBox fb F C a cap L w) (ha : OgArg w a L) :
    Calls Try.prog 64 #[.pointer (some ⟨fb, 0, none⟩), .int .i64 n] w fun e w' => e = .returned (.int .i64 (frK F C L n 0 (C - 1))) ∧ Below w.heap.size w w' := by
  have X := Lib.hid (fun wx (hx : Below w.heap.size w wx) => okF_spec F C L a cap hl fb wx (hf.later hx) (ha.later hx))
  have FB := Lib.hid hf
  have W := Lib.hid (in_any n 0 (C - 1))
  have HK : Hid (frK F C L n 0 (C - 1) = if okFr F C L = true then (if inB n 0 (C - 1) = true then 0 else 2) else 1) := rfl
  obtain ⟨r, hr⟩ : ∃ r, frK F C L n 0 (C - 1) = r := ⟨_, rfl⟩
  rw [hr] at HK ⊢
  clear ha hr hf
  cases h1 : okFr F C L
  · rw [h1] at X HK
    clear h1 hC
    go_enter Try.func64, Try.ntmps64
    go_wp2_with (go_at_call 47; refine (X.out _ (Below.refl _ _)).mono ?_; rintro e w1 ⟨rfl, hb1⟩; have B1 := Lib.hid hb1; obtain ⟨q0, q1, q2⟩ := FB.out.later hb1; clear hb1)
    go_ret
    exact ⟨ret_int (by rw [HK.out]; rfl), B1.out⟩
  · have hc : 1 ≤ C ∧ C ≤ 40 := hC.elim id (fun h => by rw [h1] at h; cases h)
    obtain ⟨hc0, hc1⟩ := hc
    clear hC
    cases h2 : inB n 0 (C - 1)
    all_goals
      rw [h1] at X HK
      rw [h2] at W HK
      clear h1 h2
      go_enter Try.func64, Try.ntmps64
      go_wp2_with (first | (go_at_call 47; refine (X.out _ (Below.refl _ _)).mono ?_; rintro e w1 ⟨rfl, hb1⟩; have B1 := Lib.hid hb1; obtain ⟨q0, q1, q2⟩ := FB.out.later hb1; clear hb1) | (go_at_call 71; refine (W.out _).mono ?_; rintro e w1 ⟨rfl, rfl⟩))
      go_ret
      exact ⟨ret_int (by rw [HK.out]; rfl), B1.out⟩
end Go.Proofs.Ytplggghhhgmebaa
