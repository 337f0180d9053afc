/-
  PartsOf: the program's word, and the model's.
-/
import Derived.Test.YtplggghhhgmebaaPt
import Derived.Test.YtplggghhhgmebaaPqJ
import Derived.Test.YtplggghhhgmebaaPqS
import Derived.Test.YtplggghhhgmebaaFvW
import Derived.Test.YtplggghhhgmebaaPtL
import Derived.Test.YtplggghhhgmebaaLnI
namespace Go.Proofs.Ytplggghhhgmebaa
open Go.ChangeShapes Go.WideShapes Go.ChangeAt Go.RowKit Go.Joins
set_option maxRecDepth 100000 in
set_option maxHeartbeats 40000000 in
theorem partsOf_impl (F C : Int) (L : List Og) (a : Option Addr) (cap : Nat) (hl : L.length ≤ 1048576) (hcap : L.length ≤ cap) (x : Int) (w : World) (ha : OgArg w a L) :
    Calls Try.prog 26 #[.agg #[.int .i64 F, .int .i64 C, .slice a L.length cap], .int .i64 x] w fun e w' => ∃ a' cp, e = .returned (.tuple #[.slice a' (poL F C L x).length cp, .int .i64 (poK F C L x)]) ∧ PtRes w.heap.size (poL F C L x) a' w' ∧ Below w.heap.size w w' := by
  have FB' := FrBox.new w F C a cap L 29
  have E0' := Lib.hid (balloc0 w (.cells #[.int .i64 F, .int .i64 C, .slice a L.length cap] 29))
  have z0 : (w.alloc (.cells #[.int .i64 F, .int .i64 C, .slice a L.length cap] 29)).heap.size = w.heap.size + 1 := by simp
  obtain ⟨W0, hW⟩ : ∃ W0, w.alloc (.cells #[.int .i64 F, .int .i64 C, .slice a L.length cap] 29) = W0 := ⟨_, rfl⟩
  rw [hW] at FB' E0' z0
  have FB := Lib.hid FB'
  have E0 := Lib.hid E0'.out
  have HA := Lib.hid (ha.later E0.out)
  have HW := Lib.hid hW
  clear hW E0' FB' ha
  cases hok : okFr F C L
  · have e1 : poK F C L x = 1 := frK_inv hok
    have e2 : poL F C L x = [] := by simp [poL, e1]
    rw [e1, e2]
    have X := Lib.hid (fun y => show _ from by have h := checkFront_impl F C L a cap hl hcap x 0 y W0 HA.out; rw [frK_inv hok] at h; exact h)
    clear e1 e2 hok
    go_enter Try.func26, Try.ntmps26
    go_wp2_with fail
    rw [HW.out]
    obtain ⟨q0, q1, q2⟩ := FB.out
    go_wp2_with fail
    refine (X.out _).mono ?_
    rintro e w1 ⟨rfl, hb1⟩
    have B1 := Lib.hid hb1
    clear hb1 q0 q1 q2
    go_wp2
    go_ret2
    exact ⟨none, 0, rfl, .inl rfl, bnext E0.out B1.out⟩
  have hF := okFr_true.1 hok
  have hc0 : 1 ≤ C := hF.fc.1
  have hc1 : C ≤ 40 := hF.fc.2
  cases hik : inB x 0 (C - 1)
  · have e1 : poK F C L x = 2 := frK_rng hok hik
    have e2 : poL F C L x = [] := by simp [poL, e1]
    rw [e1, e2]
    have X := Lib.hid (show _ from by have h := checkFront_impl F C L a cap hl hcap x 0 (C - 1) W0 HA.out; rw [frK_rng hok hik] at h; exact h)
    clear e1 e2 hok hik hF
    go_enter Try.func26, Try.ntmps26
    go_wp2_with fail
    rw [HW.out]
    obtain ⟨q0, q1, q2⟩ := FB.out
    go_wp2_with fail
    refine (X.out).mono ?_
    rintro e w1 ⟨rfl, hb1⟩
    have B1 := Lib.hid hb1
    clear hb1 q0 q1 q2
    go_wp2
    go_ret2
    exact ⟨none, 0, rfl, .inl rfl, bnext E0.out B1.out⟩
  have e1 : poK F C L x = 0 := frK_ok hok hik
  have e2 : poL F C L x = partsF F L x := by simp [poL, e1]
  rw [e1, e2]
  have X := Lib.hid (show _ from by have h := checkFront_impl F C L a cap hl hcap x 0 (C - 1) W0 HA.out; rw [frK_ok hok hik] at h; exact h)
  have P := Lib.hid (fun wx (hx : Below W0.heap.size W0 wx) => parts_impl F C L a cap hF x wx (HA.out.later hx))
  clear e1 e2 hok hik hF
  go_enter Try.func26, Try.ntmps26
  go_wp2_with fail
  rw [HW.out]
  obtain ⟨q0, q1, q2⟩ := FB.out
  go_wp2_with fail
  refine (X.out).mono ?_
  rintro e w1 ⟨rfl, hb1⟩
  have B1 := Lib.hid hb1
  clear hb1 q0 q1 q2
  obtain ⟨q0, q1, q2⟩ := FB.out.later B1.out
  go_wp2_with fail
  refine (P.out _ B1.out).mono ?_
  rintro e w2 ⟨v, rfl, hv, hb2⟩
  obtain ⟨a', cp, rfl, hr⟩ := own_ptform hv
  have B2 := Lib.hid (bnext B1.out hb2)
  have zz := B1.out.size
  have R := Lib.hid (hr.mono (B' := w.heap.size) (by omega))
  clear hv hr hb2 zz q0 q1 q2
  go_wp2
  go_ret2
  exact ⟨a', cp, rfl, R.out, bnext E0.out B2.out⟩
set_option maxRecDepth 100000 in
set_option maxHeartbeats 40000000 in
theorem partsOf_spec (F C : Int) (L : List Og) (a : Option Addr) (cap : Nat) (hl : L.length ≤ 1048576) (x : Int) (w : World) (ha : OgArg w a L) :
    Calls Try.prog 25 #[.agg #[.int .i64 F, .int .i64 C, .slice a L.length cap], .int .i64 x] w fun e w' => ∃ a' cp, e = .returned (.tuple #[.slice a' (poL F C L x).length cp, .int .i64 (poK F C L x)]) ∧ PtRes w.heap.size (poL F C L x) a' w' ∧ Below w.heap.size w w' := by
  have FB' := FrBox.new w F C a cap L 29
  have E0' := Lib.hid (balloc0 w (.cells #[.int .i64 F, .int .i64 C, .slice a L.length cap] 29))
  have z0 : (w.alloc (.cells #[.int .i64 F, .int .i64 C, .slice a L.length cap] 29)).heap.size = w.heap.size + 1 := by simp
  obtain ⟨W0, hW⟩ : ∃ W0, w.alloc (.cells #[.int .i64 F, .int .i64 C, .slice a L.length cap] 29) = W0 := ⟨_, rfl⟩
  rw [hW] at FB' E0' z0
  have FB := Lib.hid FB'
  have E0 := Lib.hid E0'.out
  have HA := Lib.hid (ha.later E0.out)
  have HW := Lib.hid hW
  clear hW E0' FB' ha
  cases hok : okFr F C L
  · have e1 : poK F C L x = 1 := frK_inv hok
    have e2 : poL F C L x = [] := by simp [poL, e1]
    rw [e1, e2]
    have X := Lib.hid (show _ from by have h := code_frspec F C L a cap hl w.heap.size x (.inr hok) W0 FB.out HA.out; rw [frK_inv hok] at h; exact h)
    clear e1 e2 hok
    go_enter Try.func25, Try.ntmps25
    go_wp2_with fail
    rw [HW.out]
    refine (X.out).mono ?_
    rintro e w1 ⟨rfl, hb1⟩
    have B1 := Lib.hid hb1
    clear hb1
    go_wp2
    go_ret2
    exact ⟨none, 0, rfl, .inl rfl, bnext E0.out B1.out⟩
  have hF := okFr_true.1 hok
  have hc0 : 1 ≤ C := hF.fc.1
  have hc1 : C ≤ 40 := hF.fc.2
  cases hik : inB x 0 (C - 1)
  · have e1 : poK F C L x = 2 := frK_rng hok hik
    have e2 : poL F C L x = [] := by simp [poL, e1]
    rw [e1, e2]
    have X := Lib.hid (show _ from by have h := code_frspec F C L a cap hl w.heap.size x (.inl ⟨hc0, hc1⟩) W0 FB.out HA.out; rw [frK_rng hok hik] at h; exact h)
    clear e1 e2 hok hik hF
    go_enter Try.func25, Try.ntmps25
    go_wp2_with fail
    rw [HW.out]
    refine (X.out).mono ?_
    rintro e w1 ⟨rfl, hb1⟩
    have B1 := Lib.hid hb1
    clear hb1
    go_wp2
    go_ret2
    exact ⟨none, 0, rfl, .inl rfl, bnext E0.out B1.out⟩
  have e1 : poK F C L x = 0 := frK_ok hok hik
  have e2 : poL F C L x = partsF F L x := by simp [poL, e1]
  rw [e1, e2]
  have X := Lib.hid (show _ from by have h := code_frspec F C L a cap hl w.heap.size x (.inl ⟨hc0, hc1⟩) W0 FB.out HA.out; rw [frK_ok hok hik] at h; exact h)
  have P := Lib.hid (fun wx (hx : Below W0.heap.size W0 wx) => parts_spec F C L a cap hF w.heap.size x wx (FB.out.later hx) (HA.out.later hx))
  clear e1 e2 hok hik hF
  go_enter Try.func25, Try.ntmps25
  go_wp2_with fail
  rw [HW.out]
  refine (X.out).mono ?_
  rintro e w1 ⟨rfl, hb1⟩
  have B1 := Lib.hid hb1
  clear hb1
  go_wp2_with fail
  refine (P.out _ B1.out).mono ?_
  rintro e w2 ⟨v, rfl, hv, hb2⟩
  obtain ⟨a', cp, rfl, hr⟩ := own_ptform hv
  have B2 := Lib.hid (bnext B1.out hb2)
  have zz := B1.out.size
  have R := Lib.hid (hr.mono (B' := w.heap.size) (by omega))
  clear hv hr hb2 zz
  go_wp2
  go_ret2
  exact ⟨a', cp, rfl, R.out, bnext E0.out B2.out⟩
end Go.Proofs.Ytplggghhhgmebaa
