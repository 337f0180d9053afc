/-
  What cut pieces waste: both sides and the walk of the law.
-/
import Derived.Test.YtllcpgogfhjfpaaDoorWaK
namespace Go.Proofs.YtllcpgogfhjfpaaDoor
open Go.ChangeShapes Go.WideShapes Go.ChangeAt Go.RowKit Go.Joins

/-- The quarters that a piece wastes. -/
def wstU (x : UInt8) : Nat := if cutU x = true then 4 - qtr x else 0
def wstTo (s : ByteArray) (k : Nat) : Nat := ((s.data.toList.take k).map wstU).sum
def wst (s : ByteArray) : Nat := (s.data.toList.map wstU).sum
theorem wstTo_zero (s : ByteArray) : wstTo s 0 = 0 := by simp [wstTo]
theorem wstTo_succ {s : ByteArray} {k : Nat} (h : k < s.size) : wstTo s (k + 1) = wstTo s k + wstU (s[k]'h) := by
  have hl : s.data.toList.length = s.size := by simp
  have h' : k < s.data.toList.length := by omega
  unfold wstTo
  rw [List.take_add_one, List.getElem?_eq_getElem h', List.map_append, List.sum_append]
  simp
  rfl
theorem wstTo_all {s : ByteArray} {k : Nat} (h : s.size ≤ k) : wstTo s k = wst s := by
  have hl : s.data.toList.length = s.size := by simp
  unfold wstTo wst
  rw [List.take_of_length_le (by omega)]
theorem wstU_le (x : UInt8) : wstU x ≤ 4 := by unfold wstU; split <;> omega
theorem wstTo_le (s : ByteArray) (k : Nat) : wstTo s k ≤ 4 * k := by
  unfold wstTo
  have : ∀ l : List UInt8, (l.map wstU).sum ≤ 4 * l.length := fun l => by
    induction l with
    | nil => simp
    | cons x l ih => have := wstU_le x; simp only [List.map_cons, List.sum_cons, List.length_cons]; omega
  have h1 := this (s.data.toList.take k)
  have h2 : (s.data.toList.take k).length ≤ k := by rw [List.length_take]; omega
  omega
theorem wst_counts (s : ByteArray) : wst s = s.data.toList.count 84 + 2 * s.data.toList.count 66 + 3 * s.data.toList.count 67 := by
  unfold wst
  induction s.data.toList with
  | nil => rfl
  | cons x l ih =>
    rw [List.map_cons, List.sum_cons, List.count_cons, List.count_cons, List.count_cons, ih]
    by_cases h1 : x = 84
    · subst h1; simp [wstU, cutU, qtr]; omega
    by_cases h2 : x = 66
    · subst h2; simp [wstU, cutU, qtr]; omega
    by_cases h3 : x = 67
    · subst h3; simp [wstU, cutU, qtr]; omega
    simp [wstU, cutU, h1, h2, h3]
def wN (s : ByteArray) : Int := if okCr s = true then (wst s : Int) else 0
set_option maxHeartbeats 1600000 in
theorem wasted_spec (s : ByteArray) (hs : s.size ≤ 1048576) (w : World) : Calls Tryd.prog 32 #[.string s] w fun e w' => e = .returned (.tuple #[.int .i64 (wN s), .int .i64 (cC s)]) ∧ w = w' := by
  have C := Lib.hid (cok_spec s hs)
  cases h : okCr s
  · rw [h] at C
    have E1 : wN s = 0 := by simp [wN, h]
    have E2 : cC s = 1 := by simp [cC, h]
    rw [E1, E2]
    clear E1 E2
    go_enter Tryd.func32, Tryd.ntmps32
    go_wp2_with fail
    refine (C.out _).mono ?_
    rintro e w' ⟨rfl, rfl⟩
    go_wp2
    go_ret2
    exact ⟨rfl, rfl⟩
  · rw [h] at C
    have E1 : wN s = (wst s : Int) := by simp [wN, h]
    have E2 : cC s = 0 := by simp [cC, h]
    rw [E1, E2]
    have h60 := (okCr_facts h).2.1
    clear E1 E2 h
    go_enter Tryd.func32, Tryd.ntmps32
    go_wp2_with fail
    refine (C.out _).mono ?_
    rintro e w' ⟨rfl, rfl⟩
    go_wp2
    go_loop [4, 5] (fun t i => ∃ k E : Nat, k ≤ s.size ∧ t = .int .i64 (E : Int) ∧ i = .int .i64 k ∧ Hid (wstTo s k = E)) (fun _ i => s.size - (intOf i).toNat)
    case atStart => exact ⟨0, 0, Nat.zero_le _, rfl, rfl, wstTo_zero s⟩
    case round =>
      obtain ⟨k, E, hk, rfl, rfl, hE⟩ := hrel
      have hle : E ≤ 4 * k := by rw [← hE.out]; exact wstTo_le s k
      by_cases hlt : k < s.size
      · have hlt' : (k : Int) < (s.size : Int) := by omega
        have hk0 : (0 : Int) ≤ (k : Int) := by omega
        have HS := Lib.hid (wstTo_succ hlt)
        rw [hE.out] at HS
        have C2 := Lib.hid (cut_spec ((s[k]'hlt).toNat : Int))
        rw [← cut_eq] at C2
        have Q := Lib.hid (quarters_spec ((s[k]'hlt).toNat : Int))
        rw [← qtr_eq] at Q
        have hq4 := qtr_le (s[k]'hlt)
        cases hc : cutU (s[k]'hlt)
        · have hu : wstU (s[k]'hlt) = 0 := by unfold wstU; rw [hc]; rfl
          rw [hu] at HS
          rw [hc] at C2
          clear hu hc hq4
          go_wp2_with (go_at_call 64; refine (C2.out _).mono ?_; rintro e w' ⟨rfl, rfl⟩)
          go_round
          case rel => exact ⟨k + 1, E, by omega, rfl, by go_num, HS.out⟩
          case measure => simp [intOf]; omega
        · have hu : wstU (s[k]'hlt) = 4 - qtr (s[k]'hlt) := by unfold wstU; rw [hc]; rfl
          rw [hu] at HS
          rw [hc] at C2
          obtain ⟨q, hq⟩ : ∃ q, qtr (s[k]'hlt) = q := ⟨_, rfl⟩
          rw [hq] at Q HS hq4
          clear hu hc hq
          go_wp2_with (first | (go_at_call 64; refine (C2.out _).mono ?_; rintro e w' ⟨rfl, rfl⟩) | (go_at_call 65; refine (Q.out _).mono ?_; rintro e w' ⟨rfl, rfl⟩))
          go_round
          case rel => exact ⟨k + 1, E + (4 - q), by omega, (by have e : ((E + (4 - q) : Nat) : Int) = (E : Int) + (4 - (q : Int)) := (by omega)
                                                               rw [e]; try go_num), by go_num, HS.out⟩
          case measure => simp [intOf]; omega
      · have hge : ¬ (k : Int) < (s.size : Int) := by omega
        have HS : Hid (wst s = E) := by show _ = _; rw [← hE.out, wstTo_all (by omega)]
        go_wp2
        go_ret2
        exact ⟨by rw [HS.out]; rfl, rfl⟩
set_option maxRecDepth 100000 in
set_option maxHeartbeats 6400000 in
theorem wasted_impl (s : ByteArray) (hs : s.size ≤ 1048576) (w : World) : Calls Tryd.prog 33 #[.string s] w fun e w' => e = .returned (.tuple #[.int .i64 (wN s), .int .i64 (cC s)]) ∧ Below w.heap.size w w' := by
  have C := Lib.hid (validCourse_impl s hs)
  cases h : okCr s
  · rw [h] at C
    have E1 : wN s = 0 := by simp [wN, h]
    have E2 : cC s = 1 := by simp [cC, h]
    rw [E1, E2]
    clear E1 E2
    go_enter Tryd.func33, Tryd.ntmps33
    go_wp2_with fail
    refine (C.out _).mono ?_
    rintro e w' ⟨rfl, hb1⟩
    have B1 := Lib.hid hb1
    clear hb1
    go_wp2
    go_ret2
    exact ⟨rfl, B1.out⟩
  · rw [h] at C
    obtain ⟨h1, h2, _, _⟩ := okCr_facts h
    have E1 : wN s = (wst s : Int) := by simp [wN, h]
    have E2 : cC s = 0 := by simp [cC, h]
    rw [E1, E2]
    have hsl : StrLe 60 [s] := fun k z hk => by
      match k, hk with
      | 0, hk => cases hk; exact h2
    have Q := Lib.hid (fun wx => countEach_impl [s] (some ⟨wx.heap.size, 0, none⟩) 1 (by simp) hsl (wx.alloc (.cells #[.string s] 9)) (one_str wx s))
    have hcnt : ∀ k, cntTo [s] [s].length k = s.data.toList.count (letN k) := fun k => by simp [cntTo]
    simp only [hcnt] at Q
    have HN := Lib.hid (wst_counts s)
    have hll : s.data.toList.length = s.size := by simp
    have hle : ∀ c, s.data.toList.count c ≤ 60 := fun c => by have := List.count_le_length (a := c) (l := s.data.toList); omega
    have l2 := hle 84
    have l3 := hle 66
    have l4 := hle 67
    obtain ⟨n0, hn0⟩ : ∃ n, s.data.toList.count (letN 0) = n := ⟨_, rfl⟩
    obtain ⟨n1, hn1⟩ : ∃ n, s.data.toList.count (letN 1) = n := ⟨_, rfl⟩
    have e2 : letN 2 = 84 := rfl
    have e3 : letN 3 = 66 := rfl
    have e4 : letN 4 = 67 := rfl
    rw [hn0, hn1, e2, e3, e4] at Q
    obtain ⟨n2, hn2⟩ : ∃ n, s.data.toList.count 84 = n := ⟨_, rfl⟩
    obtain ⟨n3, hn3⟩ : ∃ n, s.data.toList.count 66 = n := ⟨_, rfl⟩
    obtain ⟨n4, hn4⟩ : ∃ n, s.data.toList.count 67 = n := ⟨_, rfl⟩
    rw [hn2, hn3, hn4] at Q HN
    rw [hn2] at l2
    rw [hn3] at l3
    rw [hn4] at l4
    rw [HN.out]
    clear E1 E2 h h1 h2 hsl hcnt hll hle hn0 hn1 e2 e3 e4 hn2 hn3 hn4 HN
    have i0 : ∀ wx, (Instr.index 89 (.agg #[.int .i64 (n0 : Int), .int .i64 (n1 : Int), .int .i64 (n2 : Int), .int .i64 (n3 : Int), .int .i64 (n4 : Int)]) (.int .i64 0)).run Tryd.prog wx = .ok (.int .i64 (n0 : Int)) wx := fun _ => by kernel_rfl
    have i1 : ∀ wx, (Instr.index 89 (.agg #[.int .i64 (n0 : Int), .int .i64 (n1 : Int), .int .i64 (n2 : Int), .int .i64 (n3 : Int), .int .i64 (n4 : Int)]) (.int .i64 1)).run Tryd.prog wx = .ok (.int .i64 (n1 : Int)) wx := fun _ => by kernel_rfl
    have i2 : ∀ wx, (Instr.index 89 (.agg #[.int .i64 (n0 : Int), .int .i64 (n1 : Int), .int .i64 (n2 : Int), .int .i64 (n3 : Int), .int .i64 (n4 : Int)]) (.int .i64 2)).run Tryd.prog wx = .ok (.int .i64 (n2 : Int)) wx := fun _ => by kernel_rfl
    have i3 : ∀ wx, (Instr.index 89 (.agg #[.int .i64 (n0 : Int), .int .i64 (n1 : Int), .int .i64 (n2 : Int), .int .i64 (n3 : Int), .int .i64 (n4 : Int)]) (.int .i64 3)).run Tryd.prog wx = .ok (.int .i64 (n3 : Int)) wx := fun _ => by kernel_rfl
    have i4 : ∀ wx, (Instr.index 89 (.agg #[.int .i64 (n0 : Int), .int .i64 (n1 : Int), .int .i64 (n2 : Int), .int .i64 (n3 : Int), .int .i64 (n4 : Int)]) (.int .i64 4)).run Tryd.prog wx = .ok (.int .i64 (n4 : Int)) wx := fun _ => by kernel_rfl
    have K : Hid (∀ k wx, Calls Tryd.prog 68 #[.int .u8 k] wx fun e w' => e = .returned (.bool (cutI k)) ∧ wx = w') := cut_impl
    have R : Hid (∀ k wx, Calls Tryd.prog 66 #[.int .u8 k] wx fun e w' => ∃ z : Int, e = .returned (.tuple #[.int .i64 (qtrI k), .int .i64 z]) ∧ wx = w') := quartersI
    have K83 : Hid (∀ wx, Calls Tryd.prog 68 #[.int .u8 83] wx fun e w' => e = .returned (.bool false) ∧ wx = w') := fun wx => K.out 83 wx
    have K72 : Hid (∀ wx, Calls Tryd.prog 68 #[.int .u8 72] wx fun e w' => e = .returned (.bool false) ∧ wx = w') := fun wx => K.out 72 wx
    have K84 : Hid (∀ wx, Calls Tryd.prog 68 #[.int .u8 84] wx fun e w' => e = .returned (.bool true) ∧ wx = w') := fun wx => K.out 84 wx
    have K66 : Hid (∀ wx, Calls Tryd.prog 68 #[.int .u8 66] wx fun e w' => e = .returned (.bool true) ∧ wx = w') := fun wx => K.out 66 wx
    have K67 : Hid (∀ wx, Calls Tryd.prog 68 #[.int .u8 67] wx fun e w' => e = .returned (.bool true) ∧ wx = w') := fun wx => K.out 67 wx
    have R83 : Hid (∀ wx, Calls Tryd.prog 66 #[.int .u8 83] wx fun e w' => ∃ z : Int, e = .returned (.tuple #[.int .i64 4, .int .i64 z]) ∧ wx = w') := fun wx => R.out 83 wx
    have R84 : Hid (∀ wx, Calls Tryd.prog 66 #[.int .u8 84] wx fun e w' => ∃ z : Int, e = .returned (.tuple #[.int .i64 3, .int .i64 z]) ∧ wx = w') := fun wx => R.out 84 wx
    have R66 : Hid (∀ wx, Calls Tryd.prog 66 #[.int .u8 66] wx fun e w' => ∃ z : Int, e = .returned (.tuple #[.int .i64 2, .int .i64 z]) ∧ wx = w') := fun wx => R.out 66 wx
    have R67 : Hid (∀ wx, Calls Tryd.prog 66 #[.int .u8 67] wx fun e w' => ∃ z : Int, e = .returned (.tuple #[.int .i64 1, .int .i64 z]) ∧ wx = w') := fun wx => R.out 67 wx
    go_enter Tryd.func33, Tryd.ntmps33
    go_wp2_with fail
    refine (C.out _).mono ?_
    rintro e w1 ⟨rfl, hb1⟩
    have B1 := Lib.hid hb1
    clear hb1
    go_wp2_with (go_at_call 66; refine (R83.out _).mono ?_; rintro e w' ⟨z0, rfl, rfl⟩)
    refine (Q.out _).mono ?_
    rintro e w2 ⟨rfl, hb2⟩
    have B2 := Lib.hid (bnext (balloc B1.out _) hb2)
    clear hb2
    go_wp2_with fail
    go_loopw [4, 22] (fun t i wr => ∃ (j m : Nat), j ≤ 5 ∧ t = .int .i64 (m : Int) ∧ i = .int .i64 (j : Int) ∧ m = (if j ≤ 2 then 0 else if j = 3 then n2 else if j = 4 then n2 + 2 * n3 else n2 + 2 * n3 + 3 * n4) ∧ wr = w2) (fun _ i _ => 5 - (intOf i).toNat)
    case atStart => exact ⟨0, 0, by omega, rfl, rfl, rfl, rfl⟩
    case round =>
      obtain ⟨j, m, hj, rfl, rfl, hm, rfl⟩ := hrel
      by_cases hjt : j < 5
      · rcases (show j = 0 ∨ j = 1 ∨ j = 2 ∨ j = 3 ∨ j = 4 by omega) with rfl | rfl | rfl | rfl | rfl
        · obtain rfl : m = 0 := hm
          go_wp2_with (go_at_call 68; refine (K83.out _).mono ?_; rintro e w' ⟨rfl, rfl⟩)
          go_roundw
          case rel => exact ⟨1, 0, by omega, rfl, rfl, rfl, by trivial⟩
          case measure => simp [intOf]
        · obtain rfl : m = 0 := hm
          go_wp2_with (go_at_call 68; refine (K72.out _).mono ?_; rintro e w' ⟨rfl, rfl⟩)
          go_roundw
          case rel => exact ⟨2, 0, by omega, rfl, rfl, rfl, by trivial⟩
          case measure => simp [intOf]
        · obtain rfl : m = 0 := hm
          go_wp2_with (first | (go_at_call 68; refine (K84.out _).mono ?_; rintro e w' ⟨rfl, rfl⟩) | (go_at_call 66; refine (R84.out _).mono ?_; rintro e w' ⟨z1, rfl, rfl⟩))
          go_roundw
          case rel => exact ⟨3, n2, by omega, by simp, rfl, rfl, by trivial⟩
          case measure => simp [intOf]
        · obtain rfl : m = n2 := hm
          go_wp2_with (first | (go_at_call 68; refine (K66.out _).mono ?_; rintro e w' ⟨rfl, rfl⟩) | (go_at_call 66; refine (R66.out _).mono ?_; rintro e w' ⟨z1, rfl, rfl⟩))
          go_roundw
          case rel => exact ⟨4, m + 2 * n3, by omega, congrArg (Value.int .i64) (show (m : Int) + (n3 : Int) * 2 = ((m + 2 * n3 : Nat) : Int) by omega), rfl, rfl, by trivial⟩
          case measure => simp [intOf]
        · obtain rfl : m = n2 + 2 * n3 := hm
          go_wp2_with (first | (go_at_call 68; refine (K67.out _).mono ?_; rintro e w' ⟨rfl, rfl⟩) | (go_at_call 66; refine (R67.out _).mono ?_; rintro e w' ⟨z1, rfl, rfl⟩))
          go_roundw
          case rel => exact ⟨5, n2 + 2 * n3 + 3 * n4, by omega, congrArg (Value.int .i64) (show ((n2 + 2 * n3 : Nat) : Int) + (n4 : Int) * 3 = ((n2 + 2 * n3 + 3 * n4 : Nat) : Int) by omega), rfl, rfl, by trivial⟩
          case measure => simp [intOf]
      · obtain rfl : j = 5 := by omega
        obtain rfl : m = n2 + 2 * n3 + 3 * n4 := hm
        go_wp2
        go_ret2
        exact ⟨rfl, B2.out⟩

set_option maxRecDepth 100000 in
theorem walk_FnExactWastedQuarters (s : ByteArray) (_ws : s.size ≤ maxLen) (w : World) : Calls Tryd.prog 9 #[.string s] w fun e w' => e = .returned (.bool true) ∧ Below w.heap.size w w' := by
  by_cases hl : (1048576 : Int) < (s.size : Int)
  · go_enter Tryd.func9, Tryd.ntmps9
    go_wp2_with fail
    go_ret
    exact ⟨rfl, Below.refl _ _⟩
  · have HS := Lib.hid (wasted_spec s (by omega))
    have HI := Lib.hid (wasted_impl s (by omega))
    obtain ⟨x0, hx0⟩ : ∃ x, wN s = x := ⟨_, rfl⟩
    rw [hx0] at HS HI
    clear hx0
    obtain ⟨x1, hx1⟩ : ∃ x, cC s = x := ⟨_, rfl⟩
    rw [hx1] at HS HI
    clear hx1
    go_enter Tryd.func9, Tryd.ntmps9
    go_wp2_with fail
    refine (HS.out _).mono ?_
    rintro e w1 ⟨rfl, rfl⟩
    have B1 : Hid (Below w.heap.size w w) := Below.refl _ _
    go_wp2_with fail
    refine (HI.out _).mono ?_
    rintro e w2 ⟨rfl, hb⟩
    have B2 := Lib.hid (bnext B1.out hb)
    clear hb
    go_wp2
    go_ret
    exact ⟨rfl, B2.out⟩
end Go.Proofs.YtllcpgogfhjfpaaDoor
