/-
  Sums of a value of clays, times their parts: the program's, for each function that tells a value.
-/
import Derived.Test.YtlglijalhacmhabPartsI
namespace Go.Proofs.Ytlglijalhacmhab
open Go.ChangeShapes Go.WideShapes Go.ChangeAt Go.RowKit Go.Joins

theorem fun_fsh (c : Cl) (w : World) : Calls Try.prog 103 #[.agg #[.string c.name, .int .i64 c.sh, .int .i64 c.li, .int .i64 c.sa, .int .i64 c.pr]] w fun e w' => e = .returned (.int .i64 (Cl.sh c)) ∧ Below w.heap.size w w' := by
  go_enter Try.func103, Try.ntmps103
  go_wp2
  go_ret
  exact ⟨rfl, balloc0 _ _⟩
set_option maxRecDepth 100000 in
set_option maxHeartbeats 3200000 in
theorem weighted_fsh  (L : List Cl) (a : Option Addr) (cap : Nat) (P : List Int) (a' : Option Addr) (cap' : Nat) (hL : okCls L = true) (hP : okParts P = true) (hPL : P.length = L.length) (w : World) (ha : ClArg w a L) (ha' : IntArg w a' P) :
    Calls Try.prog 97 #[.slice a L.length cap, .slice a' P.length cap', .func (.func 103) #[] #[]] w fun e w' => e = .returned (.int .i64 (total Cl.sh L P)) ∧ Below w.heap.size w w' := by
  have HA := Lib.hid ha
  have HA' := Lib.hid ha'
  have HS := Lib.hid small_sh
  have H6 := (okCls_all hL).1
  have HL := Lib.hid hL
  have HP := Lib.hid hP
  have HPL := Lib.hid hPL
  have HC := Lib.hid fun_fsh
  clear ha ha' hL hP hPL
  go_enter Try.func97, Try.ntmps97
  go_wp2
  go_loopw [7, 12] (fun s i wr => ∃ k : Nat, k ≤ L.length ∧ s = .int .i64 (wsum Cl.sh L P k) ∧ i = .int .i64 k ∧ Hid (Below w.heap.size w wr)) (fun _ i _ => L.length - (intOf i).toNat)
  case atStart => exact ⟨0, Nat.zero_le _, rfl, rfl, Below.refl _ _⟩
  case round =>
    obtain ⟨k, hk, rfl, rfl, hB⟩ := hrel
    by_cases hlt : k < L.length
    · have hlt' : (k : Int) < (L.length : Int) := by omega
      have hk0 : (0 : Int) ≤ (k : Int) := by omega
      have hltP : (k : Int) < (P.length : Int) := by have := HPL.out; omega
      obtain ⟨b, o, c, rfl, hc, hat⟩ := (HA.out.later hB.out).at hlt
      obtain ⟨b', o', z, rfl, hz, hat'⟩ := (HA'.out.later hB.out).at (k := k) (by have := HPL.out; omega)
      obtain ⟨c0, c1, c2, c3, c4⟩ := hat.cells hc
      have d0 := hat' k z hz
      obtain ⟨s0, s1⟩ := wsum_range HS.out HL.out HP.out k
      have v1 := HS.out c ((okCls_all HL.out).2 k c hc).1
      have v2 := okParts_at HP.out hz
      obtain ⟨p0, p1⟩ := mul_range v2 v1
      have HW := Lib.hid (wsum_step (f := Cl.sh) hc hz)
      obtain ⟨q, hq⟩ : ∃ q, wsum Cl.sh L P k = q := ⟨_, rfl⟩
      rw [hq] at s0 s1 HW
      rw [hq]
      obtain ⟨v, hv⟩ : ∃ v, Cl.sh c = v := ⟨_, rfl⟩
      rw [hv] at v1 p0 p1 HW
      have C : Hid (∀ w, Calls Try.prog 103 #[.agg #[.string c.name, .int .i64 c.sh, .int .i64 c.li, .int .i64 c.sa, .int .i64 c.pr]] w fun e w' => e = .returned (.int .i64 v) ∧ Below w.heap.size w w') := fun w => (HC.out c w).mono (fun e w' h => ⟨h.1.trans (by rw [hv]), h.2⟩)
      have hd : b' < wr.heap.size := World.block_lt_of_cell? wr _ d0
      have HD : Hid (∀ w1, Below ((wr.alloc (.cells #[.string c.name, .int .i64 c.sh, .int .i64 c.li, .int .i64 c.sa, .int .i64 c.pr] 77)).drew).heap.size ((wr.alloc (.cells #[.string c.name, .int .i64 c.sh, .int .i64 c.li, .int .i64 c.sa, .int .i64 c.pr] 77)).drew) w1 → w1.cell? ⟨b', o' + k, none⟩ = some (.int .i64 z) ∧ Below w.heap.size w w1) := by
        intro w1 h
        refine ⟨(h.cell (p := ⟨b', o' + k, none⟩) ?_).trans ((World.cell?_alloc_lt wr _ _ hd).trans d0), bnext (balloc hB.out _).drew h⟩
        have : ((wr.alloc (.cells #[.string c.name, .int .i64 c.sh, .int .i64 c.li, .int .i64 c.sa, .int .i64 c.pr] 77)).drew).heap.size = wr.heap.size + 1 := by simp
        show b' < _
        omega
      clear hq hv hc hz hat hat'
      go_wp2_with fail
      go_region_with (go_at_call 103; refine (C.out _).mono ?_; rintro e w1 ⟨rfl, hb1⟩; obtain ⟨d1, hb2⟩ := HD.out _ hb1; have B2 := Lib.hid hb2; clear hb1 hb2)
      all_goals
        go_wp2
        go_roundw
        case rel =>
          refine ⟨k + 1, by omega, by rw [HW.out, Int.mul_comm], by go_num, ?_⟩
          exact Hid.out ‹Hid (Below w.heap.size w _)›
        case measure => simp [intOf]; omega
    · have hge : ¬ (k : Int) < (L.length : Int) := by omega
      have hkn : k = L.length := by omega
      subst hkn
      go_wp2
      go_ret
      exact ⟨rfl, hB.out⟩

theorem fun_fli (c : Cl) (w : World) : Calls Try.prog 104 #[.agg #[.string c.name, .int .i64 c.sh, .int .i64 c.li, .int .i64 c.sa, .int .i64 c.pr]] w fun e w' => e = .returned (.int .i64 (Cl.li c)) ∧ Below w.heap.size w w' := by
  go_enter Try.func104, Try.ntmps104
  go_wp2
  go_ret
  exact ⟨rfl, balloc0 _ _⟩
set_option maxRecDepth 100000 in
set_option maxHeartbeats 3200000 in
theorem weighted_fli  (L : List Cl) (a : Option Addr) (cap : Nat) (P : List Int) (a' : Option Addr) (cap' : Nat) (hL : okCls L = true) (hP : okParts P = true) (hPL : P.length = L.length) (w : World) (ha : ClArg w a L) (ha' : IntArg w a' P) :
    Calls Try.prog 97 #[.slice a L.length cap, .slice a' P.length cap', .func (.func 104) #[] #[]] w fun e w' => e = .returned (.int .i64 (total Cl.li L P)) ∧ Below w.heap.size w w' := by
  have HA := Lib.hid ha
  have HA' := Lib.hid ha'
  have HS := Lib.hid small_li
  have H6 := (okCls_all hL).1
  have HL := Lib.hid hL
  have HP := Lib.hid hP
  have HPL := Lib.hid hPL
  have HC := Lib.hid fun_fli
  clear ha ha' hL hP hPL
  go_enter Try.func97, Try.ntmps97
  go_wp2
  go_loopw [7, 12] (fun s i wr => ∃ k : Nat, k ≤ L.length ∧ s = .int .i64 (wsum Cl.li L P k) ∧ i = .int .i64 k ∧ Hid (Below w.heap.size w wr)) (fun _ i _ => L.length - (intOf i).toNat)
  case atStart => exact ⟨0, Nat.zero_le _, rfl, rfl, Below.refl _ _⟩
  case round =>
    obtain ⟨k, hk, rfl, rfl, hB⟩ := hrel
    by_cases hlt : k < L.length
    · have hlt' : (k : Int) < (L.length : Int) := by omega
      have hk0 : (0 : Int) ≤ (k : Int) := by omega
      have hltP : (k : Int) < (P.length : Int) := by have := HPL.out; omega
      obtain ⟨b, o, c, rfl, hc, hat⟩ := (HA.out.later hB.out).at hlt
      obtain ⟨b', o', z, rfl, hz, hat'⟩ := (HA'.out.later hB.out).at (k := k) (by have := HPL.out; omega)
      obtain ⟨c0, c1, c2, c3, c4⟩ := hat.cells hc
      have d0 := hat' k z hz
      obtain ⟨s0, s1⟩ := wsum_range HS.out HL.out HP.out k
      have v1 := HS.out c ((okCls_all HL.out).2 k c hc).1
      have v2 := okParts_at HP.out hz
      obtain ⟨p0, p1⟩ := mul_range v2 v1
      have HW := Lib.hid (wsum_step (f := Cl.li) hc hz)
      obtain ⟨q, hq⟩ : ∃ q, wsum Cl.li L P k = q := ⟨_, rfl⟩
      rw [hq] at s0 s1 HW
      rw [hq]
      obtain ⟨v, hv⟩ : ∃ v, Cl.li c = v := ⟨_, rfl⟩
      rw [hv] at v1 p0 p1 HW
      have C : Hid (∀ w, Calls Try.prog 104 #[.agg #[.string c.name, .int .i64 c.sh, .int .i64 c.li, .int .i64 c.sa, .int .i64 c.pr]] w fun e w' => e = .returned (.int .i64 v) ∧ Below w.heap.size w w') := fun w => (HC.out c w).mono (fun e w' h => ⟨h.1.trans (by rw [hv]), h.2⟩)
      have hd : b' < wr.heap.size := World.block_lt_of_cell? wr _ d0
      have HD : Hid (∀ w1, Below ((wr.alloc (.cells #[.string c.name, .int .i64 c.sh, .int .i64 c.li, .int .i64 c.sa, .int .i64 c.pr] 77)).drew).heap.size ((wr.alloc (.cells #[.string c.name, .int .i64 c.sh, .int .i64 c.li, .int .i64 c.sa, .int .i64 c.pr] 77)).drew) w1 → w1.cell? ⟨b', o' + k, none⟩ = some (.int .i64 z) ∧ Below w.heap.size w w1) := by
        intro w1 h
        refine ⟨(h.cell (p := ⟨b', o' + k, none⟩) ?_).trans ((World.cell?_alloc_lt wr _ _ hd).trans d0), bnext (balloc hB.out _).drew h⟩
        have : ((wr.alloc (.cells #[.string c.name, .int .i64 c.sh, .int .i64 c.li, .int .i64 c.sa, .int .i64 c.pr] 77)).drew).heap.size = wr.heap.size + 1 := by simp
        show b' < _
        omega
      clear hq hv hc hz hat hat'
      go_wp2_with fail
      go_region_with (go_at_call 104; refine (C.out _).mono ?_; rintro e w1 ⟨rfl, hb1⟩; obtain ⟨d1, hb2⟩ := HD.out _ hb1; have B2 := Lib.hid hb2; clear hb1 hb2)
      all_goals
        go_wp2
        go_roundw
        case rel =>
          refine ⟨k + 1, by omega, by rw [HW.out, Int.mul_comm], by go_num, ?_⟩
          exact Hid.out ‹Hid (Below w.heap.size w _)›
        case measure => simp [intOf]; omega
    · have hge : ¬ (k : Int) < (L.length : Int) := by omega
      have hkn : k = L.length := by omega
      subst hkn
      go_wp2
      go_ret
      exact ⟨rfl, hB.out⟩

theorem fun_fsa (c : Cl) (w : World) : Calls Try.prog 105 #[.agg #[.string c.name, .int .i64 c.sh, .int .i64 c.li, .int .i64 c.sa, .int .i64 c.pr]] w fun e w' => e = .returned (.int .i64 (Cl.sa c)) ∧ Below w.heap.size w w' := by
  go_enter Try.func105, Try.ntmps105
  go_wp2
  go_ret
  exact ⟨rfl, balloc0 _ _⟩
set_option maxRecDepth 100000 in
set_option maxHeartbeats 3200000 in
theorem weighted_fsa  (L : List Cl) (a : Option Addr) (cap : Nat) (P : List Int) (a' : Option Addr) (cap' : Nat) (hL : okCls L = true) (hP : okParts P = true) (hPL : P.length = L.length) (w : World) (ha : ClArg w a L) (ha' : IntArg w a' P) :
    Calls Try.prog 97 #[.slice a L.length cap, .slice a' P.length cap', .func (.func 105) #[] #[]] w fun e w' => e = .returned (.int .i64 (total Cl.sa L P)) ∧ Below w.heap.size w w' := by
  have HA := Lib.hid ha
  have HA' := Lib.hid ha'
  have HS := Lib.hid small_sa
  have H6 := (okCls_all hL).1
  have HL := Lib.hid hL
  have HP := Lib.hid hP
  have HPL := Lib.hid hPL
  have HC := Lib.hid fun_fsa
  clear ha ha' hL hP hPL
  go_enter Try.func97, Try.ntmps97
  go_wp2
  go_loopw [7, 12] (fun s i wr => ∃ k : Nat, k ≤ L.length ∧ s = .int .i64 (wsum Cl.sa L P k) ∧ i = .int .i64 k ∧ Hid (Below w.heap.size w wr)) (fun _ i _ => L.length - (intOf i).toNat)
  case atStart => exact ⟨0, Nat.zero_le _, rfl, rfl, Below.refl _ _⟩
  case round =>
    obtain ⟨k, hk, rfl, rfl, hB⟩ := hrel
    by_cases hlt : k < L.length
    · have hlt' : (k : Int) < (L.length : Int) := by omega
      have hk0 : (0 : Int) ≤ (k : Int) := by omega
      have hltP : (k : Int) < (P.length : Int) := by have := HPL.out; omega
      obtain ⟨b, o, c, rfl, hc, hat⟩ := (HA.out.later hB.out).at hlt
      obtain ⟨b', o', z, rfl, hz, hat'⟩ := (HA'.out.later hB.out).at (k := k) (by have := HPL.out; omega)
      obtain ⟨c0, c1, c2, c3, c4⟩ := hat.cells hc
      have d0 := hat' k z hz
      obtain ⟨s0, s1⟩ := wsum_range HS.out HL.out HP.out k
      have v1 := HS.out c ((okCls_all HL.out).2 k c hc).1
      have v2 := okParts_at HP.out hz
      obtain ⟨p0, p1⟩ := mul_range v2 v1
      have HW := Lib.hid (wsum_step (f := Cl.sa) hc hz)
      obtain ⟨q, hq⟩ : ∃ q, wsum Cl.sa L P k = q := ⟨_, rfl⟩
      rw [hq] at s0 s1 HW
      rw [hq]
      obtain ⟨v, hv⟩ : ∃ v, Cl.sa c = v := ⟨_, rfl⟩
      rw [hv] at v1 p0 p1 HW
      have C : Hid (∀ w, Calls Try.prog 105 #[.agg #[.string c.name, .int .i64 c.sh, .int .i64 c.li, .int .i64 c.sa, .int .i64 c.pr]] w fun e w' => e = .returned (.int .i64 v) ∧ Below w.heap.size w w') := fun w => (HC.out c w).mono (fun e w' h => ⟨h.1.trans (by rw [hv]), h.2⟩)
      have hd : b' < wr.heap.size := World.block_lt_of_cell? wr _ d0
      have HD : Hid (∀ w1, Below ((wr.alloc (.cells #[.string c.name, .int .i64 c.sh, .int .i64 c.li, .int .i64 c.sa, .int .i64 c.pr] 77)).drew).heap.size ((wr.alloc (.cells #[.string c.name, .int .i64 c.sh, .int .i64 c.li, .int .i64 c.sa, .int .i64 c.pr] 77)).drew) w1 → w1.cell? ⟨b', o' + k, none⟩ = some (.int .i64 z) ∧ Below w.heap.size w w1) := by
        intro w1 h
        refine ⟨(h.cell (p := ⟨b', o' + k, none⟩) ?_).trans ((World.cell?_alloc_lt wr _ _ hd).trans d0), bnext (balloc hB.out _).drew h⟩
        have : ((wr.alloc (.cells #[.string c.name, .int .i64 c.sh, .int .i64 c.li, .int .i64 c.sa, .int .i64 c.pr] 77)).drew).heap.size = wr.heap.size + 1 := by simp
        show b' < _
        omega
      clear hq hv hc hz hat hat'
      go_wp2_with fail
      go_region_with (go_at_call 105; refine (C.out _).mono ?_; rintro e w1 ⟨rfl, hb1⟩; obtain ⟨d1, hb2⟩ := HD.out _ hb1; have B2 := Lib.hid hb2; clear hb1 hb2)
      all_goals
        go_wp2
        go_roundw
        case rel =>
          refine ⟨k + 1, by omega, by rw [HW.out, Int.mul_comm], by go_num, ?_⟩
          exact Hid.out ‹Hid (Below w.heap.size w _)›
        case measure => simp [intOf]; omega
    · have hge : ¬ (k : Int) < (L.length : Int) := by omega
      have hkn : k = L.length := by omega
      subst hkn
      go_wp2
      go_ret
      exact ⟨rfl, hB.out⟩
end Go.Proofs.Ytlglijalhacmhab
