/-
  The lengths of all parts by the program; their sum, the least one.
-/
import Derived.Test.YtplggghhhgmebaaPl
import Derived.Test.YtplggghhhgmebaaPqJ
import Derived.Test.YtplggghhhgmebaaFvW
namespace Go.Proofs.Ytplggghhhgmebaa
open Go.ChangeShapes Go.WideShapes Go.ChangeAt Go.RowKit Go.Joins

theorem parts_small {F C : Int} {L : List Og} {c : Int} (hok : FrOk F C L) {k : Nat} {p : Pt} (h : (partsF F L c)[k]? = some p) : (-1000 ≤ p.fr ∧ p.fr ≤ 1000) ∧ (-1000 ≤ p.tt ∧ p.tt ≤ 1000) := by
  obtain ⟨j, hj⟩ := List.getElem?_of_mem (List.mem_filter.1 (List.mem_of_getElem? h)).1
  exact prs_small hok hj
theorem own_apart {w : World} {B1 B2 e1 e2 z1 z2 n1 n2 : Nat} {v1 v2 : Value} {x1 x2 : List Value} (hne : e1 ≠ e2) (h1 : w.ownsRow B1 e1 z1 v1 n1 x1) (h2 : w.ownsRow B2 e2 z2 v2 n2 x2) : v1.ownBlock = none ∨ v1.ownBlock ≠ v2.ownBlock := by
  rcases h1.2 with ⟨rfl, _⟩ | ⟨g, cap, cur, rfl, _, hg, _⟩
  · exact .inl rfl
  · refine .inr fun e => ?_
    rcases h2.2 with ⟨rfl, _⟩ | ⟨g', cap', cur', rfl, _, hg', _⟩
    · simp [Value.ownBlock] at e
    · simp only [Value.ownBlock, Option.some.injEq] at e
      subst e
      rw [hg] at hg'
      simp at hg'
      exact hne hg'.2
theorem own_intform {w : World} {B : Nat} {v : Value} {D : List Int} (h : w.ownsRow B 2 1 v D.length (intVals D)) : ∃ a cap, v = .slice a D.length cap ∧ IntArg w a D := by
  rcases h.2 with ⟨hv, hz⟩ | ⟨g, cap, cur, hv, _⟩
  · exact ⟨_, _, by rw [hv, hz], .inl (List.eq_nil_of_length_eq_zero hz)⟩
  · refine ⟨_, _, hv, .inr ⟨g, 0, rfl, fun k z hk => ?_⟩⟩
    have hl := (List.getElem?_eq_some_iff.1 hk).1
    subst hv
    rw [Nat.zero_add, World.ownsRow.cellAt h k (by omega)]
    simp [intVals, hk]
set_option maxRecDepth 100000 in
set_option maxHeartbeats 40000000 in
theorem partLengths_impl (F C : Int) (L : List Og) (a : Option Addr) (cap : Nat) (hok : FrOk F C L) (w : World) (ha : OgArg w a L) :
    Calls Try.prog 69 #[.agg #[.int .i64 F, .int .i64 C, .slice a L.length cap]] w fun e w' => ∃ a' cp, e = .returned (.slice a' (allLn F L C.toNat).length cp) ∧ IntArg w' a' (allLn F L C.toNat) ∧ Below w.heap.size w w' := by
  have hl8 : L.length ≤ 8 := hok.len
  obtain ⟨n, rfl⟩ := Int.eq_ofNat_of_zero_le (show 0 ≤ C by have := hok.fc; omega)
  have hn40 : n ≤ 40 := by have := hok.fc; omega
  rw [Int.toNat_natCast]
  have FB' := FrBox.new w F n a cap L 29
  have E0' := Lib.hid (balloc0 w (.cells #[.int .i64 F, .int .i64 (n : Int), .slice a L.length cap] 29))
  have z0 : (w.alloc (.cells #[.int .i64 F, .int .i64 (n : Int), .slice a L.length cap] 29)).heap.size = w.heap.size + 1 := by simp
  obtain ⟨W0, hW⟩ : ∃ W0, w.alloc (.cells #[.int .i64 F, .int .i64 (n : Int), .slice a L.length cap] 29) = W0 := ⟨_, rfl⟩
  rw [hW] at FB' E0' z0
  have FB := Lib.hid FB'
  have E0 := Lib.hid E0'.out
  have HA := Lib.hid (ha.later E0.out)
  have HW := Lib.hid hW
  clear hW E0' FB' ha
  have PI := Lib.hid (fun c wx (hx : Below W0.heap.size W0 wx) => parts_impl F n L a cap hok c wx (HA.out.later hx))
  have HS := Lib.hid (fun c k p (h : (partsF F L c)[k]? = some p) => parts_small hok h)
  have AL := Lib.hid (allLn_length F L)
  have LL := Lib.hid (lenL_length F L)
  obtain ⟨i0, hi, hz0, hz1, hz2⟩ := info_parts infoInt
  obtain ⟨f0, f1, f2⟩ := FB.out
  clear hok
  go_enter Try.func69, Try.ntmps69
  go_wp2_with fail
  rw [HW.out]
  go_loopw [3, 9] (fun r i wr => ∃ (k : Nat), k ≤ n ∧ i = .int .i64 (k : Int) ∧ Hid (wr.ownsRow W0.heap.size 2 1 r (allLn F L k).length (intVals (allLn F L k))) ∧ Hid (Below W0.heap.size W0 wr)) (fun _ i _ => n - (intOf i).toNat)
  case atStart => exact ⟨0, Nat.zero_le _, rfl, World.ownsRow_nil _ _ _ _, Below.refl _ _⟩
  case round =>
    obtain ⟨k, hk, rfl, hR, hB⟩ := hrel
    obtain ⟨wo, ho⟩ : ∃ wo, wo = wr := ⟨_, rfl⟩
    subst ho
    have BO := Lib.hid hB.out
    have hlk := AL.out k
    have hl2 := LL.out (k : Int)
    have hb1 : k * (L.length + 1) ≤ 40 * 9 := Nat.mul_le_mul (by omega) (by omega)
    by_cases hlt : k < n
    · have hlt' : (k : Int) < (n : Int) := by omega
      have hk0 : (0 : Int) ≤ (k : Int) := by omega
      obtain ⟨q0, q1, q2⟩ := FB.out.later hB.out
      have P := Lib.hid (PI.out k wo hB.out)
      have hlE : (lenL F L k).length = (partsF F L k).length := by simp [lenL]
      go_wp2_with (go_at_call 67; refine P.out.mono ?_; rintro e w1 ⟨v1, rfl, hv1, hb1'⟩; obtain ⟨a1, cp1, rfl, hr1⟩ := own_ptform hv1; have A1 := Lib.hid hv1; have R1 := Lib.hid (owns_below hR.out hb1'); have B1 := Lib.hid (bnext hB.out hb1'); clear hv1 hr1 hb1')
      go_loopw [3, 16] (fun r i wr => ∃ (j : Nat), j ≤ (partsF F L k).length ∧ i = .int .i64 (j : Int) ∧ Hid (wr.ownsRow W0.heap.size 2 1 r ((allLn F L k).length + j) (intVals (allLn F L k ++ (lenL F L k).take j))) ∧ Hid (Below W0.heap.size W0 wr) ∧ Hid (wr.ownsRow wo.heap.size 51 2 (.slice a1 (partsF F L k).length cp1) (partsF F L k).length (ptVals (partsF F L k)))) (fun _ i _ => (partsF F L k).length - (intOf i).toNat)
      case atStart => exact ⟨0, Nat.zero_le _, rfl, by simpa [Hid] using R1.out, B1.out, A1.out⟩
      case round =>
        obtain ⟨j, hj, rfl, hR2, hB2, hA2⟩ := hrel
        have hsz2 := hB2.out.size
        by_cases hjl : j < (partsF F L k).length
        · have hjl' : (j : Int) < ((partsF F L k).length : Int) := by omega
          have hj0 : (0 : Int) ≤ (j : Int) := by omega
          obtain ⟨a1', cp1', hve, hrA⟩ := own_ptform hA2.out
          simp only [Value.slice.injEq] at hve
          obtain ⟨rfl, -, rfl⟩ := hve
          obtain ⟨b, o, p, rfl, hp, hat⟩ := hrA.arg.at hjl
          obtain ⟨c0, c1⟩ := hat.cells hp
          obtain ⟨hs1, hs2⟩ := HS.out _ _ _ hp
          have PLn := Lib.hid (fun wx => partLen_impl p.fr p.tt hs1 hs2 wx)
          have HT : Hid (allLn F L k ++ (lenL F L k).take (j + 1) = allLn F L k ++ (lenL F L k).take j ++ [p.tt - p.fr]) := by
            show _ = _
            rw [List.take_add_one, List.append_assoc]
            congr 2
            simp [lenL, hp, Pt.len]
          have BX := Lib.hid (box_pt wr p)
          clear hp hs1 hs2 hat hrA
          go_wp2_with (first | (go_at_call 88; refine (PLn.out _).mono ?_; rintro e w2 ⟨rfl, hb2⟩; have R2 := Lib.hid (owns_below (hR2.out.alloc (.cells #[.int .i64 p.fr, .int .i64 p.tt] 51)) hb2); have B2 := Lib.hid (bnext (balloc hB2.out (.cells #[.int .i64 p.fr, .int .i64 p.tt] 51)) hb2); have A2 := Lib.hid (owns_below (hA2.out.alloc (.cells #[.int .i64 p.fr, .int .i64 p.tt] 51)) hb2); have z2 := B2.out.size; clear hb2) | (at_builtin; refine wpList_append_own _ rfl _ _ 86 rfl W0.heap.size 2 i0 (.int .i64 0) 1 8 Try.underlying86 hi hz0 hz1 hz2 rfl (by decide) _ ((allLn F L k).length + j) _ rfl (R2.out.alloc _) ⟨w2.heap.size, 0, none⟩ 1 1 [.int .i64 (p.tt - p.fr)] rfl rfl (cell_one_new _ _ _) (by simp [Value.oneCell']) (by unfold maxLen; omega) (by omega) (by simp; omega) ?_; intro v3 w3 hown3 hgrow _))
          go_roundw
          case rel =>
            refine ⟨j + 1, by omega, by go_num, ?_, ?_, ?_⟩
            · rw [HT.out]
              have e : intVals (allLn F L k ++ (lenL F L k).take j) ++ [.int .i64 (p.tt - p.fr)] = intVals (allLn F L k ++ (lenL F L k).take j ++ [p.tt - p.fr]) := by simp [intVals]
              rw [e] at hown3
              exact hown3
            · exact (balloc B2.out (.cells #[.int .i64 (p.tt - p.fr)] 2)).grown hgrow (by simp; omega) (fun r hr => by have := own_intBlock R2.out r hr; omega)
            · exact (A2.out.alloc _).kept hgrow (own_apart (by decide) (A2.out.alloc (.cells #[.int .i64 (p.tt - p.fr)] 2)) (R2.out.alloc _))
          case measure => simp [intOf]; omega
        · have hge : ¬ (j : Int) < ((partsF F L k).length : Int) := by omega
          have hjn : j = (partsF F L k).length := by omega
          have e : (allLn F L (k + 1)).length = (allLn F L k).length + (lenL F L k).length := by simp [allLn]
          have h := hR2.out
          rw [hjn, ← hlE, List.take_length, ← e] at h
          have HR := Lib.hid h
          clear h e
          clear hjn
          go_wp2
          go_roundw
          case rel => exact ⟨k + 1, by omega, by go_num, HR.out, hB2.out⟩
          case measure => simp [intOf]; omega
    · have hge : ¬ (k : Int) < (n : Int) := by omega
      have hkn : k = n := by omega
      subst hkn
      obtain ⟨a', cp', hv, hI⟩ := own_intform hR.out
      subst hv
      go_wp2
      go_ret
      first | exact ⟨_, _, rfl, hI, bnext E0.out BO.out⟩ | exact ⟨_, ⟨_, rfl⟩, hI, bnext E0.out BO.out⟩ | exact ⟨_, hI, bnext E0.out BO.out⟩
theorem allLn_small {F C : Int} {L : List Og} (hok : FrOk F C L) (n : Nat) : ∀ z ∈ allLn F L n, 0 ≤ z ∧ z ≤ 2000 := by
  intro z hz
  refine ⟨allLn_pos n z hz, ?_⟩
  induction n with
  | zero => cases hz
  | succ n ih =>
    rcases List.mem_append.1 hz with h | h
    · exact ih h
    · obtain ⟨p, hp, rfl⟩ := List.mem_map.1 h
      obtain ⟨k, hk⟩ := List.getElem?_of_mem hp
      have := parts_small hok hk
      unfold Pt.len
      omega
theorem allLn_len {F C : Int} {L : List Og} (hok : FrOk F C L) : (allLn F L C.toNat).length ≤ 360 := by
  have h1 := allLn_length F L C.toNat
  have h2 : C.toNat * (L.length + 1) ≤ 40 * 9 := Nat.mul_le_mul (by have := hok.fc; omega) (by have := hok.len; omega)
  omega
set_option maxRecDepth 100000 in
set_option maxHeartbeats 6400000 in
theorem sumD_impl (D : List Int) (h0 : ∀ z ∈ D, 0 ≤ z ∧ z ≤ 2000) (h1 : D.length ≤ 1000) (a : Option Addr) (cap : Nat) (w : World) (ha : IntArg w a D) :
    Calls Try.prog 70 #[.slice a D.length cap] w fun e w' => e = .returned (.int .i64 D.sum) ∧ w = w' := by
  have HA := Lib.hid ha
  have HB := Lib.hid h0
  clear ha h0
  go_enter Try.func70, Try.ntmps70
  go_wp2
  go_loopw [3, 9] (fun t i wr => ∃ (k : Nat) (T : Int), k ≤ D.length ∧ t = .int .i64 T ∧ i = .int .i64 (k : Int) ∧ (0 ≤ T ∧ T ≤ 2000 * (k : Int)) ∧ Hid (T = (D.take k).sum) ∧ w = wr) (fun _ i _ => D.length - (intOf i).toNat)
  case atStart => exact ⟨0, 0, Nat.zero_le _, rfl, rfl, by omega, rfl, rfl⟩
  case round =>
    obtain ⟨k, T, hk, rfl, rfl, hT, hS, rfl⟩ := hrel
    obtain ⟨hT0, hT1⟩ := hT
    by_cases hlt : k < D.length
    · have hlt' : (k : Int) < (D.length : Int) := by omega
      have hk0 : (0 : Int) ≤ (k : Int) := by omega
      obtain ⟨b, o, z, rfl, hz, hat⟩ := HA.out.at hlt
      have c0 := hat k z hz
      obtain ⟨hz0, hz1⟩ := HB.out z (List.mem_of_getElem? hz)
      have HN : Hid (T + z = (D.take (k + 1)).sum) := by show _ = _; rw [List.take_add_one, hz, hS.out]; simp
      clear hz hat
      go_wp2
      go_roundw
      case rel => exact ⟨k + 1, T + z, by omega, rfl, by go_num, by omega, HN.out, by first | rfl | trivial⟩
      case measure => simp [intOf]; omega
    · have hge : ¬ (k : Int) < (D.length : Int) := by omega
      have HN : Hid (T = D.sum) := by show _ = _; rw [hS.out, List.take_of_length_le (by omega)]
      go_wp2
      go_ret
      exact ⟨ret_int HN.out, rfl⟩
set_option maxRecDepth 100000 in
set_option maxHeartbeats 6400000 in
theorem narrowest_impl (F C : Int) (L : List Og) (a : Option Addr) (cap : Nat) (hl : L.length ≤ 1048576) (hcap : L.length ≤ cap) (w : World) (ha : OgArg w a L) :
    Calls Try.prog 31 #[.agg #[.int .i64 F, .int .i64 C, .slice a L.length cap]] w fun e w' => e = .returned (.tuple #[.int .i64 (piN F C L), .int .i64 (piE F C L)]) ∧ Below w.heap.size w w' := by
  have FB' := FrBox.new w F C a cap L 29
  have E0' := Lib.hid (balloc0 w (.cells #[.int .i64 F, .int .i64 C, .slice a L.length cap] 29))
  have z0 : (w.alloc (.cells #[.int .i64 F, .int .i64 C, .slice a L.length cap] 29)).heap.size = w.heap.size + 1 := by simp
  obtain ⟨W0, hW⟩ : ∃ W0, w.alloc (.cells #[.int .i64 F, .int .i64 C, .slice a L.length cap] 29) = W0 := ⟨_, rfl⟩
  rw [hW] at FB' E0' z0
  have FB := Lib.hid FB'
  have E0 := Lib.hid E0'.out
  have HA := Lib.hid (ha.later E0.out)
  have HW := Lib.hid hW
  clear hW E0' FB' ha
  have X := Lib.hid (validFront_impl F C L a cap hl hcap W0 HA.out)
  cases hok : okFr F C L
  · have e1 : piN F C L = 0 := by simp [piN, hok]
    have e2 : piE F C L = 1 := by simp [piE, hok]
    rw [e1, e2]
    rw [hok] at X
    clear e1 e2 hok
    go_enter Try.func31, Try.ntmps31
    go_wp2_with fail
    rw [HW.out]
    obtain ⟨q0, q1, q2⟩ := FB.out
    go_wp2_with fail
    refine X.out.mono ?_
    rintro e w1 ⟨rfl, hb1⟩
    have B1 := Lib.hid hb1
    clear hb1 q0 q1 q2
    go_wp2
    go_ret2
    exact ⟨rfl, bnext E0.out B1.out⟩
  · have HO := okFr_true.1 hok
    have e1 : piN F C L = mnN (allLn F L C.toNat) := by simp [piN, hok]
    have e2 : piE F C L = mnE (allLn F L C.toNat) := by simp [piE, hok]
    rw [e1, e2]
    rw [hok] at X
    have Q := Lib.hid (fun wx (hx : Below W0.heap.size W0 wx) => partLengths_impl F C L a cap HO wx (HA.out.later hx))
    have LX := Lib.hid (fun a' cp wx (h : IntArg wx a' (allLn F L C.toNat)) => leastOf_impl (allLn F L C.toNat) (allLn_pos _) (by have := allLn_len HO; omega) a' cp wx h)
    obtain ⟨D, hD⟩ : ∃ D, allLn F L C.toNat = D := ⟨_, rfl⟩
    rw [hD] at Q LX ⊢
    clear e1 e2 hok HO hD
    go_enter Try.func31, Try.ntmps31
    go_wp2_with fail
    rw [HW.out]
    obtain ⟨q0, q1, q2⟩ := FB.out
    go_wp2_with fail
    refine X.out.mono ?_
    rintro e w1 ⟨rfl, hb1⟩
    have B1 := Lib.hid hb1
    clear hb1 q0 q1 q2
    obtain ⟨q0, q1, q2⟩ := FB.out.later B1.out
    go_wp2_with (first | (go_at_call 69; refine (Q.out _ B1.out).mono ?_; rintro e w2 ⟨a2, cp2, rfl, h2, hb2⟩; have A2 := Lib.hid h2; have B2 := Lib.hid (bnext B1.out hb2); clear hb2 h2) | (go_at_call 68; refine (LX.out _ _ _ A2.out).mono ?_; rintro e w3 ⟨rfl, rfl⟩))
    go_ret2
    exact ⟨rfl, bnext E0.out B2.out⟩
set_option maxRecDepth 100000 in
set_option maxHeartbeats 6400000 in
theorem solid_impl (F C : Int) (L : List Og) (a : Option Addr) (cap : Nat) (hl : L.length ≤ 1048576) (hcap : L.length ≤ cap) (w : World) (ha : OgArg w a L) :
    Calls Try.prog 33 #[.agg #[.int .i64 F, .int .i64 C, .slice a L.length cap]] w fun e w' => e = .returned (.tuple #[.int .i64 (soN F C L), .int .i64 (soE F C L)]) ∧ Below w.heap.size w w' := by
  have FB' := FrBox.new w F C a cap L 29
  have E0' := Lib.hid (balloc0 w (.cells #[.int .i64 F, .int .i64 C, .slice a L.length cap] 29))
  have z0 : (w.alloc (.cells #[.int .i64 F, .int .i64 C, .slice a L.length cap] 29)).heap.size = w.heap.size + 1 := by simp
  obtain ⟨W0, hW⟩ : ∃ W0, w.alloc (.cells #[.int .i64 F, .int .i64 C, .slice a L.length cap] 29) = W0 := ⟨_, rfl⟩
  rw [hW] at FB' E0' z0
  have FB := Lib.hid FB'
  have E0 := Lib.hid E0'.out
  have HA := Lib.hid (ha.later E0.out)
  have HW := Lib.hid hW
  clear hW E0' FB' ha
  have X := Lib.hid (validFront_impl F C L a cap hl hcap W0 HA.out)
  cases hok : okFr F C L
  · have e1 : soN F C L = 0 := by simp [soN, hok]
    have e2 : soE F C L = 1 := by simp [soE, hok]
    rw [e1, e2]
    rw [hok] at X
    clear e1 e2 hok
    go_enter Try.func33, Try.ntmps33
    go_wp2_with fail
    rw [HW.out]
    obtain ⟨q0, q1, q2⟩ := FB.out
    go_wp2_with fail
    refine X.out.mono ?_
    rintro e w1 ⟨rfl, hb1⟩
    have B1 := Lib.hid hb1
    clear hb1 q0 q1 q2
    go_wp2
    go_ret2
    exact ⟨rfl, bnext E0.out B1.out⟩
  · have HO := okFr_true.1 hok
    have e1 : soN F C L = (allLn F L C.toNat).sum := by simp [soN, hok, sumAll]
    have e2 : soE F C L = 0 := by simp [soE, hok]
    rw [e1, e2]
    rw [hok] at X
    have Q := Lib.hid (fun wx (hx : Below W0.heap.size W0 wx) => partLengths_impl F C L a cap HO wx (HA.out.later hx))
    have LX := Lib.hid (fun a' cp wx (h : IntArg wx a' (allLn F L C.toNat)) => sumD_impl (allLn F L C.toNat) (allLn_small HO _) (by have := allLn_len HO; omega) a' cp wx h)
    obtain ⟨D, hD⟩ : ∃ D, allLn F L C.toNat = D := ⟨_, rfl⟩
    rw [hD] at Q LX ⊢
    clear e1 e2 hok HO hD
    go_enter Try.func33, Try.ntmps33
    go_wp2_with fail
    rw [HW.out]
    obtain ⟨q0, q1, q2⟩ := FB.out
    go_wp2_with fail
    refine X.out.mono ?_
    rintro e w1 ⟨rfl, hb1⟩
    have B1 := Lib.hid hb1
    clear hb1 q0 q1 q2
    obtain ⟨q0, q1, q2⟩ := FB.out.later B1.out
    go_wp2_with (first | (go_at_call 69; refine (Q.out _ B1.out).mono ?_; rintro e w2 ⟨a2, cp2, rfl, h2, hb2⟩; have A2 := Lib.hid h2; have B2 := Lib.hid (bnext B1.out hb2); clear hb2 h2) | (go_at_call 70; refine (LX.out _ _ _ A2.out).mono ?_; rintro e w3 ⟨rfl, rfl⟩))
    go_ret2
    exact ⟨rfl, bnext E0.out B2.out⟩
end Go.Proofs.Ytplggghhhgmebaa
