/-
  LintelClash: the program's word.
-/
import Derived.Test.YtplggghhhgmebaaLcS
import Derived.Test.YtplggghhhgmebaaLnI
import Derived.Deep.RegionHeld3
namespace Go.Proofs.Ytplggghhhgmebaa
open Go.ChangeShapes Go.WideShapes Go.ChangeAt Go.RowKit Go.Joins

set_option maxRecDepth 100000 in
set_option maxHeartbeats 40000000 in
theorem lintelClash_impl (F C : Int) (L : List Og) (a : Option Addr) (cap : Nat) (hl : L.length ≤ 1048576) (hcap : L.length ≤ cap) (z : Int) (w : World) (ha : OgArg w a L) :
    Calls Try.prog 38 #[.agg #[.int .i64 F, .int .i64 C, .slice a L.length cap], .int .i64 z] w fun e w' => e = .returned (.tuple #[.int .i64 (lcA F C L z), .int .i64 (lcB F C L z), .int .i64 (lcK F C L z)]) ∧ Below w.heap.size w w' := by
  have FB' := FrBox.new w F C a cap L 29
  have E0' := Lib.hid (balloc0 w (.cells #[.int .i64 F, .int .i64 C, .slice a L.length cap] 29))
  obtain ⟨W0, hW⟩ : ∃ W0, w.alloc (.cells #[.int .i64 F, .int .i64 C, .slice a L.length cap] 29) = W0 := ⟨_, rfl⟩
  rw [hW] at FB' E0'
  have FB := Lib.hid FB'
  have E0 := Lib.hid E0'.out
  have HA := Lib.hid (ha.later E0.out)
  have HW := Lib.hid hW
  clear hW E0' FB' ha
  have X := Lib.hid (checkFront_impl F C L a cap hl hcap z 0 20 W0 HA.out)
  cases hok : okFr F C L
  · rw [frK_inv hok] at X
    obtain ⟨e1, e2, e3⟩ := lc_inv (z := z) hok
    rw [e1, e2, e3]
    clear e1 e2 e3 hok
    go_enter Try.func38, Try.ntmps38
    go_wp2_with fail
    rw [HW.out]
    obtain ⟨q0, q1, q2⟩ := FB.out
    go_wp2_with fail
    refine X.out.mono ?_
    rintro e w1 ⟨rfl, hb1⟩
    have B1 := Lib.hid hb1
    clear hb1 q0 q1 q2
    go_wp2
    refine bodyPost_ret (v := .tuple #[.int .i64 0, .int .i64 0, .int .i64 1]) (by simp [results, Try.results38, go_sem]) rfl ⟨rfl, bnext E0.out B1.out⟩
  have HOF := Lib.hid (okFr_true.1 hok)
  have HOK := Lib.hid hok
  have hl8 : (L.length : Int) ≤ 8 := by have := HOF.out.len; omega
  clear hok
  cases hiz : inB z 0 20
  · rw [frK_rng HOK.out hiz] at X
    obtain ⟨e1, e2, e3⟩ := lc_rng HOK.out hiz
    rw [e1, e2, e3]
    clear e1 e2 e3 hiz
    go_enter Try.func38, Try.ntmps38
    go_wp2_with fail
    rw [HW.out]
    obtain ⟨q0, q1, q2⟩ := FB.out
    go_wp2_with fail
    refine X.out.mono ?_
    rintro e w1 ⟨rfl, hb1⟩
    have B1 := Lib.hid hb1
    clear hb1 q0 q1 q2
    go_wp2
    refine bodyPost_ret (v := .tuple #[.int .i64 0, .int .i64 0, .int .i64 2]) (by simp [results, Try.results38, go_sem]) rfl ⟨rfl, bnext E0.out B1.out⟩
  rw [frK_ok HOK.out hiz] at X
  have HI := Lib.hid hiz
  obtain ⟨hz0, hz1⟩ := inB_true.1 hiz
  clear hiz
  go_enter Try.func38, Try.ntmps38
  go_wp2_with fail
  rw [HW.out]
  obtain ⟨q0, q1, q2⟩ := FB.out
  go_wp2_with fail
  refine X.out.mono ?_
  rintro e w1 ⟨rfl, hb1⟩
  have B1 := Lib.hid hb1
  clear hb1 q0 q1 q2
  obtain ⟨q0, q1, q2⟩ := FB.out.later B1.out
  go_wp2
  go_loopw [21] (fun ii wr => ∃ (i : Nat), i ≤ L.length ∧ ii = .int .i64 (i : Int) ∧ Hid (∀ (i' k' : Nat) (c d : Og), i' < k' → L[i']? = some c → L[k']? = some d → i' < i → c.lcl z d = false) ∧ Hid (Below W0.heap.size W0 wr)) (fun ii _ => L.length - (intOf ii).toNat)
  case atStart => exact ⟨0, Nat.zero_le _, rfl, fun i' k' c d _ _ _ h => by omega, B1.out⟩
  case round =>
    obtain ⟨i, hi, rfl, hNN, hBB⟩ := hrel
    obtain ⟨wo, ho⟩ : ∃ wo, wo = wr := ⟨_, rfl⟩
    subst ho
    by_cases hlt : i < L.length
    · have hlt' : (i : Int) < (L.length : Int) := by omega
      have hi0 : (0 : Int) ≤ (i : Int) := by omega
      obtain ⟨b, o, c, rfl, hc, hat⟩ := (HA.out.later hBB.out).at hlt
      obtain ⟨c0, c1, c2, c3⟩ := hat.cells hc
      have HC := Lib.hid hc
      have hsc : c.small := Og.small_of (HOF.out.fit i c hc) HOF.out.fl.2
      have LCc := Lib.hid (fun wx => widened_impl c hsc z (by omega) wx)
      have OC' := box_og wo c
      have BO' : Below W0.heap.size W0 (wo.alloc (.cells #[.int .i64 c.fr, .int .i64 c.tt, .int .i64 c.lo, .int .i64 c.hi] 38)) := balloc hBB.out _
      have FO' := (FB.out.later hBB.out).later (balloc0 wo (.cells #[.int .i64 c.fr, .int .i64 c.tt, .int .i64 c.lo, .int .i64 c.hi] 38))
      have LO' : OgAt (wo.alloc (.cells #[.int .i64 c.fr, .int .i64 c.tt, .int .i64 c.lo, .int .i64 c.hi] 38)) b o L := hat.later (balloc0 _ _)
      clear hc hsc hat
      go_wp2
      obtain ⟨VO, hVO⟩ : ∃ VO, wo.alloc (.cells #[.int .i64 c.fr, .int .i64 c.tt, .int .i64 c.lo, .int .i64 c.hi] 38) = VO := ⟨_, rfl⟩
      rw [hVO] at OC' BO' FO' LO'
      rw [hVO]
      have OC := Lib.hid OC'
      have BO := Lib.hid BO'
      have FO := Lib.hid FO'
      have LO : Hid (∀ wx, Below VO.heap.size VO wx → OgAt wx b o L) := fun wx hx => LO'.later hx
      clear hVO OC' BO' FO' LO' c0 c1 c2 c3
      go_loopw [10] (fun kk wr => ∃ (k : Nat), i < k ∧ k ≤ L.length ∧ kk = .int .i64 (k : Int) ∧ Hid (∀ (i' k' : Nat) (c d : Og), i' < k' → L[i']? = some c → L[k']? = some d → (i' < i ∨ i' = i ∧ k' < k) → c.lcl z d = false) ∧ Hid (Below VO.heap.size VO wr)) (fun kk _ => L.length - (intOf kk).toNat)
      case atStart => exact ⟨i + 1, by omega, by omega, by go_num, fun i' k' c' d' h1 h2 h3 h4 => hNN.out i' k' c' d' h1 h2 h3 (by omega), Below.refl _ _⟩
      case round =>
        obtain ⟨k, hik, hkn, rfl, hNo, hB⟩ := hrel
        by_cases hkl : k < L.length
        · skip
          have hkl' : (k : Int) < (L.length : Int) := by omega
          have hk0 : (0 : Int) ≤ (k : Int) := by omega
          obtain ⟨d, hd⟩ : ∃ d, L[k]? = some d := ⟨_, List.getElem?_eq_getElem hkl⟩
          have HD := Lib.hid hd
          have hsd : d.small := Og.small_of (HOF.out.fit k d hd) HOF.out.fl.2
          have LD := Lib.hid (fun wx => widened_impl d hsd z (by omega) wx)
          have MM := Lib.hid (fun wx => meets_impl (c.fr - z) (c.tt + z) (d.fr - z) (d.tt + z) wx)
          clear hd hsd
          obtain ⟨q0, q1, q2⟩ := FO.out.later hB.out
          obtain ⟨d0, d1, d2, d3⟩ := (LO.out _ hB.out).cells HD.out
          have OX' : ∀ wx, Below (wr.alloc (.cells #[.int .i64 d.fr, .int .i64 d.tt, .int .i64 d.lo, .int .i64 d.hi] 38)).heap.size (wr.alloc (.cells #[.int .i64 d.fr, .int .i64 d.tt, .int .i64 d.lo, .int .i64 d.hi] 38)) wx → wx.cell? ⟨wo.heap.size, 0, none⟩ = some (.int .i64 c.fr) ∧ wx.cell? ⟨wo.heap.size, 1, none⟩ = some (.int .i64 c.tt) ∧ wx.cell? ⟨wo.heap.size, 2, none⟩ = some (.int .i64 c.lo) ∧ wx.cell? ⟨wo.heap.size, 3, none⟩ = some (.int .i64 c.hi) := fun wx hx => OC.out _ (bnext (balloc hB.out (.cells #[.int .i64 d.fr, .int .i64 d.tt, .int .i64 d.lo, .int .i64 d.hi] 38)) hx)
          have OY' := box_og wr d
          have BV' : Below VO.heap.size VO (wr.alloc (.cells #[.int .i64 d.fr, .int .i64 d.tt, .int .i64 d.lo, .int .i64 d.hi] 38)) := balloc hB.out _
          obtain ⟨V, hV⟩ : ∃ V, wr.alloc (.cells #[.int .i64 d.fr, .int .i64 d.tt, .int .i64 d.lo, .int .i64 d.hi] 38) = V := ⟨_, rfl⟩
          rw [hV] at OX' OY' BV'
          have OX := Lib.hid OX'
          have OY := Lib.hid OY'
          have BV := Lib.hid BV'
          have HV := Lib.hid hV
          clear hV OX' OY' BV'
          cases hh : (c.hi == d.hi)
          · go_wp2_with fail
            rw [HV.out]
            refine wp_region_held_drew (S := fun W => Below V.heap.size V W) (by kernel_rfl) ?_ (fun hHeld => ?_)
            · exact (Below.refl _ _).drew
            refine wpAnyH_take (i := 0) (v := .pointer (some ⟨wo.heap.size, 3, none⟩)) rfl (by kernel_rfl) (by kernel_rfl) (by kernel_rfl) (fun _ _ _ h => h) (Or.inl ⟨by kernel_rfl, ?_⟩) (by assumption) ?_
            · intro w hSw
              try dsimp only at hSw
              skip
              go_simp
            try simp only [Act.put, List.setIfInBounds_toArray, List.set_cons_zero, List.set_cons_succ, List.getElem_toArray, List.getElem_cons_zero]
            refine wpAnyH_take (i := 1) (v := .int .i64 c.hi) rfl (by kernel_rfl) (by kernel_rfl) (by kernel_rfl) (fun _ _ _ h => h) (Or.inl ⟨by kernel_rfl, ?_⟩) (by assumption) ?_
            · intro w hSw
              try dsimp only at hSw
              obtain ⟨c0, c1, c2, c3⟩ := OX.out _ hSw
              obtain ⟨d0, d1, d2, d3⟩ := OY.out _ hSw
              go_simp
            try simp only [Act.put, List.setIfInBounds_toArray, List.set_cons_zero, List.set_cons_succ, List.getElem_toArray, List.getElem_cons_zero, List.getElem_cons_succ]
            refine wpAnyH_take (i := 2) (v := .pointer (some ⟨wr.heap.size, 3, none⟩)) rfl (by kernel_rfl) (by kernel_rfl) (by kernel_rfl) (fun _ _ _ h => h) (Or.inl ⟨by kernel_rfl, ?_⟩) (by assumption) ?_
            · intro w hSw
              try dsimp only at hSw
              skip
              go_simp
            try simp only [Act.put, List.setIfInBounds_toArray, List.set_cons_zero, List.set_cons_succ, List.getElem_toArray, List.getElem_cons_zero, List.getElem_cons_succ]
            refine wpAnyH_take (i := 3) (v := .int .i64 d.hi) rfl (by kernel_rfl) (by kernel_rfl) (by kernel_rfl) (fun _ _ _ h => h) (Or.inl ⟨by kernel_rfl, ?_⟩) (by assumption) ?_
            · intro w hSw
              try dsimp only at hSw
              obtain ⟨c0, c1, c2, c3⟩ := OX.out _ hSw
              obtain ⟨d0, d1, d2, d3⟩ := OY.out _ hSw
              go_simp
            try simp only [Act.put, List.setIfInBounds_toArray, List.set_cons_zero, List.set_cons_succ, List.getElem_toArray, List.getElem_cons_zero, List.getElem_cons_succ]
            refine wpAnyH_take (i := 4) (v := .bool false) rfl (by kernel_rfl) (by kernel_rfl) (by kernel_rfl) (fun _ _ _ h => h) (Or.inl ⟨by kernel_rfl, ?_⟩) (by assumption) ?_
            · intro w hSw
              try dsimp only at hSw
              skip
              go_simp
              all_goals first | omega | exact IntWalk.i64_in _ (by omega)
            try simp only [Act.put, List.setIfInBounds_toArray, List.set_cons_zero, List.set_cons_succ, List.getElem_toArray, List.getElem_cons_zero, List.getElem_cons_succ]
            refine wpAnyH_take (i := 5) (v := .bool false) rfl (by kernel_rfl) (by kernel_rfl) (by kernel_rfl) (fun _ _ _ h => h) (Or.inl ⟨by kernel_rfl, ?_⟩) (by assumption) ?_
            · intro w hSw
              try dsimp only at hSw
              skip
              go_simp
            try simp only [Act.put, List.setIfInBounds_toArray, List.set_cons_zero, List.set_cons_succ, List.getElem_toArray, List.getElem_cons_zero, List.getElem_cons_succ]
            refine wpAnyH_take (i := 6) (v := undef) rfl (by kernel_rfl) (by kernel_rfl) (by kernel_rfl) (fun _ _ _ h => h) (Or.inr ⟨by kernel_rfl, rfl⟩) (by assumption) ?_
            try simp only [Act.put, List.setIfInBounds_toArray, List.set_cons_zero, List.set_cons_succ, List.getElem_toArray, List.getElem_cons_zero, List.getElem_cons_succ]
            refine wpAnyH_take (i := 7) (v := undef) rfl (by kernel_rfl) (by kernel_rfl) (by kernel_rfl) (fun _ _ _ h => h) (Or.inr ⟨by kernel_rfl, rfl⟩) (by assumption) ?_
            try simp only [Act.put, List.setIfInBounds_toArray, List.set_cons_zero, List.set_cons_succ, List.getElem_toArray, List.getElem_cons_zero, List.getElem_cons_succ]
            refine wpAnyH_take (i := 8) (v := undef) rfl (by kernel_rfl) (by kernel_rfl) (by kernel_rfl) (fun _ _ _ h => h) (Or.inr ⟨by kernel_rfl, rfl⟩) (by assumption) ?_
            try simp only [Act.put, List.setIfInBounds_toArray, List.set_cons_zero, List.set_cons_succ, List.getElem_toArray, List.getElem_cons_zero, List.getElem_cons_succ]
            refine wpAnyH_take (i := 9) (v := undef) rfl (by kernel_rfl) (by kernel_rfl) (by kernel_rfl) (fun _ _ _ h => h) (Or.inr ⟨by kernel_rfl, rfl⟩) (by assumption) ?_
            try simp only [Act.put, List.setIfInBounds_toArray, List.set_cons_zero, List.set_cons_succ, List.getElem_toArray, List.getElem_cons_zero, List.getElem_cons_succ]
            refine wpAnyH_take (i := 10) (v := undef) rfl (by kernel_rfl) (by kernel_rfl) (by kernel_rfl) (fun _ _ _ h => h) (Or.inr ⟨by kernel_rfl, rfl⟩) (by assumption) ?_
            try simp only [Act.put, List.setIfInBounds_toArray, List.set_cons_zero, List.set_cons_succ, List.getElem_toArray, List.getElem_cons_zero, List.getElem_cons_succ]
            refine wpAnyH_take (i := 11) (v := undef) rfl (by kernel_rfl) (by kernel_rfl) (by kernel_rfl) (fun _ _ _ h => h) (Or.inr ⟨by kernel_rfl, rfl⟩) (by assumption) ?_
            try simp only [Act.put, List.setIfInBounds_toArray, List.set_cons_zero, List.set_cons_succ, List.getElem_toArray, List.getElem_cons_zero, List.getElem_cons_succ]
            refine wpAnyH_take (i := 12) (v := undef) rfl (by kernel_rfl) (by kernel_rfl) (by kernel_rfl) (fun _ _ _ h => h) (Or.inr ⟨by kernel_rfl, rfl⟩) (by assumption) ?_
            try simp only [Act.put, List.setIfInBounds_toArray, List.set_cons_zero, List.set_cons_succ, List.getElem_toArray, List.getElem_cons_zero, List.getElem_cons_succ]
            refine wpAnyH_take (i := 13) (v := .bool false) rfl (by kernel_rfl) (by kernel_rfl) (by kernel_rfl) (fun _ _ _ h => h) (Or.inl ⟨by kernel_rfl, ?_⟩) (by assumption) ?_
            · intro w hSw
              try dsimp only at hSw
              skip
              go_simp
            try simp only [Act.put, List.setIfInBounds_toArray, List.set_cons_zero, List.set_cons_succ, List.getElem_toArray, List.getElem_cons_zero, List.getElem_cons_succ]
            refine wpAnyH_done (by kernel_rfl) ?_ _
            go_wp2
            go_roundw
            case rel =>
              refine ⟨k + 1, by omega, by omega, by go_num, fun i' k' c' d' h1' h2' h3' h4' => ?_, BV.out.trans (Below.mono hHeld BV.out.size)⟩
              by_cases e1 : i' = i ∧ k' = k
              · obtain ⟨rfl, rfl⟩ := e1
                have e2 := HC.out
                rw [h2'] at e2
                cases e2
                have e3 := HD.out
                rw [h3'] at e3
                cases e3
                simp [Og.lcl, hh]
              · exact hNo.out i' k' c' d' h1' h2' h3' (by omega)
            case measure => simp [intOf]; omega
          cases hm : (decide (c.fr - z < d.tt + z) && decide (d.fr - z < c.tt + z))
          · have HM := Lib.hid hm
            rw [hm] at MM
            clear hm
            go_wp2_with fail
            rw [HV.out]
            refine wp_region_held_drew (S := fun W => Below V.heap.size V W) (by kernel_rfl) ?_ (fun hHeld => ?_)
            · exact (Below.refl _ _).drew
            refine wpAnyH_take (i := 0) (v := .pointer (some ⟨wo.heap.size, 3, none⟩)) rfl (by kernel_rfl) (by kernel_rfl) (by kernel_rfl) (fun _ _ _ h => h) (Or.inl ⟨by kernel_rfl, ?_⟩) (by assumption) ?_
            · intro w hSw
              try dsimp only at hSw
              skip
              go_simp
            try simp only [Act.put, List.setIfInBounds_toArray, List.set_cons_zero, List.set_cons_succ, List.getElem_toArray, List.getElem_cons_zero]
            refine wpAnyH_take (i := 1) (v := .int .i64 c.hi) rfl (by kernel_rfl) (by kernel_rfl) (by kernel_rfl) (fun _ _ _ h => h) (Or.inl ⟨by kernel_rfl, ?_⟩) (by assumption) ?_
            · intro w hSw
              try dsimp only at hSw
              obtain ⟨c0, c1, c2, c3⟩ := OX.out _ hSw
              obtain ⟨d0, d1, d2, d3⟩ := OY.out _ hSw
              go_simp
            try simp only [Act.put, List.setIfInBounds_toArray, List.set_cons_zero, List.set_cons_succ, List.getElem_toArray, List.getElem_cons_zero, List.getElem_cons_succ]
            refine wpAnyH_take (i := 2) (v := .pointer (some ⟨wr.heap.size, 3, none⟩)) rfl (by kernel_rfl) (by kernel_rfl) (by kernel_rfl) (fun _ _ _ h => h) (Or.inl ⟨by kernel_rfl, ?_⟩) (by assumption) ?_
            · intro w hSw
              try dsimp only at hSw
              skip
              go_simp
            try simp only [Act.put, List.setIfInBounds_toArray, List.set_cons_zero, List.set_cons_succ, List.getElem_toArray, List.getElem_cons_zero, List.getElem_cons_succ]
            refine wpAnyH_take (i := 3) (v := .int .i64 d.hi) rfl (by kernel_rfl) (by kernel_rfl) (by kernel_rfl) (fun _ _ _ h => h) (Or.inl ⟨by kernel_rfl, ?_⟩) (by assumption) ?_
            · intro w hSw
              try dsimp only at hSw
              obtain ⟨c0, c1, c2, c3⟩ := OX.out _ hSw
              obtain ⟨d0, d1, d2, d3⟩ := OY.out _ hSw
              go_simp
            try simp only [Act.put, List.setIfInBounds_toArray, List.set_cons_zero, List.set_cons_succ, List.getElem_toArray, List.getElem_cons_zero, List.getElem_cons_succ]
            refine wpAnyH_take (i := 4) (v := .bool true) rfl (by kernel_rfl) (by kernel_rfl) (by kernel_rfl) (fun _ _ _ h => h) (Or.inl ⟨by kernel_rfl, ?_⟩) (by assumption) ?_
            · intro w hSw
              try dsimp only at hSw
              skip
              go_simp
              all_goals first | omega | exact IntWalk.i64_in _ (by omega)
            try simp only [Act.put, List.setIfInBounds_toArray, List.set_cons_zero, List.set_cons_succ, List.getElem_toArray, List.getElem_cons_zero, List.getElem_cons_succ]
            refine wpAnyH_take (i := 5) (v := .bool true) rfl (by kernel_rfl) (by kernel_rfl) (by kernel_rfl) (fun _ _ _ h => h) (Or.inl ⟨by kernel_rfl, ?_⟩) (by assumption) ?_
            · intro w hSw
              try dsimp only at hSw
              skip
              go_simp
            try simp only [Act.put, List.setIfInBounds_toArray, List.set_cons_zero, List.set_cons_succ, List.getElem_toArray, List.getElem_cons_zero, List.getElem_cons_succ]
            refine wpAnyH_take (i := 6) (v := .agg #[.int .i64 c.fr, .int .i64 c.tt, .int .i64 c.lo, .int .i64 c.hi]) rfl (by kernel_rfl) (by kernel_rfl) (by kernel_rfl) (fun _ _ _ h => h) (Or.inl ⟨by kernel_rfl, ?_⟩) (by assumption) ?_
            · intro w hSw
              try dsimp only at hSw
              obtain ⟨c0, c1, c2, c3⟩ := OX.out _ hSw
              obtain ⟨d0, d1, d2, d3⟩ := OY.out _ hSw
              go_simp
            try simp only [Act.put, List.setIfInBounds_toArray, List.set_cons_zero, List.set_cons_succ, List.getElem_toArray, List.getElem_cons_zero, List.getElem_cons_succ]
            refine wpAnyH_take (i := 7) (v := .int .i64 z) rfl (by kernel_rfl) (by kernel_rfl) (by kernel_rfl) (fun _ _ _ h => h) (Or.inl ⟨by kernel_rfl, ?_⟩) (by assumption) ?_
            · intro w hSw
              try dsimp only at hSw
              skip
              go_simp
            try simp only [Act.put, List.setIfInBounds_toArray, List.set_cons_zero, List.set_cons_succ, List.getElem_toArray, List.getElem_cons_zero, List.getElem_cons_succ]
            refine wpAnyH_take (i := 9) (v := .agg #[.int .i64 d.fr, .int .i64 d.tt, .int .i64 d.lo, .int .i64 d.hi]) rfl (by kernel_rfl) (by kernel_rfl) (by kernel_rfl) (fun _ _ _ h => h) (Or.inl ⟨by kernel_rfl, ?_⟩) (by assumption) ?_
            · intro w hSw
              try dsimp only at hSw
              obtain ⟨c0, c1, c2, c3⟩ := OX.out _ hSw
              obtain ⟨d0, d1, d2, d3⟩ := OY.out _ hSw
              go_simp
            try simp only [Act.put, List.setIfInBounds_toArray, List.set_cons_zero, List.set_cons_succ, List.getElem_toArray, List.getElem_cons_zero, List.getElem_cons_succ]
            refine wpAnyH_take (i := 10) (v := .int .i64 z) rfl (by kernel_rfl) (by kernel_rfl) (by kernel_rfl) (fun _ _ _ h => h) (Or.inl ⟨by kernel_rfl, ?_⟩) (by assumption) ?_
            · intro w hSw
              try dsimp only at hSw
              skip
              go_simp
            try simp only [Act.put, List.setIfInBounds_toArray, List.set_cons_zero, List.set_cons_succ, List.getElem_toArray, List.getElem_cons_zero, List.getElem_cons_succ]
            refine wpAnyH_ready (rs := [8]) (by kernel_rfl) (by simp) ?_
            refine AllReadyH.cons rfl (fun K hK => ?_) AllReadyH.nil
            go_simp
            go_at_call 73
            refine (LCc.out _).mono ?_
            rintro e w1 ⟨rfl, hb⟩
            refine hK.out _ _ ?_ (fun hHeld' => ?_)
            · exact bnext hHeld hb
            clear hK K hHeld
            have hHeld := hHeld'
            clear hHeld'
            try simp only [Act.put, List.setIfInBounds_toArray, List.set_cons_zero, List.set_cons_succ, List.getElem_toArray, List.getElem_cons_zero, List.getElem_cons_succ]
            refine wpAnyH_ready (rs := [11]) (by kernel_rfl) (by simp) ?_
            refine AllReadyH.cons rfl (fun K hK => ?_) AllReadyH.nil
            go_simp
            go_at_call 73
            refine (LD.out _).mono ?_
            rintro e w1 ⟨rfl, hb⟩
            refine hK.out _ _ ?_ (fun hHeld' => ?_)
            · exact bnext hHeld hb
            clear hK K hHeld
            have hHeld := hHeld'
            clear hHeld'
            try simp only [Act.put, List.setIfInBounds_toArray, List.set_cons_zero, List.set_cons_succ, List.getElem_toArray, List.getElem_cons_zero, List.getElem_cons_succ]
            refine wpAnyH_ready (rs := [12]) (by kernel_rfl) (by simp) ?_
            refine AllReadyH.cons rfl (fun K hK => ?_) AllReadyH.nil
            go_simp
            go_at_call 74
            refine (MM.out _).mono ?_
            rintro e w1 ⟨rfl, hb⟩
            refine hK.out _ _ ?_ (fun hHeld' => ?_)
            · exact bnext hHeld hb
            clear hK K hHeld
            have hHeld := hHeld'
            clear hHeld'
            try simp only [Act.put, List.setIfInBounds_toArray, List.set_cons_zero, List.set_cons_succ, List.getElem_toArray, List.getElem_cons_zero, List.getElem_cons_succ]
            refine wpAnyH_take (i := 13) (v := .bool false) rfl (by kernel_rfl) (by kernel_rfl) (by kernel_rfl) (fun _ _ _ h => h) (Or.inl ⟨by kernel_rfl, ?_⟩) (by assumption) ?_
            · intro w hSw
              try dsimp only at hSw
              skip
              go_simp
            try simp only [Act.put, List.setIfInBounds_toArray, List.set_cons_zero, List.set_cons_succ, List.getElem_toArray, List.getElem_cons_zero, List.getElem_cons_succ]
            refine wpAnyH_done (by kernel_rfl) ?_ _
            go_wp2
            go_roundw
            case rel =>
              refine ⟨k + 1, by omega, by omega, by go_num, fun i' k' c' d' h1' h2' h3' h4' => ?_, BV.out.trans (Below.mono hHeld BV.out.size)⟩
              by_cases e1 : i' = i ∧ k' = k
              · obtain ⟨rfl, rfl⟩ := e1
                have e2 := HC.out
                rw [h2'] at e2
                cases e2
                have e3 := HD.out
                rw [h3'] at e3
                cases e3
                simp only [Og.lcl]; rw [HM.out, Bool.and_false]
              · exact hNo.out i' k' c' d' h1' h2' h3' (by omega)
            case measure => simp [intOf]; omega
          have HM := Lib.hid hm
          rw [hm] at MM
          clear hm
          go_wp2_with fail
          rw [HV.out]
          refine wp_region_held_drew (S := fun W => Below V.heap.size V W) (by kernel_rfl) ?_ (fun hHeld => ?_)
          · exact (Below.refl _ _).drew
          refine wpAnyH_take (i := 0) (v := .pointer (some ⟨wo.heap.size, 3, none⟩)) rfl (by kernel_rfl) (by kernel_rfl) (by kernel_rfl) (fun _ _ _ h => h) (Or.inl ⟨by kernel_rfl, ?_⟩) (by assumption) ?_
          · intro w hSw
            try dsimp only at hSw
            skip
            go_simp
          try simp only [Act.put, List.setIfInBounds_toArray, List.set_cons_zero, List.set_cons_succ, List.getElem_toArray, List.getElem_cons_zero]
          refine wpAnyH_take (i := 1) (v := .int .i64 c.hi) rfl (by kernel_rfl) (by kernel_rfl) (by kernel_rfl) (fun _ _ _ h => h) (Or.inl ⟨by kernel_rfl, ?_⟩) (by assumption) ?_
          · intro w hSw
            try dsimp only at hSw
            obtain ⟨c0, c1, c2, c3⟩ := OX.out _ hSw
            obtain ⟨d0, d1, d2, d3⟩ := OY.out _ hSw
            go_simp
          try simp only [Act.put, List.setIfInBounds_toArray, List.set_cons_zero, List.set_cons_succ, List.getElem_toArray, List.getElem_cons_zero, List.getElem_cons_succ]
          refine wpAnyH_take (i := 2) (v := .pointer (some ⟨wr.heap.size, 3, none⟩)) rfl (by kernel_rfl) (by kernel_rfl) (by kernel_rfl) (fun _ _ _ h => h) (Or.inl ⟨by kernel_rfl, ?_⟩) (by assumption) ?_
          · intro w hSw
            try dsimp only at hSw
            skip
            go_simp
          try simp only [Act.put, List.setIfInBounds_toArray, List.set_cons_zero, List.set_cons_succ, List.getElem_toArray, List.getElem_cons_zero, List.getElem_cons_succ]
          refine wpAnyH_take (i := 3) (v := .int .i64 d.hi) rfl (by kernel_rfl) (by kernel_rfl) (by kernel_rfl) (fun _ _ _ h => h) (Or.inl ⟨by kernel_rfl, ?_⟩) (by assumption) ?_
          · intro w hSw
            try dsimp only at hSw
            obtain ⟨c0, c1, c2, c3⟩ := OX.out _ hSw
            obtain ⟨d0, d1, d2, d3⟩ := OY.out _ hSw
            go_simp
          try simp only [Act.put, List.setIfInBounds_toArray, List.set_cons_zero, List.set_cons_succ, List.getElem_toArray, List.getElem_cons_zero, List.getElem_cons_succ]
          refine wpAnyH_take (i := 4) (v := .bool true) rfl (by kernel_rfl) (by kernel_rfl) (by kernel_rfl) (fun _ _ _ h => h) (Or.inl ⟨by kernel_rfl, ?_⟩) (by assumption) ?_
          · intro w hSw
            try dsimp only at hSw
            skip
            go_simp
            all_goals first | omega | exact IntWalk.i64_in _ (by omega)
          try simp only [Act.put, List.setIfInBounds_toArray, List.set_cons_zero, List.set_cons_succ, List.getElem_toArray, List.getElem_cons_zero, List.getElem_cons_succ]
          refine wpAnyH_take (i := 5) (v := .bool true) rfl (by kernel_rfl) (by kernel_rfl) (by kernel_rfl) (fun _ _ _ h => h) (Or.inl ⟨by kernel_rfl, ?_⟩) (by assumption) ?_
          · intro w hSw
            try dsimp only at hSw
            skip
            go_simp
          try simp only [Act.put, List.setIfInBounds_toArray, List.set_cons_zero, List.set_cons_succ, List.getElem_toArray, List.getElem_cons_zero, List.getElem_cons_succ]
          refine wpAnyH_take (i := 6) (v := .agg #[.int .i64 c.fr, .int .i64 c.tt, .int .i64 c.lo, .int .i64 c.hi]) rfl (by kernel_rfl) (by kernel_rfl) (by kernel_rfl) (fun _ _ _ h => h) (Or.inl ⟨by kernel_rfl, ?_⟩) (by assumption) ?_
          · intro w hSw
            try dsimp only at hSw
            obtain ⟨c0, c1, c2, c3⟩ := OX.out _ hSw
            obtain ⟨d0, d1, d2, d3⟩ := OY.out _ hSw
            go_simp
          try simp only [Act.put, List.setIfInBounds_toArray, List.set_cons_zero, List.set_cons_succ, List.getElem_toArray, List.getElem_cons_zero, List.getElem_cons_succ]
          refine wpAnyH_take (i := 7) (v := .int .i64 z) rfl (by kernel_rfl) (by kernel_rfl) (by kernel_rfl) (fun _ _ _ h => h) (Or.inl ⟨by kernel_rfl, ?_⟩) (by assumption) ?_
          · intro w hSw
            try dsimp only at hSw
            skip
            go_simp
          try simp only [Act.put, List.setIfInBounds_toArray, List.set_cons_zero, List.set_cons_succ, List.getElem_toArray, List.getElem_cons_zero, List.getElem_cons_succ]
          refine wpAnyH_take (i := 9) (v := .agg #[.int .i64 d.fr, .int .i64 d.tt, .int .i64 d.lo, .int .i64 d.hi]) rfl (by kernel_rfl) (by kernel_rfl) (by kernel_rfl) (fun _ _ _ h => h) (Or.inl ⟨by kernel_rfl, ?_⟩) (by assumption) ?_
          · intro w hSw
            try dsimp only at hSw
            obtain ⟨c0, c1, c2, c3⟩ := OX.out _ hSw
            obtain ⟨d0, d1, d2, d3⟩ := OY.out _ hSw
            go_simp
          try simp only [Act.put, List.setIfInBounds_toArray, List.set_cons_zero, List.set_cons_succ, List.getElem_toArray, List.getElem_cons_zero, List.getElem_cons_succ]
          refine wpAnyH_take (i := 10) (v := .int .i64 z) rfl (by kernel_rfl) (by kernel_rfl) (by kernel_rfl) (fun _ _ _ h => h) (Or.inl ⟨by kernel_rfl, ?_⟩) (by assumption) ?_
          · intro w hSw
            try dsimp only at hSw
            skip
            go_simp
          try simp only [Act.put, List.setIfInBounds_toArray, List.set_cons_zero, List.set_cons_succ, List.getElem_toArray, List.getElem_cons_zero, List.getElem_cons_succ]
          refine wpAnyH_ready (rs := [8]) (by kernel_rfl) (by simp) ?_
          refine AllReadyH.cons rfl (fun K hK => ?_) AllReadyH.nil
          go_simp
          go_at_call 73
          refine (LCc.out _).mono ?_
          rintro e w1 ⟨rfl, hb⟩
          refine hK.out _ _ ?_ (fun hHeld' => ?_)
          · exact bnext hHeld hb
          clear hK K hHeld
          have hHeld := hHeld'
          clear hHeld'
          try simp only [Act.put, List.setIfInBounds_toArray, List.set_cons_zero, List.set_cons_succ, List.getElem_toArray, List.getElem_cons_zero, List.getElem_cons_succ]
          refine wpAnyH_ready (rs := [11]) (by kernel_rfl) (by simp) ?_
          refine AllReadyH.cons rfl (fun K hK => ?_) AllReadyH.nil
          go_simp
          go_at_call 73
          refine (LD.out _).mono ?_
          rintro e w1 ⟨rfl, hb⟩
          refine hK.out _ _ ?_ (fun hHeld' => ?_)
          · exact bnext hHeld hb
          clear hK K hHeld
          have hHeld := hHeld'
          clear hHeld'
          try simp only [Act.put, List.setIfInBounds_toArray, List.set_cons_zero, List.set_cons_succ, List.getElem_toArray, List.getElem_cons_zero, List.getElem_cons_succ]
          refine wpAnyH_ready (rs := [12]) (by kernel_rfl) (by simp) ?_
          refine AllReadyH.cons rfl (fun K hK => ?_) AllReadyH.nil
          go_simp
          go_at_call 74
          refine (MM.out _).mono ?_
          rintro e w1 ⟨rfl, hb⟩
          refine hK.out _ _ ?_ (fun hHeld' => ?_)
          · exact bnext hHeld hb
          clear hK K hHeld
          have hHeld := hHeld'
          clear hHeld'
          try simp only [Act.put, List.setIfInBounds_toArray, List.set_cons_zero, List.set_cons_succ, List.getElem_toArray, List.getElem_cons_zero, List.getElem_cons_succ]
          refine wpAnyH_take (i := 13) (v := .bool true) rfl (by kernel_rfl) (by kernel_rfl) (by kernel_rfl) (fun _ _ _ h => h) (Or.inl ⟨by kernel_rfl, ?_⟩) (by assumption) ?_
          · intro w hSw
            try dsimp only at hSw
            skip
            go_simp
          try simp only [Act.put, List.setIfInBounds_toArray, List.set_cons_zero, List.set_cons_succ, List.getElem_toArray, List.getElem_cons_zero, List.getElem_cons_succ]
          refine wpAnyH_done (by kernel_rfl) ?_ _
          go_wp2
          refine bodyPost_ret (v := .tuple #[.int .i64 (i : Int), .int .i64 (k : Int), .int .i64 0]) (by simp [results, Try.results38, go_sem]) rfl ⟨?_, E0.out.trans ((BO.out.trans ((BV.out.trans (Below.mono hHeld BV.out.size)).mono BO.out.size)).mono E0.out.size)⟩
          obtain ⟨e1, e2, e3⟩ := lc_some (F := F) (C := C) HOK.out HI.out (show FirstP L z (i, k) from ⟨⟨c, d, hik, HC.out, HD.out, by simp only [Og.lcl]; rw [hh, HM.out]; rfl⟩, hNo.out⟩)
          rw [e1, e2, e3]
        · have hge : ¬ (k : Int) < (L.length : Int) := by omega
          obtain ⟨q0, q1, q2⟩ := FO.out.later hB.out
          go_wp2
          go_roundw
          case rel => exact ⟨i + 1, by omega, by go_num, fun i' k' c' d' h1 h2 h3 h4 => hNo.out i' k' c' d' h1 h2 h3 (by have := (List.getElem?_eq_some_iff.1 h3).1; omega), BO.out.trans (hB.out.mono BO.out.size)⟩
          case measure => simp [intOf]; omega
    · have hge : ¬ (i : Int) < (L.length : Int) := by omega
      have HN : Hid (lcR L z = none) := lcR_none fun i' k' c' d' h1 h2 h3 => hNN.out i' k' c' d' h1 h2 h3 (by have := (List.getElem?_eq_some_iff.1 h3).1; omega)
      have BO := Lib.hid hBB.out
      go_wp2
      refine bodyPost_ret (v := .tuple #[.int .i64 0, .int .i64 0, .int .i64 3]) (by simp [results, Try.results38, go_sem]) rfl ⟨?_, bnext E0.out BO.out⟩
      obtain ⟨e1, e2, e3⟩ := lc_none (F := F) (C := C) HOK.out HI.out HN.out
      rw [e1, e2, e3]
end Go.Proofs.Ytplggghhhgmebaa
