/-
  LintelClash: the model's word.
-/
import Derived.Test.YtplggghhhgmebaaLcP
import Derived.Test.YtplggghhhgmebaaPtB
import Derived.Test.YtplggghhhgmebaaLnS
import Derived.Deep.RegionHeld3
namespace Go.Proofs.Ytplggghhhgmebaa
open Go.ChangeShapes Go.WideShapes Go.ChangeAt Go.RowKit Go.Joins

set_option maxRecDepth 100000 in
set_option maxHeartbeats 40000000 in
theorem lintelClash_spec (F C : Int) (L : List Og) (a : Option Addr) (cap : Nat) (hl : L.length ≤ 1048576) (z : Int) (w : World) (ha : OgArg w a L) :
    Calls Try.prog 37 #[.agg #[.int .i64 F, .int .i64 C, .slice a L.length cap], .int .i64 z] w fun e w' => e = .returned (.tuple #[.int .i64 (lcA F C L z), .int .i64 (lcB F C L z), .int .i64 (lcK F C L z)]) ∧ Below w.heap.size w w' := by
  have FB' := FrBox.new w F C a cap L 29
  have E0' := Lib.hid (balloc0 w (.cells #[.int .i64 F, .int .i64 C, .slice a L.length cap] 29))
  obtain ⟨W0, hW⟩ : ∃ W0, w.alloc (.cells #[.int .i64 F, .int .i64 C, .slice a L.length cap] 29) = W0 := ⟨_, rfl⟩
  rw [hW] at FB' E0'
  have FB := Lib.hid FB'
  have E0 := Lib.hid E0'.out
  have HA := Lib.hid (ha.later E0.out)
  have HW := Lib.hid hW
  clear hW E0' FB' ha
  have X := Lib.hid (okF_spec F C L a cap hl w.heap.size W0 FB.out HA.out)
  have I2 := Lib.hid (in_any z 0 20)
  cases hok : okFr F C L
  · rw [hok] at X
    obtain ⟨e1, e2, e3⟩ := lc_inv (z := z) hok
    rw [e1, e2, e3]
    clear e1 e2 e3 hok
    go_enter Try.func37, Try.ntmps37
    go_wp2_with fail
    rw [HW.out]
    refine X.out.mono ?_
    rintro e w1 ⟨rfl, hb1⟩
    have B1 := Lib.hid hb1
    clear hb1
    go_wp2
    refine bodyPost_ret (v := .tuple #[.int .i64 0, .int .i64 0, .int .i64 1]) (by simp [results, Try.results37, go_sem]) rfl ⟨rfl, bnext E0.out B1.out⟩
  have HOF := Lib.hid (okFr_true.1 hok)
  have HOK := Lib.hid hok
  rw [hok] at X
  have hl8 : (L.length : Int) ≤ 8 := by have := HOF.out.len; omega
  clear hok
  cases hiz : inB z 0 20
  · rw [hiz] at I2
    obtain ⟨e1, e2, e3⟩ := lc_rng HOK.out hiz
    rw [e1, e2, e3]
    clear e1 e2 e3 hiz
    go_enter Try.func37, Try.ntmps37
    go_wp2_with fail
    rw [HW.out]
    refine X.out.mono ?_
    rintro e w1 ⟨rfl, hb1⟩
    have B1 := Lib.hid hb1
    clear hb1
    go_wp2_with (go_at_call 71; refine (I2.out _).mono ?_; rintro e w2 ⟨rfl, rfl⟩)
    refine bodyPost_ret (v := .tuple #[.int .i64 0, .int .i64 0, .int .i64 2]) (by simp [results, Try.results37, go_sem]) rfl ⟨rfl, bnext E0.out B1.out⟩
  rw [hiz] at I2
  have HI := Lib.hid hiz
  obtain ⟨hz0, hz1⟩ := inB_true.1 hiz
  clear hiz
  go_enter Try.func37, Try.ntmps37
  go_wp2_with fail
  rw [HW.out]
  refine X.out.mono ?_
  rintro e w1 ⟨rfl, hb1⟩
  have B1 := Lib.hid hb1
  clear hb1
  go_wp2_with (go_at_call 71; refine (I2.out _).mono ?_; rintro e w2 ⟨rfl, rfl⟩)
  go_loopw [7] (fun ii wr => ∃ (i : Nat), i ≤ L.length ∧ ii = .int .i64 (i : Int) ∧ Hid (∀ (i' k' : Nat) (c d : Og), i' < k' → L[i']? = some c → L[k']? = some d → i' < i → c.lcl z d = false) ∧ Hid (Below W0.heap.size W0 wr)) (fun ii _ => L.length - (intOf ii).toNat)
  case atStart => exact ⟨0, Nat.zero_le _, rfl, fun i' k' c d _ _ _ h => by omega, B1.out⟩
  case round =>
    obtain ⟨i, hi, rfl, hNN, hBB⟩ := hrel
    obtain ⟨wo, ho⟩ : ∃ wo, wo = wr := ⟨_, rfl⟩
    subst ho
    have BO := Lib.hid hBB.out
    obtain ⟨q0, q1, q2⟩ := FB.out.later hBB.out
    by_cases hlt : i < L.length
    · have hlt' : (i : Int) < (L.length : Int) := by omega
      have hi0 : (0 : Int) ≤ (i : Int) := by omega
      obtain ⟨b, o, c, rfl, hc, hat⟩ := (HA.out.later hBB.out).at hlt
      have HC := Lib.hid hc
      have hsc : c.small := Og.small_of (HOF.out.fit i c hc) HOF.out.fl.2
      have fc := Og.fit_true.1 (HOF.out.fit i c hc)
      have LCc := Lib.hid (fun wx => lintel_spec c hsc z (by omega) wx)
      have c0' : 0 ≤ c.fr ∧ c.fr ≤ 200 ∧ 0 ≤ c.tt ∧ c.tt ≤ 200 := by have := HOF.out.fl.2; omega
      obtain ⟨t0, t1, t2, t3⟩ := c0'
      have FO := Lib.hid (FB.out.later hBB.out)
      have LO : Hid (∀ wx, Below wo.heap.size wo wx → OgAt wx b o L) := fun wx hx => hat.later hx
      clear hc hsc fc hat
      go_wp2
      go_loopw [8] (fun kk wr => ∃ (k : Nat), i < k ∧ k ≤ L.length ∧ kk = .int .i64 (k : Int) ∧ Hid (∀ (i' k' : Nat) (c d : Og), i' < k' → L[i']? = some c → L[k']? = some d → (i' < i ∨ i' = i ∧ k' < k) → c.lcl z d = false) ∧ Hid (Below wo.heap.size wo wr)) (fun kk _ => L.length - (intOf kk).toNat)
      case atStart => exact ⟨i + 1, by omega, by omega, by go_num, fun i' k' c' d' h1 h2 h3 h4 => hNN.out i' k' c' d' h1 h2 h3 (by omega), Below.refl _ _⟩
      case round =>
        obtain ⟨k, hik, hkn, rfl, hNo, hB⟩ := hrel
        by_cases hkl : k < L.length
        · skip
          have hkl' : (k : Int) < (L.length : Int) := by omega
          have hk0 : (0 : Int) ≤ (k : Int) := by omega
          obtain ⟨d, hd⟩ : ∃ d, L[k]? = some d := ⟨_, List.getElem?_eq_getElem hkl⟩
          have HD := Lib.hid hd
          have hsd : d.small := Og.small_of (HOF.out.fit k d hd) HOF.out.fl.2
          have fd := Og.fit_true.1 (HOF.out.fit k d hd)
          have LD := Lib.hid (fun wx => lintel_spec d hsd z (by omega) wx)
          have d0' : 0 ≤ d.fr ∧ d.fr ≤ 200 ∧ 0 ≤ d.tt ∧ d.tt ≤ 200 := by have := HOF.out.fl.2; omega
          obtain ⟨u0, u1, u2, u3⟩ := d0'
          clear hd hsd fd
          obtain ⟨q0, q1, q2⟩ := FO.out.later hB.out
          obtain ⟨c0, c1, c2, c3⟩ := (LO.out _ hB.out).cells HC.out
          go_wp2_with fail
          refine (LCc.out _).mono ?_
          rintro e w1 ⟨rfl, hb1⟩
          have B1 := Lib.hid (bnext hB.out hb1)
          clear hb1 q0 q1 q2 c0 c1 c2 c3
          have PXa := PtBox.new w1 (c.fr - z) (c.tt + z) 51
          have B1a := Lib.hid (balloc B1.out (.cells #[.int .i64 (c.fr - z), .int .i64 (c.tt + z)] 51))
          obtain ⟨q0, q1, q2⟩ := FO.out.later B1a.out
          obtain ⟨d0, d1, d2, d3⟩ := (LO.out _ B1a.out).cells HD.out
          go_wp2_with fail
          obtain ⟨V1, hV1⟩ : ∃ V1, w1.alloc (.cells #[.int .i64 (c.fr - z), .int .i64 (c.tt + z)] 51) = V1 := ⟨_, rfl⟩
          rw [hV1] at PXa B1a
          rw [hV1]
          clear hV1 q0 q1 q2 d0 d1 d2 d3
          refine (LD.out _).mono ?_
          rintro e w2 ⟨rfl, hb2⟩
          have B2 := Lib.hid (bnext B1a.out hb2)
          have FX' : ∀ wx, Below (w2.alloc (.cells #[.int .i64 (d.fr - z), .int .i64 (d.tt + z)] 51)).heap.size (w2.alloc (.cells #[.int .i64 (d.fr - z), .int .i64 (d.tt + z)] 51)) wx → FrBox w.heap.size F C (some ⟨b, o, none⟩) cap L wx := fun wx hx => (FO.out.later (balloc B2.out (.cells #[.int .i64 (d.fr - z), .int .i64 (d.tt + z)] 51))).later hx
          have LX' : ∀ wx, Below (w2.alloc (.cells #[.int .i64 (d.fr - z), .int .i64 (d.tt + z)] 51)).heap.size (w2.alloc (.cells #[.int .i64 (d.fr - z), .int .i64 (d.tt + z)] 51)) wx → OgAt wx b o L := fun wx hx => LO.out _ (bnext (balloc B2.out (.cells #[.int .i64 (d.fr - z), .int .i64 (d.tt + z)] 51)) hx)
          have PX' : ∀ wx, Below (w2.alloc (.cells #[.int .i64 (d.fr - z), .int .i64 (d.tt + z)] 51)).heap.size (w2.alloc (.cells #[.int .i64 (d.fr - z), .int .i64 (d.tt + z)] 51)) wx → PtBox w1.heap.size (c.fr - z) (c.tt + z) wx := fun wx hx => ((PXa.later hb2).later (balloc0 _ _)).later hx
          have PY' : ∀ wx, Below (w2.alloc (.cells #[.int .i64 (d.fr - z), .int .i64 (d.tt + z)] 51)).heap.size (w2.alloc (.cells #[.int .i64 (d.fr - z), .int .i64 (d.tt + z)] 51)) wx → PtBox w2.heap.size (d.fr - z) (d.tt + z) wx := fun wx hx => (PtBox.new w2 _ _ _).later hx
          have BV' : Below wo.heap.size wo (w2.alloc (.cells #[.int .i64 (d.fr - z), .int .i64 (d.tt + z)] 51)) := balloc B2.out _
          clear hb2 PXa
          cases hh : (c.hi == d.hi)
          · go_wp2_with fail
            obtain ⟨V, hV⟩ : ∃ V, w2.alloc (.cells #[.int .i64 (d.fr - z), .int .i64 (d.tt + z)] 51) = V := ⟨_, rfl⟩
            rw [hV] at FX' LX' PX' PY' BV'
            rw [hV]
            have FX := Lib.hid FX'
            have LX := Lib.hid LX'
            have PX := Lib.hid PX'
            have PY := Lib.hid PY'
            have BV := Lib.hid BV'
            clear hV FX' LX' PX' PY' BV'
            refine wp_region_held_drew (S := fun W => Below V.heap.size V W) (by kernel_rfl) ?_ (fun hHeld => ?_)
            · exact (Below.refl _ _).drew
            refine wpAnyH_take (i := 0) (v := .pointer (some ⟨w.heap.size, 2, none⟩)) rfl (by kernel_rfl) (by kernel_rfl) (by kernel_rfl) (fun _ _ _ h => h) (Or.inl ⟨by kernel_rfl, ?_⟩) (by assumption) ?_
            · intro w hSw
              try dsimp only at hSw
              skip
              go_simp
            try simp only [Act.put, List.setIfInBounds_toArray, List.set_cons_zero, List.set_cons_succ, List.getElem_toArray, List.getElem_cons_zero]
            refine wpAnyH_take (i := 1) (v := .slice (some ⟨b, o, none⟩) L.length cap) rfl (by kernel_rfl) (by kernel_rfl) (by kernel_rfl) (fun _ _ _ h => h) (Or.inl ⟨by kernel_rfl, ?_⟩) (by assumption) ?_
            · intro w hSw
              try dsimp only at hSw
              obtain ⟨q0, q1, q2⟩ := FX.out _ hSw
              obtain ⟨p0, p1⟩ := PX.out _ hSw
              obtain ⟨p2, p3⟩ := PY.out _ hSw
              obtain ⟨c0, c1, c2, c3⟩ := (LX.out _ hSw).cells HC.out
              obtain ⟨d0, d1, d2, d3⟩ := (LX.out _ hSw).cells HD.out
              go_simp
            try simp only [Act.put, List.setIfInBounds_toArray, List.set_cons_zero, List.set_cons_succ, List.getElem_toArray, List.getElem_cons_zero, List.getElem_cons_succ]
            refine wpAnyH_take (i := 2) (v := .int .i64 (i : Int)) rfl (by kernel_rfl) (by kernel_rfl) (by kernel_rfl) (fun _ _ _ h => h) (Or.inl ⟨by kernel_rfl, ?_⟩) (by assumption) ?_
            · intro w hSw
              try dsimp only at hSw
              skip
              go_simp
            try simp only [Act.put, List.setIfInBounds_toArray, List.set_cons_zero, List.set_cons_succ, List.getElem_toArray, List.getElem_cons_zero, List.getElem_cons_succ]
            refine wpAnyH_take (i := 3) (v := .pointer (some ⟨b, o + i * 4, none⟩)) rfl (by kernel_rfl) (by kernel_rfl) (by kernel_rfl) (fun _ _ _ h => h) (Or.inl ⟨by kernel_rfl, ?_⟩) (by assumption) ?_
            · intro w hSw
              try dsimp only at hSw
              skip
              go_simp
              all_goals first | omega | exact IntWalk.i64_in _ (by omega)
            try simp only [Act.put, List.setIfInBounds_toArray, List.set_cons_zero, List.set_cons_succ, List.getElem_toArray, List.getElem_cons_zero, List.getElem_cons_succ]
            refine wpAnyH_take (i := 4) (v := .pointer (some ⟨b, o + i * 4 + 3, none⟩)) rfl (by kernel_rfl) (by kernel_rfl) (by kernel_rfl) (fun _ _ _ h => h) (Or.inl ⟨by kernel_rfl, ?_⟩) (by assumption) ?_
            · intro w hSw
              try dsimp only at hSw
              skip
              go_simp
            try simp only [Act.put, List.setIfInBounds_toArray, List.set_cons_zero, List.set_cons_succ, List.getElem_toArray, List.getElem_cons_zero, List.getElem_cons_succ]
            refine wpAnyH_take (i := 5) (v := .int .i64 c.hi) rfl (by kernel_rfl) (by kernel_rfl) (by kernel_rfl) (fun _ _ _ h => h) (Or.inl ⟨by kernel_rfl, ?_⟩) (by assumption) ?_
            · intro w hSw
              try dsimp only at hSw
              obtain ⟨q0, q1, q2⟩ := FX.out _ hSw
              obtain ⟨p0, p1⟩ := PX.out _ hSw
              obtain ⟨p2, p3⟩ := PY.out _ hSw
              obtain ⟨c0, c1, c2, c3⟩ := (LX.out _ hSw).cells HC.out
              obtain ⟨d0, d1, d2, d3⟩ := (LX.out _ hSw).cells HD.out
              go_simp
            try simp only [Act.put, List.setIfInBounds_toArray, List.set_cons_zero, List.set_cons_succ, List.getElem_toArray, List.getElem_cons_zero, List.getElem_cons_succ]
            refine wpAnyH_take (i := 6) (v := .pointer (some ⟨w.heap.size, 2, none⟩)) rfl (by kernel_rfl) (by kernel_rfl) (by kernel_rfl) (fun _ _ _ h => h) (Or.inl ⟨by kernel_rfl, ?_⟩) (by assumption) ?_
            · intro w hSw
              try dsimp only at hSw
              skip
              go_simp
            try simp only [Act.put, List.setIfInBounds_toArray, List.set_cons_zero, List.set_cons_succ, List.getElem_toArray, List.getElem_cons_zero, List.getElem_cons_succ]
            refine wpAnyH_take (i := 7) (v := .slice (some ⟨b, o, none⟩) L.length cap) rfl (by kernel_rfl) (by kernel_rfl) (by kernel_rfl) (fun _ _ _ h => h) (Or.inl ⟨by kernel_rfl, ?_⟩) (by assumption) ?_
            · intro w hSw
              try dsimp only at hSw
              obtain ⟨q0, q1, q2⟩ := FX.out _ hSw
              obtain ⟨p0, p1⟩ := PX.out _ hSw
              obtain ⟨p2, p3⟩ := PY.out _ hSw
              obtain ⟨c0, c1, c2, c3⟩ := (LX.out _ hSw).cells HC.out
              obtain ⟨d0, d1, d2, d3⟩ := (LX.out _ hSw).cells HD.out
              go_simp
            try simp only [Act.put, List.setIfInBounds_toArray, List.set_cons_zero, List.set_cons_succ, List.getElem_toArray, List.getElem_cons_zero, List.getElem_cons_succ]
            refine wpAnyH_take (i := 8) (v := .int .i64 (k : Int)) rfl (by kernel_rfl) (by kernel_rfl) (by kernel_rfl) (fun _ _ _ h => h) (Or.inl ⟨by kernel_rfl, ?_⟩) (by assumption) ?_
            · intro w hSw
              try dsimp only at hSw
              skip
              go_simp
            try simp only [Act.put, List.setIfInBounds_toArray, List.set_cons_zero, List.set_cons_succ, List.getElem_toArray, List.getElem_cons_zero, List.getElem_cons_succ]
            refine wpAnyH_take (i := 9) (v := .pointer (some ⟨b, o + k * 4, none⟩)) rfl (by kernel_rfl) (by kernel_rfl) (by kernel_rfl) (fun _ _ _ h => h) (Or.inl ⟨by kernel_rfl, ?_⟩) (by assumption) ?_
            · intro w hSw
              try dsimp only at hSw
              skip
              go_simp
              all_goals first | omega | exact IntWalk.i64_in _ (by omega)
            try simp only [Act.put, List.setIfInBounds_toArray, List.set_cons_zero, List.set_cons_succ, List.getElem_toArray, List.getElem_cons_zero, List.getElem_cons_succ]
            refine wpAnyH_take (i := 10) (v := .pointer (some ⟨b, o + k * 4 + 3, none⟩)) rfl (by kernel_rfl) (by kernel_rfl) (by kernel_rfl) (fun _ _ _ h => h) (Or.inl ⟨by kernel_rfl, ?_⟩) (by assumption) ?_
            · intro w hSw
              try dsimp only at hSw
              skip
              go_simp
            try simp only [Act.put, List.setIfInBounds_toArray, List.set_cons_zero, List.set_cons_succ, List.getElem_toArray, List.getElem_cons_zero, List.getElem_cons_succ]
            refine wpAnyH_take (i := 11) (v := .int .i64 d.hi) rfl (by kernel_rfl) (by kernel_rfl) (by kernel_rfl) (fun _ _ _ h => h) (Or.inl ⟨by kernel_rfl, ?_⟩) (by assumption) ?_
            · intro w hSw
              try dsimp only at hSw
              obtain ⟨q0, q1, q2⟩ := FX.out _ hSw
              obtain ⟨p0, p1⟩ := PX.out _ hSw
              obtain ⟨p2, p3⟩ := PY.out _ hSw
              obtain ⟨c0, c1, c2, c3⟩ := (LX.out _ hSw).cells HC.out
              obtain ⟨d0, d1, d2, d3⟩ := (LX.out _ hSw).cells HD.out
              go_simp
            try simp only [Act.put, List.setIfInBounds_toArray, List.set_cons_zero, List.set_cons_succ, List.getElem_toArray, List.getElem_cons_zero, List.getElem_cons_succ]
            refine wpAnyH_take (i := 12) (v := .bool false) rfl (by kernel_rfl) (by kernel_rfl) (by kernel_rfl) (fun _ _ _ h => h) (Or.inl ⟨by kernel_rfl, ?_⟩) (by assumption) ?_
            · intro w hSw
              try dsimp only at hSw
              skip
              go_simp
              all_goals first | omega | exact IntWalk.i64_in _ (by omega)
            try simp only [Act.put, List.setIfInBounds_toArray, List.set_cons_zero, List.set_cons_succ, List.getElem_toArray, List.getElem_cons_zero, List.getElem_cons_succ]
            refine wpAnyH_take (i := 13) (v := .bool false) rfl (by kernel_rfl) (by kernel_rfl) (by kernel_rfl) (fun _ _ _ h => h) (Or.inl ⟨by kernel_rfl, ?_⟩) (by assumption) ?_
            · intro w hSw
              try dsimp only at hSw
              skip
              go_simp
            try simp only [Act.put, List.setIfInBounds_toArray, List.set_cons_zero, List.set_cons_succ, List.getElem_toArray, List.getElem_cons_zero, List.getElem_cons_succ]
            refine wpAnyH_take (i := 14) (v := undef) rfl (by kernel_rfl) (by kernel_rfl) (by kernel_rfl) (fun _ _ _ h => h) (Or.inr ⟨by kernel_rfl, rfl⟩) (by assumption) ?_
            try simp only [Act.put, List.setIfInBounds_toArray, List.set_cons_zero, List.set_cons_succ, List.getElem_toArray, List.getElem_cons_zero, List.getElem_cons_succ]
            refine wpAnyH_take (i := 15) (v := undef) rfl (by kernel_rfl) (by kernel_rfl) (by kernel_rfl) (fun _ _ _ h => h) (Or.inr ⟨by kernel_rfl, rfl⟩) (by assumption) ?_
            try simp only [Act.put, List.setIfInBounds_toArray, List.set_cons_zero, List.set_cons_succ, List.getElem_toArray, List.getElem_cons_zero, List.getElem_cons_succ]
            refine wpAnyH_take (i := 16) (v := undef) rfl (by kernel_rfl) (by kernel_rfl) (by kernel_rfl) (fun _ _ _ h => h) (Or.inr ⟨by kernel_rfl, rfl⟩) (by assumption) ?_
            try simp only [Act.put, List.setIfInBounds_toArray, List.set_cons_zero, List.set_cons_succ, List.getElem_toArray, List.getElem_cons_zero, List.getElem_cons_succ]
            refine wpAnyH_take (i := 17) (v := undef) rfl (by kernel_rfl) (by kernel_rfl) (by kernel_rfl) (fun _ _ _ h => h) (Or.inr ⟨by kernel_rfl, rfl⟩) (by assumption) ?_
            try simp only [Act.put, List.setIfInBounds_toArray, List.set_cons_zero, List.set_cons_succ, List.getElem_toArray, List.getElem_cons_zero, List.getElem_cons_succ]
            refine wpAnyH_take (i := 18) (v := undef) rfl (by kernel_rfl) (by kernel_rfl) (by kernel_rfl) (fun _ _ _ h => h) (Or.inr ⟨by kernel_rfl, rfl⟩) (by assumption) ?_
            try simp only [Act.put, List.setIfInBounds_toArray, List.set_cons_zero, List.set_cons_succ, List.getElem_toArray, List.getElem_cons_zero, List.getElem_cons_succ]
            refine wpAnyH_take (i := 19) (v := .bool false) rfl (by kernel_rfl) (by kernel_rfl) (by kernel_rfl) (fun _ _ _ h => h) (Or.inl ⟨by kernel_rfl, ?_⟩) (by assumption) ?_
            · intro w hSw
              try dsimp only at hSw
              skip
              go_simp
            try simp only [Act.put, List.setIfInBounds_toArray, List.set_cons_zero, List.set_cons_succ, List.getElem_toArray, List.getElem_cons_zero, List.getElem_cons_succ]
            refine wpAnyH_take (i := 20) (v := .bool false) rfl (by kernel_rfl) (by kernel_rfl) (by kernel_rfl) (fun _ _ _ h => h) (Or.inl ⟨by kernel_rfl, ?_⟩) (by assumption) ?_
            · intro w hSw
              try dsimp only at hSw
              skip
              go_simp
            try simp only [Act.put, List.setIfInBounds_toArray, List.set_cons_zero, List.set_cons_succ, List.getElem_toArray, List.getElem_cons_zero, List.getElem_cons_succ]
            refine wpAnyH_take (i := 21) (v := undef) rfl (by kernel_rfl) (by kernel_rfl) (by kernel_rfl) (fun _ _ _ h => h) (Or.inr ⟨by kernel_rfl, rfl⟩) (by assumption) ?_
            try simp only [Act.put, List.setIfInBounds_toArray, List.set_cons_zero, List.set_cons_succ, List.getElem_toArray, List.getElem_cons_zero, List.getElem_cons_succ]
            refine wpAnyH_take (i := 22) (v := undef) rfl (by kernel_rfl) (by kernel_rfl) (by kernel_rfl) (fun _ _ _ h => h) (Or.inr ⟨by kernel_rfl, rfl⟩) (by assumption) ?_
            try simp only [Act.put, List.setIfInBounds_toArray, List.set_cons_zero, List.set_cons_succ, List.getElem_toArray, List.getElem_cons_zero, List.getElem_cons_succ]
            refine wpAnyH_take (i := 23) (v := undef) rfl (by kernel_rfl) (by kernel_rfl) (by kernel_rfl) (fun _ _ _ h => h) (Or.inr ⟨by kernel_rfl, rfl⟩) (by assumption) ?_
            try simp only [Act.put, List.setIfInBounds_toArray, List.set_cons_zero, List.set_cons_succ, List.getElem_toArray, List.getElem_cons_zero, List.getElem_cons_succ]
            refine wpAnyH_take (i := 24) (v := undef) rfl (by kernel_rfl) (by kernel_rfl) (by kernel_rfl) (fun _ _ _ h => h) (Or.inr ⟨by kernel_rfl, rfl⟩) (by assumption) ?_
            try simp only [Act.put, List.setIfInBounds_toArray, List.set_cons_zero, List.set_cons_succ, List.getElem_toArray, List.getElem_cons_zero, List.getElem_cons_succ]
            refine wpAnyH_take (i := 25) (v := undef) rfl (by kernel_rfl) (by kernel_rfl) (by kernel_rfl) (fun _ _ _ h => h) (Or.inr ⟨by kernel_rfl, rfl⟩) (by assumption) ?_
            try simp only [Act.put, List.setIfInBounds_toArray, List.set_cons_zero, List.set_cons_succ, List.getElem_toArray, List.getElem_cons_zero, List.getElem_cons_succ]
            refine wpAnyH_take (i := 26) (v := .bool false) rfl (by kernel_rfl) (by kernel_rfl) (by kernel_rfl) (fun _ _ _ h => h) (Or.inl ⟨by kernel_rfl, ?_⟩) (by assumption) ?_
            · intro w hSw
              try dsimp only at hSw
              skip
              go_simp
            try simp only [Act.put, List.setIfInBounds_toArray, List.set_cons_zero, List.set_cons_succ, List.getElem_toArray, List.getElem_cons_zero, List.getElem_cons_succ]
            refine wpAnyH_done (by kernel_rfl) ?_ _
            go_wp2
            go_roundw
            case rel =>
              refine ⟨k + 1, by omega, by omega, by go_num, fun i' k' c' d' h1' h2' h3' h4' => ?_, BV.out.trans (Below.mono hHeld BV.out.size)⟩
              by_cases e1 : i' = i ∧ k' = k
              · obtain ⟨rfl, rfl⟩ := e1
                have e2 := HC.out
                rw [h2'] at e2
                cases e2
                have e3 := HD.out
                rw [h3'] at e3
                cases e3
                simp [Og.lcl, hh]
              · exact hNo.out i' k' c' d' h1' h2' h3' (by omega)
            case measure => simp [intOf]; omega
          by_cases x1 : c.fr - z < d.tt + z
          case neg =>
            go_wp2_with fail
            obtain ⟨V, hV⟩ : ∃ V, w2.alloc (.cells #[.int .i64 (d.fr - z), .int .i64 (d.tt + z)] 51) = V := ⟨_, rfl⟩
            rw [hV] at FX' LX' PX' PY' BV'
            rw [hV]
            have FX := Lib.hid FX'
            have LX := Lib.hid LX'
            have PX := Lib.hid PX'
            have PY := Lib.hid PY'
            have BV := Lib.hid BV'
            clear hV FX' LX' PX' PY' BV'
            refine wp_region_held_drew (S := fun W => Below V.heap.size V W) (by kernel_rfl) ?_ (fun hHeld => ?_)
            · exact (Below.refl _ _).drew
            refine wpAnyH_take (i := 0) (v := .pointer (some ⟨w.heap.size, 2, none⟩)) rfl (by kernel_rfl) (by kernel_rfl) (by kernel_rfl) (fun _ _ _ h => h) (Or.inl ⟨by kernel_rfl, ?_⟩) (by assumption) ?_
            · intro w hSw
              try dsimp only at hSw
              skip
              go_simp
            try simp only [Act.put, List.setIfInBounds_toArray, List.set_cons_zero, List.set_cons_succ, List.getElem_toArray, List.getElem_cons_zero]
            refine wpAnyH_take (i := 1) (v := .slice (some ⟨b, o, none⟩) L.length cap) rfl (by kernel_rfl) (by kernel_rfl) (by kernel_rfl) (fun _ _ _ h => h) (Or.inl ⟨by kernel_rfl, ?_⟩) (by assumption) ?_
            · intro w hSw
              try dsimp only at hSw
              obtain ⟨q0, q1, q2⟩ := FX.out _ hSw
              obtain ⟨p0, p1⟩ := PX.out _ hSw
              obtain ⟨p2, p3⟩ := PY.out _ hSw
              obtain ⟨c0, c1, c2, c3⟩ := (LX.out _ hSw).cells HC.out
              obtain ⟨d0, d1, d2, d3⟩ := (LX.out _ hSw).cells HD.out
              go_simp
            try simp only [Act.put, List.setIfInBounds_toArray, List.set_cons_zero, List.set_cons_succ, List.getElem_toArray, List.getElem_cons_zero, List.getElem_cons_succ]
            refine wpAnyH_take (i := 2) (v := .int .i64 (i : Int)) rfl (by kernel_rfl) (by kernel_rfl) (by kernel_rfl) (fun _ _ _ h => h) (Or.inl ⟨by kernel_rfl, ?_⟩) (by assumption) ?_
            · intro w hSw
              try dsimp only at hSw
              skip
              go_simp
            try simp only [Act.put, List.setIfInBounds_toArray, List.set_cons_zero, List.set_cons_succ, List.getElem_toArray, List.getElem_cons_zero, List.getElem_cons_succ]
            refine wpAnyH_take (i := 3) (v := .pointer (some ⟨b, o + i * 4, none⟩)) rfl (by kernel_rfl) (by kernel_rfl) (by kernel_rfl) (fun _ _ _ h => h) (Or.inl ⟨by kernel_rfl, ?_⟩) (by assumption) ?_
            · intro w hSw
              try dsimp only at hSw
              skip
              go_simp
              all_goals first | omega | exact IntWalk.i64_in _ (by omega)
            try simp only [Act.put, List.setIfInBounds_toArray, List.set_cons_zero, List.set_cons_succ, List.getElem_toArray, List.getElem_cons_zero, List.getElem_cons_succ]
            refine wpAnyH_take (i := 4) (v := .pointer (some ⟨b, o + i * 4 + 3, none⟩)) rfl (by kernel_rfl) (by kernel_rfl) (by kernel_rfl) (fun _ _ _ h => h) (Or.inl ⟨by kernel_rfl, ?_⟩) (by assumption) ?_
            · intro w hSw
              try dsimp only at hSw
              skip
              go_simp
            try simp only [Act.put, List.setIfInBounds_toArray, List.set_cons_zero, List.set_cons_succ, List.getElem_toArray, List.getElem_cons_zero, List.getElem_cons_succ]
            refine wpAnyH_take (i := 5) (v := .int .i64 c.hi) rfl (by kernel_rfl) (by kernel_rfl) (by kernel_rfl) (fun _ _ _ h => h) (Or.inl ⟨by kernel_rfl, ?_⟩) (by assumption) ?_
            · intro w hSw
              try dsimp only at hSw
              obtain ⟨q0, q1, q2⟩ := FX.out _ hSw
              obtain ⟨p0, p1⟩ := PX.out _ hSw
              obtain ⟨p2, p3⟩ := PY.out _ hSw
              obtain ⟨c0, c1, c2, c3⟩ := (LX.out _ hSw).cells HC.out
              obtain ⟨d0, d1, d2, d3⟩ := (LX.out _ hSw).cells HD.out
              go_simp
            try simp only [Act.put, List.setIfInBounds_toArray, List.set_cons_zero, List.set_cons_succ, List.getElem_toArray, List.getElem_cons_zero, List.getElem_cons_succ]
            refine wpAnyH_take (i := 6) (v := .pointer (some ⟨w.heap.size, 2, none⟩)) rfl (by kernel_rfl) (by kernel_rfl) (by kernel_rfl) (fun _ _ _ h => h) (Or.inl ⟨by kernel_rfl, ?_⟩) (by assumption) ?_
            · intro w hSw
              try dsimp only at hSw
              skip
              go_simp
            try simp only [Act.put, List.setIfInBounds_toArray, List.set_cons_zero, List.set_cons_succ, List.getElem_toArray, List.getElem_cons_zero, List.getElem_cons_succ]
            refine wpAnyH_take (i := 7) (v := .slice (some ⟨b, o, none⟩) L.length cap) rfl (by kernel_rfl) (by kernel_rfl) (by kernel_rfl) (fun _ _ _ h => h) (Or.inl ⟨by kernel_rfl, ?_⟩) (by assumption) ?_
            · intro w hSw
              try dsimp only at hSw
              obtain ⟨q0, q1, q2⟩ := FX.out _ hSw
              obtain ⟨p0, p1⟩ := PX.out _ hSw
              obtain ⟨p2, p3⟩ := PY.out _ hSw
              obtain ⟨c0, c1, c2, c3⟩ := (LX.out _ hSw).cells HC.out
              obtain ⟨d0, d1, d2, d3⟩ := (LX.out _ hSw).cells HD.out
              go_simp
            try simp only [Act.put, List.setIfInBounds_toArray, List.set_cons_zero, List.set_cons_succ, List.getElem_toArray, List.getElem_cons_zero, List.getElem_cons_succ]
            refine wpAnyH_take (i := 8) (v := .int .i64 (k : Int)) rfl (by kernel_rfl) (by kernel_rfl) (by kernel_rfl) (fun _ _ _ h => h) (Or.inl ⟨by kernel_rfl, ?_⟩) (by assumption) ?_
            · intro w hSw
              try dsimp only at hSw
              skip
              go_simp
            try simp only [Act.put, List.setIfInBounds_toArray, List.set_cons_zero, List.set_cons_succ, List.getElem_toArray, List.getElem_cons_zero, List.getElem_cons_succ]
            refine wpAnyH_take (i := 9) (v := .pointer (some ⟨b, o + k * 4, none⟩)) rfl (by kernel_rfl) (by kernel_rfl) (by kernel_rfl) (fun _ _ _ h => h) (Or.inl ⟨by kernel_rfl, ?_⟩) (by assumption) ?_
            · intro w hSw
              try dsimp only at hSw
              skip
              go_simp
              all_goals first | omega | exact IntWalk.i64_in _ (by omega)
            try simp only [Act.put, List.setIfInBounds_toArray, List.set_cons_zero, List.set_cons_succ, List.getElem_toArray, List.getElem_cons_zero, List.getElem_cons_succ]
            refine wpAnyH_take (i := 10) (v := .pointer (some ⟨b, o + k * 4 + 3, none⟩)) rfl (by kernel_rfl) (by kernel_rfl) (by kernel_rfl) (fun _ _ _ h => h) (Or.inl ⟨by kernel_rfl, ?_⟩) (by assumption) ?_
            · intro w hSw
              try dsimp only at hSw
              skip
              go_simp
            try simp only [Act.put, List.setIfInBounds_toArray, List.set_cons_zero, List.set_cons_succ, List.getElem_toArray, List.getElem_cons_zero, List.getElem_cons_succ]
            refine wpAnyH_take (i := 11) (v := .int .i64 d.hi) rfl (by kernel_rfl) (by kernel_rfl) (by kernel_rfl) (fun _ _ _ h => h) (Or.inl ⟨by kernel_rfl, ?_⟩) (by assumption) ?_
            · intro w hSw
              try dsimp only at hSw
              obtain ⟨q0, q1, q2⟩ := FX.out _ hSw
              obtain ⟨p0, p1⟩ := PX.out _ hSw
              obtain ⟨p2, p3⟩ := PY.out _ hSw
              obtain ⟨c0, c1, c2, c3⟩ := (LX.out _ hSw).cells HC.out
              obtain ⟨d0, d1, d2, d3⟩ := (LX.out _ hSw).cells HD.out
              go_simp
            try simp only [Act.put, List.setIfInBounds_toArray, List.set_cons_zero, List.set_cons_succ, List.getElem_toArray, List.getElem_cons_zero, List.getElem_cons_succ]
            refine wpAnyH_take (i := 12) (v := .bool true) rfl (by kernel_rfl) (by kernel_rfl) (by kernel_rfl) (fun _ _ _ h => h) (Or.inl ⟨by kernel_rfl, ?_⟩) (by assumption) ?_
            · intro w hSw
              try dsimp only at hSw
              skip
              go_simp
              all_goals first | omega | exact IntWalk.i64_in _ (by omega)
            try simp only [Act.put, List.setIfInBounds_toArray, List.set_cons_zero, List.set_cons_succ, List.getElem_toArray, List.getElem_cons_zero, List.getElem_cons_succ]
            refine wpAnyH_take (i := 13) (v := .bool true) rfl (by kernel_rfl) (by kernel_rfl) (by kernel_rfl) (fun _ _ _ h => h) (Or.inl ⟨by kernel_rfl, ?_⟩) (by assumption) ?_
            · intro w hSw
              try dsimp only at hSw
              skip
              go_simp
            try simp only [Act.put, List.setIfInBounds_toArray, List.set_cons_zero, List.set_cons_succ, List.getElem_toArray, List.getElem_cons_zero, List.getElem_cons_succ]
            refine wpAnyH_take (i := 14) (v := .pointer (some ⟨w1.heap.size, 0, none⟩)) rfl (by kernel_rfl) (by kernel_rfl) (by kernel_rfl) (fun _ _ _ h => h) (Or.inl ⟨by kernel_rfl, ?_⟩) (by assumption) ?_
            · intro w hSw
              try dsimp only at hSw
              skip
              go_simp
            try simp only [Act.put, List.setIfInBounds_toArray, List.set_cons_zero, List.set_cons_succ, List.getElem_toArray, List.getElem_cons_zero, List.getElem_cons_succ]
            refine wpAnyH_take (i := 15) (v := .int .i64 (c.fr - z)) rfl (by kernel_rfl) (by kernel_rfl) (by kernel_rfl) (fun _ _ _ h => h) (Or.inl ⟨by kernel_rfl, ?_⟩) (by assumption) ?_
            · intro w hSw
              try dsimp only at hSw
              obtain ⟨q0, q1, q2⟩ := FX.out _ hSw
              obtain ⟨p0, p1⟩ := PX.out _ hSw
              obtain ⟨p2, p3⟩ := PY.out _ hSw
              obtain ⟨c0, c1, c2, c3⟩ := (LX.out _ hSw).cells HC.out
              obtain ⟨d0, d1, d2, d3⟩ := (LX.out _ hSw).cells HD.out
              go_simp
            try simp only [Act.put, List.setIfInBounds_toArray, List.set_cons_zero, List.set_cons_succ, List.getElem_toArray, List.getElem_cons_zero, List.getElem_cons_succ]
            refine wpAnyH_take (i := 16) (v := .pointer (some ⟨w2.heap.size, 1, none⟩)) rfl (by kernel_rfl) (by kernel_rfl) (by kernel_rfl) (fun _ _ _ h => h) (Or.inl ⟨by kernel_rfl, ?_⟩) (by assumption) ?_
            · intro w hSw
              try dsimp only at hSw
              skip
              go_simp
            try simp only [Act.put, List.setIfInBounds_toArray, List.set_cons_zero, List.set_cons_succ, List.getElem_toArray, List.getElem_cons_zero, List.getElem_cons_succ]
            refine wpAnyH_take (i := 17) (v := .int .i64 (d.tt + z)) rfl (by kernel_rfl) (by kernel_rfl) (by kernel_rfl) (fun _ _ _ h => h) (Or.inl ⟨by kernel_rfl, ?_⟩) (by assumption) ?_
            · intro w hSw
              try dsimp only at hSw
              obtain ⟨q0, q1, q2⟩ := FX.out _ hSw
              obtain ⟨p0, p1⟩ := PX.out _ hSw
              obtain ⟨p2, p3⟩ := PY.out _ hSw
              obtain ⟨c0, c1, c2, c3⟩ := (LX.out _ hSw).cells HC.out
              obtain ⟨d0, d1, d2, d3⟩ := (LX.out _ hSw).cells HD.out
              go_simp
            try simp only [Act.put, List.setIfInBounds_toArray, List.set_cons_zero, List.set_cons_succ, List.getElem_toArray, List.getElem_cons_zero, List.getElem_cons_succ]
            refine wpAnyH_take (i := 18) (v := .bool false) rfl (by kernel_rfl) (by kernel_rfl) (by kernel_rfl) (fun _ _ _ h => h) (Or.inl ⟨by kernel_rfl, ?_⟩) (by assumption) ?_
            · intro w hSw
              try dsimp only at hSw
              skip
              go_simp
              all_goals first | omega | exact IntWalk.i64_in _ (by omega)
            try simp only [Act.put, List.setIfInBounds_toArray, List.set_cons_zero, List.set_cons_succ, List.getElem_toArray, List.getElem_cons_zero, List.getElem_cons_succ]
            refine wpAnyH_take (i := 19) (v := .bool false) rfl (by kernel_rfl) (by kernel_rfl) (by kernel_rfl) (fun _ _ _ h => h) (Or.inl ⟨by kernel_rfl, ?_⟩) (by assumption) ?_
            · intro w hSw
              try dsimp only at hSw
              skip
              go_simp
            try simp only [Act.put, List.setIfInBounds_toArray, List.set_cons_zero, List.set_cons_succ, List.getElem_toArray, List.getElem_cons_zero, List.getElem_cons_succ]
            refine wpAnyH_take (i := 20) (v := .bool false) rfl (by kernel_rfl) (by kernel_rfl) (by kernel_rfl) (fun _ _ _ h => h) (Or.inl ⟨by kernel_rfl, ?_⟩) (by assumption) ?_
            · intro w hSw
              try dsimp only at hSw
              skip
              go_simp
            try simp only [Act.put, List.setIfInBounds_toArray, List.set_cons_zero, List.set_cons_succ, List.getElem_toArray, List.getElem_cons_zero, List.getElem_cons_succ]
            refine wpAnyH_take (i := 21) (v := undef) rfl (by kernel_rfl) (by kernel_rfl) (by kernel_rfl) (fun _ _ _ h => h) (Or.inr ⟨by kernel_rfl, rfl⟩) (by assumption) ?_
            try simp only [Act.put, List.setIfInBounds_toArray, List.set_cons_zero, List.set_cons_succ, List.getElem_toArray, List.getElem_cons_zero, List.getElem_cons_succ]
            refine wpAnyH_take (i := 22) (v := undef) rfl (by kernel_rfl) (by kernel_rfl) (by kernel_rfl) (fun _ _ _ h => h) (Or.inr ⟨by kernel_rfl, rfl⟩) (by assumption) ?_
            try simp only [Act.put, List.setIfInBounds_toArray, List.set_cons_zero, List.set_cons_succ, List.getElem_toArray, List.getElem_cons_zero, List.getElem_cons_succ]
            refine wpAnyH_take (i := 23) (v := undef) rfl (by kernel_rfl) (by kernel_rfl) (by kernel_rfl) (fun _ _ _ h => h) (Or.inr ⟨by kernel_rfl, rfl⟩) (by assumption) ?_
            try simp only [Act.put, List.setIfInBounds_toArray, List.set_cons_zero, List.set_cons_succ, List.getElem_toArray, List.getElem_cons_zero, List.getElem_cons_succ]
            refine wpAnyH_take (i := 24) (v := undef) rfl (by kernel_rfl) (by kernel_rfl) (by kernel_rfl) (fun _ _ _ h => h) (Or.inr ⟨by kernel_rfl, rfl⟩) (by assumption) ?_
            try simp only [Act.put, List.setIfInBounds_toArray, List.set_cons_zero, List.set_cons_succ, List.getElem_toArray, List.getElem_cons_zero, List.getElem_cons_succ]
            refine wpAnyH_take (i := 25) (v := undef) rfl (by kernel_rfl) (by kernel_rfl) (by kernel_rfl) (fun _ _ _ h => h) (Or.inr ⟨by kernel_rfl, rfl⟩) (by assumption) ?_
            try simp only [Act.put, List.setIfInBounds_toArray, List.set_cons_zero, List.set_cons_succ, List.getElem_toArray, List.getElem_cons_zero, List.getElem_cons_succ]
            refine wpAnyH_take (i := 26) (v := .bool false) rfl (by kernel_rfl) (by kernel_rfl) (by kernel_rfl) (fun _ _ _ h => h) (Or.inl ⟨by kernel_rfl, ?_⟩) (by assumption) ?_
            · intro w hSw
              try dsimp only at hSw
              skip
              go_simp
            try simp only [Act.put, List.setIfInBounds_toArray, List.set_cons_zero, List.set_cons_succ, List.getElem_toArray, List.getElem_cons_zero, List.getElem_cons_succ]
            refine wpAnyH_done (by kernel_rfl) ?_ _
            go_wp2
            go_roundw
            case rel =>
              refine ⟨k + 1, by omega, by omega, by go_num, fun i' k' c' d' h1' h2' h3' h4' => ?_, BV.out.trans (Below.mono hHeld BV.out.size)⟩
              by_cases e1 : i' = i ∧ k' = k
              · obtain ⟨rfl, rfl⟩ := e1
                have e2 := HC.out
                rw [h2'] at e2
                cases e2
                have e3 := HD.out
                rw [h3'] at e3
                cases e3
                simp [Og.lcl]; omega
              · exact hNo.out i' k' c' d' h1' h2' h3' (by omega)
            case measure => simp [intOf]; omega
          by_cases x2 : d.fr - z < c.tt + z
          case neg =>
            go_wp2_with fail
            obtain ⟨V, hV⟩ : ∃ V, w2.alloc (.cells #[.int .i64 (d.fr - z), .int .i64 (d.tt + z)] 51) = V := ⟨_, rfl⟩
            rw [hV] at FX' LX' PX' PY' BV'
            rw [hV]
            have FX := Lib.hid FX'
            have LX := Lib.hid LX'
            have PX := Lib.hid PX'
            have PY := Lib.hid PY'
            have BV := Lib.hid BV'
            clear hV FX' LX' PX' PY' BV'
            refine wp_region_held_drew (S := fun W => Below V.heap.size V W) (by kernel_rfl) ?_ (fun hHeld => ?_)
            · exact (Below.refl _ _).drew
            refine wpAnyH_take (i := 0) (v := .pointer (some ⟨w.heap.size, 2, none⟩)) rfl (by kernel_rfl) (by kernel_rfl) (by kernel_rfl) (fun _ _ _ h => h) (Or.inl ⟨by kernel_rfl, ?_⟩) (by assumption) ?_
            · intro w hSw
              try dsimp only at hSw
              skip
              go_simp
            try simp only [Act.put, List.setIfInBounds_toArray, List.set_cons_zero, List.set_cons_succ, List.getElem_toArray, List.getElem_cons_zero]
            refine wpAnyH_take (i := 1) (v := .slice (some ⟨b, o, none⟩) L.length cap) rfl (by kernel_rfl) (by kernel_rfl) (by kernel_rfl) (fun _ _ _ h => h) (Or.inl ⟨by kernel_rfl, ?_⟩) (by assumption) ?_
            · intro w hSw
              try dsimp only at hSw
              obtain ⟨q0, q1, q2⟩ := FX.out _ hSw
              obtain ⟨p0, p1⟩ := PX.out _ hSw
              obtain ⟨p2, p3⟩ := PY.out _ hSw
              obtain ⟨c0, c1, c2, c3⟩ := (LX.out _ hSw).cells HC.out
              obtain ⟨d0, d1, d2, d3⟩ := (LX.out _ hSw).cells HD.out
              go_simp
            try simp only [Act.put, List.setIfInBounds_toArray, List.set_cons_zero, List.set_cons_succ, List.getElem_toArray, List.getElem_cons_zero, List.getElem_cons_succ]
            refine wpAnyH_take (i := 2) (v := .int .i64 (i : Int)) rfl (by kernel_rfl) (by kernel_rfl) (by kernel_rfl) (fun _ _ _ h => h) (Or.inl ⟨by kernel_rfl, ?_⟩) (by assumption) ?_
            · intro w hSw
              try dsimp only at hSw
              skip
              go_simp
            try simp only [Act.put, List.setIfInBounds_toArray, List.set_cons_zero, List.set_cons_succ, List.getElem_toArray, List.getElem_cons_zero, List.getElem_cons_succ]
            refine wpAnyH_take (i := 3) (v := .pointer (some ⟨b, o + i * 4, none⟩)) rfl (by kernel_rfl) (by kernel_rfl) (by kernel_rfl) (fun _ _ _ h => h) (Or.inl ⟨by kernel_rfl, ?_⟩) (by assumption) ?_
            · intro w hSw
              try dsimp only at hSw
              skip
              go_simp
              all_goals first | omega | exact IntWalk.i64_in _ (by omega)
            try simp only [Act.put, List.setIfInBounds_toArray, List.set_cons_zero, List.set_cons_succ, List.getElem_toArray, List.getElem_cons_zero, List.getElem_cons_succ]
            refine wpAnyH_take (i := 4) (v := .pointer (some ⟨b, o + i * 4 + 3, none⟩)) rfl (by kernel_rfl) (by kernel_rfl) (by kernel_rfl) (fun _ _ _ h => h) (Or.inl ⟨by kernel_rfl, ?_⟩) (by assumption) ?_
            · intro w hSw
              try dsimp only at hSw
              skip
              go_simp
            try simp only [Act.put, List.setIfInBounds_toArray, List.set_cons_zero, List.set_cons_succ, List.getElem_toArray, List.getElem_cons_zero, List.getElem_cons_succ]
            refine wpAnyH_take (i := 5) (v := .int .i64 c.hi) rfl (by kernel_rfl) (by kernel_rfl) (by kernel_rfl) (fun _ _ _ h => h) (Or.inl ⟨by kernel_rfl, ?_⟩) (by assumption) ?_
            · intro w hSw
              try dsimp only at hSw
              obtain ⟨q0, q1, q2⟩ := FX.out _ hSw
              obtain ⟨p0, p1⟩ := PX.out _ hSw
              obtain ⟨p2, p3⟩ := PY.out _ hSw
              obtain ⟨c0, c1, c2, c3⟩ := (LX.out _ hSw).cells HC.out
              obtain ⟨d0, d1, d2, d3⟩ := (LX.out _ hSw).cells HD.out
              go_simp
            try simp only [Act.put, List.setIfInBounds_toArray, List.set_cons_zero, List.set_cons_succ, List.getElem_toArray, List.getElem_cons_zero, List.getElem_cons_succ]
            refine wpAnyH_take (i := 6) (v := .pointer (some ⟨w.heap.size, 2, none⟩)) rfl (by kernel_rfl) (by kernel_rfl) (by kernel_rfl) (fun _ _ _ h => h) (Or.inl ⟨by kernel_rfl, ?_⟩) (by assumption) ?_
            · intro w hSw
              try dsimp only at hSw
              skip
              go_simp
            try simp only [Act.put, List.setIfInBounds_toArray, List.set_cons_zero, List.set_cons_succ, List.getElem_toArray, List.getElem_cons_zero, List.getElem_cons_succ]
            refine wpAnyH_take (i := 7) (v := .slice (some ⟨b, o, none⟩) L.length cap) rfl (by kernel_rfl) (by kernel_rfl) (by kernel_rfl) (fun _ _ _ h => h) (Or.inl ⟨by kernel_rfl, ?_⟩) (by assumption) ?_
            · intro w hSw
              try dsimp only at hSw
              obtain ⟨q0, q1, q2⟩ := FX.out _ hSw
              obtain ⟨p0, p1⟩ := PX.out _ hSw
              obtain ⟨p2, p3⟩ := PY.out _ hSw
              obtain ⟨c0, c1, c2, c3⟩ := (LX.out _ hSw).cells HC.out
              obtain ⟨d0, d1, d2, d3⟩ := (LX.out _ hSw).cells HD.out
              go_simp
            try simp only [Act.put, List.setIfInBounds_toArray, List.set_cons_zero, List.set_cons_succ, List.getElem_toArray, List.getElem_cons_zero, List.getElem_cons_succ]
            refine wpAnyH_take (i := 8) (v := .int .i64 (k : Int)) rfl (by kernel_rfl) (by kernel_rfl) (by kernel_rfl) (fun _ _ _ h => h) (Or.inl ⟨by kernel_rfl, ?_⟩) (by assumption) ?_
            · intro w hSw
              try dsimp only at hSw
              skip
              go_simp
            try simp only [Act.put, List.setIfInBounds_toArray, List.set_cons_zero, List.set_cons_succ, List.getElem_toArray, List.getElem_cons_zero, List.getElem_cons_succ]
            refine wpAnyH_take (i := 9) (v := .pointer (some ⟨b, o + k * 4, none⟩)) rfl (by kernel_rfl) (by kernel_rfl) (by kernel_rfl) (fun _ _ _ h => h) (Or.inl ⟨by kernel_rfl, ?_⟩) (by assumption) ?_
            · intro w hSw
              try dsimp only at hSw
              skip
              go_simp
              all_goals first | omega | exact IntWalk.i64_in _ (by omega)
            try simp only [Act.put, List.setIfInBounds_toArray, List.set_cons_zero, List.set_cons_succ, List.getElem_toArray, List.getElem_cons_zero, List.getElem_cons_succ]
            refine wpAnyH_take (i := 10) (v := .pointer (some ⟨b, o + k * 4 + 3, none⟩)) rfl (by kernel_rfl) (by kernel_rfl) (by kernel_rfl) (fun _ _ _ h => h) (Or.inl ⟨by kernel_rfl, ?_⟩) (by assumption) ?_
            · intro w hSw
              try dsimp only at hSw
              skip
              go_simp
            try simp only [Act.put, List.setIfInBounds_toArray, List.set_cons_zero, List.set_cons_succ, List.getElem_toArray, List.getElem_cons_zero, List.getElem_cons_succ]
            refine wpAnyH_take (i := 11) (v := .int .i64 d.hi) rfl (by kernel_rfl) (by kernel_rfl) (by kernel_rfl) (fun _ _ _ h => h) (Or.inl ⟨by kernel_rfl, ?_⟩) (by assumption) ?_
            · intro w hSw
              try dsimp only at hSw
              obtain ⟨q0, q1, q2⟩ := FX.out _ hSw
              obtain ⟨p0, p1⟩ := PX.out _ hSw
              obtain ⟨p2, p3⟩ := PY.out _ hSw
              obtain ⟨c0, c1, c2, c3⟩ := (LX.out _ hSw).cells HC.out
              obtain ⟨d0, d1, d2, d3⟩ := (LX.out _ hSw).cells HD.out
              go_simp
            try simp only [Act.put, List.setIfInBounds_toArray, List.set_cons_zero, List.set_cons_succ, List.getElem_toArray, List.getElem_cons_zero, List.getElem_cons_succ]
            refine wpAnyH_take (i := 12) (v := .bool true) rfl (by kernel_rfl) (by kernel_rfl) (by kernel_rfl) (fun _ _ _ h => h) (Or.inl ⟨by kernel_rfl, ?_⟩) (by assumption) ?_
            · intro w hSw
              try dsimp only at hSw
              skip
              go_simp
              all_goals first | omega | exact IntWalk.i64_in _ (by omega)
            try simp only [Act.put, List.setIfInBounds_toArray, List.set_cons_zero, List.set_cons_succ, List.getElem_toArray, List.getElem_cons_zero, List.getElem_cons_succ]
            refine wpAnyH_take (i := 13) (v := .bool true) rfl (by kernel_rfl) (by kernel_rfl) (by kernel_rfl) (fun _ _ _ h => h) (Or.inl ⟨by kernel_rfl, ?_⟩) (by assumption) ?_
            · intro w hSw
              try dsimp only at hSw
              skip
              go_simp
            try simp only [Act.put, List.setIfInBounds_toArray, List.set_cons_zero, List.set_cons_succ, List.getElem_toArray, List.getElem_cons_zero, List.getElem_cons_succ]
            refine wpAnyH_take (i := 14) (v := .pointer (some ⟨w1.heap.size, 0, none⟩)) rfl (by kernel_rfl) (by kernel_rfl) (by kernel_rfl) (fun _ _ _ h => h) (Or.inl ⟨by kernel_rfl, ?_⟩) (by assumption) ?_
            · intro w hSw
              try dsimp only at hSw
              skip
              go_simp
            try simp only [Act.put, List.setIfInBounds_toArray, List.set_cons_zero, List.set_cons_succ, List.getElem_toArray, List.getElem_cons_zero, List.getElem_cons_succ]
            refine wpAnyH_take (i := 15) (v := .int .i64 (c.fr - z)) rfl (by kernel_rfl) (by kernel_rfl) (by kernel_rfl) (fun _ _ _ h => h) (Or.inl ⟨by kernel_rfl, ?_⟩) (by assumption) ?_
            · intro w hSw
              try dsimp only at hSw
              obtain ⟨q0, q1, q2⟩ := FX.out _ hSw
              obtain ⟨p0, p1⟩ := PX.out _ hSw
              obtain ⟨p2, p3⟩ := PY.out _ hSw
              obtain ⟨c0, c1, c2, c3⟩ := (LX.out _ hSw).cells HC.out
              obtain ⟨d0, d1, d2, d3⟩ := (LX.out _ hSw).cells HD.out
              go_simp
            try simp only [Act.put, List.setIfInBounds_toArray, List.set_cons_zero, List.set_cons_succ, List.getElem_toArray, List.getElem_cons_zero, List.getElem_cons_succ]
            refine wpAnyH_take (i := 16) (v := .pointer (some ⟨w2.heap.size, 1, none⟩)) rfl (by kernel_rfl) (by kernel_rfl) (by kernel_rfl) (fun _ _ _ h => h) (Or.inl ⟨by kernel_rfl, ?_⟩) (by assumption) ?_
            · intro w hSw
              try dsimp only at hSw
              skip
              go_simp
            try simp only [Act.put, List.setIfInBounds_toArray, List.set_cons_zero, List.set_cons_succ, List.getElem_toArray, List.getElem_cons_zero, List.getElem_cons_succ]
            refine wpAnyH_take (i := 17) (v := .int .i64 (d.tt + z)) rfl (by kernel_rfl) (by kernel_rfl) (by kernel_rfl) (fun _ _ _ h => h) (Or.inl ⟨by kernel_rfl, ?_⟩) (by assumption) ?_
            · intro w hSw
              try dsimp only at hSw
              obtain ⟨q0, q1, q2⟩ := FX.out _ hSw
              obtain ⟨p0, p1⟩ := PX.out _ hSw
              obtain ⟨p2, p3⟩ := PY.out _ hSw
              obtain ⟨c0, c1, c2, c3⟩ := (LX.out _ hSw).cells HC.out
              obtain ⟨d0, d1, d2, d3⟩ := (LX.out _ hSw).cells HD.out
              go_simp
            try simp only [Act.put, List.setIfInBounds_toArray, List.set_cons_zero, List.set_cons_succ, List.getElem_toArray, List.getElem_cons_zero, List.getElem_cons_succ]
            refine wpAnyH_take (i := 18) (v := .bool true) rfl (by kernel_rfl) (by kernel_rfl) (by kernel_rfl) (fun _ _ _ h => h) (Or.inl ⟨by kernel_rfl, ?_⟩) (by assumption) ?_
            · intro w hSw
              try dsimp only at hSw
              skip
              go_simp
              all_goals first | omega | exact IntWalk.i64_in _ (by omega)
            try simp only [Act.put, List.setIfInBounds_toArray, List.set_cons_zero, List.set_cons_succ, List.getElem_toArray, List.getElem_cons_zero, List.getElem_cons_succ]
            refine wpAnyH_take (i := 19) (v := .bool true) rfl (by kernel_rfl) (by kernel_rfl) (by kernel_rfl) (fun _ _ _ h => h) (Or.inl ⟨by kernel_rfl, ?_⟩) (by assumption) ?_
            · intro w hSw
              try dsimp only at hSw
              skip
              go_simp
            try simp only [Act.put, List.setIfInBounds_toArray, List.set_cons_zero, List.set_cons_succ, List.getElem_toArray, List.getElem_cons_zero, List.getElem_cons_succ]
            refine wpAnyH_take (i := 20) (v := .bool true) rfl (by kernel_rfl) (by kernel_rfl) (by kernel_rfl) (fun _ _ _ h => h) (Or.inl ⟨by kernel_rfl, ?_⟩) (by assumption) ?_
            · intro w hSw
              try dsimp only at hSw
              skip
              go_simp
            try simp only [Act.put, List.setIfInBounds_toArray, List.set_cons_zero, List.set_cons_succ, List.getElem_toArray, List.getElem_cons_zero, List.getElem_cons_succ]
            refine wpAnyH_take (i := 21) (v := .pointer (some ⟨w2.heap.size, 0, none⟩)) rfl (by kernel_rfl) (by kernel_rfl) (by kernel_rfl) (fun _ _ _ h => h) (Or.inl ⟨by kernel_rfl, ?_⟩) (by assumption) ?_
            · intro w hSw
              try dsimp only at hSw
              skip
              go_simp
            try simp only [Act.put, List.setIfInBounds_toArray, List.set_cons_zero, List.set_cons_succ, List.getElem_toArray, List.getElem_cons_zero, List.getElem_cons_succ]
            refine wpAnyH_take (i := 22) (v := .int .i64 (d.fr - z)) rfl (by kernel_rfl) (by kernel_rfl) (by kernel_rfl) (fun _ _ _ h => h) (Or.inl ⟨by kernel_rfl, ?_⟩) (by assumption) ?_
            · intro w hSw
              try dsimp only at hSw
              obtain ⟨q0, q1, q2⟩ := FX.out _ hSw
              obtain ⟨p0, p1⟩ := PX.out _ hSw
              obtain ⟨p2, p3⟩ := PY.out _ hSw
              obtain ⟨c0, c1, c2, c3⟩ := (LX.out _ hSw).cells HC.out
              obtain ⟨d0, d1, d2, d3⟩ := (LX.out _ hSw).cells HD.out
              go_simp
            try simp only [Act.put, List.setIfInBounds_toArray, List.set_cons_zero, List.set_cons_succ, List.getElem_toArray, List.getElem_cons_zero, List.getElem_cons_succ]
            refine wpAnyH_take (i := 23) (v := .pointer (some ⟨w1.heap.size, 1, none⟩)) rfl (by kernel_rfl) (by kernel_rfl) (by kernel_rfl) (fun _ _ _ h => h) (Or.inl ⟨by kernel_rfl, ?_⟩) (by assumption) ?_
            · intro w hSw
              try dsimp only at hSw
              skip
              go_simp
            try simp only [Act.put, List.setIfInBounds_toArray, List.set_cons_zero, List.set_cons_succ, List.getElem_toArray, List.getElem_cons_zero, List.getElem_cons_succ]
            refine wpAnyH_take (i := 24) (v := .int .i64 (c.tt + z)) rfl (by kernel_rfl) (by kernel_rfl) (by kernel_rfl) (fun _ _ _ h => h) (Or.inl ⟨by kernel_rfl, ?_⟩) (by assumption) ?_
            · intro w hSw
              try dsimp only at hSw
              obtain ⟨q0, q1, q2⟩ := FX.out _ hSw
              obtain ⟨p0, p1⟩ := PX.out _ hSw
              obtain ⟨p2, p3⟩ := PY.out _ hSw
              obtain ⟨c0, c1, c2, c3⟩ := (LX.out _ hSw).cells HC.out
              obtain ⟨d0, d1, d2, d3⟩ := (LX.out _ hSw).cells HD.out
              go_simp
            try simp only [Act.put, List.setIfInBounds_toArray, List.set_cons_zero, List.set_cons_succ, List.getElem_toArray, List.getElem_cons_zero, List.getElem_cons_succ]
            refine wpAnyH_take (i := 25) (v := .bool false) rfl (by kernel_rfl) (by kernel_rfl) (by kernel_rfl) (fun _ _ _ h => h) (Or.inl ⟨by kernel_rfl, ?_⟩) (by assumption) ?_
            · intro w hSw
              try dsimp only at hSw
              skip
              go_simp
              all_goals first | omega | exact IntWalk.i64_in _ (by omega)
            try simp only [Act.put, List.setIfInBounds_toArray, List.set_cons_zero, List.set_cons_succ, List.getElem_toArray, List.getElem_cons_zero, List.getElem_cons_succ]
            refine wpAnyH_take (i := 26) (v := .bool false) rfl (by kernel_rfl) (by kernel_rfl) (by kernel_rfl) (fun _ _ _ h => h) (Or.inl ⟨by kernel_rfl, ?_⟩) (by assumption) ?_
            · intro w hSw
              try dsimp only at hSw
              skip
              go_simp
            try simp only [Act.put, List.setIfInBounds_toArray, List.set_cons_zero, List.set_cons_succ, List.getElem_toArray, List.getElem_cons_zero, List.getElem_cons_succ]
            refine wpAnyH_done (by kernel_rfl) ?_ _
            go_wp2
            go_roundw
            case rel =>
              refine ⟨k + 1, by omega, by omega, by go_num, fun i' k' c' d' h1' h2' h3' h4' => ?_, BV.out.trans (Below.mono hHeld BV.out.size)⟩
              by_cases e1 : i' = i ∧ k' = k
              · obtain ⟨rfl, rfl⟩ := e1
                have e2 := HC.out
                rw [h2'] at e2
                cases e2
                have e3 := HD.out
                rw [h3'] at e3
                cases e3
                simp [Og.lcl]; omega
              · exact hNo.out i' k' c' d' h1' h2' h3' (by omega)
            case measure => simp [intOf]; omega
          go_wp2_with fail
          obtain ⟨V, hV⟩ : ∃ V, w2.alloc (.cells #[.int .i64 (d.fr - z), .int .i64 (d.tt + z)] 51) = V := ⟨_, rfl⟩
          rw [hV] at FX' LX' PX' PY' BV'
          rw [hV]
          have FX := Lib.hid FX'
          have LX := Lib.hid LX'
          have PX := Lib.hid PX'
          have PY := Lib.hid PY'
          have BV := Lib.hid BV'
          clear hV FX' LX' PX' PY' BV'
          refine wp_region_held_drew (S := fun W => Below V.heap.size V W) (by kernel_rfl) ?_ (fun hHeld => ?_)
          · exact (Below.refl _ _).drew
          refine wpAnyH_take (i := 0) (v := .pointer (some ⟨w.heap.size, 2, none⟩)) rfl (by kernel_rfl) (by kernel_rfl) (by kernel_rfl) (fun _ _ _ h => h) (Or.inl ⟨by kernel_rfl, ?_⟩) (by assumption) ?_
          · intro w hSw
            try dsimp only at hSw
            skip
            go_simp
          try simp only [Act.put, List.setIfInBounds_toArray, List.set_cons_zero, List.set_cons_succ, List.getElem_toArray, List.getElem_cons_zero]
          refine wpAnyH_take (i := 1) (v := .slice (some ⟨b, o, none⟩) L.length cap) rfl (by kernel_rfl) (by kernel_rfl) (by kernel_rfl) (fun _ _ _ h => h) (Or.inl ⟨by kernel_rfl, ?_⟩) (by assumption) ?_
          · intro w hSw
            try dsimp only at hSw
            obtain ⟨q0, q1, q2⟩ := FX.out _ hSw
            obtain ⟨p0, p1⟩ := PX.out _ hSw
            obtain ⟨p2, p3⟩ := PY.out _ hSw
            obtain ⟨c0, c1, c2, c3⟩ := (LX.out _ hSw).cells HC.out
            obtain ⟨d0, d1, d2, d3⟩ := (LX.out _ hSw).cells HD.out
            go_simp
          try simp only [Act.put, List.setIfInBounds_toArray, List.set_cons_zero, List.set_cons_succ, List.getElem_toArray, List.getElem_cons_zero, List.getElem_cons_succ]
          refine wpAnyH_take (i := 2) (v := .int .i64 (i : Int)) rfl (by kernel_rfl) (by kernel_rfl) (by kernel_rfl) (fun _ _ _ h => h) (Or.inl ⟨by kernel_rfl, ?_⟩) (by assumption) ?_
          · intro w hSw
            try dsimp only at hSw
            skip
            go_simp
          try simp only [Act.put, List.setIfInBounds_toArray, List.set_cons_zero, List.set_cons_succ, List.getElem_toArray, List.getElem_cons_zero, List.getElem_cons_succ]
          refine wpAnyH_take (i := 3) (v := .pointer (some ⟨b, o + i * 4, none⟩)) rfl (by kernel_rfl) (by kernel_rfl) (by kernel_rfl) (fun _ _ _ h => h) (Or.inl ⟨by kernel_rfl, ?_⟩) (by assumption) ?_
          · intro w hSw
            try dsimp only at hSw
            skip
            go_simp
            all_goals first | omega | exact IntWalk.i64_in _ (by omega)
          try simp only [Act.put, List.setIfInBounds_toArray, List.set_cons_zero, List.set_cons_succ, List.getElem_toArray, List.getElem_cons_zero, List.getElem_cons_succ]
          refine wpAnyH_take (i := 4) (v := .pointer (some ⟨b, o + i * 4 + 3, none⟩)) rfl (by kernel_rfl) (by kernel_rfl) (by kernel_rfl) (fun _ _ _ h => h) (Or.inl ⟨by kernel_rfl, ?_⟩) (by assumption) ?_
          · intro w hSw
            try dsimp only at hSw
            skip
            go_simp
          try simp only [Act.put, List.setIfInBounds_toArray, List.set_cons_zero, List.set_cons_succ, List.getElem_toArray, List.getElem_cons_zero, List.getElem_cons_succ]
          refine wpAnyH_take (i := 5) (v := .int .i64 c.hi) rfl (by kernel_rfl) (by kernel_rfl) (by kernel_rfl) (fun _ _ _ h => h) (Or.inl ⟨by kernel_rfl, ?_⟩) (by assumption) ?_
          · intro w hSw
            try dsimp only at hSw
            obtain ⟨q0, q1, q2⟩ := FX.out _ hSw
            obtain ⟨p0, p1⟩ := PX.out _ hSw
            obtain ⟨p2, p3⟩ := PY.out _ hSw
            obtain ⟨c0, c1, c2, c3⟩ := (LX.out _ hSw).cells HC.out
            obtain ⟨d0, d1, d2, d3⟩ := (LX.out _ hSw).cells HD.out
            go_simp
          try simp only [Act.put, List.setIfInBounds_toArray, List.set_cons_zero, List.set_cons_succ, List.getElem_toArray, List.getElem_cons_zero, List.getElem_cons_succ]
          refine wpAnyH_take (i := 6) (v := .pointer (some ⟨w.heap.size, 2, none⟩)) rfl (by kernel_rfl) (by kernel_rfl) (by kernel_rfl) (fun _ _ _ h => h) (Or.inl ⟨by kernel_rfl, ?_⟩) (by assumption) ?_
          · intro w hSw
            try dsimp only at hSw
            skip
            go_simp
          try simp only [Act.put, List.setIfInBounds_toArray, List.set_cons_zero, List.set_cons_succ, List.getElem_toArray, List.getElem_cons_zero, List.getElem_cons_succ]
          refine wpAnyH_take (i := 7) (v := .slice (some ⟨b, o, none⟩) L.length cap) rfl (by kernel_rfl) (by kernel_rfl) (by kernel_rfl) (fun _ _ _ h => h) (Or.inl ⟨by kernel_rfl, ?_⟩) (by assumption) ?_
          · intro w hSw
            try dsimp only at hSw
            obtain ⟨q0, q1, q2⟩ := FX.out _ hSw
            obtain ⟨p0, p1⟩ := PX.out _ hSw
            obtain ⟨p2, p3⟩ := PY.out _ hSw
            obtain ⟨c0, c1, c2, c3⟩ := (LX.out _ hSw).cells HC.out
            obtain ⟨d0, d1, d2, d3⟩ := (LX.out _ hSw).cells HD.out
            go_simp
          try simp only [Act.put, List.setIfInBounds_toArray, List.set_cons_zero, List.set_cons_succ, List.getElem_toArray, List.getElem_cons_zero, List.getElem_cons_succ]
          refine wpAnyH_take (i := 8) (v := .int .i64 (k : Int)) rfl (by kernel_rfl) (by kernel_rfl) (by kernel_rfl) (fun _ _ _ h => h) (Or.inl ⟨by kernel_rfl, ?_⟩) (by assumption) ?_
          · intro w hSw
            try dsimp only at hSw
            skip
            go_simp
          try simp only [Act.put, List.setIfInBounds_toArray, List.set_cons_zero, List.set_cons_succ, List.getElem_toArray, List.getElem_cons_zero, List.getElem_cons_succ]
          refine wpAnyH_take (i := 9) (v := .pointer (some ⟨b, o + k * 4, none⟩)) rfl (by kernel_rfl) (by kernel_rfl) (by kernel_rfl) (fun _ _ _ h => h) (Or.inl ⟨by kernel_rfl, ?_⟩) (by assumption) ?_
          · intro w hSw
            try dsimp only at hSw
            skip
            go_simp
            all_goals first | omega | exact IntWalk.i64_in _ (by omega)
          try simp only [Act.put, List.setIfInBounds_toArray, List.set_cons_zero, List.set_cons_succ, List.getElem_toArray, List.getElem_cons_zero, List.getElem_cons_succ]
          refine wpAnyH_take (i := 10) (v := .pointer (some ⟨b, o + k * 4 + 3, none⟩)) rfl (by kernel_rfl) (by kernel_rfl) (by kernel_rfl) (fun _ _ _ h => h) (Or.inl ⟨by kernel_rfl, ?_⟩) (by assumption) ?_
          · intro w hSw
            try dsimp only at hSw
            skip
            go_simp
          try simp only [Act.put, List.setIfInBounds_toArray, List.set_cons_zero, List.set_cons_succ, List.getElem_toArray, List.getElem_cons_zero, List.getElem_cons_succ]
          refine wpAnyH_take (i := 11) (v := .int .i64 d.hi) rfl (by kernel_rfl) (by kernel_rfl) (by kernel_rfl) (fun _ _ _ h => h) (Or.inl ⟨by kernel_rfl, ?_⟩) (by assumption) ?_
          · intro w hSw
            try dsimp only at hSw
            obtain ⟨q0, q1, q2⟩ := FX.out _ hSw
            obtain ⟨p0, p1⟩ := PX.out _ hSw
            obtain ⟨p2, p3⟩ := PY.out _ hSw
            obtain ⟨c0, c1, c2, c3⟩ := (LX.out _ hSw).cells HC.out
            obtain ⟨d0, d1, d2, d3⟩ := (LX.out _ hSw).cells HD.out
            go_simp
          try simp only [Act.put, List.setIfInBounds_toArray, List.set_cons_zero, List.set_cons_succ, List.getElem_toArray, List.getElem_cons_zero, List.getElem_cons_succ]
          refine wpAnyH_take (i := 12) (v := .bool true) rfl (by kernel_rfl) (by kernel_rfl) (by kernel_rfl) (fun _ _ _ h => h) (Or.inl ⟨by kernel_rfl, ?_⟩) (by assumption) ?_
          · intro w hSw
            try dsimp only at hSw
            skip
            go_simp
            all_goals first | omega | exact IntWalk.i64_in _ (by omega)
          try simp only [Act.put, List.setIfInBounds_toArray, List.set_cons_zero, List.set_cons_succ, List.getElem_toArray, List.getElem_cons_zero, List.getElem_cons_succ]
          refine wpAnyH_take (i := 13) (v := .bool true) rfl (by kernel_rfl) (by kernel_rfl) (by kernel_rfl) (fun _ _ _ h => h) (Or.inl ⟨by kernel_rfl, ?_⟩) (by assumption) ?_
          · intro w hSw
            try dsimp only at hSw
            skip
            go_simp
          try simp only [Act.put, List.setIfInBounds_toArray, List.set_cons_zero, List.set_cons_succ, List.getElem_toArray, List.getElem_cons_zero, List.getElem_cons_succ]
          refine wpAnyH_take (i := 14) (v := .pointer (some ⟨w1.heap.size, 0, none⟩)) rfl (by kernel_rfl) (by kernel_rfl) (by kernel_rfl) (fun _ _ _ h => h) (Or.inl ⟨by kernel_rfl, ?_⟩) (by assumption) ?_
          · intro w hSw
            try dsimp only at hSw
            skip
            go_simp
          try simp only [Act.put, List.setIfInBounds_toArray, List.set_cons_zero, List.set_cons_succ, List.getElem_toArray, List.getElem_cons_zero, List.getElem_cons_succ]
          refine wpAnyH_take (i := 15) (v := .int .i64 (c.fr - z)) rfl (by kernel_rfl) (by kernel_rfl) (by kernel_rfl) (fun _ _ _ h => h) (Or.inl ⟨by kernel_rfl, ?_⟩) (by assumption) ?_
          · intro w hSw
            try dsimp only at hSw
            obtain ⟨q0, q1, q2⟩ := FX.out _ hSw
            obtain ⟨p0, p1⟩ := PX.out _ hSw
            obtain ⟨p2, p3⟩ := PY.out _ hSw
            obtain ⟨c0, c1, c2, c3⟩ := (LX.out _ hSw).cells HC.out
            obtain ⟨d0, d1, d2, d3⟩ := (LX.out _ hSw).cells HD.out
            go_simp
          try simp only [Act.put, List.setIfInBounds_toArray, List.set_cons_zero, List.set_cons_succ, List.getElem_toArray, List.getElem_cons_zero, List.getElem_cons_succ]
          refine wpAnyH_take (i := 16) (v := .pointer (some ⟨w2.heap.size, 1, none⟩)) rfl (by kernel_rfl) (by kernel_rfl) (by kernel_rfl) (fun _ _ _ h => h) (Or.inl ⟨by kernel_rfl, ?_⟩) (by assumption) ?_
          · intro w hSw
            try dsimp only at hSw
            skip
            go_simp
          try simp only [Act.put, List.setIfInBounds_toArray, List.set_cons_zero, List.set_cons_succ, List.getElem_toArray, List.getElem_cons_zero, List.getElem_cons_succ]
          refine wpAnyH_take (i := 17) (v := .int .i64 (d.tt + z)) rfl (by kernel_rfl) (by kernel_rfl) (by kernel_rfl) (fun _ _ _ h => h) (Or.inl ⟨by kernel_rfl, ?_⟩) (by assumption) ?_
          · intro w hSw
            try dsimp only at hSw
            obtain ⟨q0, q1, q2⟩ := FX.out _ hSw
            obtain ⟨p0, p1⟩ := PX.out _ hSw
            obtain ⟨p2, p3⟩ := PY.out _ hSw
            obtain ⟨c0, c1, c2, c3⟩ := (LX.out _ hSw).cells HC.out
            obtain ⟨d0, d1, d2, d3⟩ := (LX.out _ hSw).cells HD.out
            go_simp
          try simp only [Act.put, List.setIfInBounds_toArray, List.set_cons_zero, List.set_cons_succ, List.getElem_toArray, List.getElem_cons_zero, List.getElem_cons_succ]
          refine wpAnyH_take (i := 18) (v := .bool true) rfl (by kernel_rfl) (by kernel_rfl) (by kernel_rfl) (fun _ _ _ h => h) (Or.inl ⟨by kernel_rfl, ?_⟩) (by assumption) ?_
          · intro w hSw
            try dsimp only at hSw
            skip
            go_simp
            all_goals first | omega | exact IntWalk.i64_in _ (by omega)
          try simp only [Act.put, List.setIfInBounds_toArray, List.set_cons_zero, List.set_cons_succ, List.getElem_toArray, List.getElem_cons_zero, List.getElem_cons_succ]
          refine wpAnyH_take (i := 19) (v := .bool true) rfl (by kernel_rfl) (by kernel_rfl) (by kernel_rfl) (fun _ _ _ h => h) (Or.inl ⟨by kernel_rfl, ?_⟩) (by assumption) ?_
          · intro w hSw
            try dsimp only at hSw
            skip
            go_simp
          try simp only [Act.put, List.setIfInBounds_toArray, List.set_cons_zero, List.set_cons_succ, List.getElem_toArray, List.getElem_cons_zero, List.getElem_cons_succ]
          refine wpAnyH_take (i := 20) (v := .bool true) rfl (by kernel_rfl) (by kernel_rfl) (by kernel_rfl) (fun _ _ _ h => h) (Or.inl ⟨by kernel_rfl, ?_⟩) (by assumption) ?_
          · intro w hSw
            try dsimp only at hSw
            skip
            go_simp
          try simp only [Act.put, List.setIfInBounds_toArray, List.set_cons_zero, List.set_cons_succ, List.getElem_toArray, List.getElem_cons_zero, List.getElem_cons_succ]
          refine wpAnyH_take (i := 21) (v := .pointer (some ⟨w2.heap.size, 0, none⟩)) rfl (by kernel_rfl) (by kernel_rfl) (by kernel_rfl) (fun _ _ _ h => h) (Or.inl ⟨by kernel_rfl, ?_⟩) (by assumption) ?_
          · intro w hSw
            try dsimp only at hSw
            skip
            go_simp
          try simp only [Act.put, List.setIfInBounds_toArray, List.set_cons_zero, List.set_cons_succ, List.getElem_toArray, List.getElem_cons_zero, List.getElem_cons_succ]
          refine wpAnyH_take (i := 22) (v := .int .i64 (d.fr - z)) rfl (by kernel_rfl) (by kernel_rfl) (by kernel_rfl) (fun _ _ _ h => h) (Or.inl ⟨by kernel_rfl, ?_⟩) (by assumption) ?_
          · intro w hSw
            try dsimp only at hSw
            obtain ⟨q0, q1, q2⟩ := FX.out _ hSw
            obtain ⟨p0, p1⟩ := PX.out _ hSw
            obtain ⟨p2, p3⟩ := PY.out _ hSw
            obtain ⟨c0, c1, c2, c3⟩ := (LX.out _ hSw).cells HC.out
            obtain ⟨d0, d1, d2, d3⟩ := (LX.out _ hSw).cells HD.out
            go_simp
          try simp only [Act.put, List.setIfInBounds_toArray, List.set_cons_zero, List.set_cons_succ, List.getElem_toArray, List.getElem_cons_zero, List.getElem_cons_succ]
          refine wpAnyH_take (i := 23) (v := .pointer (some ⟨w1.heap.size, 1, none⟩)) rfl (by kernel_rfl) (by kernel_rfl) (by kernel_rfl) (fun _ _ _ h => h) (Or.inl ⟨by kernel_rfl, ?_⟩) (by assumption) ?_
          · intro w hSw
            try dsimp only at hSw
            skip
            go_simp
          try simp only [Act.put, List.setIfInBounds_toArray, List.set_cons_zero, List.set_cons_succ, List.getElem_toArray, List.getElem_cons_zero, List.getElem_cons_succ]
          refine wpAnyH_take (i := 24) (v := .int .i64 (c.tt + z)) rfl (by kernel_rfl) (by kernel_rfl) (by kernel_rfl) (fun _ _ _ h => h) (Or.inl ⟨by kernel_rfl, ?_⟩) (by assumption) ?_
          · intro w hSw
            try dsimp only at hSw
            obtain ⟨q0, q1, q2⟩ := FX.out _ hSw
            obtain ⟨p0, p1⟩ := PX.out _ hSw
            obtain ⟨p2, p3⟩ := PY.out _ hSw
            obtain ⟨c0, c1, c2, c3⟩ := (LX.out _ hSw).cells HC.out
            obtain ⟨d0, d1, d2, d3⟩ := (LX.out _ hSw).cells HD.out
            go_simp
          try simp only [Act.put, List.setIfInBounds_toArray, List.set_cons_zero, List.set_cons_succ, List.getElem_toArray, List.getElem_cons_zero, List.getElem_cons_succ]
          refine wpAnyH_take (i := 25) (v := .bool true) rfl (by kernel_rfl) (by kernel_rfl) (by kernel_rfl) (fun _ _ _ h => h) (Or.inl ⟨by kernel_rfl, ?_⟩) (by assumption) ?_
          · intro w hSw
            try dsimp only at hSw
            skip
            go_simp
            all_goals first | omega | exact IntWalk.i64_in _ (by omega)
          try simp only [Act.put, List.setIfInBounds_toArray, List.set_cons_zero, List.set_cons_succ, List.getElem_toArray, List.getElem_cons_zero, List.getElem_cons_succ]
          refine wpAnyH_take (i := 26) (v := .bool true) rfl (by kernel_rfl) (by kernel_rfl) (by kernel_rfl) (fun _ _ _ h => h) (Or.inl ⟨by kernel_rfl, ?_⟩) (by assumption) ?_
          · intro w hSw
            try dsimp only at hSw
            skip
            go_simp
          try simp only [Act.put, List.setIfInBounds_toArray, List.set_cons_zero, List.set_cons_succ, List.getElem_toArray, List.getElem_cons_zero, List.getElem_cons_succ]
          refine wpAnyH_done (by kernel_rfl) ?_ _
          go_wp2
          refine bodyPost_ret (v := .tuple #[.int .i64 (i : Int), .int .i64 (k : Int), .int .i64 0]) (by simp [results, Try.results37, go_sem]) rfl ⟨?_, E0.out.trans ((BO.out.trans ((BV.out.trans (Below.mono hHeld BV.out.size)).mono BO.out.size)).mono E0.out.size)⟩
          obtain ⟨e1, e2, e3⟩ := lc_some (F := F) (C := C) HOK.out HI.out (show FirstP L z (i, k) from ⟨⟨c, d, hik, HC.out, HD.out, by simp [Og.lcl, hh, x1, x2]⟩, hNo.out⟩)
          rw [e1, e2, e3]
        · have hge : ¬ (k : Int) < (L.length : Int) := by omega
          obtain ⟨q0, q1, q2⟩ := FO.out.later hB.out
          go_wp2
          go_roundw
          case rel => exact ⟨i + 1, by omega, by go_num, fun i' k' c' d' h1 h2 h3 h4 => hNo.out i' k' c' d' h1 h2 h3 (by have := (List.getElem?_eq_some_iff.1 h3).1; omega), BO.out.trans (hB.out.mono BO.out.size)⟩
          case measure => simp [intOf]; omega
    · have hge : ¬ (i : Int) < (L.length : Int) := by omega
      have HN : Hid (lcR L z = none) := lcR_none fun i' k' c' d' h1 h2 h3 => hNN.out i' k' c' d' h1 h2 h3 (by have := (List.getElem?_eq_some_iff.1 h3).1; omega)
      go_wp2
      refine bodyPost_ret (v := .tuple #[.int .i64 0, .int .i64 0, .int .i64 3]) (by simp [results, Try.results37, go_sem]) rfl ⟨?_, bnext E0.out BO.out⟩
      obtain ⟨e1, e2, e3⟩ := lc_none (F := F) (C := C) HOK.out HI.out HN.out
      rw [e1, e2, e3]
end Go.Proofs.Ytplggghhhgmebaa
