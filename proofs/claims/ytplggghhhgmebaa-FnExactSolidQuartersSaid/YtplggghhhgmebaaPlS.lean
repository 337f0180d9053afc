/-
  The least length of the parts, and what is in no opening: the model's words.
-/
import Derived.Test.YtplggghhhgmebaaPl
import Derived.Test.YtplggghhhgmebaaPqS
import Derived.Deep.RegionHeld3
namespace Go.Proofs.Ytplggghhhgmebaa
open Go.ChangeShapes Go.WideShapes Go.ChangeAt Go.RowKit Go.Joins

theorem parts_smallS {F C : Int} {L : List Og} {c : Int} (hok : FrOk F C L) {k : Nat} {p : Pt} (h : (partsF F L c)[k]? = some p) : (-1000 ≤ p.fr ∧ p.fr ≤ 1000) ∧ (-1000 ≤ p.tt ∧ p.tt ≤ 1000) := by
  have hm : ∀ (R : List Og) (x : Int), (0 ≤ x ∧ x ≤ 200) → (∀ o ∈ R, 0 ≤ o.fr ∧ o.fr ≤ 200 ∧ 0 ≤ o.tt ∧ o.tt ≤ 200) → ∀ q ∈ prs F x R, (-1000 ≤ q.fr ∧ q.fr ≤ 1000) ∧ (-1000 ≤ q.tt ∧ q.tt ≤ 1000) := by
    intro R
    induction R with
    | nil =>
      intro x hx _ q hq
      have hF := hok.fl
      obtain rfl : q = ⟨x, F⟩ := by simpa [prs] using hq
      dsimp only
      omega
    | cons o R ih =>
      intro x hx hR q hq
      have ho := hR o (List.mem_cons_self ..)
      rcases List.mem_cons.1 (show q ∈ (⟨x, o.fr⟩ : Pt) :: prs F o.tt R from hq) with rfl | hq
      · dsimp only; omega
      · exact ih o.tt (by omega) (fun d hd => hR d (List.mem_cons_of_mem _ hd)) q hq
  refine hm (cutL L c) 0 (by omega) (fun o ho => ?_) p (List.mem_filter.1 (List.mem_of_getElem? h)).1
  obtain ⟨k, hk⟩ := List.getElem?_of_mem (List.mem_filter.1 ho).1
  have h3 := Og.fit_true.1 (hok.fit k o hk)
  have h4 := hok.fl
  omega
set_option maxRecDepth 100000 in
set_option maxHeartbeats 40000000 in
theorem narrowest_spec (F C : Int) (L : List Og) (a : Option Addr) (cap : Nat) (hl : L.length ≤ 1048576) (w : World) (ha : OgArg w a L) :
    Calls Try.prog 30 #[.agg #[.int .i64 F, .int .i64 C, .slice a L.length cap]] w fun e w' => e = .returned (.tuple #[.int .i64 (piN F C L), .int .i64 (piE F C L)]) ∧ Below w.heap.size w w' := by
  have FB' := FrBox.new w F C a cap L 29
  have E0' := Lib.hid (balloc0 w (.cells #[.int .i64 F, .int .i64 C, .slice a L.length cap] 29))
  have z0 : (w.alloc (.cells #[.int .i64 F, .int .i64 C, .slice a L.length cap] 29)).heap.size = w.heap.size + 1 := by simp
  obtain ⟨W0, hW⟩ : ∃ W0, w.alloc (.cells #[.int .i64 F, .int .i64 C, .slice a L.length cap] 29) = W0 := ⟨_, rfl⟩
  rw [hW] at FB' E0' z0
  have FB := Lib.hid FB'
  have E0 := Lib.hid E0'.out
  have HA := Lib.hid (ha.later E0.out)
  have HW := Lib.hid hW
  clear hW E0' FB' ha
  have X := Lib.hid (okF_spec F C L a cap hl w.heap.size W0 FB.out HA.out)
  cases hok : okFr F C L
  · have e1 : piN F C L = 0 := by simp [piN, hok]
    have e2 : piE F C L = 1 := by simp [piE, hok]
    rw [e1, e2]
    rw [hok] at X
    clear e1 e2 hok
    go_enter Try.func30, Try.ntmps30
    go_wp2_with fail
    rw [HW.out]
    refine X.out.mono ?_
    rintro e w1 ⟨rfl, hb1⟩
    have B1 := Lib.hid hb1
    clear hb1
    go_wp2
    go_ret2
    exact ⟨rfl, bnext E0.out B1.out⟩
  have HO := Lib.hid (okFr_true.1 hok)
  have e1 : piN F C L = mnN (allLn F L C.toNat) := by simp [piN, hok]
  have e2 : piE F C L = mnE (allLn F L C.toNat) := by simp [piE, hok]
  rw [e1, e2]
  rw [hok] at X
  have hn40 : C.toNat ≤ 40 := by have := HO.out.fc; omega
  have hC0 : ((C.toNat : Nat) : Int) = C := Int.toNat_of_nonneg (by have := HO.out.fc; omega)
  have HC0 := Lib.hid hC0
  have PS := Lib.hid (fun c wx (hx : Below W0.heap.size W0 wx) => parts_spec F C L a cap HO.out w.heap.size c wx (FB.out.later hx) (HA.out.later hx))
  have HSm := Lib.hid (fun c k p (h : (partsF F L c)[k]? = some p) => parts_smallS HO.out h)
  clear e1 e2 hok hC0
  go_enter Try.func30, Try.ntmps30
  go_wp2_with fail
  rw [HW.out]
  refine X.out.mono ?_
  rintro e w1 ⟨rfl, hb1⟩
  have B1 := Lib.hid hb1
  clear hb1
  go_wp2_with fail
  go_loopw [4, 5] (fun t i wr => ∃ (k : Nat) (T : Int), k ≤ C.toNat ∧ t = .int .i64 T ∧ i = .int .i64 (k : Int) ∧ Hid (T = mnOf (allLn F L k)) ∧ Hid (Below W0.heap.size W0 wr)) (fun _ i _ => C.toNat - (intOf i).toNat)
  case atStart => exact ⟨0, -1, Nat.zero_le _, rfl, rfl, rfl, B1.out⟩
  case round =>
    obtain ⟨k, T, hk, rfl, rfl, hT, hB⟩ := hrel
    obtain ⟨wo, ho⟩ : ∃ wo, wo = wr := ⟨_, rfl⟩
    subst ho
    have BO := Lib.hid hB.out
    obtain ⟨q0, q1, q2⟩ := FB.out.later hB.out
    by_cases hlt : k < C.toNat
    · have hlt' : (k : Int) < C := by rw [← HC0.out]; omega
      have hk0 : (0 : Int) ≤ (k : Int) := by omega
      have P := Lib.hid (PS.out k wo hB.out)
      have hlE : (lenL F L k).length = (partsF F L k).length := by simp [lenL]
      have hlp := lenL_length F L k
      have hl8 : L.length ≤ 8 := HO.out.len
      go_wp2_with (go_at_call 65; refine P.out.mono ?_; rintro e w1 ⟨v1, rfl, hv1, hb1'⟩; obtain ⟨a1, cp1, rfl, hr1⟩ := own_ptform hv1; have A1 := Lib.hid hr1.arg; have B1 := Lib.hid (bnext hB.out hb1'); clear hv1 hr1 hb1')
      go_loopw [4, 7] (fun t i wr => ∃ (j : Nat) (T : Int), j ≤ (partsF F L k).length ∧ t = .int .i64 T ∧ i = .int .i64 (j : Int) ∧ Hid (T = mnOf (allLn F L k ++ (lenL F L k).take j)) ∧ Hid (Below w1.heap.size w1 wr)) (fun _ i _ => (partsF F L k).length - (intOf i).toNat)
      case atStart => exact ⟨0, T, Nat.zero_le _, rfl, rfl, by simpa [Hid] using hT.out, Below.refl _ _⟩
      case round =>
        obtain ⟨j, T, hj, rfl, rfl, hT2, hB2⟩ := hrel
        by_cases hjl : j < (partsF F L k).length
        · have hjl' : (j : Int) < ((partsF F L k).length : Int) := by omega
          have hj0 : (0 : Int) ≤ (j : Int) := by omega
          obtain ⟨b, o, p, rfl, hp, hat⟩ := (A1.out.later hB2.out).at hjl
          obtain ⟨hs1, hs2⟩ := HSm.out _ _ _ hp
          obtain ⟨u0, u1⟩ := hs1
          obtain ⟨u2, u3⟩ := hs2
          have HP := Lib.hid hp
          have LXX : Hid (∀ wx, Below wr.heap.size wr wx → PtAt wx b o (partsF F L k)) := fun wx hx => hat.later hx
          have HT : Hid (mnOf (allLn F L k ++ (lenL F L k).take (j + 1)) = mnStep T (p.tt - p.fr)) := by
            show _ = _
            rw [List.take_add_one, ← List.append_assoc]
            have e : (lenL F L k)[j]?.toList = [p.tt - p.fr] := by simp [lenL, hp, Pt.len]
            rw [e, mnOf_snoc, ← hT2.out]
          clear hp hat
          by_cases h1 : T < 0
          · have HM : Hid (mnStep T (p.tt - p.fr) = p.tt - p.fr) := by show _ = _; simp [mnStep, h1]
            go_wp2_with fail
            refine wp_region_held_drew (S := fun W => Below wr.heap.size wr W) (by kernel_rfl) ?_ (fun hHeld => ?_)
            · exact (Below.refl _ _).drew
            refine wpAnyH_take (i := 0) (v := .slice (some ⟨b, o, none⟩) (partsF F L k).length cp1) rfl (by kernel_rfl) (by kernel_rfl) (by kernel_rfl) (fun _ _ _ h => h) (Or.inl ⟨by kernel_rfl, ?_⟩) (by assumption) ?_
            · intro w hSw
              try dsimp only at hSw
              skip
              go_simp
            try simp only [Act.put, List.setIfInBounds_toArray, List.set_cons_zero, List.set_cons_succ, List.getElem_toArray, List.getElem_cons_zero]
            refine wpAnyH_take (i := 1) (v := .int .i64 (j : Int)) rfl (by kernel_rfl) (by kernel_rfl) (by kernel_rfl) (fun _ _ _ h => h) (Or.inl ⟨by kernel_rfl, ?_⟩) (by assumption) ?_
            · intro w hSw
              try dsimp only at hSw
              skip
              go_simp
            try simp only [Act.put, List.setIfInBounds_toArray, List.set_cons_zero, List.set_cons_succ, List.getElem_toArray, List.getElem_cons_zero, List.getElem_cons_succ]
            refine wpAnyH_take (i := 2) (v := .pointer (some ⟨b, o + j * 2, none⟩)) rfl (by kernel_rfl) (by kernel_rfl) (by kernel_rfl) (fun _ _ _ h => h) (Or.inl ⟨by kernel_rfl, ?_⟩) (by assumption) ?_
            · intro w hSw
              try dsimp only at hSw
              skip
              go_simp
              all_goals first | omega | exact IntWalk.i64_in _ (by omega)
            try simp only [Act.put, List.setIfInBounds_toArray, List.set_cons_zero, List.set_cons_succ, List.getElem_toArray, List.getElem_cons_zero, List.getElem_cons_succ]
            refine wpAnyH_take (i := 3) (v := .pointer (some ⟨b, o + j * 2 + 1, none⟩)) rfl (by kernel_rfl) (by kernel_rfl) (by kernel_rfl) (fun _ _ _ h => h) (Or.inl ⟨by kernel_rfl, ?_⟩) (by assumption) ?_
            · intro w hSw
              try dsimp only at hSw
              skip
              go_simp
            try simp only [Act.put, List.setIfInBounds_toArray, List.set_cons_zero, List.set_cons_succ, List.getElem_toArray, List.getElem_cons_zero, List.getElem_cons_succ]
            refine wpAnyH_take (i := 4) (v := .int .i64 p.tt) rfl (by kernel_rfl) (by kernel_rfl) (by kernel_rfl) (fun _ _ _ h => h) (Or.inl ⟨by kernel_rfl, ?_⟩) (by assumption) ?_
            · intro w hSw
              try dsimp only at hSw
              obtain ⟨c0, c1⟩ := (LXX.out _ hSw).cells HP.out
              go_simp
            try simp only [Act.put, List.setIfInBounds_toArray, List.set_cons_zero, List.set_cons_succ, List.getElem_toArray, List.getElem_cons_zero, List.getElem_cons_succ]
            refine wpAnyH_take (i := 5) (v := .slice (some ⟨b, o, none⟩) (partsF F L k).length cp1) rfl (by kernel_rfl) (by kernel_rfl) (by kernel_rfl) (fun _ _ _ h => h) (Or.inl ⟨by kernel_rfl, ?_⟩) (by assumption) ?_
            · intro w hSw
              try dsimp only at hSw
              skip
              go_simp
            try simp only [Act.put, List.setIfInBounds_toArray, List.set_cons_zero, List.set_cons_succ, List.getElem_toArray, List.getElem_cons_zero, List.getElem_cons_succ]
            refine wpAnyH_take (i := 6) (v := .int .i64 (j : Int)) rfl (by kernel_rfl) (by kernel_rfl) (by kernel_rfl) (fun _ _ _ h => h) (Or.inl ⟨by kernel_rfl, ?_⟩) (by assumption) ?_
            · intro w hSw
              try dsimp only at hSw
              skip
              go_simp
            try simp only [Act.put, List.setIfInBounds_toArray, List.set_cons_zero, List.set_cons_succ, List.getElem_toArray, List.getElem_cons_zero, List.getElem_cons_succ]
            refine wpAnyH_take (i := 7) (v := .pointer (some ⟨b, o + j * 2, none⟩)) rfl (by kernel_rfl) (by kernel_rfl) (by kernel_rfl) (fun _ _ _ h => h) (Or.inl ⟨by kernel_rfl, ?_⟩) (by assumption) ?_
            · intro w hSw
              try dsimp only at hSw
              skip
              go_simp
              all_goals first | omega | exact IntWalk.i64_in _ (by omega)
            try simp only [Act.put, List.setIfInBounds_toArray, List.set_cons_zero, List.set_cons_succ, List.getElem_toArray, List.getElem_cons_zero, List.getElem_cons_succ]
            refine wpAnyH_take (i := 8) (v := .pointer (some ⟨b, o + j * 2, none⟩)) rfl (by kernel_rfl) (by kernel_rfl) (by kernel_rfl) (fun _ _ _ h => h) (Or.inl ⟨by kernel_rfl, ?_⟩) (by assumption) ?_
            · intro w hSw
              try dsimp only at hSw
              skip
              go_simp
            try simp only [Act.put, List.setIfInBounds_toArray, List.set_cons_zero, List.set_cons_succ, List.getElem_toArray, List.getElem_cons_zero, List.getElem_cons_succ]
            refine wpAnyH_take (i := 9) (v := .int .i64 p.fr) rfl (by kernel_rfl) (by kernel_rfl) (by kernel_rfl) (fun _ _ _ h => h) (Or.inl ⟨by kernel_rfl, ?_⟩) (by assumption) ?_
            · intro w hSw
              try dsimp only at hSw
              obtain ⟨c0, c1⟩ := (LXX.out _ hSw).cells HP.out
              go_simp
            try simp only [Act.put, List.setIfInBounds_toArray, List.set_cons_zero, List.set_cons_succ, List.getElem_toArray, List.getElem_cons_zero, List.getElem_cons_succ]
            refine wpAnyH_take (i := 10) (v := .int .i64 (p.tt - p.fr)) rfl (by kernel_rfl) (by kernel_rfl) (by kernel_rfl) (fun _ _ _ h => h) (Or.inl ⟨by kernel_rfl, ?_⟩) (by assumption) ?_
            · intro w hSw
              try dsimp only at hSw
              skip
              go_simp
              all_goals first | omega | exact IntWalk.i64_in _ (by omega)
            try simp only [Act.put, List.setIfInBounds_toArray, List.set_cons_zero, List.set_cons_succ, List.getElem_toArray, List.getElem_cons_zero, List.getElem_cons_succ]
            refine wpAnyH_take (i := 11) (v := .int .i64 (p.tt - p.fr)) rfl (by kernel_rfl) (by kernel_rfl) (by kernel_rfl) (fun _ _ _ h => h) (Or.inl ⟨by kernel_rfl, ?_⟩) (by assumption) ?_
            · intro w hSw
              try dsimp only at hSw
              skip
              go_simp
            try simp only [Act.put, List.setIfInBounds_toArray, List.set_cons_zero, List.set_cons_succ, List.getElem_toArray, List.getElem_cons_zero, List.getElem_cons_succ]
            refine wpAnyH_done (by kernel_rfl) ?_ _
            go_wp2
            go_roundw
            case rel => exact ⟨j + 1, p.tt - p.fr, by omega, rfl, by go_num, by rw [HT.out, HM.out]; rfl, hB2.out.trans (Below.mono hHeld hB2.out.size)⟩
            case measure => simp [intOf]; omega
          · by_cases h2 : p.tt - p.fr < T
            · have HM : Hid (mnStep T (p.tt - p.fr) = p.tt - p.fr) := by show _ = _; simp [mnStep, h2]
              go_wp2_with fail
              refine wp_region_held_drew (S := fun W => Below wr.heap.size wr W) (by kernel_rfl) ?_ (fun hHeld => ?_)
              · exact (Below.refl _ _).drew
              refine wpAnyH_take (i := 0) (v := .slice (some ⟨b, o, none⟩) (partsF F L k).length cp1) rfl (by kernel_rfl) (by kernel_rfl) (by kernel_rfl) (fun _ _ _ h => h) (Or.inl ⟨by kernel_rfl, ?_⟩) (by assumption) ?_
              · intro w hSw
                try dsimp only at hSw
                skip
                go_simp
              try simp only [Act.put, List.setIfInBounds_toArray, List.set_cons_zero, List.set_cons_succ, List.getElem_toArray, List.getElem_cons_zero]
              refine wpAnyH_take (i := 1) (v := .int .i64 (j : Int)) rfl (by kernel_rfl) (by kernel_rfl) (by kernel_rfl) (fun _ _ _ h => h) (Or.inl ⟨by kernel_rfl, ?_⟩) (by assumption) ?_
              · intro w hSw
                try dsimp only at hSw
                skip
                go_simp
              try simp only [Act.put, List.setIfInBounds_toArray, List.set_cons_zero, List.set_cons_succ, List.getElem_toArray, List.getElem_cons_zero, List.getElem_cons_succ]
              refine wpAnyH_take (i := 2) (v := .pointer (some ⟨b, o + j * 2, none⟩)) rfl (by kernel_rfl) (by kernel_rfl) (by kernel_rfl) (fun _ _ _ h => h) (Or.inl ⟨by kernel_rfl, ?_⟩) (by assumption) ?_
              · intro w hSw
                try dsimp only at hSw
                skip
                go_simp
                all_goals first | omega | exact IntWalk.i64_in _ (by omega)
              try simp only [Act.put, List.setIfInBounds_toArray, List.set_cons_zero, List.set_cons_succ, List.getElem_toArray, List.getElem_cons_zero, List.getElem_cons_succ]
              refine wpAnyH_take (i := 3) (v := .pointer (some ⟨b, o + j * 2 + 1, none⟩)) rfl (by kernel_rfl) (by kernel_rfl) (by kernel_rfl) (fun _ _ _ h => h) (Or.inl ⟨by kernel_rfl, ?_⟩) (by assumption) ?_
              · intro w hSw
                try dsimp only at hSw
                skip
                go_simp
              try simp only [Act.put, List.setIfInBounds_toArray, List.set_cons_zero, List.set_cons_succ, List.getElem_toArray, List.getElem_cons_zero, List.getElem_cons_succ]
              refine wpAnyH_take (i := 4) (v := .int .i64 p.tt) rfl (by kernel_rfl) (by kernel_rfl) (by kernel_rfl) (fun _ _ _ h => h) (Or.inl ⟨by kernel_rfl, ?_⟩) (by assumption) ?_
              · intro w hSw
                try dsimp only at hSw
                obtain ⟨c0, c1⟩ := (LXX.out _ hSw).cells HP.out
                go_simp
              try simp only [Act.put, List.setIfInBounds_toArray, List.set_cons_zero, List.set_cons_succ, List.getElem_toArray, List.getElem_cons_zero, List.getElem_cons_succ]
              refine wpAnyH_take (i := 5) (v := .slice (some ⟨b, o, none⟩) (partsF F L k).length cp1) rfl (by kernel_rfl) (by kernel_rfl) (by kernel_rfl) (fun _ _ _ h => h) (Or.inl ⟨by kernel_rfl, ?_⟩) (by assumption) ?_
              · intro w hSw
                try dsimp only at hSw
                skip
                go_simp
              try simp only [Act.put, List.setIfInBounds_toArray, List.set_cons_zero, List.set_cons_succ, List.getElem_toArray, List.getElem_cons_zero, List.getElem_cons_succ]
              refine wpAnyH_take (i := 6) (v := .int .i64 (j : Int)) rfl (by kernel_rfl) (by kernel_rfl) (by kernel_rfl) (fun _ _ _ h => h) (Or.inl ⟨by kernel_rfl, ?_⟩) (by assumption) ?_
              · intro w hSw
                try dsimp only at hSw
                skip
                go_simp
              try simp only [Act.put, List.setIfInBounds_toArray, List.set_cons_zero, List.set_cons_succ, List.getElem_toArray, List.getElem_cons_zero, List.getElem_cons_succ]
              refine wpAnyH_take (i := 7) (v := .pointer (some ⟨b, o + j * 2, none⟩)) rfl (by kernel_rfl) (by kernel_rfl) (by kernel_rfl) (fun _ _ _ h => h) (Or.inl ⟨by kernel_rfl, ?_⟩) (by assumption) ?_
              · intro w hSw
                try dsimp only at hSw
                skip
                go_simp
                all_goals first | omega | exact IntWalk.i64_in _ (by omega)
              try simp only [Act.put, List.setIfInBounds_toArray, List.set_cons_zero, List.set_cons_succ, List.getElem_toArray, List.getElem_cons_zero, List.getElem_cons_succ]
              refine wpAnyH_take (i := 8) (v := .pointer (some ⟨b, o + j * 2, none⟩)) rfl (by kernel_rfl) (by kernel_rfl) (by kernel_rfl) (fun _ _ _ h => h) (Or.inl ⟨by kernel_rfl, ?_⟩) (by assumption) ?_
              · intro w hSw
                try dsimp only at hSw
                skip
                go_simp
              try simp only [Act.put, List.setIfInBounds_toArray, List.set_cons_zero, List.set_cons_succ, List.getElem_toArray, List.getElem_cons_zero, List.getElem_cons_succ]
              refine wpAnyH_take (i := 9) (v := .int .i64 p.fr) rfl (by kernel_rfl) (by kernel_rfl) (by kernel_rfl) (fun _ _ _ h => h) (Or.inl ⟨by kernel_rfl, ?_⟩) (by assumption) ?_
              · intro w hSw
                try dsimp only at hSw
                obtain ⟨c0, c1⟩ := (LXX.out _ hSw).cells HP.out
                go_simp
              try simp only [Act.put, List.setIfInBounds_toArray, List.set_cons_zero, List.set_cons_succ, List.getElem_toArray, List.getElem_cons_zero, List.getElem_cons_succ]
              refine wpAnyH_take (i := 10) (v := .int .i64 (p.tt - p.fr)) rfl (by kernel_rfl) (by kernel_rfl) (by kernel_rfl) (fun _ _ _ h => h) (Or.inl ⟨by kernel_rfl, ?_⟩) (by assumption) ?_
              · intro w hSw
                try dsimp only at hSw
                skip
                go_simp
                all_goals first | omega | exact IntWalk.i64_in _ (by omega)
              try simp only [Act.put, List.setIfInBounds_toArray, List.set_cons_zero, List.set_cons_succ, List.getElem_toArray, List.getElem_cons_zero, List.getElem_cons_succ]
              refine wpAnyH_take (i := 11) (v := .int .i64 (p.tt - p.fr)) rfl (by kernel_rfl) (by kernel_rfl) (by kernel_rfl) (fun _ _ _ h => h) (Or.inl ⟨by kernel_rfl, ?_⟩) (by assumption) ?_
              · intro w hSw
                try dsimp only at hSw
                skip
                go_simp
              try simp only [Act.put, List.setIfInBounds_toArray, List.set_cons_zero, List.set_cons_succ, List.getElem_toArray, List.getElem_cons_zero, List.getElem_cons_succ]
              refine wpAnyH_done (by kernel_rfl) ?_ _
              go_wp2
              go_roundw
              case rel => exact ⟨j + 1, p.tt - p.fr, by omega, rfl, by go_num, by rw [HT.out, HM.out]; rfl, hB2.out.trans (Below.mono hHeld hB2.out.size)⟩
              case measure => simp [intOf]; omega
            · have HM : Hid (mnStep T (p.tt - p.fr) = T) := by show _ = _; simp [mnStep, h1, h2]
              go_wp2_with fail
              refine wp_region_held_drew (S := fun W => Below wr.heap.size wr W) (by kernel_rfl) ?_ (fun hHeld => ?_)
              · exact (Below.refl _ _).drew
              refine wpAnyH_take (i := 0) (v := .slice (some ⟨b, o, none⟩) (partsF F L k).length cp1) rfl (by kernel_rfl) (by kernel_rfl) (by kernel_rfl) (fun _ _ _ h => h) (Or.inl ⟨by kernel_rfl, ?_⟩) (by assumption) ?_
              · intro w hSw
                try dsimp only at hSw
                skip
                go_simp
              try simp only [Act.put, List.setIfInBounds_toArray, List.set_cons_zero, List.set_cons_succ, List.getElem_toArray, List.getElem_cons_zero]
              refine wpAnyH_take (i := 1) (v := .int .i64 (j : Int)) rfl (by kernel_rfl) (by kernel_rfl) (by kernel_rfl) (fun _ _ _ h => h) (Or.inl ⟨by kernel_rfl, ?_⟩) (by assumption) ?_
              · intro w hSw
                try dsimp only at hSw
                skip
                go_simp
              try simp only [Act.put, List.setIfInBounds_toArray, List.set_cons_zero, List.set_cons_succ, List.getElem_toArray, List.getElem_cons_zero, List.getElem_cons_succ]
              refine wpAnyH_take (i := 2) (v := .pointer (some ⟨b, o + j * 2, none⟩)) rfl (by kernel_rfl) (by kernel_rfl) (by kernel_rfl) (fun _ _ _ h => h) (Or.inl ⟨by kernel_rfl, ?_⟩) (by assumption) ?_
              · intro w hSw
                try dsimp only at hSw
                skip
                go_simp
                all_goals first | omega | exact IntWalk.i64_in _ (by omega)
              try simp only [Act.put, List.setIfInBounds_toArray, List.set_cons_zero, List.set_cons_succ, List.getElem_toArray, List.getElem_cons_zero, List.getElem_cons_succ]
              refine wpAnyH_take (i := 3) (v := .pointer (some ⟨b, o + j * 2 + 1, none⟩)) rfl (by kernel_rfl) (by kernel_rfl) (by kernel_rfl) (fun _ _ _ h => h) (Or.inl ⟨by kernel_rfl, ?_⟩) (by assumption) ?_
              · intro w hSw
                try dsimp only at hSw
                skip
                go_simp
              try simp only [Act.put, List.setIfInBounds_toArray, List.set_cons_zero, List.set_cons_succ, List.getElem_toArray, List.getElem_cons_zero, List.getElem_cons_succ]
              refine wpAnyH_take (i := 4) (v := .int .i64 p.tt) rfl (by kernel_rfl) (by kernel_rfl) (by kernel_rfl) (fun _ _ _ h => h) (Or.inl ⟨by kernel_rfl, ?_⟩) (by assumption) ?_
              · intro w hSw
                try dsimp only at hSw
                obtain ⟨c0, c1⟩ := (LXX.out _ hSw).cells HP.out
                go_simp
              try simp only [Act.put, List.setIfInBounds_toArray, List.set_cons_zero, List.set_cons_succ, List.getElem_toArray, List.getElem_cons_zero, List.getElem_cons_succ]
              refine wpAnyH_take (i := 5) (v := .slice (some ⟨b, o, none⟩) (partsF F L k).length cp1) rfl (by kernel_rfl) (by kernel_rfl) (by kernel_rfl) (fun _ _ _ h => h) (Or.inl ⟨by kernel_rfl, ?_⟩) (by assumption) ?_
              · intro w hSw
                try dsimp only at hSw
                skip
                go_simp
              try simp only [Act.put, List.setIfInBounds_toArray, List.set_cons_zero, List.set_cons_succ, List.getElem_toArray, List.getElem_cons_zero, List.getElem_cons_succ]
              refine wpAnyH_take (i := 6) (v := .int .i64 (j : Int)) rfl (by kernel_rfl) (by kernel_rfl) (by kernel_rfl) (fun _ _ _ h => h) (Or.inl ⟨by kernel_rfl, ?_⟩) (by assumption) ?_
              · intro w hSw
                try dsimp only at hSw
                skip
                go_simp
              try simp only [Act.put, List.setIfInBounds_toArray, List.set_cons_zero, List.set_cons_succ, List.getElem_toArray, List.getElem_cons_zero, List.getElem_cons_succ]
              refine wpAnyH_take (i := 7) (v := .pointer (some ⟨b, o + j * 2, none⟩)) rfl (by kernel_rfl) (by kernel_rfl) (by kernel_rfl) (fun _ _ _ h => h) (Or.inl ⟨by kernel_rfl, ?_⟩) (by assumption) ?_
              · intro w hSw
                try dsimp only at hSw
                skip
                go_simp
                all_goals first | omega | exact IntWalk.i64_in _ (by omega)
              try simp only [Act.put, List.setIfInBounds_toArray, List.set_cons_zero, List.set_cons_succ, List.getElem_toArray, List.getElem_cons_zero, List.getElem_cons_succ]
              refine wpAnyH_take (i := 8) (v := .pointer (some ⟨b, o + j * 2, none⟩)) rfl (by kernel_rfl) (by kernel_rfl) (by kernel_rfl) (fun _ _ _ h => h) (Or.inl ⟨by kernel_rfl, ?_⟩) (by assumption) ?_
              · intro w hSw
                try dsimp only at hSw
                skip
                go_simp
              try simp only [Act.put, List.setIfInBounds_toArray, List.set_cons_zero, List.set_cons_succ, List.getElem_toArray, List.getElem_cons_zero, List.getElem_cons_succ]
              refine wpAnyH_take (i := 9) (v := .int .i64 p.fr) rfl (by kernel_rfl) (by kernel_rfl) (by kernel_rfl) (fun _ _ _ h => h) (Or.inl ⟨by kernel_rfl, ?_⟩) (by assumption) ?_
              · intro w hSw
                try dsimp only at hSw
                obtain ⟨c0, c1⟩ := (LXX.out _ hSw).cells HP.out
                go_simp
              try simp only [Act.put, List.setIfInBounds_toArray, List.set_cons_zero, List.set_cons_succ, List.getElem_toArray, List.getElem_cons_zero, List.getElem_cons_succ]
              refine wpAnyH_take (i := 10) (v := .int .i64 (p.tt - p.fr)) rfl (by kernel_rfl) (by kernel_rfl) (by kernel_rfl) (fun _ _ _ h => h) (Or.inl ⟨by kernel_rfl, ?_⟩) (by assumption) ?_
              · intro w hSw
                try dsimp only at hSw
                skip
                go_simp
                all_goals first | omega | exact IntWalk.i64_in _ (by omega)
              try simp only [Act.put, List.setIfInBounds_toArray, List.set_cons_zero, List.set_cons_succ, List.getElem_toArray, List.getElem_cons_zero, List.getElem_cons_succ]
              refine wpAnyH_take (i := 11) (v := .int .i64 (p.tt - p.fr)) rfl (by kernel_rfl) (by kernel_rfl) (by kernel_rfl) (fun _ _ _ h => h) (Or.inl ⟨by kernel_rfl, ?_⟩) (by assumption) ?_
              · intro w hSw
                try dsimp only at hSw
                skip
                go_simp
              try simp only [Act.put, List.setIfInBounds_toArray, List.set_cons_zero, List.set_cons_succ, List.getElem_toArray, List.getElem_cons_zero, List.getElem_cons_succ]
              refine wpAnyH_done (by kernel_rfl) ?_ _
              go_wp2
              go_roundw
              case rel => exact ⟨j + 1, T, by omega, rfl, by go_num, by rw [HT.out, HM.out]; rfl, hB2.out.trans (Below.mono hHeld hB2.out.size)⟩
              case measure => simp [intOf]; omega
        · have hge : ¬ (j : Int) < ((partsF F L k).length : Int) := by omega
          have HR : Hid (T = mnOf (allLn F L (k + 1))) := by
            show T = _
            rw [hT2.out, List.take_of_length_le (by omega)]
            rfl
          go_wp2
          go_roundw
          case rel => exact ⟨k + 1, T, by omega, rfl, by go_num, HR.out, B1.out.trans (hB2.out.mono B1.out.size)⟩
          case measure => simp [intOf]; omega
    · have hge : ¬ (k : Int) < C := by rw [← HC0.out]; omega
      have hkn : k = C.toNat := by omega
      have HR : Hid (T = mnOf (allLn F L C.toNat)) := by rw [← hkn]; exact hT
      have HV : Hid (mnN (allLn F L C.toNat) = if T < 0 then 0 else T) := by show _ = _; rw [HR.out]; rfl
      have HE : Hid (mnE (allLn F L C.toNat) = if T < 0 then 3 else 0) := by show _ = _; rw [HR.out]; rfl
      clear hkn
      by_cases hneg : T < 0
      · go_wp2
        go_ret2
        exact ⟨by rw [HV.out, HE.out, if_pos hneg, if_pos hneg]; rfl, bnext E0.out BO.out⟩
      · go_wp2
        go_ret2
        exact ⟨by rw [HV.out, HE.out, if_neg (show ¬ T < 0 by omega), if_neg (show ¬ T < 0 by omega)]; rfl, bnext E0.out BO.out⟩
set_option maxRecDepth 100000 in
set_option maxHeartbeats 40000000 in
theorem solid_spec (F C : Int) (L : List Og) (a : Option Addr) (cap : Nat) (hl : L.length ≤ 1048576) (w : World) (ha : OgArg w a L) :
    Calls Try.prog 32 #[.agg #[.int .i64 F, .int .i64 C, .slice a L.length cap]] w fun e w' => e = .returned (.tuple #[.int .i64 (soN F C L), .int .i64 (soE F C L)]) ∧ Below w.heap.size w w' := by
  have FB' := FrBox.new w F C a cap L 29
  have E0' := Lib.hid (balloc0 w (.cells #[.int .i64 F, .int .i64 C, .slice a L.length cap] 29))
  have z0 : (w.alloc (.cells #[.int .i64 F, .int .i64 C, .slice a L.length cap] 29)).heap.size = w.heap.size + 1 := by simp
  obtain ⟨W0, hW⟩ : ∃ W0, w.alloc (.cells #[.int .i64 F, .int .i64 C, .slice a L.length cap] 29) = W0 := ⟨_, rfl⟩
  rw [hW] at FB' E0' z0
  have FB := Lib.hid FB'
  have E0 := Lib.hid E0'.out
  have HA := Lib.hid (ha.later E0.out)
  have HW := Lib.hid hW
  clear hW E0' FB' ha
  have X := Lib.hid (okF_spec F C L a cap hl w.heap.size W0 FB.out HA.out)
  cases hok : okFr F C L
  · have e1 : soN F C L = 0 := by simp [soN, hok]
    have e2 : soE F C L = 1 := by simp [soE, hok]
    rw [e1, e2]
    rw [hok] at X
    clear e1 e2 hok
    go_enter Try.func32, Try.ntmps32
    go_wp2_with fail
    rw [HW.out]
    refine X.out.mono ?_
    rintro e w1 ⟨rfl, hb1⟩
    have B1 := Lib.hid hb1
    clear hb1
    go_wp2
    go_ret2
    exact ⟨rfl, bnext E0.out B1.out⟩
  have HO := Lib.hid (okFr_true.1 hok)
  have e1 : soN F C L = F * C - areas L := by simp [soN, hok, solid_eq HO.out]
  have e2 : soE F C L = 0 := by simp [soE, hok]
  rw [e1, e2]
  rw [hok] at X
  have hl8 : L.length ≤ 8 := HO.out.len
  obtain ⟨G, hG⟩ : ∃ G, F * C = G := ⟨_, rfl⟩
  have hG1 : 0 ≤ G ∧ G ≤ 8000 := by
    have h1 := HO.out.fl
    have h2 := HO.out.fc
    rw [← hG]
    exact ⟨Int.mul_nonneg (by omega) (by omega), by have := Int.mul_le_mul h1.2 h2.2 (by omega) (by omega); omega⟩
  obtain ⟨hG0, hG1⟩ := hG1
  have hGw : IntKind.i64.wrap G = G := IntWalk.i64_in _ (by omega)
  have HG := Lib.hid hG
  clear e1 e2 hok
  go_enter Try.func32, Try.ntmps32
  go_wp2_with fail
  rw [HW.out]
  refine X.out.mono ?_
  rintro e w1 ⟨rfl, hb1⟩
  have B1 := Lib.hid hb1
  clear hb1
  obtain ⟨q0, q1, q2⟩ := FB.out.later B1.out
  go_wp2_with fail
  clear q0 q1 q2 hG
  go_loopw [4, 5] (fun t i wr => ∃ (k : Nat) (T : Int), k ≤ L.length ∧ t = .int .i64 T ∧ i = .int .i64 (k : Int) ∧ (-100000 * (k : Int) ≤ T ∧ T ≤ 8000) ∧ Hid (T = G - areas (L.take k)) ∧ Hid (Below W0.heap.size W0 wr)) (fun _ i _ => L.length - (intOf i).toNat)
  case atStart => exact ⟨0, G, Nat.zero_le _, rfl, rfl, by omega, by simp [Hid, areas], B1.out⟩
  case round =>
    obtain ⟨k, T, hk, rfl, rfl, hTr, hT, hB⟩ := hrel
    obtain ⟨hT0, hT1⟩ := hTr
    obtain ⟨q0, q1, q2⟩ := FB.out.later hB.out
    by_cases hlt : k < L.length
    · have hlt' : (k : Int) < (L.length : Int) := by omega
      have hk0 : (0 : Int) ≤ (k : Int) := by omega
      obtain ⟨b, o, d, rfl, hd, hat⟩ := (HA.out.later hB.out).at hlt
      obtain ⟨c0, c1, c2, c3⟩ := hat.cells hd
      have fd := Og.fit_true.1 (HO.out.fit k d hd)
      have hF := HO.out.fl
      have hC := HO.out.fc
      have hw1 : 0 ≤ d.tt - d.fr ∧ d.tt - d.fr ≤ 200 := by omega
      have hw2 : 0 ≤ d.hi - d.lo ∧ d.hi - d.lo ≤ 40 := by omega
      have hd4 : (0 ≤ d.fr ∧ d.fr ≤ 200) ∧ (0 ≤ d.tt ∧ d.tt ≤ 200) ∧ (0 ≤ d.lo ∧ d.lo ≤ 40) ∧ (0 ≤ d.hi ∧ d.hi ≤ 40) := by omega
      obtain ⟨⟨z0, z1⟩, ⟨z2, z3⟩, ⟨z4, z5⟩, z6, z7⟩ := hd4
      obtain ⟨R, hR⟩ : ∃ R, (d.tt - d.fr) * (d.hi - d.lo) = R := ⟨_, rfl⟩
      have hR1 : 0 ≤ R ∧ R ≤ 8000 := by
        rw [← hR]
        exact ⟨Int.mul_nonneg hw1.1 hw2.1, by have := Int.mul_le_mul hw1.2 hw2.2 hw2.1 (by omega); omega⟩
      obtain ⟨hR0, hR1⟩ := hR1
      have hRw : IntKind.i64.wrap R = R := IntWalk.i64_in _ (by omega)
      have hw3 : IntKind.i64.wrap (d.tt - d.fr) = d.tt - d.fr := IntWalk.i64_in _ (by omega)
      have hw4 : IntKind.i64.wrap (d.hi - d.lo) = d.hi - d.lo := IntWalk.i64_in _ (by omega)
      have HN : Hid (T - R = G - areas (L.take (k + 1))) := by
        show _ = _
        rw [List.take_add_one, hd, hT.out]
        simp only [areas, List.map_append, List.sum_append, Option.toList_some, List.map_cons, List.map_nil, List.sum_cons, List.sum_nil, Og.area, hR]
        omega
      clear hd hat fd hF hC hw1 hw2
      go_wp2
      go_roundw
      case rel => exact ⟨k + 1, T - R, by omega, by first | rfl | simp [hR], by go_num, by omega, HN.out, balloc hB.out _⟩
      case measure => simp [intOf]; omega
    · have hge : ¬ (k : Int) < (L.length : Int) := by omega
      have HR : Hid (T = F * C - areas L) := by show _ = _; rw [hT.out, HG.out, List.take_of_length_le (by omega)]
      go_wp2
      go_ret2
      exact ⟨by rw [← HR.out]; rfl, bnext E0.out hB.out⟩
end Go.Proofs.Ytplggghhhgmebaa
