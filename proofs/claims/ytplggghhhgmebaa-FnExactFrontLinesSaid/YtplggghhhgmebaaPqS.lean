/-
  Parts of a course: the model's word.
-/
import Derived.Test.YtplggghhhgmebaaPqP
import Derived.Test.YtplggghhhgmebaaFvM
import Derived.Deep.DeepMust
namespace Go.Proofs.Ytplggghhhgmebaa
open Go.ChangeShapes Go.WideShapes Go.ChangeAt Go.RowKit Go.Joins

set_option maxRecDepth 100000 in
set_option maxHeartbeats 40000000 in
theorem open_spec (F C : Int) (L : List Og) (a : Option Addr) (cap : Nat) (hok : FrOk F C L) (fb : Nat) (x c : Int) (w : World) (hf : FrBox fb F C a cap L w) (ha : OgArg w a L) :
    Calls Try.prog 75 #[.pointer (some ⟨fb, 0, none⟩), .int .i64 x, .int .i64 c] w fun e w' => e = .returned (.bool (openB L x c)) ∧ Below w.heap.size w w' := by
  have HA := Lib.hid ha
  have FB := Lib.hid hf
  have HOK := Lib.hid hok
  have hl8 : L.length ≤ 8 := hok.len
  clear ha hf hok
  go_enter Try.func75, Try.ntmps75
  go_wp2
  go_loopw [7] (fun i wr => ∃ (k : Nat), k ≤ L.length ∧ i = .int .i64 (k : Int) ∧ Hid (∀ (j : Nat) (o : Og), j < k → L[j]? = some o → ((decide (o.fr ≤ x) && decide (x < o.tt)) && o.inC c) = false) ∧ Hid (Below w.heap.size w wr)) (fun i _ => L.length - (intOf i).toNat)
  case atStart => exact ⟨0, Nat.zero_le _, rfl, fun j o h => by omega, Below.refl _ _⟩
  case round =>
    obtain ⟨k, hk, rfl, hN, hB⟩ := hrel
    obtain ⟨q0, q1, q2⟩ := FB.out.later hB.out
    by_cases hlt : k < L.length
    · have hlt' : (k : Int) < (L.length : Int) := by omega
      have hk0 : (0 : Int) ≤ (k : Int) := by omega
      obtain ⟨b, o, d, rfl, hd, hat⟩ := (HA.out.later hB.out).at hlt
      obtain ⟨c0, c1, c2, c3⟩ := hat.cells hd
      have HD := Lib.hid hd
      have fd := Og.fit_true.1 (HOK.out.fit k d hd)
      have hF := HOK.out.fl
      have hC := HOK.out.fc
      have I1 := Lib.hid (in_any x d.fr (d.tt - 1))
      have I2 := Lib.hid (in_any c d.lo (d.hi - 1))
      have t0 : 1 ≤ d.tt ∧ d.tt ≤ 200 ∧ 1 ≤ d.hi ∧ d.hi ≤ 40 := by omega
      obtain ⟨t0, t1, t2, t3⟩ := t0
      have e1 : inB x d.fr (d.tt - 1) = (decide (d.fr ≤ x) && decide (x < d.tt)) := by
        unfold inB
        congr 1
        exact decide_eq_decide.2 (by omega)
      have e2 : inB c d.lo (d.hi - 1) = d.inC c := by
        unfold inB Og.inC
        congr 1
        exact decide_eq_decide.2 (by omega)
      have HI := Lib.hid (And.intro e1 e2)
      clear hd hat fd hF hC e1 e2
      cases h1 : inB x d.fr (d.tt - 1)
      · rw [h1] at I1
        have HX : Hid (((decide (d.fr ≤ x) && decide (x < d.tt)) && d.inC c) = false) := by show _ = _; rw [← HI.out.1, h1]; rfl
        clear h1
        go_wp2_with (go_at_call 71; refine (I1.out _).mono ?_; rintro e w1 ⟨rfl, rfl⟩)
        go_roundw
        case rel =>
          refine ⟨k + 1, by omega, by go_num, fun j e hj he => ?_, balloc hB.out _⟩
          by_cases e1 : j = k
          · subst e1; have := HD.out; rw [he] at this; cases this; exact HX.out
          · exact hN.out j e (by omega) he
        case measure => simp [intOf]; omega
      · rw [h1] at I1
        cases h2 : inB c d.lo (d.hi - 1)
        · rw [h2] at I2
          have HX : Hid (((decide (d.fr ≤ x) && decide (x < d.tt)) && d.inC c) = false) := by show _ = _; rw [← HI.out.1, ← HI.out.2, h1, h2]; rfl
          clear h1 h2
          go_wp2_with (first | (go_at_call_of 71 (Value.int .i64 d.fr); refine (I1.out _).mono ?_; rintro e w1 ⟨rfl, rfl⟩) | (go_at_call_of 71 (Value.int .i64 d.lo); refine (I2.out _).mono ?_; rintro e w1 ⟨rfl, rfl⟩))
          go_roundw
          case rel =>
            refine ⟨k + 1, by omega, by go_num, fun j e hj he => ?_, balloc hB.out _⟩
            by_cases e1 : j = k
            · subst e1; have := HD.out; rw [he] at this; cases this; exact HX.out
            · exact hN.out j e (by omega) he
          case measure => simp [intOf]; omega
        · rw [h2] at I2
          have HX : Hid (((decide (d.fr ≤ x) && decide (x < d.tt)) && d.inC c) = true) := by show _ = _; rw [← HI.out.1, ← HI.out.2, h1, h2]; rfl
          clear h1 h2
          go_wp2_with (first | (go_at_call_of 71 (Value.int .i64 d.fr); refine (I1.out _).mono ?_; rintro e w1 ⟨rfl, rfl⟩) | (go_at_call_of 71 (Value.int .i64 d.lo); refine (I2.out _).mono ?_; rintro e w1 ⟨rfl, rfl⟩))
          go_ret
          exact ⟨ret_bool (List.any_eq_true.2 ⟨d, List.mem_of_getElem? HD.out, HX.out⟩).symm, balloc hB.out _⟩
    · have hge : ¬ (k : Int) < (L.length : Int) := by omega
      have HX : Hid (openB L x c = false) := by
        show openB L x c = false
        cases e : openB L x c
        · rfl
        · obtain ⟨o, ho, h2⟩ := List.any_eq_true.1 e
          obtain ⟨j, hj⟩ := List.getElem?_of_mem ho
          rw [hN.out j o (by have := (List.getElem?_eq_some_iff.1 hj).1; omega) hj] at h2
          cases h2
      go_wp2
      go_ret
      exact ⟨ret_bool HX.out.symm, hB.out⟩
theorem owns_below' {w w' : World} {B e n z : Nat} {v : Value} {xs : List Value} (h : w.ownsRow B e z v n xs) (hb : Below w.heap.size w w') : w'.ownsRow B e z v n xs := by
  refine ⟨h.1, ?_⟩
  rcases h.2 with hn | ⟨g, cap, cur, hv, hB, hh, rest⟩
  · exact .inl hn
  · exact .inr ⟨g, cap, cur, hv, hB, (hb.block g (Array.getElem?_eq_some_iff.1 hh).1).trans hh, rest⟩
theorem own_blk {w : World} {B n : Nat} {v : Value} {xs : List Value} {e : TypeId} {z : Nat} (h : w.ownsRow B e z v n xs) : ∀ k, v.ownBlock = some k → B ≤ k := by
  intro k hk
  rcases h.2 with ⟨hv, _⟩ | ⟨g, cap, cur, hv, hB, _⟩
  · rw [hv] at hk; simp [Value.ownBlock] at hk
  · rw [hv] at hk; simp [Value.ownBlock] at hk; omega
theorem cells_two' (w : World) (x y : Value) (t : TypeId) : ∀ j u, [x, y][j]? = some u → (w.alloc (.cells #[x, y] t)).cell? ((⟨w.heap.size, 0, none⟩ : Addr).add j) = some u := by
  intro j u hj
  match j, hj with
  | 0, hj => simp at hj; subst hj; simp [Addr.add]
  | 1, hj => simp at hj; subst hj; simp [Addr.add]
/-- The l09Parts loop at x. -/
def PtSt (F : Int) (L : List Og) (c : Int) (x : Nat) (D : List Pt) (y : Int) : Prop := ((x : Int) ≤ F ∧ PInv F (cutL L c) (partsF F L c) x D y) ∨ ((x : Int) = F + 1 ∧ D = partsF F L c ∧ y = -1)
theorem PtSt.len {F : Int} {L : List Og} {c : Int} {x : Nat} {D : List Pt} {y : Int} (h : PtSt F L c x D y) : D.length ≤ L.length + 1 := by
  have h1 : (partsF F L c).length ≤ L.length + 1 := Nat.le_trans (ptsF_length F 0 (cutL L c)) (by have := cutL_length L c; omega)
  rcases h with ⟨_, h⟩ | ⟨_, h, _⟩
  · exact Nat.le_trans h.small h1
  · rw [h]; exact h1
set_option maxRecDepth 100000 in
set_option maxHeartbeats 40000000 in
theorem parts_spec (F C : Int) (L : List Og) (a : Option Addr) (cap : Nat) (hok : FrOk F C L) (fb : Nat) (c : Int) (w : World) (hf : FrBox fb F C a cap L w) (ha : OgArg w a L) :
    Calls Try.prog 65 #[.pointer (some ⟨fb, 0, none⟩), .int .i64 c] w fun e w' => ∃ v, e = .returned v ∧ w'.ownsRow w.heap.size 51 2 v (partsF F L c).length (ptVals (partsF F L c)) ∧ Below w.heap.size w w' := by
  have hl8 : L.length ≤ 8 := hok.len
  have hF := hok.fl
  obtain ⟨hF1, hF2⟩ := hF
  have HC := Lib.hid (hok.ch c)
  have OP := Lib.hid (fun x wx (hx : Below w.heap.size w wx) => open_spec F C L a cap hok fb x c wx (hf.later hx) (ha.later hx))
  have FB := Lib.hid hf
  obtain ⟨i0, hi, hz0, hz1, hz2⟩ := info_parts infoPt
  have S0 := Lib.hid (own_ptStart w)
  clear hok hf ha
  go_enter Try.func65, Try.ntmps65
  go_wp2
  go_loopw [5, 6, 7] (fun r y i wr => ∃ (x : Nat) (D : List Pt) (yy : Int), i = .int .i64 (x : Int) ∧ y = .int .i64 yy ∧ (x : Int) ≤ F + 1 ∧ (-1 ≤ yy ∧ yy ≤ 1000) ∧ Hid (wr.ownsRow w.heap.size 51 2 r D.length (ptVals D)) ∧ Hid (PtSt F L c x D yy) ∧ Hid (Below w.heap.size w wr)) (fun _ _ i _ => 1000 - (intOf i).toNat)
  case atStart => exact ⟨0, [], -1, rfl, rfl, by omega, by omega, S0.out, .inl ⟨by omega, PInv.start HC.out⟩, balloc0 _ _⟩
  case round =>
    obtain ⟨x, D, y, rfl, rfl, hx, hyr, hR, hP, hB⟩ := hrel
    obtain ⟨hy0, hy1⟩ := hyr
    have hln := hP.out.len
    have hsz := hB.out.size
    obtain ⟨q0, q1, q2⟩ := FB.out.later hB.out
    by_cases hle : (x : Int) ≤ F
    · have HI : Hid (PInv F (cutL L c) (partsF F L c) x D y) := by
        rcases hP.out with h | h
        · exact h.2
        · omega
      have hyx := HI.out.range
      by_cases hxF : (x : Int) = F
      · have hxb : ((x : Int) == F) = true := by simp [hxF]
        have HXF := Lib.hid hxF
        clear hxF
        by_cases hy : 0 ≤ y
        · have HE : Hid (D ++ [⟨y, (x : Int)⟩] = partsF F L c) := by
            have h1 := HI.out
            rw [HXF.out] at h1 ⊢
            exact h1.endB hy
          have hlE : D.length + 1 = (partsF F L c).length := by rw [← HE.out]; simp
          go_wp2_with (at_builtin; refine wpList_append_own _ rfl _ _ 42 rfl w.heap.size 51 i0 (.agg #[.int .i64 0, .int .i64 0]) 2 16 Try.underlying42 hi hz0 hz1 hz2 rfl (by decide) _ D.length (ptVals D) rfl (hR.out.alloc _) ⟨wr.heap.size, 0, none⟩ 1 1 [.int .i64 y, .int .i64 (x : Int)] rfl rfl (cells_two' _ _ _ _) (by simp [Value.oneCell']) (by unfold maxLen; omega) (by omega) (by simp; omega) ?_; intro v' w3 hown' hgrow _)
          go_roundw
          case rel =>
            have e : D.length + 1 = (D ++ [(⟨y, (x : Int)⟩ : Pt)]).length := by simp
            have hown2 := hown'
            rw [show ptVals D ++ [.int .i64 y, .int .i64 (x : Int)] = ptVals (D ++ [(⟨y, (x : Int)⟩ : Pt)]) from ptVals_snoc D ⟨y, (x : Int)⟩, e] at hown2
            exact ⟨x + 1, _, -1, by go_num, rfl, by omega, by omega, hown2, .inr ⟨by have := HXF.out; omega, HE.out, rfl⟩, (balloc hB.out (.cells #[.int .i64 y, .int .i64 (x : Int)] 51)).grown hgrow (by simp; omega) (fun r hr => by have := own_blk hR.out r hr; omega)⟩
          case measure => simp [intOf]; omega
        · have hyn : y = -1 := by omega
          have HY := Lib.hid hyn
          have HE : Hid (D = partsF F L c) := by
            have h1 := HI.out
            rw [HXF.out, HY.out] at h1
            exact h1.endA
          clear hyn
          go_wp2
          go_roundw
          case rel => exact ⟨x + 1, D, y, by go_num, rfl, by omega, by omega, hR.out, .inr ⟨by have := HXF.out; omega, HE.out, HY.out⟩, hB.out⟩
          case measure => simp [intOf]; omega
      · have hxb : ((x : Int) == F) = false := by simp [hxF]
        have hlt : (x : Int) < F := by omega
        have O := Lib.hid (OP.out x wr hB.out)
        have HO := Lib.hid (openB_true (L := L) (x := x) (c := c))
        cases hop : openB L x c
        · rw [hop] at O
          have HN : Hid (¬ ∃ o ∈ cutL L c, o.fr ≤ x ∧ x < o.tt) := fun h => by rw [HO.out.2 h] at hop; cases hop
          clear hop
          by_cases hy : 0 ≤ y
          · have hyf : ¬ y < 0 := by omega
            go_wp2_with (go_at_call 75; refine O.out.mono ?_; rintro e w1 ⟨rfl, hb1⟩; have R1 := Lib.hid (owns_below' hR.out hb1); have B1 := Lib.hid (bnext hB.out hb1); obtain ⟨s0, s1, s2⟩ := FB.out.later B1.out; clear hb1)
            go_roundw
            case rel => exact ⟨x + 1, D, y, by go_num, rfl, by omega, by omega, R1.out, .inl ⟨by omega, by have := HI.out.closedB hy hlt HN.out; simpa using this⟩, B1.out⟩
            case measure => simp [intOf]; omega
          · have hyf : y < 0 := by omega
            have hyn : y = -1 := by omega
            have HY := Lib.hid hyn
            clear hyn
            go_wp2_with (go_at_call 75; refine O.out.mono ?_; rintro e w1 ⟨rfl, hb1⟩; have R1 := Lib.hid (owns_below' hR.out hb1); have B1 := Lib.hid (bnext hB.out hb1); obtain ⟨s0, s1, s2⟩ := FB.out.later B1.out; clear hb1)
            go_roundw
            case rel => exact ⟨x + 1, D, x, by go_num, rfl, by omega, by omega, R1.out, .inl ⟨by omega, by have h1 := HI.out; rw [HY.out] at h1; have := h1.closedA (by omega) hlt HN.out; simpa using this⟩, B1.out⟩
            case measure => simp [intOf]; omega
        · rw [hop] at O
          have HN : Hid (∃ o ∈ cutL L c, o.fr ≤ x ∧ x < o.tt) := HO.out.1 hop
          clear hop
          by_cases hy : 0 ≤ y
          · have HNX := Lib.hid (HI.out.openB hy HN.out)
            have hl2 := HNX.out.small
            go_wp2_with (first | (go_at_call 75; refine O.out.mono ?_; rintro e w1 ⟨rfl, hb1⟩; have R1 := Lib.hid (owns_below' hR.out hb1); have B1 := Lib.hid (bnext hB.out hb1); have z1 := B1.out.size; obtain ⟨s0, s1, s2⟩ := FB.out.later B1.out; clear hb1) | (at_builtin; refine wpList_append_own _ rfl _ _ 42 rfl w.heap.size 51 i0 (.agg #[.int .i64 0, .int .i64 0]) 2 16 Try.underlying42 hi hz0 hz1 hz2 rfl (by decide) _ D.length (ptVals D) rfl (R1.out.alloc _) ⟨w1.heap.size, 0, none⟩ 1 1 [.int .i64 y, .int .i64 (x : Int)] rfl rfl (cells_two' _ _ _ _) (by simp [Value.oneCell']) (by unfold maxLen; omega) (by omega) (by simp; omega) ?_; intro v' w3 hown' hgrow _))
            go_roundw
            case rel =>
              have e : D.length + 1 = (D ++ [(⟨y, (x : Int)⟩ : Pt)]).length := by simp
              have hown2 := hown'
              rw [show ptVals D ++ [.int .i64 y, .int .i64 (x : Int)] = ptVals (D ++ [(⟨y, (x : Int)⟩ : Pt)]) from ptVals_snoc D ⟨y, (x : Int)⟩, e] at hown2
              exact ⟨x + 1, _, -1, by go_num, rfl, by omega, by omega, hown2, .inl ⟨by omega, by simpa using HNX.out⟩, (balloc B1.out (.cells #[.int .i64 y, .int .i64 (x : Int)] 51)).grown hgrow (by simp; omega) (fun r hr => by have := own_blk R1.out r hr; omega)⟩
            case measure => simp [intOf]; omega
          · have hyn : y = -1 := by omega
            have HY := Lib.hid hyn
            clear hyn
            go_wp2_with (go_at_call 75; refine O.out.mono ?_; rintro e w1 ⟨rfl, hb1⟩; have R1 := Lib.hid (owns_below' hR.out hb1); have B1 := Lib.hid (bnext hB.out hb1); obtain ⟨s0, s1, s2⟩ := FB.out.later B1.out; clear hb1)
            go_roundw
            case rel => exact ⟨x + 1, D, y, by go_num, rfl, by omega, by omega, R1.out, .inl ⟨by omega, by have h1 := HI.out; rw [HY.out] at h1 ⊢; have := h1.openA HN.out; simpa using this⟩, B1.out⟩
            case measure => simp [intOf]; omega
    · have hgt : ¬ (x : Int) ≤ F := hle
      have HD : Hid (D = partsF F L c) := by
        rcases hP.out with h | h
        · omega
        · exact h.2.1
      go_wp2
      go_ret
      exact ⟨_, rfl, by rw [← HD.out]; exact hR.out, hB.out⟩
end Go.Proofs.Ytplggghhhgmebaa
