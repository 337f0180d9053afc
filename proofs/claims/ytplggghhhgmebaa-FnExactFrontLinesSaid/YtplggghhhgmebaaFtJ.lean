/-
  slices.Reverse over texts; FrontLines by the program.
-/
import Derived.Test.YtplggghhhgmebaaFtI
import Derived.Test.YtplggghhhgmebaaFtS
import Derived.Deep.QuietTactic
import Derived.BigQuiet
namespace Go.Proofs.Ytplggghhhgmebaa
open Go.ChangeShapes Go.WideShapes Go.ChangeAt Go.RowKit Go.Joins

/-- Texts lie in a block from its beginning on, and may be written. -/
def SRow (w : World) (g : Nat) (ds : List ByteArray) : Prop := ∀ k (x : ByteArray), ds[k]? = some x → w.cell? ⟨g, k, none⟩ = some (.string x) ∧ w.frozen? ⟨g, k, none⟩ = false
/-- The first k and the last k have changed places. -/
def swpS (l : List ByteArray) (k : Nat) : List ByteArray := (List.range l.length).map fun i => if i < k ∨ l.length ≤ i + k then l.getD (l.length - 1 - i) default else l.getD i default
theorem swpS_length (l : List ByteArray) (k : Nat) : (swpS l k).length = l.length := by simp [swpS]
theorem swpS_at (l : List ByteArray) (k i : Nat) (h : i < l.length) : (swpS l k)[i]? = some (if i < k ∨ l.length ≤ i + k then l.getD (l.length - 1 - i) default else l.getD i default) := by simp [swpS, h]
theorem swpS_zero (l : List ByteArray) : swpS l 0 = l := by
  refine List.ext_getElem? fun i => ?_
  by_cases h : i < l.length
  · rw [swpS_at l 0 i h, if_neg (by omega), List.getD_eq_getElem?_getD, List.getElem?_eq_getElem h]; rfl
  · rw [List.getElem?_eq_none (by rw [swpS_length]; omega), List.getElem?_eq_none (by omega)]
theorem swpS_all (l : List ByteArray) {k : Nat} (h : l.length ≤ 2 * k + 1) : swpS l k = l.reverse := by
  refine List.ext_getElem? fun i => ?_
  by_cases hi : i < l.length
  · rw [swpS_at l k i hi, List.getElem?_reverse hi, List.getElem?_eq_getElem (show l.length - 1 - i < l.length by omega)]
    by_cases hc : i < k ∨ l.length ≤ i + k
    · rw [if_pos hc, List.getD_eq_getElem?_getD, List.getElem?_eq_getElem (show l.length - 1 - i < l.length by omega)]; rfl
    · rw [if_neg hc, List.getD_eq_getElem?_getD, List.getElem?_eq_getElem hi]
      have : l.length - 1 - i = i := by omega
      simp [this]
  · rw [List.getElem?_eq_none (by rw [swpS_length]; omega), List.getElem?_eq_none (by simp <;> omega)]
set_option maxRecDepth 100000 in
set_option maxHeartbeats 3200000 in
theorem reverseS_impl (l : List ByteArray) (hl : l.length ≤ 1000) (g cap : Nat) (w : World) (hr : SRow w g l) :
    Calls Try.prog 77 #[.slice (some ⟨g, 0, none⟩) l.length cap] w fun e w' => (∃ v, e = .returned v) ∧ SRow w' g l.reverse ∧ ∀ B, B ≤ g → Below B w w' := by
  have HR := Lib.hid hr
  clear hr
  go_enter Try.func77, Try.ntmps77
  go_wp2
  go_loopw [2, 3] (fun i j wr => ∃ k : Nat, i = .int .i64 (k : Int) ∧ j = .int .i64 ((l.length : Int) - 1 - k) ∧ 2 * k ≤ l.length + 1 ∧ Hid (SRow wr g (swpS l k)) ∧ Hid (∀ B, B ≤ g → Below B w wr)) (fun i _ _ => l.length - (intOf i).toNat)
  case atStart => exact ⟨0, rfl, by simp, by omega, by rw [swpS_zero]; exact HR.out, fun B _ => Below.refl _ _⟩
  case round =>
    obtain ⟨k, rfl, rfl, hk, hB, hW⟩ := hrel
    by_cases hlt : (k : Int) < (l.length : Int) - 1 - (k : Int)
    · obtain ⟨j, hj⟩ : ∃ j : Nat, Hid (l.length - 1 - k = j) := ⟨_, rfl⟩
      have hj' := hj.out
      have ej : (l.length : Int) - 1 - (k : Int) = (j : Int) := by omega
      have hkj : k < j := by omega
      have hjl : j < l.length := by omega
      have HNJ : Hid ((j : Int) - 1 = (l.length : Int) - 1 - ((k + 1 : Nat) : Int)) := by show _ = _; omega
      have hk2 : 2 * (k + 1) ≤ l.length + 1 := by omega
      clear hj'
      rw [ej] at hlt ⊢
      clear ej
      obtain ⟨ck, fk⟩ := hB.out k (l.getD k default) (by rw [swpS_at l k k (by omega), if_neg (by have := hj.out; omega)])
      obtain ⟨cj, fj⟩ := hB.out j (l.getD j default) (by rw [swpS_at l k j hjl, if_neg (by have := hj.out; omega)])
      have hk0 : (0 : Int) ≤ (k : Int) := by omega
      have hj0 : (0 : Int) ≤ (j : Int) := by omega
      have hkl : (k : Int) < (l.length : Int) := by omega
      have hjl' : (j : Int) < (l.length : Int) := by omega
      have HN : Hid (SRow ((wr.setCell ⟨g, k, none⟩ (.string (l.getD j default))).setCell ⟨g, j, none⟩ (.string (l.getD k default))) g (swpS l (k + 1))) := by
        intro i x hx
        have hil : i < l.length := by have := (List.getElem?_eq_some_iff.1 hx).1; rwa [swpS_length] at this
        rw [swpS_at l (k + 1) i hil] at hx
        have hjj := hj.out
        have hold := hB.out i _ (swpS_at l k i hil)
        refine ⟨?_, by rw [World.frozen?_setCell, World.frozen?_setCell]; exact hold.2⟩
        by_cases e1 : i = j
        · subst e1
          rw [World.cell?_setCell_same' _ _ _ (by rw [World.cell?_setCell_other _ _ _ _ (by simp <;> omega), hold.1]; rfl)]
          rw [if_pos (by omega)] at hx
          have : l.length - 1 - i = k := by omega
          rw [this] at hx
          cases hx
          rfl
        · rw [World.cell?_setCell_other _ _ _ _ (by simp <;> omega)]
          by_cases e2 : i = k
          · subst e2
            rw [World.cell?_setCell_same' _ _ _ (by rw [hold.1]; rfl)]
            rw [if_pos (by omega), hjj] at hx
            cases hx
            rfl
          · rw [World.cell?_setCell_other _ _ _ _ (by simp <;> omega), hold.1]
            by_cases hc : i < k ∨ l.length ≤ i + k
            · rw [if_pos (by omega)] at hx
              rw [if_pos hc]
              cases hx
              rfl
            · rw [if_neg (by omega)] at hx
              rw [if_neg hc]
              cases hx
              rfl
      have HW : Hid (∀ B, B ≤ g → Below B w ((wr.setCell ⟨g, k, none⟩ (.string (l.getD j default))).setCell ⟨g, j, none⟩ (.string (l.getD k default)))) := fun B hb => ((hW.out B hb).setCell (p := ⟨g, k, none⟩) hb _).setCell (p := ⟨g, j, none⟩) hb _
      have cj2 : (wr.setCell ⟨g, k, none⟩ (.string (l.getD j default))).cell? ⟨g, j, none⟩ = some (.string (l.getD j default)) := by rw [World.cell?_setCell_other _ _ _ _ (by simp <;> omega)]; exact cj
      obtain ⟨x, hx⟩ : ∃ x : ByteArray, l.getD k default = x := ⟨_, rfl⟩
      obtain ⟨y, hy⟩ : ∃ y : ByteArray, l.getD j default = y := ⟨_, rfl⟩
      rw [hx] at ck HN HW
      rw [hy] at cj cj2 HN HW
      clear hx hy
      have hne : ¬ j = k := by omega
      have hne2 : ¬ k = j := by omega
      go_wp2
      go_region
      all_goals
        go_wp2
        go_roundw
        case rel => exact ⟨k + 1, by simp, by rw [← HNJ.out], hk2, HN.out, fun B hb => (HW.out B hb).drew⟩
        case measure => simp [intOf]; omega
    · have hge : ¬ (k : Int) < (l.length : Int) - 1 - (k : Int) := hlt
      have HE : Hid (SRow wr g l.reverse) := by have := hB.out; rw [swpS_all l (by omega)] at this; exact this
      go_wp2
      go_end0
      exact ⟨⟨_, rfl⟩, HE.out, hW.out⟩
theorem SRow.own {w : World} {B g : Nat} {L : List ByteArray} (h : SRow w g L) (hB : B ≤ g) (h0 : L ≠ []) : StrOwn B L g w := by
  have h1 : ∀ k (x : ByteArray), L[k]? = some x → w.cell? ⟨g, 0 + k, none⟩ = some (.string x) := fun k x hk => by rw [Nat.zero_add]; exact (h k x hk).1
  refine ⟨hB, h1, fun j hj => ?_, ?_⟩
  · rw [Nat.zero_add]
    have h2 := h j _ (List.getElem?_eq_getElem hj)
    exact ⟨by rw [h2.1]; rfl, h2.2⟩
  · have hl := List.length_pos_iff.2 h0
    exact World.block_lt_of_cell? w _ (h 0 _ (List.getElem?_eq_getElem hl)).1
theorem StrOwn.row {w : World} {B g : Nat} {L : List ByteArray} (h : StrOwn B L g w) : SRow w g L := fun k x hk => by
  have hl := (List.getElem?_eq_some_iff.1 hk).1
  have h1 := h.2.1 k x hk
  have h2 := h.2.2.1 k hl
  rw [Nat.zero_add] at h1 h2
  exact ⟨h1, h2.2⟩
/-- The first n courses from below. -/
def flD (F : Int) (L : List Og) (n : Nat) : List ByteArray := (List.range n).map fun (k : Nat) => lnB F L (k : Int)
theorem flD_succ (F : Int) (L : List Og) (n : Nat) : flD F L (n + 1) = flD F L n ++ [lnB F L (n : Int)] := by simp [flD, List.range_succ]
theorem flD_length (F : Int) (L : List Og) (n : Nat) : (flD F L n).length = n := by simp [flD]
theorem flD_rev (F : Int) (L : List Og) (n : Nat) : (flD F L n).reverse = flU F (n : Int) L n := by
  refine List.ext_getElem? fun i => ?_
  by_cases h : i < n
  · rw [List.getElem?_reverse (by rw [flD_length]; exact h), flD_length]
    simp only [flD, flU, List.getElem?_map, List.getElem?_range h, List.getElem?_range (show n - 1 - i < n by omega), Option.map_some]
    congr 2
    omega
  · rw [List.getElem?_eq_none (by simp [flD_length]; omega), List.getElem?_eq_none (by rw [flU_length]; omega)]
set_option maxRecDepth 100000 in
set_option maxHeartbeats 40000000 in
theorem frontLines_impl (F C : Int) (L : List Og) (a : Option Addr) (cap : Nat) (hl : L.length ≤ 1048576) (hcap : L.length ≤ cap) (w : World) (ha : OgArg w a L) :
    Calls Try.prog 42 #[.agg #[.int .i64 F, .int .i64 C, .slice a L.length cap]] w (FtAns w F C L) := by
  have FB' := FrBox.new w F C a cap L 29
  have E0' := Lib.hid (balloc0 w (.cells #[.int .i64 F, .int .i64 C, .slice a L.length cap] 29))
  obtain ⟨W0, hW⟩ : ∃ W0, w.alloc (.cells #[.int .i64 F, .int .i64 C, .slice a L.length cap] 29) = W0 := ⟨_, rfl⟩
  rw [hW] at FB' E0'
  have FB := Lib.hid FB'
  have E0 := Lib.hid E0'.out
  have HA := Lib.hid (ha.later E0.out)
  have HW := Lib.hid hW
  clear hW E0' FB' ha
  have X := Lib.hid (validFront_impl F C L a cap hl hcap W0 HA.out)
  unfold FtAns
  obtain ⟨q0, q1, q2⟩ := FB.out
  cases hok : okFr F C L
  · have e1 : flK F C L = 1 := by simp [flK, hok]
    have e2 : flL F C L = [] := by simp [flL, hok]
    rw [e1, e2]
    rw [hok] at X
    clear e1 e2 hok
    go_enter Try.func42, Try.ntmps42
    go_wp2_with fail
    rw [HW.out]
    go_wp2_with fail
    refine X.out.mono ?_
    rintro e w1 ⟨rfl, hb1⟩
    have B1 := Lib.hid hb1
    clear hb1 q0 q1 q2
    go_wp2
    go_ret2
    exact ⟨none, 0, rfl, .inl rfl, bnext E0.out B1.out⟩
  have HO := Lib.hid (okFr_true.1 hok)
  have e1 : flK F C L = 0 := by simp [flK, hok]
  have e2 : flL F C L = flU F C L C.toNat := by simp [flL, hok]
  rw [e1, e2]
  rw [hok] at X
  have hC1 : 1 ≤ C := HO.out.fc.1
  have hC2 : C ≤ 40 := HO.out.fc.2
  obtain ⟨m, rfl⟩ := Int.eq_ofNat_of_zero_le (show 0 ≤ C by omega)
  have LI := Lib.hid (fun c wx (hx : Below W0.heap.size W0 wx) => line_impl F (m : Int) L a cap HO.out c wx (HA.out.later hx))
  rw [Int.toNat_natCast]
  clear e1 e2 hok
  go_enter Try.func42, Try.ntmps42
  go_wp2_with fail
  rw [HW.out]
  go_wp2_with fail
  refine X.out.mono ?_
  rintro e w1 ⟨rfl, hb1⟩
  have B1 := Lib.hid hb1
  clear hb1 q0 q1 q2
  obtain ⟨q0, q1, q2⟩ := FB.out.later B1.out
  go_wp2_with fail
  clear q0 q1 q2
  have S0 : w1.ownsRow w1.heap.size 9 1 (.slice none 0 0) 0 (strVals []) := World.ownsRow_nil _ _ _ _
  go_loopw [4, 11] (fun v i wr => ∃ (k : Nat) (P : List ByteArray) (ao : Option Addr) (cp : Nat), v = .slice ao k cp ∧ i = .int .i64 (k : Int) ∧ k ≤ m ∧ Hid (wr.ownsRow w1.heap.size 9 1 (.slice ao k cp) k (strVals P)) ∧ Hid (P = flD F L k) ∧ Hid (Below w1.heap.size w1 wr)) (fun _ i _ => m - (intOf i).toNat)
  case atStart => exact ⟨0, [], _, _, rfl, rfl, Nat.zero_le _, S0, rfl, Below.refl _ _⟩
  case round =>
    obtain ⟨k, P, ao, cp, rfl, rfl, hk, hO, hP, hB⟩ := hrel
    by_cases hlt : k < m
    · have hlt' : (k : Int) < (m : Int) := by omega
      have hk0 : (0 : Int) ≤ (k : Int) := by omega
      obtain ⟨q0, q1, q2⟩ := FB.out.later (bnext B1.out hB.out)
      obtain ⟨i0, hi, hz0, hz1, hz2⟩ := info_parts infoStrB
      have c3 : Hid (k + 1 ≤ maxLen) := by show k + 1 ≤ maxLen; unfold maxLen; omega
      have LA := Lib.hid (LI.out (k : Int) wr (bnext B1.out hB.out))
      obtain ⟨T, hT⟩ : ∃ T, lnB F L (k : Int) = T := ⟨_, rfl⟩
      rw [hT] at LA
      have HT := Lib.hid hT
      clear hT
      go_wp2_with fail
      refine LA.out.mono ?_
      rintro e w3 ⟨rfl, hb3⟩
      have O3 := Lib.hid (own_later hO.out hb3)
      have B3 := Lib.hid (bnext hB.out hb3)
      have z3 : w1.heap.size ≤ w3.heap.size := B3.out.size
      clear hb3 q0 q1 q2
      go_wp2_with (at_builtin; go_must ((refine wpList_append_own _ rfl _ _ 59 rfl w1.heap.size 9 i0 (.string ⟨#[]⟩) 1 16 Try.underlying59 hi hz0 hz1 hz2 rfl (by decide) (.slice ao k cp) k (strVals P) rfl (O3.out.alloc _) ⟨w3.heap.size, 0, none⟩ 1 1 [.string T] rfl rfl ((litS w1.heap.size w3 T z3).cells rfl) (by simp [Value.oneCell']) c3.out (by omega) (by simp; omega) ?_; intro v5 w5 hown5 hgrow5 _; obtain ⟨g5, cp5, hv5⟩ := own_form8S hown5 (Nat.succ_ne_zero k); subst hv5; have O5 := Lib.hid hown5; have B5 : Hid (Below w1.heap.size w1 w5) := (B3.out.alloc z3 _).grown hgrow5 (by simp; omega) (fun q hq => (O3.out.lt q hq).1); clear hown5 hgrow5)))
      go_roundw
      case rel => exact ⟨k + 1, P ++ [T], _, _, rfl, by go_num, by omega, by have := O5.out; rw [strVals_snoc] at this; exact this, by show P ++ [T] = _; rw [flD_succ, ← hP.out, HT.out], B5.out⟩
      case measure => simp [intOf]; omega
    · have hge : ¬ (k : Int) < (m : Int) := by omega
      have hkn : k = m := by omega
      subst hkn
      have hpl : P.length = k := by rw [hP.out, flD_length]
      obtain ⟨a2, cap2, hv, hr⟩ := str_res (P := P) (by rw [hpl]; exact hO.out)
      rw [hpl] at hv
      cases hv
      obtain ⟨g, rfl, hown⟩ : ∃ g, ao = some ⟨g, 0, none⟩ ∧ StrOwn w1.heap.size P g wr := by
        rcases hr with h | h
        · rw [h] at hpl; simp at hpl; omega
        · exact h
      have RV := Lib.hid (reverseS_impl P (by omega) g cp wr hown.row)
      rw [hpl] at RV
      have HG := Lib.hid hown.1
      have HR : Hid (P.reverse = flU F (k : Int) L k) := by show _ = _; rw [hP.out, flD_rev]
      have HNE : Hid (P.reverse ≠ []) := by show _ ≠ _; intro h; have h2 := congrArg List.length h; rw [List.length_reverse] at h2; simp only [List.length_nil] at h2; omega
      have HPL : Hid ((flU F (k : Int) L k).length = k) := flU_length _ _ _ _
      clear hpl hr hown
      go_wp2_with fail
      refine RV.out.mono ?_
      rintro e w6 ⟨⟨v, rfl⟩, hs, hb6⟩
      have OW := Lib.hid (SRow.own hs HG.out HNE.out)
      have B6 := Lib.hid (hB.out.trans (hb6 _ HG.out))
      have ZW := Lib.hid (bnext E0.out B1.out).size
      clear hs hb6
      go_wp2_with fail
      go_ret2
      have RES : StrRes w.heap.size (flU F (k : Int) L k) (some ⟨g, 0, none⟩) w6 := by
        rw [← HR.out]
        exact .inr ⟨g, rfl, Nat.le_trans ZW.out OW.out.1, OW.out.2⟩
      first | exact ⟨_, ⟨cp, by rw [HPL.out]; rfl⟩, RES, bnext E0.out <| bnext B1.out <| B6.out⟩ | exact ⟨_, cp, by rw [HPL.out]; rfl, RES, bnext E0.out <| bnext B1.out <| B6.out⟩
end Go.Proofs.Ytplggghhhgmebaa
