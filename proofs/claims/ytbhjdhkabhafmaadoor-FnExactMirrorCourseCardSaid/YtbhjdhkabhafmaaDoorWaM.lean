/-
  MirrorCourse by the program: slices.Reverse over bytes.
-/
import Derived.Test.YtbhjdhkabhafmaaDoorWaVc
import Derived.Test.YtbhjdhkabhafmaaDoorWaC
import Derived.Laws.IdiomStrings
namespace Go.Proofs.YtbhjdhkabhafmaaDoor
open Go.ChangeShapes Go.WideShapes Go.ChangeAt Go.RowKit Go.Joins

/-- Bytes lie in a block from its beginning on, and may be written. -/
def BRow (w : World) (g : Nat) (ds : List UInt8) : Prop := ∀ k (x : UInt8), ds[k]? = some x → w.cell? ⟨g, k, none⟩ = some (.int .u8 (x.toNat : Int)) ∧ w.frozen? ⟨g, k, none⟩ = false
/-- The first k and the last k have changed places. -/
def swpL (l : List UInt8) (k : Nat) : List UInt8 := (List.range l.length).map fun i => if i < k ∨ l.length ≤ i + k then l.getD (l.length - 1 - i) 0 else l.getD i 0
theorem swpL_length (l : List UInt8) (k : Nat) : (swpL l k).length = l.length := by simp [swpL]
theorem swpL_at (l : List UInt8) (k i : Nat) (h : i < l.length) : (swpL l k)[i]? = some (if i < k ∨ l.length ≤ i + k then l.getD (l.length - 1 - i) 0 else l.getD i 0) := by simp [swpL, h]
theorem swpL_zero (l : List UInt8) : swpL l 0 = l := by
  refine List.ext_getElem? fun i => ?_
  by_cases h : i < l.length
  · rw [swpL_at l 0 i h, if_neg (by omega), List.getD_eq_getElem?_getD, List.getElem?_eq_getElem h]; rfl
  · rw [List.getElem?_eq_none (by rw [swpL_length]; omega), List.getElem?_eq_none (by omega)]
theorem swpL_all (l : List UInt8) {k : Nat} (h : l.length ≤ 2 * k + 1) : swpL l k = l.reverse := by
  refine List.ext_getElem? fun i => ?_
  by_cases hi : i < l.length
  · rw [swpL_at l k i hi, List.getElem?_reverse hi, List.getElem?_eq_getElem (show l.length - 1 - i < l.length by omega)]
    by_cases hc : i < k ∨ l.length ≤ i + k
    · rw [if_pos hc, List.getD_eq_getElem?_getD, List.getElem?_eq_getElem (show l.length - 1 - i < l.length by omega)]; rfl
    · rw [if_neg hc, List.getD_eq_getElem?_getD, List.getElem?_eq_getElem hi]
      have : l.length - 1 - i = i := by omega
      simp [this]
  · rw [List.getElem?_eq_none (by rw [swpL_length]; omega), List.getElem?_eq_none (by simp <;> omega)]
set_option maxRecDepth 100000 in
set_option maxHeartbeats 3200000 in
theorem reverse_impl (l : List UInt8) (hl : l.length ≤ 1000) (g cap : Nat) (w : World) (hr : BRow w g l) :
    Calls Tryd.prog 62 #[.slice (some ⟨g, 0, none⟩) l.length cap] w fun e w' => (∃ v, e = .returned v) ∧ BRow w' g l.reverse ∧ ∀ B, B ≤ g → Below B w w' := by
  have HR := Lib.hid hr
  clear hr
  go_enter Tryd.func62, Tryd.ntmps62
  go_wp2
  go_loopw [2, 3] (fun i j wr => ∃ k : Nat, i = .int .i64 (k : Int) ∧ j = .int .i64 ((l.length : Int) - 1 - k) ∧ 2 * k ≤ l.length + 1 ∧ Hid (BRow wr g (swpL l k)) ∧ Hid (∀ B, B ≤ g → Below B w wr)) (fun i _ _ => l.length - (intOf i).toNat)
  case atStart => exact ⟨0, rfl, by simp, by omega, by rw [swpL_zero]; exact HR.out, fun B _ => Below.refl _ _⟩
  case round =>
    obtain ⟨k, rfl, rfl, hk, hB, hW⟩ := hrel
    by_cases hlt : (k : Int) < (l.length : Int) - 1 - (k : Int)
    · obtain ⟨j, hj⟩ : ∃ j : Nat, Hid (l.length - 1 - k = j) := ⟨_, rfl⟩
      have hj' := hj.out
      have ej : (l.length : Int) - 1 - (k : Int) = (j : Int) := by omega
      have hkj : k < j := by omega
      have hjl : j < l.length := by omega
      have HNJ : Hid ((j : Int) - 1 = (l.length : Int) - 1 - ((k + 1 : Nat) : Int)) := by show _ = _; omega
      have hk2 : 2 * (k + 1) ≤ l.length + 1 := by omega
      clear hj'
      rw [ej] at hlt ⊢
      clear ej
      obtain ⟨ck, fk⟩ := hB.out k (l.getD k 0) (by rw [swpL_at l k k (by omega), if_neg (by have := hj.out; omega)])
      obtain ⟨cj, fj⟩ := hB.out j (l.getD j 0) (by rw [swpL_at l k j hjl, if_neg (by have := hj.out; omega)])
      have hk0 : (0 : Int) ≤ (k : Int) := by omega
      have hj0 : (0 : Int) ≤ (j : Int) := by omega
      have hkl : (k : Int) < (l.length : Int) := by omega
      have hjl' : (j : Int) < (l.length : Int) := by omega
      have HN : Hid (BRow ((wr.setCell ⟨g, k, none⟩ (.int .u8 ((l.getD j 0).toNat : Int))).setCell ⟨g, j, none⟩ (.int .u8 ((l.getD k 0).toNat : Int))) g (swpL l (k + 1))) := by
        intro i x hx
        have hil : i < l.length := by have := (List.getElem?_eq_some_iff.1 hx).1; rwa [swpL_length] at this
        rw [swpL_at l (k + 1) i hil] at hx
        have hjj := hj.out
        have hold := hB.out i _ (swpL_at l k i hil)
        refine ⟨?_, by rw [World.frozen?_setCell, World.frozen?_setCell]; exact hold.2⟩
        by_cases e1 : i = j
        · subst e1
          rw [World.cell?_setCell_same' _ _ _ (by rw [World.cell?_setCell_other _ _ _ _ (by simp <;> omega), hold.1]; rfl)]
          rw [if_pos (by omega)] at hx
          have : l.length - 1 - i = k := by omega
          rw [this] at hx
          cases hx
          rfl
        · rw [World.cell?_setCell_other _ _ _ _ (by simp <;> omega)]
          by_cases e2 : i = k
          · subst e2
            rw [World.cell?_setCell_same' _ _ _ (by rw [hold.1]; rfl)]
            rw [if_pos (by omega), hjj] at hx
            cases hx
            rfl
          · rw [World.cell?_setCell_other _ _ _ _ (by simp <;> omega), hold.1]
            by_cases hc : i < k ∨ l.length ≤ i + k
            · rw [if_pos (by omega)] at hx
              rw [if_pos hc]
              cases hx
              rfl
            · rw [if_neg (by omega)] at hx
              rw [if_neg hc]
              cases hx
              rfl
      have HW : Hid (∀ B, B ≤ g → Below B w ((wr.setCell ⟨g, k, none⟩ (.int .u8 ((l.getD j 0).toNat : Int))).setCell ⟨g, j, none⟩ (.int .u8 ((l.getD k 0).toNat : Int)))) := fun B hb => ((hW.out B hb).setCell (p := ⟨g, k, none⟩) hb _).setCell (p := ⟨g, j, none⟩) hb _
      have cj2 : (wr.setCell ⟨g, k, none⟩ (.int .u8 ((l.getD j 0).toNat : Int))).cell? ⟨g, j, none⟩ = some (.int .u8 ((l.getD j 0).toNat : Int)) := by rw [World.cell?_setCell_other _ _ _ _ (by simp <;> omega)]; exact cj
      obtain ⟨x, hx⟩ : ∃ x : Int, ((l.getD k 0).toNat : Int) = x := ⟨_, rfl⟩
      obtain ⟨y, hy⟩ : ∃ y : Int, ((l.getD j 0).toNat : Int) = y := ⟨_, rfl⟩
      rw [hx] at ck HN HW
      rw [hy] at cj cj2 HN HW
      clear hx hy
      have hne : ¬ j = k := by omega
      have hne2 : ¬ k = j := by omega
      go_wp2
      go_region
      all_goals
        go_wp2
        go_roundw
        case rel => exact ⟨k + 1, by simp, by rw [← HNJ.out], hk2, HN.out, fun B hb => (HW.out B hb).drew⟩
        case measure => simp [intOf]; omega
    · have hge : ¬ (k : Int) < (l.length : Int) - 1 - (k : Int) := hlt
      have HE : Hid (BRow wr g l.reverse) := by have := hB.out; rw [swpL_all l (by omega)] at this; exact this
      go_wp2
      go_end0
      exact ⟨⟨_, rfl⟩, HE.out, hW.out⟩
theorem row_of (w : World) (C : Array Value) (t : TypeId) (n k : Nat) (v : Value) (h : C[k]? = some v) (hn : C.size ≤ n) : (w.alloc (.cells C t (n, n + 1))).cell? ⟨w.heap.size, k, none⟩ = some v ∧ (w.alloc (.cells C t (n, n + 1))).frozen? ⟨w.heap.size, k, none⟩ = false := by
  have hb : (w.alloc (.cells C t (n, n + 1))).heap[w.heap.size]? = some (.cells C t (n, n + 1)) := heap_alloc_new w _
  have hk : k < C.size := (Array.getElem?_eq_some_iff.1 h).1
  refine ⟨by rw [cell_of_row _ _ _ _ t (n, n + 1) hb]; exact h, ?_⟩
  simp only [World.frozen?, hb]
  simp
  omega
/-- The bytes of a text in a new block. -/
theorem bytes_of (s : ByteArray) (w : World) : ∃ cap W, (convert 9 69 (.string s)).run Tryd.prog w = .ok (.slice (some ⟨w.heap.size, 0, none⟩) s.data.toList.length cap) W ∧ BRow W w.heap.size s.data.toList ∧ Below w.heap.size w W := by
  refine ⟨_, _, run_bytes_of_string w 9 69 5 s Tryd.underlying9 Tryd.underlying69 Tryd.underlying5, fun k x hx => ?_, (Below.refl _ w).drew.alloc (Nat.le_refl _) _⟩
  refine row_of w.drew _ _ _ k _ ?_ (Nat.le_refl _)
  have hk : k < s.data.size := by have := (List.getElem?_eq_some_iff.1 hx).1; simpa using this
  have hx' : s.data[k]? = some x := by simpa using hx
  unfold bytesRow
  rw [Array.getElem?_append_left (by simpa using hk), Array.getElem?_map, hx']
  rfl
set_option maxRecDepth 100000 in
set_option maxHeartbeats 3200000 in
theorem mirrorCourse_impl (s : ByteArray) (hs : s.size ≤ 1048576) (w : World) : Calls Tryd.prog 27 #[.string s] w fun e w' => e = .returned (.tuple #[.string (mB s), .int .i64 (cC s)]) ∧ Below w.heap.size w w' := by
  have C := Lib.hid (validCourse_impl s hs)
  cases h : okCr s
  · rw [h] at C
    have E1 : mB s = ⟨#[]⟩ := by simp [mB, h]
    have E2 : cC s = 1 := by simp [cC, h]
    rw [E1, E2]
    clear E1 E2
    go_enter Tryd.func27, Tryd.ntmps27
    go_wp2_with fail
    refine (C.out _).mono ?_
    rintro e w' ⟨rfl, hb1⟩
    have B1 := Lib.hid hb1
    clear hb1
    go_wp2
    go_ret2
    exact ⟨rfl, B1.out⟩
  · rw [h] at C
    obtain ⟨h1, h2, _, _⟩ := okCr_facts h
    have E1 : mB s = mirB s := by simp [mB, h]
    have E2 : cC s = 0 := by simp [cC, h]
    rw [E1, E2]
    have hll : s.data.toList.length = s.size := by simp
    have R := Lib.hid (fun g cap wx (hr : BRow wx g s.data.toList) => reverse_impl s.data.toList (by omega) g cap wx hr)
    have HM : Hid (mirB s = ⟨s.data.toList.reverse.toArray⟩) := rfl
    have BO := Lib.hid (bytes_of s)
    obtain ⟨l, hle⟩ : ∃ l, s.data.toList = l := ⟨_, rfl⟩
    rw [hle] at R HM BO
    obtain ⟨V, hV⟩ : ∃ V, mirB s = V := ⟨_, rfl⟩
    rw [hV] at HM ⊢
    clear E1 E2 h hle hll hV
    go_enter Tryd.func27, Tryd.ntmps27
    go_wp2_with fail
    refine (C.out _).mono ?_
    rintro e w1 ⟨rfl, hb1⟩
    have B1 := Lib.hid hb1
    clear hb1
    obtain ⟨cap, W2, hcv, hrow, hb2⟩ := BO.out w1
    have B2 := Lib.hid (bnext B1.out hb2)
    have R2 := Lib.hid hrow
    clear hrow hb2
    go_wp2_with fail
    refine (R.out _ _ _ R2.out).mono ?_
    rintro e w3 ⟨⟨v, rfl⟩, hr3, hb3⟩
    have B3 := Lib.hid (B2.out.trans (hb3 _ B1.out.size))
    have hcv3 : (convert 69 9 (.slice (some ⟨w1.heap.size, 0, none⟩) l.length cap)).run Tryd.prog w3 = .ok (.string V) w3 := by
      have := run_convert_bytes_back (P := Tryd.prog) w3 69 9 5 ⟨w1.heap.size, 0, none⟩ cap l.reverse Tryd.underlying69 Tryd.underlying5 Tryd.underlying9 (fun j hj => by
        have := (hr3 j l.reverse[j] (List.getElem?_eq_getElem hj)).1
        rw [Addr.add_mid, Nat.zero_add]
        exact this)
      rw [List.length_reverse] at this
      rw [this, HM.out]
    clear hr3 hb3 hcv
    go_wp2
    go_ret2
    exact ⟨rfl, B3.out⟩
end Go.Proofs.YtbhjdhkabhafmaaDoor
