/-
  The text of a plan: as plain data, and by the model.
-/
import Derived.Test.YtikjielgnlgnjaaDoorHoX
import Derived.Test.YtikjielgnlgnjaaDoorDec2
import Derived.Lib.Join
import Derived.Lib.ItoaLen
import Derived.Deep.QuietTactic
import Derived.BigQuiet
import Derived.Deep.RegionHeld
namespace Go.Proofs.YtikjielgnlgnjaaDoor
open Go.ChangeShapes Go.WideShapes Go.ChangeAt Go.RowKit Go.Joins

theorem joinH_snoc (R : List (List UInt8)) (x : List UInt8) (h : R ≠ []) : Lib.join (R ++ [x]) [32] = Lib.join R [32] ++ [32] ++ x := by
  cases R with
  | nil => exact absurd rfl h
  | cons y r =>
    rw [List.cons_append, Lib.join_cons, Lib.join_cons]
    simp [Lib.joinTail]
/-- The word of a side; the first words; the text of the first sides. -/
def wordH (P : List Int) (T : ByteArray) (k : Nat) : List UInt8 := Lib.itoa (P.getD k 0) ++ [T.data.toList.getD k 0]
def wordsH (P : List Int) (T : ByteArray) (n : Nat) : List (List UInt8) := (List.range n).map (wordH P T)
def textH (P : List Int) (T : ByteArray) (n : Nat) : ByteArray := ⟨(Lib.join (wordsH P T n) [32]).toArray⟩
theorem wordsH_succ (P : List Int) (T : ByteArray) (n : Nat) : wordsH P T (n + 1) = wordsH P T n ++ [wordH P T n] := by simp [wordsH, List.range_succ]
theorem wordsH_length (P : List Int) (T : ByteArray) (n : Nat) : (wordsH P T n).length = n := by simp [wordsH]
theorem textH_zero (P : List Int) (T : ByteArray) : textH P T 0 = ⟨#[]⟩ := by simp [textH, wordsH, Lib.join]
theorem wordH_at {P : List Int} {T : ByteArray} {k : Nat} {z : Int} (hz : P[k]? = some z) (ht : k < T.size) : wordH P T k = Lib.itoa z ++ [T[k]'ht] := by
  have h' : k < T.data.toList.length := by simpa using ht
  unfold wordH
  rw [List.getD_eq_getElem?_getD, hz, List.getD_eq_getElem?_getD, List.getElem?_eq_getElem h']
  rfl
theorem textH_one {P : List Int} {T : ByteArray} {z : Int} (hz : P[0]? = some z) (ht : 0 < T.size) : textH P T 1 = ⟨(Lib.itoa z).toArray⟩ ++ ⟨#[T[0]'ht]⟩ := by
  unfold textH
  rw [wordsH_succ, show wordsH P T 0 = [] from rfl, List.nil_append, wordH_at hz ht, Lib.join_one]
  apply ByteArray.ext
  simp
theorem textH_succ {P : List Int} {T : ByteArray} {k : Nat} {z : Int} (hz : P[k]? = some z) (ht : k < T.size) (hk : 0 < k) : textH P T (k + 1) = (textH P T k ++ ⟨#[32]⟩) ++ (⟨(Lib.itoa z).toArray⟩ ++ ⟨#[T[k]'ht]⟩) := by
  unfold textH
  have hne : wordsH P T k ≠ [] := by
    intro e
    have := wordsH_length P T k
    rw [e] at this
    simp at this
    omega
  rw [wordsH_succ, joinH_snoc _ _ hne, wordH_at hz ht]
  apply ByteArray.ext
  simp
theorem itoa_small {z : Int} (h : 0 ≤ z ∧ z ≤ 200) : (⟨(Lib.itoa z).toArray⟩ : ByteArray).size ≤ 21 := by
  have h1 := Lib.itoa_length_le z (by omega) (by omega)
  show (Lib.itoa z).toArray.size ≤ 21
  simpa using h1
theorem textH_size {P : List Int} (hr : runsB P = true) (T : ByteArray) : ∀ k, k ≤ P.length → k ≤ T.size → (textH P T k).size ≤ 24 * k
  | 0, _, _ => by rw [textH_zero]; exact Nat.le_refl _
  | k + 1, h1, h2 => by
    have ih := textH_size hr T k (by omega) (by omega)
    have hz : P[k]? = some (P[k]'(by omega)) := List.getElem?_eq_getElem _
    have hb := runsB_at hr hz
    have hs := itoa_small (z := P[k]'(by omega)) ⟨by omega, by omega⟩
    have h1s : (⟨#[T[k]'(by omega)]⟩ : ByteArray).size = 1 := rfl
    have h2s : (⟨#[32]⟩ : ByteArray).size = 1 := rfl
    by_cases hk : 0 < k
    · rw [textH_succ hz (by omega) hk, ByteArray.size_append, ByteArray.size_append, ByteArray.size_append, h1s, h2s]
      omega
    · obtain rfl : k = 0 := by omega
      rw [textH_one hz (by omega), ByteArray.size_append, h1s]
      omega
def htV (P : List Int) (T : ByteArray) : ByteArray := if okHo P T = true then textH P T P.length else ⟨#[]⟩
theorem ht_bad {P : List Int} {T : ByteArray} (h : okHo P T = false) : htV P T = ⟨#[]⟩ := by simp [htV, h]
theorem ht_good {P : List Int} {T : ByteArray} (h : okHo P T = true) : htV P T = textH P T P.length := by simp [htV, h]
theorem keepH_call {b bb n : Nat} {i : Nat} {u v x : Value} {w0 w1 w2 : World} (h : w1.cell? ⟨b, 0, none⟩ = some u ∧ w1.cell? ⟨b, 1, none⟩ = some v ∧ w1.cell? ⟨bb, i, none⟩ = some x ∧ Below n w0 w1 ∧ n ≤ w1.heap.size) (hb : Below w1.heap.size w1 w2) :
    w2.cell? ⟨b, 0, none⟩ = some u ∧ w2.cell? ⟨b, 1, none⟩ = some v ∧ w2.cell? ⟨bb, i, none⟩ = some x ∧ Below n w0 w2 ∧ n ≤ w2.heap.size := by
  obtain ⟨h0, h1, h2, h3, h4⟩ := h
  exact ⟨(hb.cell (World.block_lt_of_cell? w1 _ h0)).trans h0, (hb.cell (World.block_lt_of_cell? w1 _ h1)).trans h1, (hb.cell (World.block_lt_of_cell? w1 _ h2)).trans h2, h3.trans (hb.mono h4), Nat.le_trans h4 hb.size⟩
/-- One byte as a text. -/
theorem conv_one (x : UInt8) (g : Nat) (wx : World) (h : wx.cell? ⟨g, 0, none⟩ = some (.int .u8 (x.toNat : Int))) : (convert 83 9 (.slice (some ⟨g, 0, none⟩) 1 1)).run Tryd.prog wx = .ok (.string ⟨#[x]⟩) wx :=
  run_convert_bytes_back (P := Tryd.prog) wx 83 9 5 ⟨g, 0, none⟩ 1 [x] Tryd.underlying83 Tryd.underlying5 Tryd.underlying9 (fun j hj => by
    have : j = 0 := by simpa using hj
    subst this
    exact h)
theorem one_facts {w w1 : World} {x : Value} {t : TypeId} (hb : Below (w.alloc (.cells #[x] t)).heap.size (w.alloc (.cells #[x] t)) w1) : w1.cell? ⟨w.heap.size, 0, none⟩ = some x ∧ w1.frozen? ⟨w.heap.size, 0, none⟩ = false := by
  have h : w1.heap[w.heap.size]? = some (.cells #[x] t (0, 0)) := (hb.block _ (by simp)).trans (heap_alloc_new w _)
  exact ⟨(cell_of_block h 0).trans rfl, unfrozen_of_block h 0⟩
set_option maxRecDepth 100000 in
set_option maxHeartbeats 12800000 in
theorem text_spec (P : List Int) (T : ByteArray) (a : Option Addr) (cap : Nat) (hr : runsB P = true) (hl : P.length ≤ 12) (hT : T.size = P.length) (b : Nat) (w : World) (hb : HoBox b a cap P T w) (ha : IntArg w a P) :
    Calls Tryd.prog 72 #[.pointer (some ⟨b, 0, none⟩)] w fun e w' => e = .returned (.string (textH P T P.length)) ∧ Below w.heap.size w w' := by
  have HB := Lib.hid hb
  have HA := Lib.hid ha
  have HR := Lib.hid hr
  clear hb ha hr
  go_enter Tryd.func72, Tryd.ntmps72
  go_wp2
  go_loopw [3, 4] (fun t i wr => ∃ (k : Nat) (O : ByteArray), t = .string O ∧ i = .int .i64 (k : Int) ∧ k ≤ P.length ∧ Hid (textH P T k = O) ∧ Hid (Below w.heap.size w wr)) (fun _ i _ => P.length - (intOf i).toNat)
  case atStart => exact ⟨0, _, rfl, rfl, Nat.zero_le _, textH_zero P T, Below.refl _ _⟩
  case round =>
    obtain ⟨k, O, rfl, rfl, hk, hO, hB⟩ := hrel
    obtain ⟨f0, f1⟩ := HB.out.later hB.out
    have hOs : O.size ≤ 24 * k := by rw [← hO.out]; exact textH_size HR.out T k hk (by omega)
    by_cases hlt : k < P.length
    · have hlt' : (k : Int) < (P.length : Int) := by omega
      have hk0 : (0 : Int) ≤ (k : Int) := by omega
      have hkT : k < T.size := by omega
      have hkT' : (k : Int) < (T.size : Int) := by omega
      obtain ⟨bb, o, z, rfl, hz, hat⟩ := (HA.out.later hB.out).at hlt
      have c0 := hat k z hz
      have hzb := runsB_at HR.out hz
      have HZ := Lib.hid hz
      have CD := Lib.hid (fun wx => dec_spec z (by omega) (by omega) wx)
      have hds := itoa_small (z := z) ⟨by omega, by omega⟩
      obtain ⟨D, hD⟩ : ∃ D : ByteArray, ⟨(Lib.itoa z).toArray⟩ = D := ⟨_, rfl⟩
      have HS : Hid (0 < k → textH P T (k + 1) = (O ++ ⟨#[32]⟩) ++ (D ++ ⟨#[T[k]'hkT]⟩)) := fun h => by rw [textH_succ HZ.out hkT h, hO.out, hD]
      rw [hD] at CD hds
      have KB : Hid (∀ w1 w2, Below w1.heap.size w1 w2 → HoBox b (some ⟨bb, o, none⟩) cap P T w1 → HoBox b (some ⟨bb, o, none⟩) cap P T w2) := fun w1 w2 h h1 => h1.later h
      clear hat hz
      have HS0 : Hid (k = 0 → textH P T (k + 1) = O ++ (D ++ ⟨#[T[k]'hkT]⟩)) := fun h => by
        subst h
        rw [show (0 : Nat) + 1 = 1 from rfl, textH_one HZ.out hkT, hD, ← hO.out, textH_zero]
        apply ByteArray.ext
        simp
      clear hD
      by_cases h0 : 0 < k
      · have h0' : (0 : Int) < (k : Int) := by omega
        have HS := Lib.hid (HS.out h0)
        have CV := fun g wx h => conv_one (T[k]'hkT) g wx h
        have CW : ∀ wx : World, (convert 83 9 (.slice (some ⟨wx.heap.size, 0, none⟩) 1 1)).run Tryd.prog (wx.alloc (.cells #[.int .u8 ((T[k]'hkT).toNat : Int)] 5)) = .ok (.string ⟨#[T[k]'hkT]⟩) (wx.alloc (.cells #[.int .u8 ((T[k]'hkT).toNat : Int)] 5)) := fun wx => conv_one _ _ _ ((cell_of_block (heap_alloc_new wx _) 0).trans rfl)
        have hlt1 : b < wr.heap.size := World.block_lt_of_cell? wr _ f0
        have hlt2 : bb < wr.heap.size := World.block_lt_of_cell? wr _ c0
        have HF := Lib.hid (show HoBox b (some ⟨bb, o, none⟩) cap P T wr.drew from ⟨f0, f1⟩)
        go_wp2_with fail
        go_region_held (fun w' => w'.cell? ⟨b, 0, none⟩ = some (.slice (some ⟨bb, o, none⟩) P.length cap) ∧ w'.cell? ⟨b, 1, none⟩ = some (.string T) ∧ w'.cell? ⟨bb, o + k, none⟩ = some (.int .i64 z) ∧ Below wr.heap.size wr w' ∧ wr.heap.size ≤ w'.heap.size)
          (first | exact keepH_call (by assumption) hb | exact keepH_call (by assumption) (balloc0 _ _) | assumption | exact ⟨f0, f1, c0, (Below.refl _ _).drew, Nat.le_refl _⟩)
          (first | (go_at_call 91; refine (CD.out _).mono ?_; rintro e w1 ⟨rfl, hb⟩; try (have hq := one_facts (w := wr.drew) hb; obtain ⟨q0, q1⟩ := hq; change w1.cell? ⟨wr.heap.size, 0, none⟩ = _ at q0; change w1.frozen? ⟨wr.heap.size, 0, none⟩ = _ at q1)))
        all_goals
          go_wp2
          go_roundw
          case rel => exact ⟨k + 1, _, rfl, by go_num, by omega, HS.out, bnext hB.out (by first | assumption | (go_split_ands; assumption))⟩
          case measure => simp [intOf]; omega
      · have h0' : ¬ (0 : Int) < (k : Int) := by omega
        have HS := Lib.hid (HS0.out (by omega))
        have CV := fun g wx h => conv_one (T[k]'hkT) g wx h
        have CW : ∀ wx : World, (convert 83 9 (.slice (some ⟨wx.heap.size, 0, none⟩) 1 1)).run Tryd.prog (wx.alloc (.cells #[.int .u8 ((T[k]'hkT).toNat : Int)] 5)) = .ok (.string ⟨#[T[k]'hkT]⟩) (wx.alloc (.cells #[.int .u8 ((T[k]'hkT).toNat : Int)] 5)) := fun wx => conv_one _ _ _ ((cell_of_block (heap_alloc_new wx _) 0).trans rfl)
        have hlt1 : b < wr.heap.size := World.block_lt_of_cell? wr _ f0
        have hlt2 : bb < wr.heap.size := World.block_lt_of_cell? wr _ c0
        have HF := Lib.hid (show HoBox b (some ⟨bb, o, none⟩) cap P T wr.drew from ⟨f0, f1⟩)
        go_wp2_with fail
        go_region_held (fun w' => w'.cell? ⟨b, 0, none⟩ = some (.slice (some ⟨bb, o, none⟩) P.length cap) ∧ w'.cell? ⟨b, 1, none⟩ = some (.string T) ∧ w'.cell? ⟨bb, o + k, none⟩ = some (.int .i64 z) ∧ Below wr.heap.size wr w' ∧ wr.heap.size ≤ w'.heap.size)
          (first | exact keepH_call (by assumption) hb | exact keepH_call (by assumption) (balloc0 _ _) | assumption | exact ⟨f0, f1, c0, (Below.refl _ _).drew, Nat.le_refl _⟩)
          (first | (go_at_call 91; refine (CD.out _).mono ?_; rintro e w1 ⟨rfl, hb⟩; try (have hq := one_facts (w := wr.drew) hb; obtain ⟨q0, q1⟩ := hq; change w1.cell? ⟨wr.heap.size, 0, none⟩ = _ at q0; change w1.frozen? ⟨wr.heap.size, 0, none⟩ = _ at q1)))
        all_goals
          go_wp2
          go_roundw
          case rel => exact ⟨k + 1, _, rfl, by go_num, by omega, HS.out, bnext hB.out (by first | assumption | (go_split_ands; assumption))⟩
          case measure => simp [intOf]; omega
    · have hge : ¬ (k : Int) < (P.length : Int) := by omega
      have hkn : k = P.length := by omega
      have HE : Hid (textH P T P.length = O) := by rw [← hkn]; exact hO
      go_wp2
      go_ret
      exact ⟨by rw [HE.out]; rfl, hB.out⟩
set_option maxRecDepth 100000 in
set_option maxHeartbeats 1600000 in
theorem houseText_spec (P : List Int) (T : ByteArray) (a : Option Addr) (cap : Nat) (hl : P.length ≤ 1048576) (hs : T.size ≤ 1048576) (w : World) (ha : IntArg w a P) :
    Calls Tryd.prog 44 #[.agg #[.slice a P.length cap, .string T]] w fun e w' => e = .returned (.string (htV P T)) ∧ Below w.heap.size w w' := by
  obtain ⟨W0, hW⟩ : ∃ W0, w.alloc (.cells #[.slice a P.length cap, .string T] 27) = W0 := ⟨_, rfl⟩
  have E0 : Hid (Below w.heap.size w W0) := by show Below w.heap.size w W0; rw [← hW]; exact balloc0 _ _
  have HB : Hid (HoBox w.heap.size a cap P T W0) := by show HoBox _ _ _ _ _ _; rw [← hW]; exact HoBox.new w _
  have C := Lib.hid (okH_spec P T a cap hl hs w.heap.size W0 HB.out (ha.later E0.out))
  have HW := Lib.hid hW
  have HA := Lib.hid (ha.later E0.out)
  clear hW ha
  cases h : okHo P T
  · rw [ht_bad h]
    rw [h] at C
    clear h
    go_enter Tryd.func44, Tryd.ntmps44
    go_wp2_with fail
    rw [HW.out]
    refine C.out.mono ?_
    rintro e w1 ⟨rfl, hb1⟩
    have B1 := Lib.hid (bnext E0.out hb1)
    clear hb1
    go_wp2
    go_ret
    exact ⟨rfl, B1.out⟩
  · rw [ht_good h]
    rw [h] at C
    obtain ⟨h4, h12, hT, hr⟩ := okHo_size h
    have TX := Lib.hid (fun wx hb hx => text_spec P T a cap hr h12 hT w.heap.size wx hb hx)
    obtain ⟨O, hO⟩ : ∃ O, textH P T P.length = O := ⟨_, rfl⟩
    rw [hO] at TX ⊢
    clear h hr hO
    go_enter Tryd.func44, Tryd.ntmps44
    go_wp2_with fail
    rw [HW.out]
    refine C.out.mono ?_
    rintro e w1 ⟨rfl, hb1⟩
    have B1 := Lib.hid (bnext E0.out hb1)
    have HB1 := Lib.hid (HB.out.later hb1)
    have HA1 := Lib.hid (HA.out.later hb1)
    clear hb1
    go_wp2_with fail
    refine (TX.out _ HB1.out HA1.out).mono ?_
    rintro e w2 ⟨rfl, hb2⟩
    have B2 := Lib.hid (bnext B1.out hb2)
    clear hb2
    go_wp2
    go_ret
    exact ⟨rfl, B2.out⟩
end Go.Proofs.YtikjielgnlgnjaaDoor
