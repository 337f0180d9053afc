/-
  slices.Repeat of a row of one number, walked at the library's own text; math/bits.Mul by its contract.
-/
import Derived.Test.YtmbmbkagmkmhlaaIRow
import Derived.Test.YtmbmbkagmkmhlaaHoLP
import Derived.Test.YtmbmbkagmkmhlaaShelfM
import Derived.Laws.CopyOwn
import Derived.Deep.RegionLaw
namespace Go.Proofs.Ytmbmbkagmkmhlaa
open Go.ChangeShapes Go.WideShapes Go.ChangeAt Go.RowKit Go.Joins

theorem row_cell {w : World} {g : Nat} {C : Array Value} {t : TypeId} (h : w.heap[g]? = some (.cells C t (0, 0))) (k : Nat) : w.cell? ⟨g, k, none⟩ = C[k]? := cell_of_row _ _ _ _ t (0, 0) h
theorem row_frozen {w : World} {g : Nat} {C : Array Value} {t : TypeId} (h : w.heap[g]? = some (.cells C t (0, 0))) (k : Nat) : w.frozen? ⟨g, k, none⟩ = false := by
  simp [World.frozen?, h]
def repV (n : Nat) (t : Int) : List Value := List.replicate n (.int .i64 t)
theorem row_own {w : World} {B g n : Nat} {t : Int} {L : List Value} (h : w.heap[g]? = some (.cells L.toArray 2 (0, 0))) (hB : B ≤ g) (hL : L = repV n t) : IntOwn B (List.replicate n t) g w := by
  subst hL
  have hg : g < w.heap.size := (Array.getElem?_eq_some_iff.1 h).1
  refine ⟨hB, fun k z hk => ?_, fun j hj => ?_, hg⟩
  · have hl := (List.getElem?_eq_some_iff.1 hk).1
    rw [List.length_replicate] at hl
    have e : z = t := by simpa [hl] using hk.symm
    rw [Nat.zero_add, row_cell h, e]
    simp [repV, hl]
  · rw [List.length_replicate] at hj
    rw [Nat.zero_add]
    exact ⟨by rw [row_cell h]; simp [repV, hj], row_frozen h j⟩
theorem splice_rep {L : List Value} {n m c : Nat} {t : Int} (hl : L.length = c) (hn : L.take n = repV n t) (hm : n + m ≤ c) : (splice L n (repV m t)).take (n + m) = repV (n + m) t ∧ (splice L n (repV m t)).length = c := by
  refine ⟨?_, by rw [length_splice _ _ _ (by simp [repV]; omega), hl]⟩
  unfold splice
  rw [hn, ← List.append_assoc, List.take_append_of_le_length (by simp [repV])]
  rw [List.take_of_length_le (by simp [repV])]
  simp [repV, ← List.replicate_append_replicate]
set_option maxRecDepth 100000 in
set_option maxHeartbeats 12800000 in
theorem repeatQ_impl (t : Int) (c b : Nat) (hc0 : 1 ≤ c) (hc1 : c ≤ 40) (w : World) (hb : w.cell? ⟨b, 0, none⟩ = some (.int .i64 t)) :
    Calls Try.prog 58 #[.slice (some ⟨b, 0, none⟩) 1 1, .int .i64 (c : Int)] w fun e w' => ∃ g, e = .returned (.slice (some ⟨g, 0, none⟩) c c) ∧ IntOwn w.heap.size (List.replicate c t) g w' ∧ Below w.heap.size w w' := by
  have hmk := make_ints c (by omega) w
  have hM := heap_alloc_new w (.cells (madeCells #[.int .i64 0] c) 2)
  have hMs : (madeCells #[.int .i64 0] c).size = c := by rw [size_madeCells]
  obtain ⟨L0, hL0⟩ : ∃ L0 : List Value, (madeCells #[.int .i64 0] c).toList = L0 := ⟨_, rfl⟩
  have hLa : madeCells #[.int .i64 0] c = L0.toArray := by rw [← hL0]
  have hLl : L0.length = c := by rw [← hL0]; simpa using hMs
  rw [hLa] at hmk hM
  have HM := Lib.hid hM
  have HLl := Lib.hid hLl
  have hb1 : (w.alloc (.cells L0.toArray 2)).cell? ⟨b, 0, none⟩ = some (.int .i64 t) := ((balloc0 w _).cell (World.block_lt_of_cell? w _ hb)).trans hb
  have HB1 := Lib.hid hb1
  have M := Lib.hid (Try.bits_Mul 1 c (by omega) (by omega))
  have m1 : 1 * c / 18446744073709551616 = 0 := by omega
  have m2 : 1 * c % 18446744073709551616 = c := by omega
  rw [m1, m2] at M
  have k0 : ¬ (c : Int) < 0 := by omega
  have k1 : ¬ (9223372036854775807 : Int) < (c : Int) := by omega
  have hbl := World.block_lt_of_cell? w _ hb
  have hsz1 : (Try.prog.info? 2).map (·.size) = some 1 := by kernel_rfl
  obtain ⟨W1, hW1⟩ : ∃ W1, w.alloc (.cells L0.toArray 2) = W1 := ⟨_, rfl⟩
  have BW := balloc0 w (.cells L0.toArray 2)
  rw [hW1] at hmk hM hb1 BW
  have hcp := run_copy_row (P := Try.prog) W1 22 22 3 2 w.heap.size 0 c c ⟨b, 0, none⟩ 1 1 L0.toArray 2 [.int .i64 t] Try.underlying22 hsz1 hM (by simp [Nat.min_def]; omega) (fun j v hj => by
    have hj0 : j = 0 := by have := (List.getElem?_eq_some_iff.1 hj).1; simp at this; omega
    subst hj0
    have e : v = .int .i64 t := by simpa using hj.symm
    subst e
    exact hb1) (by simp; omega) (by simp [Value.oneCell'])
  obtain ⟨W2, hW2⟩ : ∃ W2, W1.setRow w.heap.size (L0.toArray.toList.take 0 ++ [Value.int .i64 t] ++ L0.toArray.toList.drop (0 + [Value.int .i64 t].length)).toArray = W2 := ⟨_, rfl⟩
  have G2' := setRow_heap W1 w.heap.size L0.toArray (L0.toArray.toList.take 0 ++ [Value.int .i64 t] ++ L0.toArray.toList.drop (0 + [Value.int .i64 t].length)).toArray 2 (0, 0) hM
  have B2' := below_setRow BW (Nat.le_refl _) (L0.toArray.toList.take 0 ++ [Value.int .i64 t] ++ L0.toArray.toList.drop (0 + [Value.int .i64 t].length)).toArray
  rw [hW2] at hcp G2' B2'
  have hcp1 : Sem.run Try.prog (Builtin.copy_ #[22, 22] 3 #[.slice (some ⟨w.heap.size, 0, none⟩) c c, .slice (some ⟨b, 0, none⟩) 1 1]) W1 = .ok (.int .i64 1) W2 := hcp
  obtain ⟨L2, hL2⟩ : ∃ L2, L0.toArray.toList.take 0 ++ [Value.int .i64 t] ++ L0.toArray.toList.drop (0 + [Value.int .i64 t].length) = L2 := ⟨_, rfl⟩
  rw [hL2] at G2'
  have hL2l : L2.length = c := by rw [← hL2]; simp; omega
  have hL2t : L2.take 1 = repV 1 t := by rw [← hL2]; simp [repV]
  have G2 := Lib.hid G2'
  have B2 := Lib.hid B2'
  have HL2 := Lib.hid hL2l
  have HT2 := Lib.hid hL2t
  clear hM hL0 hLa hLl hMs hb hb1 m1 m2 hcp hW2 G2' B2' hL2 hL2l hL2t HB1 BW HM HLl hW1
  go_enter Try.func58, Try.ntmps58
  go_wp2_with fail
  refine (M.out _).mono ?_
  rintro e w1 ⟨rfl, hw1⟩
  rw [hw1]
  clear hw1
  go_wp2
  clear hmk hcp1
  go_loopw [8] (fun i wr => ∃ (n : Nat) (L : List Value), 1 ≤ n ∧ n ≤ c ∧ i = .int .i64 (n : Int) ∧ Hid (L.length = c) ∧ Hid (L.take n = repV n t) ∧ Hid (wr.heap[w.heap.size]? = some (.cells L.toArray 2 (0, 0))) ∧ Hid (Below w.heap.size w wr)) (fun i _ => c - (intOf i).toNat)
  case atStart => exact ⟨1, L2, Nat.le_refl _, hc0, rfl, HL2.out, HT2.out, G2.out, B2.out⟩
  case round =>
    obtain ⟨n, L, hn0, hn, rfl, hLl, hLt, hG, hB⟩ := hrel
    by_cases hlt : n < c
    · have hlt' : (n : Int) < (c : Int) := by omega
      have hn0' : (0 : Int) ≤ (n : Int) := by omega
      have hnc : (n : Int) ≤ (c : Int) := by omega
      obtain ⟨m, hm⟩ : ∃ m, Nat.min n (c - n) = m := ⟨_, rfl⟩
      have hm' : min n (c - n) = m := hm
      have hm1 : 1 ≤ m ∧ m ≤ n ∧ n + m ≤ c := by omega
      obtain ⟨hm0, hmn, hmc⟩ := hm1
      have hmc2 : (repV m t).length = Nat.min n (c - n) := by rw [hm]; simp [repV]
      have HSP := Lib.hid (splice_rep (m := m) hLl.out hLt.out hmc)
      have HSRC : Hid (∀ (wx : World), wx.heap[w.heap.size]? = some (.cells L.toArray 2 (0, 0)) → ∀ j v, (repV m t)[j]? = some v → wx.cell? ((⟨w.heap.size, 0, none⟩ : Addr).add j) = some v) := fun wx hx j v hj => by
        have hl := (List.getElem?_eq_some_iff.1 hj).1
        have hl2 : j < m := by simpa [repV] using hl
        have e : v = .int .i64 t := by simpa [repV, hl2] using hj.symm
        rw [Addr.add_mid, Nat.zero_add, row_cell hx, e]
        have h9 : (L.take n)[j]? = some (.int .i64 t) := by rw [hLt.out]; unfold repV; rw [List.getElem?_replicate, if_pos (by omega)]
        rw [List.getElem?_take] at h9
        split at h9
        · simpa using h9
        · cases h9
      have HMM := Lib.hid hm
      have hwr : IntKind.i64.wrap ((n : Int) + ((Nat.min n (c - n) : Nat) : Int)) = (n : Int) + (m : Int) := by rw [hm]; exact IntWalk.i64_in _ (by omega)
      have HWR := Lib.hid hwr
      clear hm hm' hwr
      go_wp2_with fail
      go_region_law (refine step_copy_splice rfl (.tmp 41) (.tmp 44) 22 22 rfl 2 Try.underlying22 hsz1 (some ⟨w.heap.size, n, none⟩) (some ⟨w.heap.size, 0, none⟩) (c - n) (c - n) n c (by go_simp; omega) (by go_simp) w.heap.size n L 2 hG.out (repV m t) hmc2 (fun _ => ⟨rfl, _, rfl, HSRC.out _ hG.out⟩) (by rw [hLl.out]; simp [repV]; omega) (by simp [repV, Value.oneCell']) w.heap.size w hB.out.drew (Nat.le_refl _) ?_; intro w3 hg3 hb3)
      all_goals
        have G3 : Hid (w3.heap[w.heap.size]? = some (.cells (splice L n (repV m t)).toArray 2 (0, 0))) := hg3.out
        have B3 := Lib.hid hb3
        clear hg3 hb3
        have e9 : (repV m t).length = m := by simp [repV]
        go_wp2
        go_roundw
        case rel =>
          clear M hsz1 HSRC hmc2
          rw [HWR.out]
          exact ⟨n + m, by omega, by omega, by simp, splice L n (repV m t), HSP.out.2, HSP.out.1, G3.out⟩
        case measure => simp only [intOf]; rw [HWR.out]; omega
    · have hge : ¬ (n : Int) < (c : Int) := by omega
      have hnc : n = c := by omega
      have HR := Lib.hid (row_own hG.out (Nat.le_refl _) (show L = repV c t by rw [← hnc, ← hLt.out, List.take_of_length_le (by rw [hLl.out]; omega)]))
      clear hnc
      go_wp2
      go_ret
      exact ⟨w.heap.size, rfl, HR.out, hB.out⟩
end Go.Proofs.Ytmbmbkagmkmhlaa
