/-
  What the laws ask of plans before and behind the call: their size, copies, equality, marks.
-/
import Derived.Test.YtlglijalhacmhabBase
import Derived.Test.YtlglijalhacmhabInts
import Derived.WalkSmall
import Derived.Deep.QuietTactic
import Derived.BigQuiet
namespace Go.Proofs.Ytlglijalhacmhab
open Go.ChangeShapes Go.WideShapes Go.ChangeAt Go.RowKit Go.Joins


theorem boxH (w : World) (v : Value) (T : ByteArray) (t : TypeId) : (w.alloc (.cells #[v, .string T] t)).cell? ⟨w.heap.size, 0, none⟩ = some v ∧ (w.alloc (.cells #[v, .string T] t)).cell? ⟨w.heap.size, 1, none⟩ = some (.string T) := by
  refine ⟨?_, ?_⟩ <;> (rw [cell_of_row _ _ _ _ t (0, 0) (heap_alloc_new w _)]; rfl)
theorem make_ints (n : Nat) (hn : n ≤ 1048576) (w : World) : (Instr.makeSlice 23 (.int .i64 (n : Int)) (.int .i64 (n : Int))).run Try.prog w = .ok (.slice (some ⟨w.heap.size, 0, none⟩) n n) (w.alloc (.cells (madeCells #[.int .i64 0] n) 2)) :=
  run_make_row' (P := Try.prog) 23 2 (.int .i64 0) 8 Try.underlying23 infoInt rfl .i64 .i64 n (by omega) (by omega) w
set_option maxRecDepth 100000 in
set_option maxHeartbeats 1600000 in
theorem to_ints (P : List Int) (a : Option Addr) (cap : Nat) (hl : P.length ≤ 1048576) (w : World) (ha : IntArg w a P) :
    Calls Try.prog 14 #[.slice a P.length cap] w fun e w' => ∃ g, e = .returned (.slice (some ⟨g, 0, none⟩) P.length P.length) ∧ IntOwn w.heap.size P g w' ∧ Below w.heap.size w w' := by
  have HA := Lib.hid ha
  clear ha
  have hmk := make_ints P.length hl w
  obtain ⟨C, hC⟩ : ∃ C, madeCells #[.int .i64 0] P.length = C := ⟨_, rfl⟩
  have hCs : C.size = P.length := by rw [← hC, size_madeCells]
  rw [hC] at hmk
  clear hC
  go_enter Try.func14, Try.ntmps14
  go_wp2
  go_loopw [4] (fun i wr => ∃ (k : Nat), k ≤ P.length ∧ i = .int .i64 k ∧ Hid (∀ (j : Nat) (z : Int), j < k → P[j]? = some z → wr.cell? ⟨w.heap.size, j, none⟩ = some (.int .i64 z)) ∧ Hid (wr.there w.heap.size 0 P.length) ∧ Hid (Below w.heap.size w wr) ∧ w.heap.size < wr.heap.size) (fun i _ => P.length - (intOf i).toNat)
  case atStart => exact ⟨0, Nat.zero_le _, rfl, fun j c hj => by omega, there_new w C _ _ hCs, balloc0 _ _, by simp⟩
  case round =>
    obtain ⟨k, hk, rfl, hM, hT, hB, hsz⟩ := hrel
    by_cases hlt : k < P.length
    · have hlt' : (k : Int) < (P.length : Int) := by omega
      have hk0 : (0 : Int) ≤ (k : Int) := by omega
      obtain ⟨b, o, z, rfl, hz, hat⟩ := (HA.out.later hB.out).at hlt
      have c0 := hat k z hz
      have HZ := Lib.hid hz
      obtain ⟨u, g0, g1⟩ := there_at hT.out hlt
      have IS := Lib.hid (int_store hT.out hlt (.int .i64 z))
      have BS : Hid (Below w.heap.size w (wr.setCell ⟨w.heap.size, k, none⟩ (.int .i64 z))) := hB.out.setCell (p := ⟨w.heap.size, k, none⟩) (Nat.le_refl _) _
      clear hz hat
      go_wp2
      go_roundw
      case rel =>
        refine ⟨k + 1, by omega, by go_num, fun j d hj hd => ?_, IS.out.1, BS.out, by simpa [World.setCell] using hsz⟩
        by_cases e : j = k
        · subst e
          rw [HZ.out] at hd
          cases hd
          exact IS.out.2.1
        · rw [IS.out.2.2 _ (fun h => e (by cases h; rfl))]
          exact hM.out j d (by omega) hd
      case measure => simp [intOf]; omega
    · have hge : ¬ (k : Int) < (P.length : Int) := by omega
      have hkn : k = P.length := by omega
      subst hkn
      go_wp2
      go_ret
      exact ⟨_, rfl, ⟨Nat.le_refl _, fun j c hj => by rw [Nat.zero_add]; exact hM.out j c (List.getElem?_eq_some_iff.1 hj).1 hj, hT.out, hsz⟩, hB.out⟩
theorem IntOwn.only {B b : Nat} {P : List Int} {g : Nat} {w w' : World} (h : IntOwn B P g w) (ho : Only b w w') (hne : g ≠ b) : IntOwn B P g w' := by
  refine ⟨h.1, fun k z hk => ?_, ho.there hne h.2.2.1, Nat.lt_of_lt_of_le h.2.2.2 ho.size⟩
  have h3 := h.2.1 k z hk
  rw [World.cell?_of_block (w := w) (a := ⟨g, 0 + k, none⟩) (ho.block g h.2.2.2 (fun e => hne (by cases e; rfl)))]
  exact h3
theorem IntOwn.set {B : Nat} {P : List Int} {g b o : Nat} {v : Value} {w : World} (h : IntOwn B P g w) (hne : g ≠ b) : IntOwn B P g (w.setCell ⟨b, o, none⟩ v) := h.only ((Only.refl b w).set o v) hne
end Go.Proofs.Ytlglijalhacmhab
