/-
  What the laws ask of plans before and behind the call: their size, copies, equality, marks.
-/
import Derived.Test.YtikjielgnlgnjaaDoorHo
import Derived.Test.YtikjielgnlgnjaaDoorInts
import Derived.WalkSmall
import Derived.Deep.QuietTactic
import Derived.BigQuiet
namespace Go.Proofs.YtikjielgnlgnjaaDoor
open Go.ChangeShapes Go.WideShapes Go.ChangeAt Go.RowKit Go.Joins

theorem boxH (w : World) (v : Value) (T : ByteArray) (t : TypeId) : (w.alloc (.cells #[v, .string T] t)).cell? ⟨w.heap.size, 0, none⟩ = some v ∧ (w.alloc (.cells #[v, .string T] t)).cell? ⟨w.heap.size, 1, none⟩ = some (.string T) := by
  refine ⟨?_, ?_⟩ <;> (rw [cell_of_row _ _ _ _ t (0, 0) (heap_alloc_new w _)]; rfl)
theorem sz_ints (P : List Int) (a : Option Addr) (cap : Nat) (left : Int) (h0 : 0 ≤ left) (h1 : left ≤ 1048576) (hl : P.length ≤ 9223372036854775807) (w : World) :
    Calls Tryd.prog 50 #[.slice a P.length cap, .int .i64 left] w fun e w' => ∃ r : Int, e = .returned (.int .i64 r) ∧ -1 ≤ r ∧ r ≤ left ∧ (0 ≤ r → P.length ≤ 1048576) ∧ w = w' := by
  by_cases hm : left - (P.length : Int) < 0
  · go_enter Tryd.func50, Tryd.ntmps50
    go_wp2
    go_ret
    exact ⟨-1, rfl, by omega, by omega, fun h => by omega, rfl⟩
  · go_enter Tryd.func50, Tryd.ntmps50
    go_wp2
    go_ret
    exact ⟨left - (P.length : Int), rfl, by omega, by omega, fun h => by omega, rfl⟩
set_option maxHeartbeats 1600000 in
theorem sz_house (P : List Int) (T : ByteArray) (a : Option Addr) (cap : Nat) (left : Int) (h0 : 0 ≤ left) (h1 : left ≤ 1048576) (hn : T.size ≤ 9223372036854775807) (hl : P.length ≤ 9223372036854775807) (w : World) :
    Calls Tryd.prog 15 #[.agg #[.slice a P.length cap, .string T], .int .i64 left] w fun e w' => ∃ r : Int, e = .returned (.int .i64 r) ∧ -1 ≤ r ∧ r ≤ left ∧ (0 ≤ r → T.size ≤ 1048576 ∧ P.length ≤ 1048576) ∧ Below w.heap.size w w' := by
  have C := Lib.hid (fun wx => sz_ints P a cap left h0 h1 hl wx)
  obtain ⟨d0, d1⟩ := boxH w (.slice a P.length cap) T 24
  go_enter Tryd.func15, Tryd.ntmps15
  go_wp2_with fail
  refine (C.out _).mono ?_
  rintro e w1 ⟨q, rfl, hq0, hq1, hq2, rfl⟩
  have HQ := Lib.hid hq2
  clear hq2
  by_cases hq : q < 0
  · go_wp2
    go_ret
    exact ⟨-1, rfl, by omega, by omega, fun h => by omega, balloc0 _ _⟩
  by_cases hm : q - (T.size : Int) < 0
  · go_wp2
    go_ret
    exact ⟨-1, rfl, by omega, by omega, fun h => by omega, balloc0 _ _⟩
  · go_wp2
    go_ret
    exact ⟨q - (T.size : Int), rfl, by omega, by omega, fun h => ⟨by omega, HQ.out (by omega)⟩, balloc0 _ _⟩
theorem make_ints (n : Nat) (hn : n ≤ 1048576) (w : World) : (Instr.makeSlice 22 (.int .i64 (n : Int)) (.int .i64 (n : Int))).run Tryd.prog w = .ok (.slice (some ⟨w.heap.size, 0, none⟩) n n) (w.alloc (.cells (madeCells #[.int .i64 0] n) 2)) :=
  run_make_row' (P := Tryd.prog) 22 2 (.int .i64 0) 8 Tryd.underlying22 infoInt rfl .i64 .i64 n (by omega) (by omega) w
set_option maxRecDepth 100000 in
set_option maxHeartbeats 1600000 in
theorem to_ints (P : List Int) (a : Option Addr) (cap : Nat) (hl : P.length ≤ 1048576) (w : World) (ha : IntArg w a P) :
    Calls Tryd.prog 52 #[.slice a P.length cap] w fun e w' => ∃ g, e = .returned (.slice (some ⟨g, 0, none⟩) P.length P.length) ∧ IntOwn w.heap.size P g w' ∧ Below w.heap.size w w' := by
  have HA := Lib.hid ha
  clear ha
  have hmk := make_ints P.length hl w
  obtain ⟨C, hC⟩ : ∃ C, madeCells #[.int .i64 0] P.length = C := ⟨_, rfl⟩
  have hCs : C.size = P.length := by rw [← hC, size_madeCells]
  rw [hC] at hmk
  clear hC
  go_enter Tryd.func52, Tryd.ntmps52
  go_wp2
  go_loopw [4] (fun i wr => ∃ (k : Nat), k ≤ P.length ∧ i = .int .i64 k ∧ Hid (∀ (j : Nat) (z : Int), j < k → P[j]? = some z → wr.cell? ⟨w.heap.size, j, none⟩ = some (.int .i64 z)) ∧ Hid (wr.there w.heap.size 0 P.length) ∧ Hid (Below w.heap.size w wr) ∧ w.heap.size < wr.heap.size) (fun i _ => P.length - (intOf i).toNat)
  case atStart => exact ⟨0, Nat.zero_le _, rfl, fun j c hj => by omega, there_new w C _ _ hCs, balloc0 _ _, by simp⟩
  case round =>
    obtain ⟨k, hk, rfl, hM, hT, hB, hsz⟩ := hrel
    by_cases hlt : k < P.length
    · have hlt' : (k : Int) < (P.length : Int) := by omega
      have hk0 : (0 : Int) ≤ (k : Int) := by omega
      obtain ⟨b, o, z, rfl, hz, hat⟩ := (HA.out.later hB.out).at hlt
      have c0 := hat k z hz
      have HZ := Lib.hid hz
      obtain ⟨u, g0, g1⟩ := there_at hT.out hlt
      have IS := Lib.hid (int_store hT.out hlt (.int .i64 z))
      have BS : Hid (Below w.heap.size w (wr.setCell ⟨w.heap.size, k, none⟩ (.int .i64 z))) := hB.out.setCell (p := ⟨w.heap.size, k, none⟩) (Nat.le_refl _) _
      clear hz hat
      go_wp2
      go_roundw
      case rel =>
        refine ⟨k + 1, by omega, by go_num, fun j d hj hd => ?_, IS.out.1, BS.out, by simpa [World.setCell] using hsz⟩
        by_cases e : j = k
        · subst e
          rw [HZ.out] at hd
          cases hd
          exact IS.out.2.1
        · rw [IS.out.2.2 _ (fun h => e (by cases h; rfl))]
          exact hM.out j d (by omega) hd
      case measure => simp [intOf]; omega
    · have hge : ¬ (k : Int) < (P.length : Int) := by omega
      have hkn : k = P.length := by omega
      subst hkn
      go_wp2
      go_ret
      exact ⟨_, rfl, ⟨Nat.le_refl _, fun j c hj => by rw [Nat.zero_add]; exact hM.out j c (List.getElem?_eq_some_iff.1 hj).1 hj, hT.out, hsz⟩, hB.out⟩
theorem IntOwn.only {B b : Nat} {P : List Int} {g : Nat} {w w' : World} (h : IntOwn B P g w) (ho : Only b w w') (hne : g ≠ b) : IntOwn B P g w' := by
  refine ⟨h.1, fun k z hk => ?_, ho.there hne h.2.2.1, Nat.lt_of_lt_of_le h.2.2.2 ho.size⟩
  have h3 := h.2.1 k z hk
  rw [World.cell?_of_block (w := w) (a := ⟨g, 0 + k, none⟩) (ho.block g h.2.2.2 (fun e => hne (by cases e; rfl)))]
  exact h3
theorem IntOwn.set {B : Nat} {P : List Int} {g b o : Nat} {v : Value} {w : World} (h : IntOwn B P g w) (hne : g ≠ b) : IntOwn B P g (w.setCell ⟨b, o, none⟩ v) := h.only ((Only.refl b w).set o v) hne

theorem to_house (P : List Int) (T : ByteArray) (a : Option Addr) (cap : Nat) (hl : P.length ≤ 1048576) (w : World) (ha : IntArg w a P) :
    Calls Tryd.prog 17 #[.agg #[.slice a P.length cap, .string T]] w fun e w' => ∃ g, e = .returned (.agg #[.slice (some ⟨g, 0, none⟩) P.length P.length, .string T]) ∧ IntOwn w.heap.size P g w' ∧ Below w.heap.size w w' := by
  have C := Lib.hid (fun wx (hx : Below w.heap.size w wx) => to_ints P a cap hl wx (ha.later hx))
  clear ha
  go_enter Tryd.func17, Tryd.ntmps17
  go_wp2_with fail
  refine (C.out _ (balloc (balloc (balloc0 _ _) _) _)).mono ?_
  rintro e w1 ⟨g, rfl, o1, hb1⟩
  have A1 : w1.heap[w.heap.size]? = some (.cells #[.slice a P.length cap, .string T] 24 (0, 0)) := by
    rw [hb1.block _ (by simp; omega), Below.heap_alloc _ _ _ (by simp; omega), Below.heap_alloc _ _ _ (by simp)]
    exact heap_alloc_new w _
  have R1 : w1.heap[w.heap.size + 1]? = some (.cells #[.slice none 0 0, .string ⟨#[]⟩] 27 (0, 0)) := by
    rw [hb1.block _ (by simp), Below.heap_alloc _ _ _ (by simp)]
    have := heap_alloc_new (w.alloc (.cells #[.slice a P.length cap, .string T] 24)) (.cells #[.slice none 0 0, .string ⟨#[]⟩] 27)
    simpa using this
  have O1 : w1.heap[w.heap.size + 1 + 1]? = some (.cells #[.slice none 0 0, .string ⟨#[]⟩] 27 (0, 0)) := by
    rw [hb1.block _ (by simp)]
    have := heap_alloc_new ((w.alloc (.cells #[.slice a P.length cap, .string T] 24)).alloc (.cells #[.slice none 0 0, .string ⟨#[]⟩] 27)) (.cells #[.slice none 0 0, .string ⟨#[]⟩] 27)
    simpa using this
  have B1 : Hid (Below w.heap.size w w1) := bnext (balloc (balloc (balloc0 _ _) _) _) hb1
  have O2 : Hid (IntOwn w.heap.size P g w1) := ⟨by have := o1.1; simp at this; omega, o1.2⟩
  have a1 : w1.cell? ⟨w.heap.size, 1, none⟩ = some (.string T) := (cell_of_block A1 1).trans rfl
  have r0 : w1.cell? ⟨w.heap.size + 1, 0, none⟩ = some (.slice none 0 0) := (cell_of_block R1 0).trans rfl
  have r1 : w1.cell? ⟨w.heap.size + 1, 1, none⟩ = some (.string ⟨#[]⟩) := (cell_of_block R1 1).trans rfl
  have q0 : w1.frozen? ⟨w.heap.size + 1, 0, none⟩ = false := unfrozen_of_block R1 0
  have q1 : w1.frozen? ⟨w.heap.size + 1, 1, none⟩ = false := unfrozen_of_block R1 1
  have p0 : w1.cell? ⟨w.heap.size + 1 + 1, 0, none⟩ = some (.slice none 0 0) := (cell_of_block O1 0).trans rfl
  have p1 : w1.cell? ⟨w.heap.size + 1 + 1, 1, none⟩ = some (.string ⟨#[]⟩) := (cell_of_block O1 1).trans rfl
  have s0 : w1.frozen? ⟨w.heap.size + 1 + 1, 0, none⟩ = false := unfrozen_of_block O1 0
  have s1 : w1.frozen? ⟨w.heap.size + 1 + 1, 1, none⟩ = false := unfrozen_of_block O1 1
  have G : Hid (g ≠ w.heap.size + 1 ∧ g ≠ w.heap.size + 1 + 1) := by have := o1.1; simp at this; exact ⟨by omega, by omega⟩
  clear hb1 A1 R1 O1 o1
  go_wp2_with fail
  refine bodyPost_ret (v := .agg #[.slice (some ⟨g, 0, none⟩) P.length P.length, .string T]) (by simp [results, Tryd.results17, go_sem, r0, r1]) rfl ⟨g, rfl, ?_, ?_⟩
  · exact (((O2.out.set G.out.2).set G.out.2).set G.out.1).set G.out.1
  · exact (((B1.out.setCell (p := ⟨w.heap.size + 1 + 1, 0, none⟩) (by show _ ≤ w.heap.size + 1 + 1; omega) _).setCell (p := ⟨w.heap.size + 1 + 1, 1, none⟩) (by show _ ≤ w.heap.size + 1 + 1; omega) _).setCell (p := ⟨w.heap.size + 1, 0, none⟩) (Nat.le_add_right _ _) _).setCell (p := ⟨w.heap.size + 1, 1, none⟩) (Nat.le_add_right _ _) _

set_option maxRecDepth 100000 in
set_option maxHeartbeats 1600000 in
theorem eq_house (P : List Int) (T : ByteArray) (a a' : Option Addr) (cap cap' : Nat) (hl : P.length ≤ 1048577) (w : World) (ha : IntArg w a P) (ha' : IntArg w a' P) :
    Calls Tryd.prog 19 #[.agg #[.slice a P.length cap, .string T], .agg #[.slice a' P.length cap', .string T]] w fun e w' => e = .returned (.bool true) ∧ Below w.heap.size w w' := by
  have C := Lib.hid (fun wx (hx : Below w.heap.size w wx) => eq_ints P a a' cap cap' hl wx (ha.later hx) (ha'.later hx))
  clear ha ha'
  obtain ⟨d0, d1⟩ := boxH w (.slice a P.length cap) T 27
  obtain ⟨f0, f1⟩ := boxH (w.alloc (.cells #[.slice a P.length cap, .string T] 27)) (.slice a' P.length cap') T 27
  have d1' := (World.cell?_alloc_lt (w.alloc (.cells #[.slice a P.length cap, .string T] 27)) (.cells #[.slice a' P.length cap', .string T] 27) ⟨w.heap.size, 1, none⟩ (by simp)).trans d1
  have hsz : (w.alloc (.cells #[.slice a P.length cap, .string T] 27)).heap.size = w.heap.size + 1 := by simp
  rw [hsz] at f0 f1
  obtain ⟨W0, hW⟩ : ∃ W0, (w.alloc (.cells #[.slice a P.length cap, .string T] 27)).alloc (.cells #[.slice a' P.length cap', .string T] 27) = W0 := ⟨_, rfl⟩
  have E0 : Hid (Below w.heap.size w W0) := by show Below w.heap.size w W0; rw [← hW]; exact balloc (balloc0 _ _) _
  rw [hW] at d1' f0 f1
  have HW := Lib.hid hW
  have K : Hid (∀ wx, Below W0.heap.size W0 wx → wx.cell? ⟨w.heap.size, 1, none⟩ = some (.string T) ∧ wx.cell? ⟨w.heap.size + 1, 1, none⟩ = some (.string T)) := fun wx hx =>
    ⟨(hx.cell (World.block_lt_of_cell? W0 _ d1')).trans d1', (hx.cell (World.block_lt_of_cell? W0 _ f1)).trans f1⟩
  clear hW hsz d0 d1 d1' f0 f1
  go_enter Tryd.func19, Tryd.ntmps19
  go_wp2_with fail
  rw [HW.out]
  refine (C.out _ E0.out).mono ?_
  rintro e w1 ⟨rfl, hb1⟩
  obtain ⟨k0, k1⟩ := K.out _ hb1
  have B1 := Lib.hid (bnext E0.out hb1)
  clear hb1
  go_wp2
  go_ret
  exact ⟨rfl, B1.out⟩
theorem mark_house (P : List Int) (T : ByteArray) (hn : P.length ≤ 1048577) (K : Nat) (hK2 : K ≤ 100000000) (B g cap : Nat) (w : World) (h : IntOwn B P g w) :
    Calls Tryd.prog 29 #[.agg #[.slice (some ⟨g, 0, none⟩) P.length cap, .string T], .int .i64 K] w fun e w' => e = .returned (.int .i64 ((K + P.length : Nat) : Int)) ∧ Only g w w' ∧ IntOwn B (marksL K P.length) g w' := by
  have C := Lib.hid (fun wx (hx : Below w.heap.size w wx) => mark_ints P hn K hK2 B g cap wx (h.later hx))
  clear h
  go_enter Tryd.func29, Tryd.ntmps29
  go_wp2_with fail
  refine (C.out _ (balloc0 _ _)).mono ?_
  rintro e w1 ⟨rfl, ho, hc⟩
  have O1 : Hid (Only g w w1) := by
    show Only g w w1
    have hb := balloc0 w (.cells #[.slice (some ⟨g, 0, none⟩) P.length cap, .string T] 27)
    exact ⟨ho.os.trans hb.os, ho.tape.trans hb.tape, ho.output.trans hb.output, Nat.le_trans hb.size ho.size, fun i hi hne => (ho.block i (Nat.lt_of_lt_of_le hi hb.size) hne).trans (hb.block i hi)⟩
  have C1 := Lib.hid hc
  clear ho hc
  go_wp2
  go_ret
  exact ⟨rfl, O1.out, C1.out⟩
end Go.Proofs.YtikjielgnlgnjaaDoor
