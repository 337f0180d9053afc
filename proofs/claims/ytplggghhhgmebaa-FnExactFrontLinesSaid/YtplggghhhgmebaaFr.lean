/-
  Fronts: their boxes, and what the laws ask of them before and behind the call: size, copies, equality, marks.
-/
import Derived.Test.YtplggghhhgmebaaOg
import Derived.Test.YtplggghhhgmebaaOgL
import Derived.Test.YtplggghhhgmebaaOgK
import Derived.WalkSmall
import Derived.Deep.QuietTactic
import Derived.BigQuiet
namespace Go.Proofs.Ytplggghhhgmebaa
open Go.ChangeShapes Go.WideShapes Go.ChangeAt Go.RowKit Go.Joins

/-- A front in a box. -/
def FrBox (b : Nat) (F C : Int) (a : Option Addr) (cap : Nat) (L : List Og) (w : World) : Prop := w.cell? ⟨b, 0, none⟩ = some (.int .i64 F) ∧ w.cell? ⟨b, 1, none⟩ = some (.int .i64 C) ∧ w.cell? ⟨b, 2, none⟩ = some (.slice a L.length cap)
theorem FrBox.new (w : World) (F C : Int) (a : Option Addr) (cap : Nat) (L : List Og) (t : TypeId) : FrBox w.heap.size F C a cap L (w.alloc (.cells #[.int .i64 F, .int .i64 C, .slice a L.length cap] t)) := by
  refine ⟨?_, ?_, ?_⟩ <;> (rw [cell_of_row _ _ _ _ t (0, 0) (heap_alloc_new w _)]; rfl)
theorem FrBox.lt {b : Nat} {F C : Int} {a : Option Addr} {cap : Nat} {L : List Og} {w : World} (h : FrBox b F C a cap L w) : b < w.heap.size := World.block_lt_of_cell? w _ h.1
theorem FrBox.later {b : Nat} {F C : Int} {a : Option Addr} {cap : Nat} {L : List Og} {w w' : World} (h : FrBox b F C a cap L w) (hb : Below w.heap.size w w') : FrBox b F C a cap L w' :=
  ⟨(hb.cell (World.block_lt_of_cell? w _ h.1)).trans h.1, (hb.cell (World.block_lt_of_cell? w _ h.2.1)).trans h.2.1, (hb.cell (World.block_lt_of_cell? w _ h.2.2)).trans h.2.2⟩
theorem FrBox.base {b B : Nat} {F C : Int} {a : Option Addr} {cap : Nat} {L : List Og} {w w' : World} (h : FrBox b F C a cap L w) (hb : Below B w w') (hB : b < B) : FrBox b F C a cap L w' :=
  ⟨(hb.cell (p := ⟨b, 0, none⟩) hB).trans h.1, (hb.cell (p := ⟨b, 1, none⟩) hB).trans h.2.1, (hb.cell (p := ⟨b, 2, none⟩) hB).trans h.2.2⟩
theorem FrBox.drew {b : Nat} {F C : Int} {a : Option Addr} {cap : Nat} {L : List Og} {w : World} (h : FrBox b F C a cap L w) : FrBox b F C a cap L w.drew := h
theorem FrBox.only {b g : Nat} {F C : Int} {a : Option Addr} {cap : Nat} {L : List Og} {w w' : World} (h : FrBox b F C a cap L w) (ho : Only g w w') (hne : b ≠ g) : FrBox b F C a cap L w' := by
  have hb := ho.block b h.lt (fun e => hne (by cases e; rfl))
  exact ⟨(World.cell?_of_block (a := ⟨b, 0, none⟩) hb).trans h.1, (World.cell?_of_block (a := ⟨b, 1, none⟩) hb).trans h.2.1, (World.cell?_of_block (a := ⟨b, 2, none⟩) hb).trans h.2.2⟩

set_option maxHeartbeats 1600000 in
theorem sz_front (F C : Int) (L : List Og) (a : Option Addr) (cap : Nat) (left : Int) (h0 : 0 ≤ left) (h1 : left ≤ 1048576) (hl : L.length ≤ 9223372036854775807) (w : World) :
    Calls Try.prog 13 #[.agg #[.int .i64 F, .int .i64 C, .slice a L.length cap], .int .i64 left] w fun e w' => ∃ r : Int, e = .returned (.int .i64 r) ∧ -1 ≤ r ∧ r ≤ left ∧ (0 ≤ r → L.length ≤ 1048576) ∧ Below w.heap.size w w' := by
  have Q := Lib.hid (fun wx => sz_ogs L.length a cap left h0 h1 hl wx)
  obtain ⟨d0, d1, d2⟩ := FrBox.new w F C a cap L 24
  go_enter Try.func13, Try.ntmps13
  go_wp2_with fail
  refine (Q.out _).mono ?_
  rintro e w1 ⟨q, rfl, hq0, hq1, hq2, rfl⟩
  have HQ := Lib.hid hq2
  clear hq2
  by_cases hq : q < 0
  · go_wp2
    go_ret
    exact ⟨-1, rfl, by omega, by omega, fun h => by omega, balloc0 _ _⟩
  · go_wp2
    go_ret
    exact ⟨q, rfl, by omega, by omega, fun h => HQ.out (by omega), balloc0 _ _⟩
theorem OgOwn.set {B : Nat} {P : List Og} {g b o : Nat} {v : Value} {w : World} (h : OgOwn B P g w) (hne : g ≠ b) : OgOwn B P g (w.setCell ⟨b, o, none⟩ v) := h.only ((Only.refl b w).set o v) hne
set_option maxRecDepth 100000 in
set_option maxHeartbeats 1600000 in
theorem to_front (F C : Int) (L : List Og) (a : Option Addr) (cap : Nat) (hl : L.length ≤ 1048576) (w : World) (ha : OgArg w a L) :
    Calls Try.prog 15 #[.agg #[.int .i64 F, .int .i64 C, .slice a L.length cap]] w fun e w' => ∃ g, e = .returned (.agg #[.int .i64 F, .int .i64 C, .slice (some ⟨g, 0, none⟩) L.length L.length]) ∧ OgOwn w.heap.size L g w' ∧ Below w.heap.size w w' := by
  have K := Lib.hid (fun wx (hx : Below w.heap.size w wx) => to_ogs L a cap hl wx (ha.later hx))
  clear ha
  go_enter Try.func15, Try.ntmps15
  go_wp2_with fail
  refine (K.out _ (balloc (balloc (balloc0 _ _) _) _)).mono ?_
  rintro e w1 ⟨g, rfl, o1, hb1⟩
  have R1 : w1.heap[w.heap.size + 1]? = some (.cells #[.int .i64 0, .int .i64 0, .slice none 0 0] 29 (0, 0)) := by
    rw [hb1.block _ (by simp), Below.heap_alloc _ _ _ (by simp)]
    have := heap_alloc_new (w.alloc (.cells #[.int .i64 F, .int .i64 C, .slice a L.length cap] 24)) (.cells #[.int .i64 0, .int .i64 0, .slice none 0 0] 29)
    simpa using this
  have O1 : w1.heap[w.heap.size + 1 + 1]? = some (.cells #[.int .i64 F, .int .i64 C, .slice none 0 0] 29 (0, 0)) := by
    rw [hb1.block _ (by simp)]
    have := heap_alloc_new ((w.alloc (.cells #[.int .i64 F, .int .i64 C, .slice a L.length cap] 24)).alloc (.cells #[.int .i64 0, .int .i64 0, .slice none 0 0] 29)) (.cells #[.int .i64 F, .int .i64 C, .slice none 0 0] 29)
    simpa using this
  have B1 : Hid (Below w.heap.size w w1) := bnext (balloc (balloc (balloc0 _ _) _) _) hb1
  have O2 : Hid (OgOwn w.heap.size L g w1) := ⟨by have := o1.1; simp at this; omega, o1.2⟩
  have r0 : w1.cell? ⟨w.heap.size + 1, 0, none⟩ = some (.int .i64 0) := (cell_of_block R1 0).trans rfl
  have r1 : w1.cell? ⟨w.heap.size + 1, 1, none⟩ = some (.int .i64 0) := (cell_of_block R1 1).trans rfl
  have r2 : w1.cell? ⟨w.heap.size + 1, 2, none⟩ = some (.slice none 0 0) := (cell_of_block R1 2).trans rfl
  have q0 : w1.frozen? ⟨w.heap.size + 1, 0, none⟩ = false := unfrozen_of_block R1 0
  have q1 : w1.frozen? ⟨w.heap.size + 1, 1, none⟩ = false := unfrozen_of_block R1 1
  have q2 : w1.frozen? ⟨w.heap.size + 1, 2, none⟩ = false := unfrozen_of_block R1 2
  have p0 : w1.cell? ⟨w.heap.size + 1 + 1, 0, none⟩ = some (.int .i64 F) := (cell_of_block O1 0).trans rfl
  have p1 : w1.cell? ⟨w.heap.size + 1 + 1, 1, none⟩ = some (.int .i64 C) := (cell_of_block O1 1).trans rfl
  have p2 : w1.cell? ⟨w.heap.size + 1 + 1, 2, none⟩ = some (.slice none 0 0) := (cell_of_block O1 2).trans rfl
  have s2 : w1.frozen? ⟨w.heap.size + 1 + 1, 2, none⟩ = false := unfrozen_of_block O1 2
  have G : Hid (g ≠ w.heap.size + 1 ∧ g ≠ w.heap.size + 1 + 1) := by have := o1.1; simp at this; exact ⟨by omega, by omega⟩
  clear hb1 R1 O1 o1
  go_wp2_with fail
  refine bodyPost_ret (v := .agg #[.int .i64 F, .int .i64 C, .slice (some ⟨g, 0, none⟩) L.length L.length]) (by simp [results, Try.results15, go_sem, r0, r1, r2]) rfl ⟨g, rfl, ?_, ?_⟩
  · exact (((O2.out.set G.out.2).set G.out.1).set G.out.1).set G.out.1
  · exact (((B1.out.setCell (p := ⟨w.heap.size + 1 + 1, 2, none⟩) (by show _ ≤ w.heap.size + 1 + 1; omega) _).setCell (p := ⟨w.heap.size + 1, 0, none⟩) (Nat.le_add_right _ _) _).setCell (p := ⟨w.heap.size + 1, 1, none⟩) (Nat.le_add_right _ _) _).setCell (p := ⟨w.heap.size + 1, 2, none⟩) (Nat.le_add_right _ _) _
set_option maxRecDepth 100000 in
set_option maxHeartbeats 1600000 in
theorem eq_front (F C : Int) (L : List Og) (a a' : Option Addr) (cap cap' : Nat) (hl : L.length ≤ 1048577) (w : World) (ha : OgArg w a L) (ha' : OgArg w a' L) :
    Calls Try.prog 17 #[.agg #[.int .i64 F, .int .i64 C, .slice a L.length cap], .agg #[.int .i64 F, .int .i64 C, .slice a' L.length cap']] w fun e w' => e = .returned (.bool true) ∧ Below w.heap.size w w' := by
  have K := Lib.hid (fun wx (hx : Below w.heap.size w wx) => eq_ogs L a a' cap cap' hl wx (ha.later hx) (ha'.later hx))
  clear ha ha'
  go_enter Try.func17, Try.ntmps17
  go_wp2_with fail
  refine (K.out _ (balloc (balloc0 _ _) _)).mono ?_
  rintro e w1 ⟨rfl, hb1⟩
  have B1 := Lib.hid (bnext (balloc (balloc0 w _) _) hb1)
  clear hb1
  go_wp2
  go_ret
  exact ⟨rfl, B1.out⟩
theorem mark_front (F C : Int) (P : List Og) (hn : P.length ≤ 1048577) (K : Nat) (hK2 : K ≤ 100000000) (B g cap : Nat) (w : World) (h : OgOwn B P g w) :
    Calls Try.prog 23 #[.agg #[.int .i64 F, .int .i64 C, .slice (some ⟨g, 0, none⟩) P.length cap], .int .i64 K] w fun e w' => e = .returned (.int .i64 ((K + 4 * P.length : Nat) : Int)) ∧ Only g w w' ∧ OgOwn B (mogL K P.length) g w' := by
  have KK := Lib.hid (fun wx (hx : Below w.heap.size w wx) => mark_ogs P.length hn K hK2 g cap wx (h.later hx).2.2.1)
  have H := Lib.hid h
  clear h
  go_enter Try.func23, Try.ntmps23
  go_wp2_with fail
  refine (KK.out _ (balloc0 _ _)).mono ?_
  rintro e w1 ⟨rfl, ho, hc, ht⟩
  have O1 : Hid (Only g w w1) := by
    show Only g w w1
    have hb := balloc0 w (.cells #[.int .i64 F, .int .i64 C, .slice (some ⟨g, 0, none⟩) P.length cap] 29)
    exact ⟨ho.os.trans hb.os, ho.tape.trans hb.tape, ho.output.trans hb.output, Nat.le_trans hb.size ho.size, fun i hi hne => (ho.block i (Nat.lt_of_lt_of_le hi hb.size) hne).trans (hb.block i hi)⟩
  have C1 : Hid (OgOwn B (mogL K P.length) g w1) := ⟨H.out.1, hc, by rw [mogL_length]; exact ht, Nat.lt_of_lt_of_le H.out.2.2.2 O1.out.size⟩
  clear ho hc ht
  go_wp2
  go_ret
  exact ⟨rfl, O1.out, C1.out⟩
set_option maxHeartbeats 1600000 in
theorem mark_fres (F C : Int) (Q : List Og) (hn : Q.length ≤ 1048577) (K : Nat) (hK2 : K ≤ 100000000) (B cap : Nat) (a : Option Addr) (w : World) (hB : B ≤ w.heap.size) (h : OgRes B Q a w) :
    Calls Try.prog 23 #[.agg #[.int .i64 F, .int .i64 C, .slice a Q.length cap], .int .i64 K] w fun e w' => e = .returned (.int .i64 ((K + 4 * Q.length : Nat) : Int)) ∧ Below B w w' ∧ (∀ b F C a' cap' L', b < w.heap.size → (∀ g o, ¬ Q = [] → a = some ⟨g, o, none⟩ → b ≠ g) → FrBox b F C a' cap' L' w → FrBox b F C a' cap' L' w') ∧ OgRes B (mogL K Q.length) a w' := by
  by_cases hq : Q = []
  · subst hq
    have Z := Lib.hid (fun wx => markOg_nil a cap K wx)
    go_enter Try.func23, Try.ntmps23
    go_wp2_with fail
    refine (Z.out _).mono ?_
    rintro e w1 ⟨rfl, rfl⟩
    go_wp2
    go_ret
    exact ⟨rfl, (balloc0 _ _).mono hB, fun b F C a' cap' L' hb _ h => h.later (balloc0 _ _), .inl rfl⟩
  · rcases h with h | ⟨g, h1, h2⟩
    · exact absurd h hq
    subst h1
    refine (mark_front F C Q hn K hK2 B g cap w h2).mono ?_
    rintro e w' ⟨h3, h4, h5⟩
    exact ⟨h3, h4.base h2.1 hB, fun b F C a' cap' L' hb hne h => h.only h4 (hne g 0 hq rfl), .inr ⟨g, rfl, h5⟩⟩
set_option maxHeartbeats 1600000 in
theorem held_fres (F C : Int) (n : Nat) (hn : n ≤ 1048577) (K : Nat) (hK2 : K ≤ 100000000) (cap : Nat) (a : Option Addr) (w : World) (B : Nat) (h : OgRes B (mogL K n) a w) :
    Calls Try.prog 24 #[.agg #[.int .i64 F, .int .i64 C, .slice a n cap], .int .i64 K] w fun e w' => e = .returned (.int .i64 ((K + 4 * n : Nat) : Int)) ∧ Below w.heap.size w w' := by
  have KK := Lib.hid (fun wx (hx : Below w.heap.size w wx) => heldOg_res n hn K hK2 cap a wx B (h.later hx))
  obtain ⟨q, hq⟩ : ∃ q : Nat, K + 4 * n = q := ⟨_, rfl⟩
  rw [hq] at KK ⊢
  have hq0 : ¬ (q : Int) < 0 := by omega
  clear h hq
  go_enter Try.func24, Try.ntmps24
  go_wp2_with fail
  refine (KK.out _ (balloc0 _ _)).mono ?_
  rintro e w1 ⟨rfl, hb1⟩
  have B1 := Lib.hid (bnext (balloc0 w _) hb1)
  clear hb1
  go_wp2
  go_ret
  exact ⟨rfl, B1.out⟩
end Go.Proofs.Ytplggghhhgmebaa
