/-
  The heap's methods: Push and Pop of the row, by the program.
-/
import Derived.Test.YtdandhmallbemaaDoorHpS
import Derived.Test.YtdandhmallbemaaDoorApp
import Derived.Deep.RegionLaw
import Derived.Deep.DeepMust
namespace Go.Proofs.YtdandhmallbemaaDoor
open Go.ChangeShapes Go.WideShapes Go.ChangeAt Go.RowKit Go.Joins

theorem heap_set_box {w : World} {q : Nat} {v u : Value} {T : TypeId} {fr : Nat × Nat} (h : w.heap[q]? = some (.cells #[v] T fr)) : (w.setCell ⟨q, 0, none⟩ u).heap[q]? = some (.cells #[u] T fr) := by
  have hq := (Array.getElem?_eq_some_iff.1 h).1
  simp [World.setCell, Array.getElem?_modify, h]
theorem box_frozen {w : World} {q : Nat} {v : Value} {T : TypeId} (h : w.heap[q]? = some (.cells #[v] T (0, 0))) : w.frozen? ⟨q, 0, none⟩ = false := by
  simp [World.frozen?, h]
theorem own_set_other {w : World} {q B e size n : Nat} {v u : Value} {xs : List Value} (h : w.ownsRow B e size v n xs) (hne : v.ownBlock ≠ some q) : (w.setCell ⟨q, 0, none⟩ u).ownsRow B e size v n xs := by
  refine ⟨h.1, ?_⟩
  rcases h.2 with hn | ⟨g, cap, cur, hv, hB, hgg, rest⟩
  · exact .inl hn
  · refine .inr ⟨g, cap, cur, hv, hB, ?_, rest⟩
    have : g ≠ q := fun e => hne (by rw [hv, e]; rfl)
    exact (Below.heap_setCell _ _ _ _ this).trans hgg
theorem own_ne {w : World} {q B e size n : Nat} {v : Value} {T : TypeId} {cs : Array Value} {fr : Nat × Nat} {xs : List Value} (h : w.ownsRow B e size v n xs) (hq : w.heap[q]? = some (.cells cs T fr)) (ht : T ≠ e) : v.ownBlock ≠ some q := by
  rcases h.2 with ⟨hn, _⟩ | ⟨g, cap, cur, hv, hB, hgg, rest⟩
  · rw [hn]; simp [Value.ownBlock]
  · rw [hv]
    intro he
    simp only [Value.ownBlock, Option.some.injEq] at he
    subst he
    rw [hq] at hgg
    simp only [Option.some.injEq, Obj.cells.injEq] at hgg
    exact ht hgg.2.1
theorem tt_ne : 56 ≠ 60 := by decide
theorem infoTurn : (Tryd.prog.info? 60).map (fun i => (i.zero, i.size, i.bytes)) = some (some (.agg #[.int .i64 0, .int .i64 0]), 2, 16) := by kernel_rfl
theorem lit_turn (B : Nat) (w : World) (c d : Value) (hb : B ≤ w.heap.size) : (w.alloc (.cells #[c, d] 60)).ownsRow B 60 2 (.slice (some ⟨w.heap.size, 0, none⟩) 1 1) 1 [c, d] :=
  ⟨rfl, .inr ⟨w.heap.size, 1, #[c, d], rfl, hb, heap_alloc_new w _, Nat.le_refl _, by decide, rfl, rfl⟩⟩
/-- A box is stored anew behind what the row has grown by. -/
theorem push_step {B q : Nat} {L M : List (Int × Int)} {w w1 w3 : World} {v v1 : Value} (hBq : B ≤ q) (hq : w.heap[q]? = some (.cells #[v] 56 (0, 0))) (ho : TnOwn B v L w) (hB : B ≤ w.heap.size) (h1 : Below w.heap.size w w1) (hown : TnOwn B v1 M w3) (hg : w1.grownBy w3 v.ownBlock) :
    w3.cell? ⟨q, 0, none⟩ = some v ∧ w3.frozen? ⟨q, 0, none⟩ = false ∧ QAt B q M (w3.setCell ⟨q, 0, none⟩ v1) ∧ Below B w (w3.setCell ⟨q, 0, none⟩ v1) ∧ KeepT [56, 60] w (w3.setCell ⟨q, 0, none⟩ v1) := by
  have o1 := own_later2 ho h1
  have q1 : w1.heap[q]? = some (.cells #[v] 56 (0, 0)) := (h1.block q (Array.getElem?_eq_some_iff.1 hq).1).trans hq
  have hne := own_ne o1 q1 tt_ne
  have q3 : w3.heap[q]? = some (.cells #[v] 56 (0, 0)) := (hg.block q (Array.getElem?_eq_some_iff.1 q1).1 (fun e => hne e.symm)).trans q1
  have hne3 := own_ne hown q3 tt_ne
  refine ⟨box_cell q3, box_frozen q3, ⟨hBq, v1, heap_set_box q3, own_set_other hown hne3⟩, ?_, ?_⟩
  · exact ((h1.mono hB).grown hg (Nat.le_trans hB h1.size) (fun k hk => (o1.lt k hk).1)).setCell (p := ⟨q, 0, none⟩) hBq _
  · exact ((KeepT.below h1).trans (keep_grown2 hg o1 (by simp))).trans (KeepT.set q3 (by simp))

theorem turnAssert (a b : Int) (w : World) : (Instr.typeAssert (.iface 60 (.agg #[.int .i64 a, .int .i64 b])) 20 60 false).run Tryd.prog w = .ok (.agg #[.int .i64 a, .int .i64 b]) w := by kernel_rfl
set_option maxRecDepth 100000 in
set_option maxHeartbeats 3200000 in
theorem tpush_impl (B q : Nat) (L : List (Int × Int)) (u m : Int) (w : World) (h : QAt B q L w) (hB : B ≤ w.heap.size) (hl : L.length ≤ 1000) : Calls Tryd.prog 94 #[.pointer (some ⟨q, 0, none⟩), .iface 60 (.agg #[.int .i64 u, .int .i64 m])] w fun e w' => e = .returned (.tuple #[]) ∧ QAt B q (L ++ [(u, m)]) w' ∧ Below B w w' ∧ KeepT [56, 60] w w' := by
  obtain ⟨hBq, v, hq, ho⟩ := h
  obtain ⟨i0, hi, hz0, hz1, hz2⟩ := info_parts infoTurn
  have c0 := box_cell hq
  have HQ := Lib.hid hq
  have HO := Lib.hid ho
  have c3 : Hid (L.length + 1 ≤ maxLen) := by show L.length + 1 ≤ maxLen; unfold maxLen; omega
  have HL := Lib.hid hl
  have ta := turnAssert u m
  have c1 : (w.alloc (.cells #[.int .i64 u, .int .i64 m] 60)).cell? ⟨q, 0, none⟩ = some v := ((balloc0 w _).cell (p := ⟨q, 0, none⟩) (World.block_lt_of_cell? w _ c0)).trans c0
  clear hq ho hl
  go_enter Tryd.func94, Tryd.ntmps94
  go_wp2_with fail
  go_region_law (first
    | (refine step_append_own2 rfl (.tmp 7) (.tmp 10) 56 rfl B 60 i0 (.agg #[.int .i64 0, .int .i64 0]) 2 16 (by kernel_rfl) hi hz0 hz1 hz2 rfl (by decide) v L.length (tnVals L) (by simp [Act.eval]) (World.ownsRow.alloc HO.out _) ⟨w.heap.size, 0, none⟩ 1 1 [.int .i64 u, .int .i64 m] (by simp [Act.eval]) rfl ((lit_turn B w _ _ hB).cells rfl) (by simp [Value.oneCell']) c3.out (by have := HL.out; omega) (by simp; omega) ?_
       intro v1 w3 hown hgrow hf
       have hown' : TnOwn B v1 (L ++ [(u, m)]) w3 := by
         show w3.ownsRow B 60 2 v1 (L ++ [(u, m)]).length (tnVals (L ++ [(u, m)]))
         rw [← tnVals_snoc, List.length_append]
         exact hown
       obtain ⟨g1, cp1, hv1⟩ := hown'.form (by simp)
       subst hv1
       obtain ⟨d0, e0, N⟩ := push_step hBq HQ.out HO.out hB (balloc0 w (.cells #[.int .i64 u, .int .i64 m] 60)).drew hown' hgrow
       rw [show (L ++ [(u, m)]).length = L.length + 1 by simp] at N
       have HN := Lib.hid N
       clear N hown hown' hgrow hf c0 c1))
  all_goals
    go_end0
    exact ⟨rfl, HN.out⟩

theorem TnOwn.cap_le {B g cap : Nat} {L : List (Int × Int)} {w : World} (h : TnOwn B (.slice (some ⟨g, 0, none⟩) L.length cap) L w) : L.length ≤ cap := by
  rcases h.2 with ⟨e, _⟩ | ⟨g', cap', cur, e, hB, hg, hc, _⟩
  · cases e
  · cases e; exact hc
theorem own_take {B g cap n : Nat} {L : List (Int × Int)} {w : World} (h : TnOwn B (.slice (some ⟨g, 0, none⟩) L.length cap) L w) (hn : n ≤ L.length) : TnOwn B (.slice (some ⟨g, 0, none⟩) n cap) (L.take n) w := by
  have hl : (L.take n).length = n := by simp; omega
  show w.ownsRow B 60 2 _ (L.take n).length (tnVals (L.take n))
  rw [hl, ← tnVals_take]
  refine ⟨by rw [List.length_take, tnVals_length]; omega, ?_⟩
  rcases h.2 with ⟨e, _⟩ | ⟨g', cap', cur, e, hB, hg, hc, hm, hs, ht⟩
  · cases e
  · cases e
    refine .inr ⟨g, cap, cur, rfl, hB, hg, by omega, hm, hs, ?_⟩
    rw [← ht, List.take_take, Nat.min_eq_left (by omega)]
theorem pop_step {B q g cap n : Nat} {L : List (Int × Int)} {w w1 : World} (hBq : B ≤ q) (hq : w.heap[q]? = some (.cells #[.slice (some ⟨g, 0, none⟩) L.length cap] 56 (0, 0))) (ho : TnOwn B (.slice (some ⟨g, 0, none⟩) L.length cap) L w) (hn : n ≤ L.length) (hB : B ≤ w.heap.size) (h1 : Below w.heap.size w w1) :
    w1.cell? ⟨q, 0, none⟩ = some (.slice (some ⟨g, 0, none⟩) L.length cap) ∧ w1.frozen? ⟨q, 0, none⟩ = false ∧ QAt B q (L.take n) (w1.setCell ⟨q, 0, none⟩ (.slice (some ⟨g, 0, none⟩) n cap)) ∧ Below B w (w1.setCell ⟨q, 0, none⟩ (.slice (some ⟨g, 0, none⟩) n cap)) ∧ KeepT [56, 60] w (w1.setCell ⟨q, 0, none⟩ (.slice (some ⟨g, 0, none⟩) n cap)) := by
  have o1 : TnOwn B (.slice (some ⟨g, 0, none⟩) L.length cap) L w1 := own_later2 ho h1
  have q1 : w1.heap[q]? = some (.cells #[.slice (some ⟨g, 0, none⟩) L.length cap] 56 (0, 0)) := (h1.block q (Array.getElem?_eq_some_iff.1 hq).1).trans hq
  have o2 := own_take o1 hn
  have hne := own_ne o2 q1 tt_ne
  exact ⟨box_cell q1, box_frozen q1, ⟨hBq, _, heap_set_box q1, own_set_other o2 hne⟩, (h1.mono hB).setCell (p := ⟨q, 0, none⟩) hBq _, (KeepT.below h1).trans (KeepT.set q1 (by simp))⟩
set_option maxRecDepth 100000 in
set_option maxHeartbeats 3200000 in
theorem tpop_impl (B q n : Nat) (L : List (Int × Int)) (hl : L.length = n + 1) (w : World) (h : QAt B q L w) (hB : B ≤ w.heap.size) (hn : n ≤ 1000) : Calls Tryd.prog 93 #[.pointer (some ⟨q, 0, none⟩)] w fun e w' => e = .returned (.iface 60 (.agg #[.int .i64 (tg L n).1, .int .i64 (tg L n).2])) ∧ QAt B q (L.take n) w' ∧ Below B w w' ∧ KeepT [56, 60] w w' := by
  obtain ⟨hBq, v, hq, ho⟩ := h
  obtain ⟨g, cap, rfl⟩ := ho.form (by omega)
  obtain ⟨a0, a1⟩ := ho.cells (k := n) (by omega)
  have hcap := ho.cap_le
  have c0 := box_cell hq
  obtain ⟨a, ha⟩ : ∃ a, tg L n = a := ⟨_, rfl⟩
  rw [ha] at a0 a1 ⊢
  have P := pop_step hBq hq ho (n := n) (by omega) hB (balloc0 w (.cells #[.int .i64 a.1, .int .i64 a.2] 60))
  have hr : (w.alloc (.cells #[.int .i64 a.1, .int .i64 a.2] 60)).rangeAt w.heap.size 0 [.int .i64 a.1, .int .i64 a.2] := range_new w #[.int .i64 a.1, .int .i64 a.2] 60
  have hne : ¬ w.heap.size = q := by have := (Array.getElem?_eq_some_iff.1 hq).1; omega
  have x0 := hr 0 _ rfl
  have x1 := hr 1 _ rfl
  simp only [Nat.zero_add] at x0 x1
  obtain ⟨d0, e0, N⟩ := P
  have HN := Lib.hid N
  rw [hl] at d0 c0 hcap
  have z0 : (0 : Int) ≤ (n : Int) := by omega
  have z1 : (n : Int) < ((n + 1 : Nat) : Int) := by omega
  have z2 : (n : Int) ≤ (cap : Int) := by omega
  have z3 : ((n + 1 : Nat) : Int) - 1 = (n : Int) := by omega
  have y0 : ((w.alloc (.cells #[.int .i64 a.1, .int .i64 a.2] 60)).setCell ⟨q, 0, none⟩ (.slice (some ⟨g, 0, none⟩) n cap)).cell? ⟨w.heap.size, 0, none⟩ = some (.int .i64 a.1) := (World.cell?_of_block (a := ⟨w.heap.size, 0, none⟩) (Below.heap_setCell _ _ _ _ hne)).trans x0
  have y1 : ((w.alloc (.cells #[.int .i64 a.1, .int .i64 a.2] 60)).setCell ⟨q, 0, none⟩ (.slice (some ⟨g, 0, none⟩) n cap)).cell? ⟨w.heap.size, 1, none⟩ = some (.int .i64 a.2) := (World.cell?_of_block (a := ⟨w.heap.size, 1, none⟩) (Below.heap_setCell _ _ _ _ hne)).trans x1
  clear N hr hq ho ha
  go_enter Tryd.func93, Tryd.ntmps93
  go_wp2
  go_ret
  exact ⟨rfl, HN.out⟩
end Go.Proofs.YtdandhmallbemaaDoor
