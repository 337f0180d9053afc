/-
  The model's drawn moulds: a number out of a literal list, shrinkages, and a mould that is spoiled where it lies.
-/
import Derived.Test.YtdandhmallbemaaDoorDrN
namespace Go.Proofs.YtdandhmallbemaaDoor
open Go.ChangeShapes Go.WideShapes Go.ChangeAt Go.RowKit Go.Joins

def AmongLit (w0 w : World) (B : Nat) (cv : Value) (k : Nat) (e : Ending) (w' : World) : Prop :=
  ∃ x : Int, e = .returned (.int .i64 x) ∧ Src w0 w' B cv k ∧ Touch B w w'
theorem among_lit (w0 w : World) (B : Nat) (cv : Value) (k : Nat) (P : List Int) (n : Nat) (hn : P.length = n) (h1 : 1 ≤ n) (h2 : n ≤ 100) (hk : k ≤ 999998) (hB : B < w.heap.size) (h : Src w0 w B cv k) :
    Calls Tryd.prog 28 #[.pointer (some ⟨B, 0, none⟩), .slice (some ⟨w.heap.size, 0, none⟩) n n] (w.alloc (.cells (P.map (Value.int .i64)).toArray 2)) (AmongLit w0 w B cv (k + 2)) := by
  refine (src_among w0 _ B cv k w.heap.size n n (fun j => P.getD j 0) h1 (by omega) hk (by omega) (fun j hj => ?_) (h.alloc _)).mono ?_
  · rw [cell_of_row _ _ _ _ _ (0, 0) (heap_alloc_new w _)]
    have hl : j < P.length := by omega
    simp [hl, List.getD_eq_getElem?_getD]
  · rintro e w' ⟨j, _, rfl, hs, ht⟩
    exact ⟨_, rfl, hs, (touch_alloc B w _).trans ht⟩

set_option maxRecDepth 100000 in
set_option maxHeartbeats 3200000 in
theorem draw_shrink (w0 w : World) (B : Nat) (cv : Value) (k : Nat) (hk : k ≤ 900000) (hB : B < w0.heap.size) (hw : w0.heap.size ≤ w.heap.size) (h : Src w0 w B cv k) :
    Calls Tryd.prog 36 #[.pointer (some ⟨B, 0, none⟩)] w (AmongLit w0 w B cv (k + 10)) := by
  have HS := Lib.hid h
  clear h
  go_enter Tryd.func36, Tryd.ntmps36
  go_wp2_with fail
  refine (src_one w0 _ B cv k 10 (by omega) (by omega) (by omega) HS.out).mono ?_
  rintro e w1 ⟨b, rfl, h1, t1⟩
  have H1 := Lib.hid h1
  have T1 := Lib.hid t1
  have hs1 : w.heap.size ≤ w1.heap.size := t1.size
  clear h1 t1
  cases b
  · go_wp2_with fail
    refine (src_pick w0 _ B cv (k + 2) 120 (by omega) (by omega) (by omega) H1.out).mono ?_
    rintro e w2 ⟨r, ha, hb, rfl, h2, t2⟩
    have H2 := Lib.hid h2
    have T2 := Lib.hid (T1.out.trans t2)
    clear h2 t2
    go_wp2
    go_ret
    exact ⟨20 + r, rfl, H2.out.mono (by omega), T2.out⟩
  · have A := Lib.hid (among_lit w0 w1 B cv (k + 2) [-1, 0, 200, 201] 4 rfl (by omega) (by omega) (by omega) (by omega) H1.out)
    go_wp2_with fail
    refine A.out.mono ?_
    rintro e w2 ⟨x, rfl, h2, t2⟩
    have H2 := Lib.hid h2
    have T2 := Lib.hid (T1.out.trans t2)
    clear h2 t2
    go_wp2
    go_ret
    exact ⟨x, rfl, H2.out.mono (by omega), T2.out⟩

theorem mouldVals_set : ∀ {L : List Mo} {i j : Nat} {v : Value} (c' : Mo), i < L.length → (∀ c, L[i]? = some c → c.vals.set j v = c'.vals) → j < 4 → (mouldVals L).set (i * 4 + j) v = mouldVals (L.set i c')
  | [], _, _, _, _, h, _, _ => by simp at h
  | c :: L, 0, j, v, c', _, hc, hj => by
    show (c.vals ++ mouldVals L).set (0 * 4 + j) v = c'.vals ++ mouldVals L
    rw [Nat.zero_mul, Nat.zero_add, List.set_append_left _ _ (by show j < 4; exact hj), hc c rfl]
  | c :: L, i + 1, j, v, c', h, hc, hj => by
    show (c.vals ++ mouldVals L).set ((i + 1) * 4 + j) v = c.vals ++ mouldVals (L.set i c')
    rw [List.set_append_right _ _ (by show 4 ≤ _; omega)]
    have e : (i + 1) * 4 + j - c.vals.length = i * 4 + j := by show (i + 1) * 4 + j - 4 = _; omega
    rw [e, mouldVals_set c' (by simpa using h) (fun d hd => hc d (by simpa using hd)) hj]
def Mo.put (c : Mo) (j : Nat) (x : Int) : Mo := match j with
  | 0 => { c with le := x }
  | 1 => { c with wi := x }
  | 2 => { c with he := x }
  | _ => { c with us := x }
theorem Mo.put_vals (c : Mo) {j : Nat} (hj : j < 4) (x : Int) : c.vals.set j (.int .i64 x) = (c.put j x).vals := by
  match j, hj with
  | 0, _ => rfl
  | 1, _ => rfl
  | 2, _ => rfl
  | 3, _ => rfl
def atV (L : List Mo) (k : Nat) : Mo := L.getD k default
theorem atV_eq {L : List Mo} {k : Nat} {c : Mo} (h : L[k]? = some c) : atV L k = c := by unfold atV; rw [List.getD_eq_getElem?_getD, h]; rfl
theorem atV_get {L : List Mo} {k : Nat} (h : k < L.length) : L[k]? = some (atV L k) := by
  have hc := List.getElem?_eq_getElem h
  rw [atV_eq hc, hc]
/-- A field is stored. -/
theorem moRow_put {b g cap i j : Nat} {L : List Mo} {w : World} (h : MoRow b L (.slice (some ⟨g, 0, none⟩) L.length cap) w) (hi : i < L.length) (hj : j < 4) (x : Int) : ∃ L', L'.length = L.length ∧ MoRow b L' (.slice (some ⟨g, 0, none⟩) L.length cap) (w.setCell ⟨g, i * 4 + j, none⟩ (.int .i64 x)) := by
  refine ⟨L.set i ((atV L i).put j x), by simp, ?_⟩
  show World.ownsRow _ b 47 4 _ (L.set i _).length _
  rw [List.length_set, ← mouldVals_set ((atV L i).put j x) hi (fun c hc => by rw [atV_eq hc]; exact Mo.put_vals c hj x) hj]
  exact (World.ownsRow.stored h _ _).1
theorem moRow_cell {b g cap i j : Nat} {L : List Mo} {w : World} (h : MoRow b L (.slice (some ⟨g, 0, none⟩) L.length cap) w) (hi : i < L.length) (hj : j < 4) : ∃ x : Int, w.cell? ⟨g, i * 4 + j, none⟩ = some (.int .i64 x) ∧ w.frozen? ⟨g, i * 4 + j, none⟩ = false := by
  have hc : ∃ x : Int, (atV L i).vals[j]? = some (.int .i64 x) := by
    match j, hj with
    | 0, _ => exact ⟨_, rfl⟩
    | 1, _ => exact ⟨_, rfl⟩
    | 2, _ => exact ⟨_, rfl⟩
    | 3, _ => exact ⟨_, rfl⟩
  obtain ⟨x, hx⟩ := hc
  refine ⟨x, ?_, World.ownsRow.frozenAt h _⟩
  rw [World.ownsRow.cellAt h _ (by omega)]
  exact mouldVals_get (atV_get hi) hx
theorem moRow_base {b g n cap : Nat} {L : List Mo} {w : World} (h : MoRow b L (.slice (some ⟨g, 0, none⟩) n cap) w) : b ≤ g := by
  rcases h.2 with ⟨e, _⟩ | ⟨g', cap', cur, e, hB, _⟩
  · cases e
  · cases e; exact hB

/-- A mould has been spoiled where it lies. -/
def Spoiled (w0 w wS : World) (B : Nat) (cv : Value) (k b g n cap : Nat) (e : Ending) (w' : World) : Prop :=
  ∃ L' : List Mo, e = .returned (.tuple #[]) ∧ L'.length = n ∧ MoRow b L' (.slice (some ⟨g, 0, none⟩) n cap) w' ∧ Src w0 w' B cv k ∧ Touch B wS w' ∧ w.heap.size ≤ w'.heap.size
set_option maxRecDepth 100000 in
set_option maxHeartbeats 6400000 in
theorem spoil (w0 w wS : World) (B : Nat) (cv : Value) (k b g i cap : Nat) (L : List Mo) (hi : i < L.length) (hk : k ≤ 900000) (hB : B < w0.heap.size) (hb : w0.heap.size ≤ b) (hbS : wS.heap.size ≤ b) (hw : w0.heap.size ≤ w.heap.size) (hr : MoRow b L (.slice (some ⟨g, 0, none⟩) L.length cap) w) (hT : Touch B wS w) (h : Src w0 w B cv k) :
    Calls Tryd.prog 51 #[.pointer (some ⟨B, 0, none⟩), .pointer (some ⟨g, i * 4, none⟩)] w (Spoiled w0 w wS B cv (k + 8) b g L.length cap) := by
  have HS := Lib.hid h
  have HR := Lib.hid hr
  have HT := Lib.hid hT
  have hbg := moRow_base hr
  clear h hr hT
  go_enter Tryd.func51, Tryd.ntmps51
  go_wp2_with fail
  refine (src_pick w0 _ B cv k 4 (by omega) (by omega) (by omega) HS.out).mono ?_
  rintro e w1 ⟨r, ha, hbb, rfl, h1, t1⟩
  have H1 := Lib.hid h1
  have R1 : Hid (MoRow b L (.slice (some ⟨g, 0, none⟩) L.length cap) w1) := row_touch HR.out t1 (by omega)
  have T1 := Lib.hid (HT.out.trans t1)
  have hs1 : w.heap.size ≤ w1.heap.size := t1.size
  clear h1 t1
  have h4 : r = 0 ∨ r = 1 ∨ r = 2 ∨ r = 3 := by omega
  rcases h4 with rfl | rfl | rfl | rfl
  · have A := Lib.hid (among_lit w0 w1 B cv (k + 2) [29, 30, 800, 801, -9223372036854775808] 5 rfl (by omega) (by omega) (by omega) (by omega) H1.out)
    go_wp2_with fail
    refine A.out.mono ?_
    rintro e w2 ⟨x, rfl, h2, t2⟩
    have R2 : Hid (MoRow b L (.slice (some ⟨g, 0, none⟩) L.length cap) w2) := row_touch R1.out t2 (by omega)
    obtain ⟨y, c0, f0⟩ := moRow_cell R2.out hi (show 0 < 4 by omega)
    obtain ⟨L', hl', hr'⟩ := moRow_put R2.out hi (show 0 < 4 by omega) x
    rw [Nat.add_zero] at c0 f0 hr'
    have HF : Hid (Spoiled w0 w wS B cv (k + 8) b g L.length cap (.returned (.tuple #[])) (w2.setCell ⟨g, i * 4, none⟩ (.int .i64 x))) :=
      ⟨L', rfl, hl', hr', (h2.setCell hB (by omega) _ _).mono (by omega), touch_setCell B g _ wS w2 _ (T1.out.trans t2) (by omega), by have := t2.size; simp [World.setCell]; omega⟩
    clear h2 t2 hl' hr'
    go_wp2
    go_end0
    exact HF.out
  · have A := Lib.hid (among_lit w0 w1 B cv (k + 2) [-1, 30, 800, 801] 4 rfl (by omega) (by omega) (by omega) (by omega) H1.out)
    go_wp2_with fail
    refine A.out.mono ?_
    rintro e w2 ⟨x, rfl, h2, t2⟩
    have R2 : Hid (MoRow b L (.slice (some ⟨g, 0, none⟩) L.length cap) w2) := row_touch R1.out t2 (by omega)
    obtain ⟨y, c0, f0⟩ := moRow_cell R2.out hi (show 1 < 4 by omega)
    obtain ⟨L', hl', hr'⟩ := moRow_put R2.out hi (show 1 < 4 by omega) x
    have HF : Hid (Spoiled w0 w wS B cv (k + 8) b g L.length cap (.returned (.tuple #[])) (w2.setCell ⟨g, i * 4 + 1, none⟩ (.int .i64 x))) :=
      ⟨L', rfl, hl', hr', (h2.setCell hB (by omega) _ _).mono (by omega), touch_setCell B g _ wS w2 _ (T1.out.trans t2) (by omega), by have := t2.size; simp [World.setCell]; omega⟩
    clear h2 t2 hl' hr'
    go_wp2
    go_end0
    exact HF.out
  · have A := Lib.hid (among_lit w0 w1 B cv (k + 2) [29, 30, 800, 801] 4 rfl (by omega) (by omega) (by omega) (by omega) H1.out)
    go_wp2_with fail
    refine A.out.mono ?_
    rintro e w2 ⟨x, rfl, h2, t2⟩
    have R2 : Hid (MoRow b L (.slice (some ⟨g, 0, none⟩) L.length cap) w2) := row_touch R1.out t2 (by omega)
    obtain ⟨y, c0, f0⟩ := moRow_cell R2.out hi (show 2 < 4 by omega)
    obtain ⟨L', hl', hr'⟩ := moRow_put R2.out hi (show 2 < 4 by omega) x
    have HF : Hid (Spoiled w0 w wS B cv (k + 8) b g L.length cap (.returned (.tuple #[])) (w2.setCell ⟨g, i * 4 + 2, none⟩ (.int .i64 x))) :=
      ⟨L', rfl, hl', hr', (h2.setCell hB (by omega) _ _).mono (by omega), touch_setCell B g _ wS w2 _ (T1.out.trans t2) (by omega), by have := t2.size; simp [World.setCell]; omega⟩
    clear h2 t2 hl' hr'
    go_wp2
    go_end0
    exact HF.out
  · have A := Lib.hid (among_lit w0 w1 B cv (k + 2) [-1, 0, 100000, 100001] 4 rfl (by omega) (by omega) (by omega) (by omega) H1.out)
    go_wp2_with fail
    refine A.out.mono ?_
    rintro e w2 ⟨x, rfl, h2, t2⟩
    have R2 : Hid (MoRow b L (.slice (some ⟨g, 0, none⟩) L.length cap) w2) := row_touch R1.out t2 (by omega)
    obtain ⟨y, c0, f0⟩ := moRow_cell R2.out hi (show 3 < 4 by omega)
    obtain ⟨L', hl', hr'⟩ := moRow_put R2.out hi (show 3 < 4 by omega) x
    have HF : Hid (Spoiled w0 w wS B cv (k + 8) b g L.length cap (.returned (.tuple #[])) (w2.setCell ⟨g, i * 4 + 3, none⟩ (.int .i64 x))) :=
      ⟨L', rfl, hl', hr', (h2.setCell hB (by omega) _ _).mono (by omega), touch_setCell B g _ wS w2 _ (T1.out.trans t2) (by omega), by have := t2.size; simp [World.setCell]; omega⟩
    clear h2 t2 hl' hr'
    go_wp2
    go_end0
    exact HF.out
end Go.Proofs.YtdandhmallbemaaDoor
