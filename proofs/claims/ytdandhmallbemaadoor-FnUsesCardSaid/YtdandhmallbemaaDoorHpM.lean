/-
  A heap of pairs of numbers in memory: its row, its variable, and how its methods are found.
-/
import Derived.Test.YtdandhmallbemaaDoorHpP
import Derived.Test.YtdandhmallbemaaDoorRow
import Derived.Laws.AppendOwn
import Derived.Laws.OwnMore
import Derived.OwnWalk
import Derived.Deep.DeepMust
import Derived.Tactics
import Derived.Tactics2
import Derived.Laws.Sem
import Derived.Laws.Cells
namespace Go.Proofs.YtdandhmallbemaaDoor
open Go.ChangeShapes Go.WideShapes Go.ChangeAt Go.RowKit Go.Joins

/-- Blocks of other types than these are as they were. -/
def KeepT (ts : List TypeId) (w w' : World) : Prop := ∀ (k : Nat) (T : TypeId) (cs : Array Value) (fr : Nat × Nat), w.heap[k]? = some (.cells cs T fr) → T ∉ ts → w'.heap[k]? = some (.cells cs T fr)
theorem KeepT.refl (ts : List TypeId) (w : World) : KeepT ts w w := fun _ _ _ _ h _ => h
theorem KeepT.trans {ts : List TypeId} {a b c : World} (h : KeepT ts a b) (k : KeepT ts b c) : KeepT ts a c := fun i T cs fr h1 h2 => k i T cs fr (h i T cs fr h1 h2) h2
theorem KeepT.below {ts : List TypeId} {a b : World} (h : Below a.heap.size a b) : KeepT ts a b := fun i _ _ _ h1 _ => (h.block i (Array.getElem?_eq_some_iff.1 h1).1).trans h1
theorem KeepT.set {ts : List TypeId} {w : World} {b o : Nat} {v : Value} {T0 : TypeId} {c0 : Array Value} {f0 : Nat × Nat} (hb : w.heap[b]? = some (.cells c0 T0 f0)) (ht : T0 ∈ ts) : KeepT ts w (w.setCell ⟨b, o, none⟩ v) := fun i T cs fr h1 h2 => by
  have hne : i ≠ b := fun e => by subst e; rw [hb] at h1; cases h1; exact h2 ht
  exact (Below.heap_setCell _ _ _ _ hne).trans h1
theorem own_keep2 {ts : List TypeId} {w w' : World} {B e size n : Nat} {v : Value} {xs : List Value} (h : w.ownsRow B e size v n xs) (hk : KeepT ts w w') (he : e ∉ ts) : w'.ownsRow B e size v n xs := by
  refine ⟨h.1, ?_⟩
  rcases h.2 with hn | ⟨g, cap, cur, hv, hB, hgg, rest⟩
  · exact .inl hn
  · exact .inr ⟨g, cap, cur, hv, hB, hk _ _ _ _ hgg he, rest⟩
theorem own_later2 {w w' : World} {B e size n : Nat} {v : Value} {xs : List Value} (h : w.ownsRow B e size v n xs) (hb : Below w.heap.size w w') : w'.ownsRow B e size v n xs := by
  refine ⟨h.1, ?_⟩
  rcases h.2 with hn | ⟨g, cap, cur, hv, hB, hgg, rest⟩
  · exact .inl hn
  · exact .inr ⟨g, cap, cur, hv, hB, (hb.block g (Array.getElem?_eq_some_iff.1 hgg).1).trans hgg, rest⟩
/-- What grows by an own row keeps the blocks of other types. -/
theorem keep_grown2 {ts : List TypeId} {w w' : World} {v : Value} {B e size n : Nat} {xs : List Value} (hg : w.grownBy w' v.ownBlock) (ho : w.ownsRow B e size v n xs) (he : e ∈ ts) : KeepT ts w w' := fun i T cs fr h1 h2 => by
  refine (hg.block i (Array.getElem?_eq_some_iff.1 h1).1 (fun h3 => ?_)).trans h1
  rcases ho.2 with ⟨hv, _⟩ | ⟨g, cap, cur, hv, hB, hgg, _⟩
  · rw [hv] at h3
    simp [Value.ownBlock] at h3
  · rw [hv] at h3
    simp only [Value.ownBlock, Option.some.injEq] at h3
    subst h3
    rw [h1] at hgg
    simp only [Option.some.injEq, Obj.cells.injEq] at hgg
    exact h2 (hgg.2.1 ▸ he)

def tnVals (L : List (Int × Int)) : List Value := L.flatMap fun t => [.int .i64 t.1, .int .i64 t.2]
theorem tnVals_length (L : List (Int × Int)) : (tnVals L).length = L.length * 2 := by
  induction L with
  | nil => rfl
  | cons t L ih =>
    show ([Value.int .i64 t.1, .int .i64 t.2] ++ tnVals L).length = _
    have e1 : (t :: L).length = L.length + 1 := rfl
    rw [List.length_append, ih, e1]
    show 2 + _ = _
    omega
theorem tnVals_at (L : List (Int × Int)) : ∀ j, (tnVals L)[j]? = (L[j / 2]?).map fun t => if j % 2 = 0 then Value.int .i64 t.1 else .int .i64 t.2 := by
  induction L with
  | nil => intro j; simp [tnVals]
  | cons t L ih =>
    intro j
    show ([Value.int .i64 t.1, .int .i64 t.2] ++ tnVals L)[j]? = _
    match j with
    | 0 => rfl
    | 1 => rfl
    | j + 2 =>
      rw [List.getElem?_append_right (by show 2 ≤ _; omega)]
      show (tnVals L)[j + 2 - 2]? = _
      have e1 : j + 2 - 2 = j := by omega
      have e2 : (j + 2) / 2 = j / 2 + 1 := by omega
      have e3 : (j + 2) % 2 = j % 2 := by omega
      rw [e1, ih, e2, e3, List.getElem?_cons_succ]
theorem tnVals_one (L : List (Int × Int)) : ∀ u ∈ tnVals L, u.oneCell' = true := by
  intro u hu
  obtain ⟨t, _, ht⟩ := List.mem_flatMap.1 hu
  simp at ht
  rcases ht with rfl | rfl <;> rfl
theorem tnVals_snoc (L : List (Int × Int)) (a b : Int) : tnVals L ++ [.int .i64 a, .int .i64 b] = tnVals (L ++ [(a, b)]) := by simp [tnVals]
theorem tnVals_set {L : List (Int × Int)} {k : Nat} (t : Int × Int) (hk : k < L.length) : ((tnVals L).set (k * 2) (.int .i64 t.1)).set (k * 2 + 1) (.int .i64 t.2) = tnVals (L.set k t) := by
  apply List.ext_getElem?
  intro j
  rw [tnVals_at, List.getElem?_set, List.getElem?_set, tnVals_at, List.getElem?_set]
  have hlen := tnVals_length L
  simp only [List.length_set, hlen]
  by_cases e1 : k * 2 + 1 = j
  · have e2 : j / 2 = k := by omega
    have e3 : j % 2 = 1 := by omega
    rw [if_pos e1, if_pos (by omega), if_pos e2.symm, if_pos hk]
    simp [e3]
  · rw [if_neg e1]
    by_cases e2 : k * 2 = j
    · have e3 : j / 2 = k := by omega
      have e4 : j % 2 = 0 := by omega
      rw [if_pos e2, if_pos (by omega), if_pos e3.symm, if_pos hk]
      simp [e4]
    · rw [if_neg e2, if_neg (by omega)]
theorem tnVals_take (L : List (Int × Int)) (n : Nat) : (tnVals L).take (n * 2) = tnVals (L.take n) := by
  apply List.ext_getElem?
  intro j
  by_cases h : j < n * 2
  · rw [List.getElem?_take_of_lt h, tnVals_at, tnVals_at, List.getElem?_take_of_lt (by omega)]
  · rw [List.getElem?_take_eq_none (by omega), tnVals_at, List.getElem?_take_eq_none (by omega)]
    rfl

/-- A row of pairs of the call's own. -/
def TnOwn (B : Nat) (v : Value) (L : List (Int × Int)) (w : World) : Prop := w.ownsRow B 60 2 v L.length (tnVals L)
theorem TnOwn.form {B : Nat} {v : Value} {L : List (Int × Int)} {w : World} (h : TnOwn B v L w) (hn : 0 < L.length) : ∃ g cap, v = .slice (some ⟨g, 0, none⟩) L.length cap := by
  rcases h.2 with ⟨_, h1⟩ | ⟨g, cap, cur, e, _⟩
  · omega
  · exact ⟨g, cap, e⟩
theorem TnOwn.shape {B : Nat} {v : Value} {L : List (Int × Int)} {w : World} (h : TnOwn B v L w) : (v = .slice none 0 0 ∧ L = []) ∨ ∃ g cap, v = .slice (some ⟨g, 0, none⟩) L.length cap := by
  rcases h.2 with ⟨e, h1⟩ | ⟨g, cap, cur, e, _⟩
  · exact .inl ⟨e, List.length_eq_zero_iff.1 h1⟩
  · exact .inr ⟨g, cap, e⟩
theorem TnOwn.cells {B g cap : Nat} {L : List (Int × Int)} {w : World} (h : TnOwn B (.slice (some ⟨g, 0, none⟩) L.length cap) L w) {k : Nat} (hk : k < L.length) : w.cell? ⟨g, k * 2, none⟩ = some (.int .i64 (tg L k).1) ∧ w.cell? ⟨g, k * 2 + 1, none⟩ = some (.int .i64 (tg L k).2) := by
  constructor
  · rw [World.ownsRow.cellAt h _ (by omega), tnVals_at, (by omega : k * 2 / 2 = k), tg_get hk]
    have : k * 2 % 2 = 0 := by omega
    simp [this]
  · rw [World.ownsRow.cellAt h _ (by omega), tnVals_at, (by omega : (k * 2 + 1) / 2 = k), tg_get hk]
    have : (k * 2 + 1) % 2 = 1 := by omega
    simp [this]
/-- The variable of the heap, and its row. -/
def QAt (B q : Nat) (L : List (Int × Int)) (w : World) : Prop := B ≤ q ∧ ∃ v, w.heap[q]? = some (.cells #[v] 56 (0, 0)) ∧ TnOwn B v L w
theorem QAt.later {B q : Nat} {L : List (Int × Int)} {w w' : World} (h : QAt B q L w) (hb : Below w.heap.size w w') : QAt B q L w' := by
  obtain ⟨h0, v, h1, h2⟩ := h
  exact ⟨h0, v, (hb.block q (Array.getElem?_eq_some_iff.1 h1).1).trans h1, own_later2 h2 hb⟩
theorem box_cell {w : World} {q : Nat} {v : Value} {T : TypeId} (h : w.heap[q]? = some (.cells #[v] T (0, 0))) : w.cell? ⟨q, 0, none⟩ = some v := by
  rw [cell_of_row _ _ _ _ _ (0, 0) h]
  rfl

theorem wrapChk (a : Addr) (m : String) (w : World) : (Builtin.ssaWrapNilChk_ #[58] 58 #[.pointer (some a), strVal "", strVal m]).run Tryd.prog w = .ok (.pointer (some a)) w := by rfl
theorem meth_less (n b : Nat) (v : Value) (w : World) (h : w.cell? ⟨b, 0, none⟩ = some v) : (Go.method (n + 1) 58 (.pointer (some ⟨b, 0, none⟩)) "Less").run Tryd.prog w = .ok (89, v) w := by
  have hf : (Tryd.t58).methods.find? (fun x => x.name == "Less") = some { name := "Less", sig := 100, path := #[], func := some (89, false) } := by kernel_rfl
  unfold Go.method
  simp [go_sem, hf, receiverAt, follow, Place.get, loadVar, h, wrapChk]
theorem meth_len (n b : Nat) (v : Value) (w : World) (h : w.cell? ⟨b, 0, none⟩ = some v) : (Go.method (n + 1) 58 (.pointer (some ⟨b, 0, none⟩)) "Len").run Tryd.prog w = .ok (88, v) w := by
  have hf : (Tryd.t58).methods.find? (fun x => x.name == "Len") = some { name := "Len", sig := 88, path := #[], func := some (88, false) } := by kernel_rfl
  unfold Go.method
  simp [go_sem, hf, receiverAt, follow, Place.get, loadVar, h, wrapChk]
theorem meth_swap (n b : Nat) (v : Value) (w : World) (h : w.cell? ⟨b, 0, none⟩ = some v) : (Go.method (n + 1) 58 (.pointer (some ⟨b, 0, none⟩)) "Swap").run Tryd.prog w = .ok (90, v) w := by
  have hf : (Tryd.t58).methods.find? (fun x => x.name == "Swap") = some { name := "Swap", sig := 89, path := #[], func := some (90, false) } := by kernel_rfl
  unfold Go.method
  simp [go_sem, hf, receiverAt, follow, Place.get, loadVar, h, wrapChk]
theorem meth_push (n b : Nat) (w : World) : (Go.method (n + 1) 58 (.pointer (some ⟨b, 0, none⟩)) "Push").run Tryd.prog w = .ok (94, .pointer (some ⟨b, 0, none⟩)) w := by kernel_rfl
theorem meth_pop (n b : Nat) (w : World) : (Go.method (n + 1) 58 (.pointer (some ⟨b, 0, none⟩)) "Pop").run Tryd.prog w = .ok (93, .pointer (some ⟨b, 0, none⟩)) w := by kernel_rfl
end Go.Proofs.YtdandhmallbemaaDoor
