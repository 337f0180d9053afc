/-
  The marks that ranges over functions leave among a frame's deferred calls, many of them: how the function goes out through them.
-/
import Derived.RangeFuncNested
import Derived.RangeFuncLeaves
import Derived.RangeFuncKeeps
import Derived.Test.YtllcpgogfhjfpaaDoorWaI
namespace Go.Proofs.YtllcpgogfhjfpaaDoor
open Go.ChangeShapes Go.WideShapes Go.ChangeAt Go.RowKit Go.Joins Go.Shelf

/-- Marks, each one above the next, none with a call. -/
def Marks (n₀ : Nat) : Nat → List Deferred → World → Prop
  | _, [], _ => True
  | hi, d :: ds, W => ∃ D, d = { target := .collected D, args := #[] } ∧ n₀ ≤ D ∧ D < hi ∧ W.heap[D]? = some (.deferred (some [])) ∧ Marks n₀ D ds W
theorem Marks.mono {n₀ : Nat} {ds : List Deferred} {W : World} {hi hi' : Nat} (h : Marks n₀ hi ds W) (hh : hi ≤ hi') : Marks n₀ hi' ds W := by
  cases ds with
  | nil => trivial
  | cons d ds => obtain ⟨D, h1, h2, h3, h4, h5⟩ := h; exact ⟨D, h1, h2, Nat.lt_of_lt_of_le h3 hh, h4, h5⟩
theorem Marks.keeps {n₀ : Nat} {W W' : World} (k : KeepsFrom n₀ W W') : ∀ {ds : List Deferred} {hi : Nat}, Marks n₀ hi ds W → Marks n₀ hi ds W'
  | [], _, _ => trivial
  | _ :: _, _, ⟨D, h1, h2, h3, h4, h5⟩ => ⟨D, h1, h2, h3, k.same D _ h2 h4 rfl, Marks.keeps k h5⟩
theorem Marks.put {n₀ D : Nat} {W : World} (o : Obj) : ∀ {ds : List Deferred} {hi : Nat}, Marks n₀ hi ds W → hi ≤ D → Marks n₀ hi ds (W.putObj D o)
  | [], _, _, _ => trivial
  | _ :: _, _, ⟨D', h1, h2, h3, h4, h5⟩, hD => ⟨D', h1, h2, h3, (World.putObj_heap_other (by omega)).trans h4, Marks.put o h5 (by omega)⟩
/-- What the marks' end leaves: all that lay below, and all cells. -/
def MarkT (n₀ : Nat) (W W' : World) : Prop := Below n₀ W W' ∧ ∀ (b : Nat) (o : Obj), W.heap[b]? = some o → o.isCells = true → W'.heap[b]? = some o
theorem MarkT.boxed {n₀ b : Nat} {W W' : World} {t : TypeId} {v : Value} (h : MarkT n₀ W W') (hb : Boxed W b t v) : Boxed W' b t v := h.2 b _ hb rfl
theorem leaves_marks {F : Fence} {n : Nat} {P : Program} {fn : Func} {tmps : Array Value} {R : Ending → World → Prop} (w : World) : ∀ (ds : List Deferred) (hi : Nat) (W : World), Marks w.heap.size hi ds W →
    (∀ W', MarkT w.heap.size W W' → ∃ v, (results fn tmps).run P W' = .ok v W' ∧ R (.returned v) W') → LeavesInM F n P fn tmps R ds .returning W
  | [], _, W, _, h => h W ⟨Below.refl _ _, fun _ _ h _ => h⟩
  | _ :: ds, _, W, ⟨D, h1, h2, _, h4, h5⟩, h => by
    subst h1
    refine ⟨by simp, .inl ⟨D, W.putObj D (.deferred none), rfl, run_takeDeferred h4, leaves_marks w ds D _ (h5.put _ (Nat.le_refl _)) fun W' hT => ?_⟩⟩
    refine h W' ⟨(belowK_b (w := w) (Nat.le_refl _) W D _ _ h2 h4 rfl rfl).trans hT.1, fun b o hb ho => hT.2 b o ?_ ho⟩
    refine (World.putObj_heap_other (fun e => ?_)).trans hb
    subst e
    rw [h4] at hb
    cases hb
    cases ho
end Go.Proofs.YtllcpgogfhjfpaaDoor
