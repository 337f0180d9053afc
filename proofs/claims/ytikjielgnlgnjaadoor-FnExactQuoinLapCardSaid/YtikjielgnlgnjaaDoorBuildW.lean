/-
  strings.Builder: WriteByte at this program, and what it leaves as it was: blocks of other types.
-/
import Derived.Test.YtikjielgnlgnjaaDoorBuild
import Derived.Test.YtikjielgnlgnjaaDoorInts
namespace Go.Proofs.YtikjielgnlgnjaaDoor
open Go.ChangeShapes Go.WideShapes Go.ChangeAt Go.RowKit Go.Joins


/-- Blocks of other types than these are as they were. -/
def KeepT (ts : List TypeId) (w w' : World) : Prop := ∀ (k : Nat) (T : TypeId) (cs : Array Value) (fr : Nat × Nat), w.heap[k]? = some (.cells cs T fr) → T ∉ ts → w'.heap[k]? = some (.cells cs T fr)
theorem KeepT.refl (ts : List TypeId) (w : World) : KeepT ts w w := fun _ _ _ _ h _ => h
theorem KeepT.trans {ts : List TypeId} {a b c : World} (h : KeepT ts a b) (k : KeepT ts b c) : KeepT ts a c := fun i T cs fr h1 h2 => k i T cs fr (h i T cs fr h1 h2) h2
theorem KeepT.below {ts : List TypeId} {a b : World} (h : Below a.heap.size a b) : KeepT ts a b := fun i _ _ _ h1 _ => (h.block i (Array.getElem?_eq_some_iff.1 h1).1).trans h1
theorem KeepT.set {ts : List TypeId} {w : World} {b o : Nat} {v : Value} {T0 : TypeId} {c0 : Array Value} {f0 : Nat × Nat} (hb : w.heap[b]? = some (.cells c0 T0 f0)) (ht : T0 ∈ ts) : KeepT ts w (w.setCell ⟨b, o, none⟩ v) := fun i T cs fr h1 h2 => by
  have hne : i ≠ b := fun e => by subst e; rw [hb] at h1; cases h1; exact h2 ht
  exact (Below.heap_setCell _ _ _ _ hne).trans h1
theorem KeepT.grown {ts : List TypeId} {w w' : World} {v : Value} {B n : Nat} {xs : List Value} {e : TypeId} (hg : w.grownBy w' v.ownBlock) (ho : w.ownsRow B e 1 v n xs) (he : e ∈ ts) : KeepT ts w w' := fun i _ _ _ h1 h2 =>
  (hg.block i (Array.getElem?_eq_some_iff.1 h1).1 (fun h3 => Lib.ownBlock_ne ho h1 (fun h4 => h2 (h4 ▸ he)) h3.symm)).trans h1
theorem own_keep {ts : List TypeId} {w w' : World} {B e n : Nat} {v : Value} {xs : List Value} (h : w.ownsRow B e 1 v n xs) (hk : KeepT ts w w') (he : e ∉ ts) : w'.ownsRow B e 1 v n xs := by
  refine ⟨h.1, ?_⟩
  rcases h.2 with hn | ⟨g, cap, cur, hv, hB, hgg, rest⟩
  · exact .inl hn
  · exact .inr ⟨g, cap, cur, hv, hB, hk _ _ _ _ hgg he, rest⟩
theorem bat_keep {ts : List TypeId} {B b : Nat} {p : Value} {bs : List Value} {w w' : World} (h : Lib.BuilderAt 109 5 B b p bs w) (hk : KeepT ts w w') (h1 : 109 ∉ ts) (h2 : 5 ∉ ts) : Lib.BuilderAt 109 5 B b p bs w' := by
  obtain ⟨hB, v, hbk, hown, hne⟩ := h
  exact ⟨hB, v, hk _ _ _ _ hbk h1, own_keep hown hk h2, hne⟩
theorem isb_keep {ts : List TypeId} {B b : Nat} {bs : List Value} {w w' : World} (h : IsB B b bs w) (hk : KeepT ts w w') (h1 : 109 ∉ ts) (h2 : 5 ∉ ts) : IsB B b bs w' := by
  rcases h with h | h
  · exact .inl (bat_keep h hk h1 h2)
  · exact .inr (bat_keep h hk h1 h2)

theorem check_impl2 (B b : Nat) (bs : List Value) (w : World) (h : IsB B b bs w) :
    Calls Tryd.prog 111 #[.pointer (some ⟨b, 0, none⟩)] w fun e w' => e = .returned (.tuple #[]) ∧ BAt B b bs w' ∧ Below B w w' ∧ KeepT [109, 5] w w' := by
  rcases h with h | h
  · refine (check_fresh b w h.cell0 h.shape h.frozen0).mono ?_
    rintro e w' ⟨rfl, rfl⟩
    obtain ⟨hB, v, hbk, _, _⟩ := id h
    exact ⟨rfl, h.used _, (Below.refl B w).setCell (p := ⟨b, 0, none⟩) h.1 _, KeepT.set hbk (by simp)⟩
  · refine (check_used b w h.cell0).mono ?_
    rintro e w' ⟨rfl, rfl⟩
    exact ⟨rfl, h, Below.refl B _, KeepT.refl _ _⟩

theorem lit8B (base : Nat) (wr : World) (c : Value) (hb : base ≤ wr.heap.size) : (wr.alloc (.cells #[c] 5)).ownsRow base 5 1 (.slice (some ⟨wr.heap.size, 0, none⟩) 1 1) 1 [c] :=
  ⟨rfl, .inr ⟨wr.heap.size, 1, #[c], rfl, hb, heap_alloc_new wr _, Nat.le_refl _, by decide, rfl, rfl⟩⟩
end Go.Proofs.YtikjielgnlgnjaaDoor
