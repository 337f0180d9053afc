/-
  Rows of structs in the call's own memory: plain laws on ranges of cells. Nothing of the dump.
-/
import Derived.Test.YtikjielgnlgnjaaDoorDecI
import Derived.Deep.MidRow
import Derived.Deep.Draws
namespace Go.Proofs.YtikjielgnlgnjaaDoor
open Go.ChangeShapes Go.WideShapes Go.ChangeAt Go.RowKit Go.Joins

theorem there_new (w : World) (C : Array Value) (t : TypeId) (n : Nat) (hC : C.size = n) : (w.alloc (.cells C t)).there w.heap.size 0 n := fun j hj => by
  refine ⟨?_, World.frozen?_alloc_at C t _ _ rfl⟩
  rw [cell_of_row _ _ _ C t (0, 0) (heap_alloc_new w _), Nat.zero_add, Array.getElem?_eq_getElem (by omega)]
  rfl
theorem there_part {w : World} {g n k m : Nat} (h : w.there g 0 (n * m)) (hk : k < n) : w.there g (k * m) m := fun j hj => by
  have h1 : (k + 1) * m ≤ n * m := Nat.mul_le_mul_right m hk
  have h2 : (k + 1) * m = k * m + m := Nat.succ_mul k m
  have := h (k * m + j) (by omega)
  rwa [Nat.zero_add] at this
theorem below_setCells {B : Nat} {a : World} (g : Nat) (hg : B ≤ g) : ∀ (vs : List Value) (o : Nat) (w : World), Below B a w → Below B a (w.setCells g o vs)
  | [], _, _, h => h
  | v :: r, o, w, h => by
    rw [World.setCells]
    exact below_setCells g hg r (o + 1) _ (h.setCell (p := ⟨g, o, none⟩) hg v)
theorem size_setCells (g : Nat) : ∀ (vs : List Value) (o : Nat) (w : World), (w.setCells g o vs).heap.size = w.heap.size
  | [], _, _ => rfl
  | v :: r, o, w => by rw [World.setCells, size_setCells g r (o + 1)]; simp [World.setCell]
theorem there_below {w w' : World} {g o n : Nat} (h : w.there g o n) (hb : Below w.heap.size w w') : w'.there g o n := fun j hj => by
  obtain ⟨h1, h2⟩ := h j hj
  obtain ⟨u, hu⟩ := Option.isSome_iff_exists.1 h1
  have hlt : g < w.heap.size := World.block_lt_of_cell? w ⟨g, o + j, none⟩ hu
  exact ⟨by rw [hb.cell (p := ⟨g, o + j, none⟩) hlt]; exact h1, by rw [hb.frozen (p := ⟨g, o + j, none⟩) hlt]; exact h2⟩
theorem range_below {w w' : World} {g o : Nat} {cs : List Value} (h : w.rangeAt g o cs) (hb : Below w.heap.size w w') : w'.rangeAt g o cs := fun j v hv => by
  have h1 := h j v hv
  rw [hb.cell (p := ⟨g, o + j, none⟩) (World.block_lt_of_cell? w _ h1)]
  exact h1
/-- A new block of cells holds them. -/
theorem range_new (w : World) (C : Array Value) (t : TypeId) : (w.alloc (.cells C t)).rangeAt w.heap.size 0 C.toList := fun j v hv => by
  rw [cell_of_row _ _ _ C t (0, 0) (heap_alloc_new w _), Nat.zero_add]
  simpa using hv
theorem range_new2 (w : World) (o : Obj) (C : Array Value) (t : TypeId) : ((w.alloc o).alloc (.cells C t)).rangeAt (w.heap.size + 1) 0 C.toList := by
  have h := range_new (w.alloc o) C t
  rwa [show (w.alloc o).heap.size = w.heap.size + 1 by simp] at h
theorem range_old (w : World) (o : Obj) (C : Array Value) (t : TypeId) : ((w.alloc (.cells C t)).alloc o).rangeAt w.heap.size 0 C.toList := World.rangeAt_alloc (range_new w C t) o
theorem below_drewN {n : Nat} {w v : World} (h : Below n w v) (k : Nat) : Below n w (v.drewN k) := by
  induction k generalizing v with
  | zero => exact h
  | succ k ih => exact (ih h).drew
theorem int_store {w : World} {g n k : Nat} (T : w.there g 0 n) (hk : k < n) (v : Value) : (w.setCell ⟨g, k, none⟩ v).there g 0 n ∧ (w.setCell ⟨g, k, none⟩ v).cell? ⟨g, k, none⟩ = some v ∧ (∀ p : Addr, p ≠ ⟨g, k, none⟩ → (w.setCell ⟨g, k, none⟩ v).cell? p = w.cell? p) := by
  have e : w.setCell ⟨g, k, none⟩ v = w.setCells g k [v] := by rw [World.setCells, World.setCells]
  obtain ⟨h1, h2⟩ := T k hk
  rw [Nat.zero_add] at h1 h2
  obtain ⟨u, hu⟩ := Option.isSome_iff_exists.1 h1
  exact ⟨by rw [e]; exact World.there_setCells T g k [v], World.cell?_setCell_same _ _ _ hu, fun p hp => World.cell?_setCell_other _ _ _ _ hp.symm⟩
theorem there_at {w : World} {g n k : Nat} (T : w.there g 0 n) (hk : k < n) : ∃ u, w.cell? ⟨g, k, none⟩ = some u ∧ w.frozen? ⟨g, k, none⟩ = false := by
  obtain ⟨h1, h2⟩ := T k hk
  rw [Nat.zero_add] at h1 h2
  obtain ⟨u, hu⟩ := Option.isSome_iff_exists.1 h1
  exact ⟨u, hu, h2⟩

/-- Of what was there only block g may have changed. -/
def Only (g : Nat) (w w' : World) : Prop := w.grownBy w' (some g)
theorem Only.refl (g : Nat) (w : World) : Only g w w := ⟨rfl, rfl, rfl, Nat.le_refl _, fun _ _ _ => rfl⟩
theorem Only.below {g : Nat} {w v u : World} (h : Only g w v) (k : Below v.heap.size v u) : Only g w u :=
  ⟨k.os.trans h.os, k.tape.trans h.tape, k.output.trans h.output, Nat.le_trans h.size k.size, fun i hi hne => (k.block i (Nat.lt_of_lt_of_le hi h.size)).trans (h.block i hi hne)⟩
theorem Only.set {g : Nat} {w v : World} (h : Only g w v) (o : Nat) (x : Value) : Only g w (v.setCell ⟨g, o, none⟩ x) := by
  have k : Below g v (v.setCell ⟨g, o, none⟩ x) := (Below.refl g v).setCell (p := ⟨g, o, none⟩) (Nat.le_refl _) x
  refine ⟨k.os.trans h.os, k.tape.trans h.tape, k.output.trans h.output, Nat.le_trans h.size k.size, fun i hi hne => ?_⟩
  rw [← h.block i hi hne]
  have hig : i ≠ g := fun e => hne (by rw [e])
  exact Below.heap_setCell _ _ _ _ (by omega)
theorem Only.base {g B : Nat} {w v : World} (h : Only g w v) (hg : B ≤ g) (hB : B ≤ w.heap.size) : Below B w v :=
  ⟨h.os, h.tape, h.output, h.size, fun k hk => h.block k (by omega) (fun e => by cases e; omega)⟩
theorem Only.range {g b o : Nat} {cs : List Value} {w v : World} (h : Only g w v) (hne : b ≠ g) (hr : w.rangeAt b o cs) : v.rangeAt b o cs := fun j x hx => by
  have h1 := hr j x hx
  have h2 := World.block_lt_of_cell? w _ h1
  rw [World.cell?_of_block (w := w) (a := ⟨b, o + j, none⟩) (h.block b h2 (fun e => hne (by cases e; rfl)))]
  exact h1
theorem Only.there {g b o n : Nat} {w v : World} (h : Only g w v) (hne : b ≠ g) (hr : w.there b o n) : v.there b o n := fun j hj => by
  obtain ⟨h1, h3⟩ := hr j hj
  obtain ⟨u, hu⟩ := Option.isSome_iff_exists.1 h1
  have h2 := World.block_lt_of_cell? w ⟨b, o + j, none⟩ hu
  have h4 := h.block b h2 (fun e => hne (by cases e; rfl))
  exact ⟨by rw [World.cell?_of_block (w := w) (a := ⟨b, o + j, none⟩) h4]; exact h1, by rw [World.frozen?_of_block (w := w) (a := ⟨b, o + j, none⟩) h4]; exact h3⟩
end Go.Proofs.YtikjielgnlgnjaaDoor
