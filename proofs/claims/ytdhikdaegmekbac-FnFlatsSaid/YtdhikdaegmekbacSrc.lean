/-
  The model's source of choices: contracts that say in which bounds a drawn number lies and that nothing but the source itself has turned.
-/
import Derived.Test.YtdhikdaegmekbacBase
import Derived.WalkSmall
import Derived.Deep.QuietTactic
import Derived.BigQuiet
namespace Go.Proofs.Ytdhikdaegmekbac
open Go.ChangeShapes Go.WideShapes Go.ChangeAt Go.RowKit Go.Joins


/-- The world has turned at block B alone, and may have grown. -/
structure Touch (B : Nat) (w w' : World) : Prop where
  os : w'.os = w.os
  tape : w'.tape = w.tape
  output : w'.output = w.output
  size : w.heap.size ≤ w'.heap.size
  block : ∀ k, k < w.heap.size → k ≠ B → w'.heap[k]? = w.heap[k]?
theorem Touch.refl (B : Nat) (w : World) : Touch B w w := ⟨rfl, rfl, rfl, Nat.le_refl _, fun _ _ _ => rfl⟩
theorem Touch.trans {B : Nat} {a b c : World} (h : Touch B a b) (k : Touch B b c) : Touch B a c :=
  ⟨k.os.trans h.os, k.tape.trans h.tape, k.output.trans h.output, Nat.le_trans h.size k.size, fun i hi hn => (k.block i (Nat.lt_of_lt_of_le hi h.size) hn).trans (h.block i hi hn)⟩
theorem Touch.trans' {B : Nat} {a b : World} (h : Touch B a b) (c : World) (h1 : c.os = b.os) (h2 : c.tape = b.tape) (h3 : c.output = b.output) (h4 : b.heap.size ≤ c.heap.size) (h5 : ∀ k, k < a.heap.size → c.heap[k]? = b.heap[k]?) : Touch B a c :=
  ⟨h1.trans h.os, h2.trans h.tape, h3.trans h.output, Nat.le_trans h.size h4, fun k hk hn => (h5 k hk).trans (h.block k hk hn)⟩
theorem Touch.drew {B : Nat} {a w : World} (h : Touch B a w) : Touch B a w.drew := ⟨h.os, h.tape, h.output, h.size, h.block⟩
theorem Touch.setCell {B : Nat} {a w : World} (h : Touch B a w) (o : Nat) (u : Value) : Touch B a (w.setCell ⟨B, o, none⟩ u) :=
  h.trans ⟨rfl, rfl, rfl, by simp [World.setCell], fun k _ hn => Below.heap_setCell _ _ _ _ hn⟩
theorem Touch.cell {B : Nat} {w w' : World} (h : Touch B w w') {p : Addr} (hp : p.block < w.heap.size) (hn : p.block ≠ B) : w'.cell? p = w.cell? p := World.cell?_of_block (w := w) (h.block p.block hp hn)
theorem Touch.frozen {B : Nat} {w w' : World} (h : Touch B w w') {p : Addr} (hp : p.block < w.heap.size) (hn : p.block ≠ B) : w'.frozen? p = w.frozen? p := World.frozen?_of_block (w := w) (h.block p.block hp hn)
theorem Touch.below {B C : Nat} {w w' : World} (h : Touch B w w') (hB : C ≤ B) (hs : C ≤ w.heap.size) : Below C w w' :=
  ⟨h.os, h.tape, h.output, h.size, fun k hk => h.block k (by omega) (by omega)⟩

/-- cv is a slice of bytes that lie below block B. -/
def CodeAt (w : World) (B : Nat) (cv : Value) : Prop :=
  (∃ a cap, cv = .slice a 0 cap) ∨ ∃ (b o len cap : Nat) (z : Nat → Int), cv = .slice (some ⟨b, o, none⟩) len cap ∧ b < B ∧ len ≤ 9223372036854775807 ∧ ∀ i, i < len → w.cell? ⟨b, o + i, none⟩ = some (.int .u8 (z i)) ∧ 0 ≤ z i ∧ z i ≤ 255
theorem CodeAt.touch {w w' : World} {B : Nat} {cv : Value} (h : CodeAt w B cv) (ht : Touch B w w') (hB : B < w.heap.size) : CodeAt w' B cv := by
  rcases h with h | ⟨b, o, len, cap, z, h1, h2, h3, h4⟩
  · exact .inl h
  · exact .inr ⟨b, o, len, cap, z, h1, h2, h3, fun i hi => ⟨(ht.cell (p := ⟨b, o + i, none⟩) (Nat.lt_trans h2 hB) (Nat.ne_of_lt h2)).trans (h4 i hi).1, (h4 i hi).2⟩⟩

theorem block_set3 {w : World} {B : Nat} {x0 x1 x2 : Value} {t : TypeId} (h : w.heap[B]? = some (.cells #[x0, x1, x2] t (0, 0))) (y1 y2 : Value) :
    ((w.setCell ⟨B, 1, none⟩ y1).setCell ⟨B, 2, none⟩ y2).heap[B]? = some (.cells #[x0, y1, y2] t (0, 0)) := by
  have h1 := block_setCell (i := 1) h y1
  have h2 := block_setCell (i := 2) h1 y2
  simpa using h2

theorem u64_bounds (n : Int) : 0 ≤ IntKind.u64.wrap n ∧ IntKind.u64.wrap n ≤ 18446744073709551615 := by
  have h : (Lit.int .u64 (IntKind.u64.wrap n)).wf = true := wf_wrap .u64 n
  simpa [Lit.wf, IntKind.min, IntKind.max, IntKind.signed, IntKind.bits] using h
/-- The low byte of a word's upper part. -/
theorem low_byte (n : Int) : 0 ≤ wrap64 (bits BinOp.and IntKind.u64 (IntKind.u64.wrap n / 1099511627776) 255) ∧ wrap64 (bits BinOp.and IntKind.u64 (IntKind.u64.wrap n / 1099511627776) 255) ≤ 255 := by
  obtain ⟨h0, h1⟩ := u64_bounds n
  generalize IntKind.u64.wrap n = x at h0 h1
  have e : ((x / 1099511627776).toNat : Int) = x / 1099511627776 := by omega
  have h := bits_and_u64_nat (x / 1099511627776).toNat 255 (by omega) (by omega)
  rw [e] at h
  have h' : bits BinOp.and IntKind.u64 (x / 1099511627776) 255 = (((x / 1099511627776).toNat &&& 255 : Nat) : Int) := h
  rw [h']
  have hb : ((x / 1099511627776).toNat &&& 255) ≤ 255 := Nat.and_le_right
  rw [IntWalk.wrap64_in _ ⟨by omega, by omega⟩]
  omega

theorem touch_alloc (B : Nat) (w : World) (o : Obj) : Touch B w (w.alloc o) := ⟨rfl, rfl, rfl, by simp, fun k hk _ => Below.heap_alloc w o k hk⟩
theorem touch_setCell (B g o : Nat) (w0 w : World) (v : Value) (h : Touch B w0 w) (hg : w0.heap.size ≤ g) : Touch B w0 (w.setCell ⟨g, o, none⟩ v) :=
  h.trans' (w.setCell ⟨g, o, none⟩ v) rfl rfl rfl (by simp [World.setCell]) (fun k hk => Below.heap_setCell w ⟨g, o, none⟩ v k (by show k ≠ g; omega))
end Go.Proofs.Ytdhikdaegmekbac
