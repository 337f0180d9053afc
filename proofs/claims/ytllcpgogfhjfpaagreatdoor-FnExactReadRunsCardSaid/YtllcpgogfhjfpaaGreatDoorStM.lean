/-
  What the laws ask of bonds before and behind the call: their size, copies, equality.
-/
import Derived.Test.YtllcpgogfhjfpaaGreatDoorCo
import Derived.Test.YtllcpgogfhjfpaaGreatDoorRow
import Derived.Deep.RegionWith
import Derived.Deep.OwnRows
import Derived.WalkSmall
import Derived.Deep.QuietTactic
import Derived.BigQuiet
import Derived.Test.YtllcpgogfhjfpaaGreatDoorDec
import Derived.OwnWalk
import Derived.Deep.DeepMust
import Derived.Test.YtllcpgogfhjfpaaGreatDoorSt
namespace Go.Proofs.YtllcpgogfhjfpaaGreatDoor
open Go.ChangeShapes Go.WideShapes Go.ChangeAt Go.RowKit Go.Joins
theorem boxB (w : World) (nm : ByteArray) (v : Value) (t : TypeId) : (w.alloc (.cells #[.string nm, v] t)).cell? ⟨w.heap.size, 0, none⟩ = some (.string nm) ∧ (w.alloc (.cells #[.string nm, v] t)).cell? ⟨w.heap.size, 1, none⟩ = some v := by
  refine ⟨?_, ?_⟩ <;> (rw [cell_of_row _ _ _ _ t (0, 0) (heap_alloc_new w _)]; rfl)
/-- A row of the call's own that holds these courses: it may be written. -/
def CoOwn (B : Nat) (L : List Co) (g : Nat) (w : World) : Prop := B ≤ g ∧ CoAt w g 0 L ∧ w.there g 0 (L.length * 2) ∧ g < w.heap.size
theorem CoOwn.arg {B : Nat} {L : List Co} {g : Nat} {w : World} (h : CoOwn B L g w) : CoArg w (some ⟨g, 0, none⟩) L := .inr ⟨g, 0, rfl, h.2.1⟩

theorem CoOwn.only {B : Nat} {L : List Co} {g b : Nat} {w w' : World} (h : CoOwn B L g w) (ho : Only b w w') (hne : g ≠ b) : CoOwn B L g w' :=
  ⟨h.1, fun k c hk => ho.range hne (h.2.1 k c hk), ho.there hne h.2.2.1, Nat.lt_of_lt_of_le h.2.2.2 ho.size⟩
theorem CoOwn.set {B : Nat} {L : List Co} {g b o : Nat} {v : Value} {w : World} (h : CoOwn B L g w) (hne : g ≠ b) : CoOwn B L g (w.setCell ⟨b, o, none⟩ v) := h.only ((Only.refl b w).set o v) hne
theorem CoOwn.later {B : Nat} {L : List Co} {g : Nat} {w w' : World} (h : CoOwn B L g w) (hb : Below w.heap.size w w') : CoOwn B L g w' := ⟨h.1, h.2.1.later hb, there_below h.2.2.1 hb, Nat.lt_of_lt_of_le h.2.2.2 hb.size⟩
end Go.Proofs.YtllcpgogfhjfpaaGreatDoor
/-
  The letters that the laws write into a row of texts, and look for again.
-/
namespace Go.Proofs.YtllcpgogfhjfpaaGreatDoor
open Go.ChangeShapes Go.WideShapes Go.ChangeAt Go.RowKit Go.Joins


/-- The text of mark k. -/
def markB (k : Nat) : ByteArray := ⟨(109 :: decNZ k).toArray⟩

theorem lit8_row (base : Nat) (wr : World) (c : Value) (hb : base ≤ wr.heap.size) : (wr.alloc (.cells #[c] 5)).ownsRow base 5 1 (.slice (some ⟨wr.heap.size, 0, none⟩) 1 1) 1 [c] :=
  ⟨rfl, .inr ⟨wr.heap.size, 1, #[c], rfl, hb, heap_alloc_new wr _, Nat.le_refl _, by decide, rfl, rfl⟩⟩
theorem one_string (wr : World) (m : Nat) : (convert 27 9 (.slice (some ⟨wr.heap.size, 0, none⟩) 1 1)).run Tryz.prog (wr.alloc (.cells #[.int .u8 (48 + (m : Int) % 10)] 5)) = .ok (.string ⟨[UInt8.ofNat (48 + m % 10)].toArray⟩) (wr.alloc (.cells #[.int .u8 (48 + (m : Int) % 10)] 5)) :=
  run_convert_bytes_back (P := Tryz.prog) _ 27 9 5 ⟨wr.heap.size, 0, none⟩ 1 [UInt8.ofNat (48 + m % 10)] Tryz.underlying27 Tryz.underlying5 Tryz.underlying9 (fun j hj => (lit8_row 0 wr _ (Nat.zero_le _)).cells rfl j _ (by
    have : j = 0 := by simp at hj; omega
    subst this
    show some (Value.int .u8 (48 + (m : Int) % 10)) = some (Value.int .u8 ((UInt8.ofNat (48 + m % 10)).toNat : Int))
    rw [digit_val]))
end Go.Proofs.YtllcpgogfhjfpaaGreatDoor
/-
  Marks that the laws write into rows of courses, and look for again.
-/
namespace Go.Proofs.YtllcpgogfhjfpaaGreatDoor
open Go.ChangeShapes Go.WideShapes Go.ChangeAt Go.RowKit Go.Joins


theorem there_set1c {w : World} {g o n : Nat} (T : w.there g o n) (k : Nat) (v : Value) : (w.setCell ⟨g, k, none⟩ v).there g o n := by
  have e : w.setCell ⟨g, k, none⟩ v = w.setCells g k [v] := by rw [World.setCells, World.setCells]
  rw [e]
  exact World.there_setCells T g k [v]
/-- The course of marks from K on. -/
def mco (K k : Nat) : Co := ⟨markB (K + 2 * k), markB (K + 2 * k + 1)⟩
def mcoL (K n : Nat) : List Co := (List.range n).map (mco K)
theorem mcoL_length (K n : Nat) : (mcoL K n).length = n := by simp [mcoL]
theorem mcoL_at {K n k : Nat} (h : k < n) : (mcoL K n)[k]? = some (mco K k) := by simp [mcoL, h]
end Go.Proofs.YtllcpgogfhjfpaaGreatDoor
/-
  The laws' letters in rows of texts as results: written, looked for, kept apart.
-/
namespace Go.Proofs.YtllcpgogfhjfpaaGreatDoor
open Go.ChangeShapes Go.WideShapes Go.ChangeAt Go.RowKit Go.Joins


def marksS (K n : Nat) : List ByteArray := (List.range n).map fun j => markB (K + j)
theorem marksS_length (K n : Nat) : (marksS K n).length = n := by simp [marksS]
theorem marksS_at {K n k : Nat} (h : k < n) : (marksS K n)[k]? = some (markB (K + k)) := by simp [marksS, h]
/-- A row of texts that was handed back. -/
def StrRes (B : Nat) (Q : List ByteArray) (a : Option Addr) (w : World) : Prop := Q = [] ∨ ∃ g, a = some ⟨g, 0, none⟩ ∧ StrOwn B Q g w
theorem StrRes.later {B : Nat} {Q : List ByteArray} {a : Option Addr} {w w' : World} (h : StrRes B Q a w) (hb : Below w.heap.size w w') : StrRes B Q a w' := by
  rcases h with h | ⟨g, h1, h2⟩
  · exact .inl h
  · exact .inr ⟨g, h1, h2.later hb⟩
theorem StrRes.arg {B : Nat} {Q : List ByteArray} {a : Option Addr} {w : World} (h : StrRes B Q a w) : StrArg w a Q := by
  rcases h with h | ⟨g, h1, h2⟩
  · exact .inl h
  · rw [h1]; exact h2.arg
theorem StrOwn.only {B b : Nat} {Q : List ByteArray} {g : Nat} {w w' : World} (h2 : StrOwn B Q g w) (hb : Only b w w') (hgb : g ≠ b) : StrOwn B Q g w' := by
  refine ⟨h2.1, fun k z hk => ?_, hb.there hgb h2.2.2.1, Nat.lt_of_lt_of_le h2.2.2.2 hb.size⟩
  have h3 := h2.2.1 k z hk
  rw [World.cell?_of_block (w := w) (a := ⟨g, 0 + k, none⟩) (hb.block g h2.2.2.2 (fun e => hgb (by cases e; rfl)))]
  exact h3
theorem StrRes.only {B b : Nat} {Q : List ByteArray} {a : Option Addr} {w w' : World} (h : StrRes B Q a w) (hb : Only b w w') (hne : b < B) : StrRes B Q a w' := by
  rcases h with h | ⟨g, h1, h2⟩
  · exact .inl h
  · exact .inr ⟨g, h1, h2.only hb (by have := h2.1; omega)⟩
/-- A row of texts that lies low. -/
def LowStr (B : Nat) (a : Option Addr) (P : List ByteArray) (w : World) : Prop := P = [] ∨ ∃ g, a = some ⟨g, 0, none⟩ ∧ g < B ∧ StrAt w g 0 P
theorem LowStr.of {B : Nat} {a : Option Addr} {P : List ByteArray} {w : World} (h : StrRes B P a w) : LowStr w.heap.size a P w := by
  rcases h with h | ⟨g, h1, h2⟩
  · exact .inl h
  · exact .inr ⟨g, h1, h2.2.2.2, h2.2.1⟩
theorem LowStr.arg {B : Nat} {a : Option Addr} {P : List ByteArray} {w : World} (h : LowStr B a P w) : StrArg w a P := by
  rcases h with h | ⟨g, h1, _, h2⟩
  · exact .inl h
  · exact .inr ⟨g, 0, h1, h2⟩
theorem LowStr.below {B n : Nat} {a : Option Addr} {P : List ByteArray} {w w' : World} (h : LowStr B a P w) (hb : Below n w w') (hn : B ≤ n) : LowStr B a P w' := by
  rcases h with h | ⟨g, h1, h2, h3⟩
  · exact .inl h
  · exact .inr ⟨g, h1, h2, fun k z hk => (hb.cell (p := ⟨g, 0 + k, none⟩) (by show g < n; omega)).trans (h3 k z hk)⟩
theorem LowStr.later {B : Nat} {a : Option Addr} {P : List ByteArray} {w w' : World} (h : LowStr B a P w) (hb : Below w.heap.size w w') : LowStr B a P w' := by
  rcases h with h | ⟨g, h1, h2, h3⟩
  · exact .inl h
  · exact .inr ⟨g, h1, h2, h3.later hb⟩
theorem LowStr.only {B g : Nat} {a : Option Addr} {P : List ByteArray} {w w' : World} (h : LowStr B a P w) (ho : Only g w w') (hg : B ≤ g) : LowStr B a P w' := by
  rcases h with h | ⟨g1, h1, h2, h3⟩
  · exact .inl h
  · exact .inr ⟨g1, h1, h2, fun k z hk => by
      have h4 := h3 k z hk
      rw [World.cell?_of_block (w := w) (a := ⟨g1, 0 + k, none⟩) (ho.block g1 (World.block_lt_of_cell? w _ h4) (fun e => by cases e; omega))]
      exact h4⟩
end Go.Proofs.YtllcpgogfhjfpaaGreatDoor
