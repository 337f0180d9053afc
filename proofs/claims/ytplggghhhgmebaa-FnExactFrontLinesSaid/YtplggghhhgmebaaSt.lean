/-
  Rows of texts as arguments: where they lie; what the laws ask of them: sizes, copies, equality.
-/
import Derived.Test.YtplggghhhgmebaaBase
import Derived.Test.YtplggghhhgmebaaInts
import Derived.Test.YtplggghhhgmebaaBtI
import Derived.BigQuiet
namespace Go.Proofs.Ytplggghhhgmebaa
open Go.ChangeShapes Go.WideShapes Go.ChangeAt Go.RowKit Go.Joins


/-- The texts lie in block b from offset o on. -/
def StrAt (w : World) (b o : Nat) (L : List ByteArray) : Prop := ∀ (k : Nat) (s : ByteArray), L[k]? = some s → w.cell? ⟨b, o + k, none⟩ = some (.string s)
theorem StrAt.later {w w' : World} {b o : Nat} {L : List ByteArray} (h : StrAt w b o L) (hb : Below w.heap.size w w') : StrAt w' b o L :=
  fun k s hk => (hb.cell (p := ⟨b, o + k, none⟩) (World.block_lt_of_cell? w _ (h k s hk))).trans (h k s hk)
def StrArg (w : World) (a : Option Addr) (L : List ByteArray) : Prop := L = [] ∨ ∃ b o, a = some ⟨b, o, none⟩ ∧ StrAt w b o L
theorem StrArg.later {w w' : World} {a : Option Addr} {L : List ByteArray} (h : StrArg w a L) (hb : Below w.heap.size w w') : StrArg w' a L := by
  rcases h with h | ⟨b, o, h1, h2⟩
  · exact .inl h
  · exact .inr ⟨b, o, h1, h2.later hb⟩
theorem StrArg.at {w : World} {a : Option Addr} {L : List ByteArray} (h : StrArg w a L) {k : Nat} (hk : k < L.length) : ∃ b o s, a = some ⟨b, o, none⟩ ∧ L[k]? = some s ∧ StrAt w b o L := by
  rcases h with h | ⟨b, o, h1, h2⟩
  · subst h; simp at hk
  · exact ⟨b, o, _, h1, List.getElem?_eq_getElem hk, h2⟩
/-- No text is longer than n. -/
def StrLe (n : Nat) (L : List ByteArray) : Prop := ∀ (k : Nat) (s : ByteArray), L[k]? = some s → s.size ≤ n
/-- A row of one's own. -/
def StrOwn (B : Nat) (L : List ByteArray) (g : Nat) (w : World) : Prop := B ≤ g ∧ StrAt w g 0 L ∧ w.there g 0 L.length ∧ g < w.heap.size
theorem StrOwn.arg {B : Nat} {L : List ByteArray} {g : Nat} {w : World} (h : StrOwn B L g w) : StrArg w (some ⟨g, 0, none⟩) L := .inr ⟨g, 0, rfl, h.2.1⟩
theorem StrOwn.later {B : Nat} {L : List ByteArray} {g : Nat} {w w' : World} (h : StrOwn B L g w) (hb : Below w.heap.size w w') : StrOwn B L g w' := ⟨h.1, h.2.1.later hb, there_below h.2.2.1 hb, Nat.lt_of_lt_of_le h.2.2.2 hb.size⟩

set_option maxRecDepth 100000 in
set_option maxHeartbeats 1600000 in
theorem eq_strs (L : List ByteArray) (a a' : Option Addr) (cap cap' : Nat) (hl : L.length ≤ 1048577) (w : World) (ha : StrArg w a L) (ha' : StrArg w a' L) :
    Calls Try.prog 43 #[.slice a L.length cap, .slice a' L.length cap'] w fun e w' => e = .returned (.bool true) ∧ Below w.heap.size w w' := by
  have HA := Lib.hid ha
  have HA' := Lib.hid ha'
  clear ha ha'
  go_enter Try.func43, Try.ntmps43
  go_wp2
  go_loopw [5] (fun i wr => ∃ k : Nat, k ≤ L.length ∧ i = .int .i64 k ∧ Hid (Below w.heap.size w wr)) (fun i _ => L.length - (intOf i).toNat)
  case atStart => exact ⟨0, Nat.zero_le _, rfl, Below.refl _ _⟩
  case round =>
    obtain ⟨k, hk, rfl, hB⟩ := hrel
    by_cases hlt : k < L.length
    · have hlt' : (k : Int) < (L.length : Int) := by omega
      have hk0 : (0 : Int) ≤ (k : Int) := by omega
      obtain ⟨b, o, c, rfl, hc, hat⟩ := (HA.out.later hB.out).at hlt
      obtain ⟨b', o', c', rfl, hc', hat'⟩ := (HA'.out.later hB.out).at hlt
      rw [hc] at hc'
      cases hc'
      have c0 := hat k c hc
      have d0 := hat' k c hc
      clear hc hat hat'
      go_wp2
      go_region
      go_wp2
      go_roundw
      case rel => exact ⟨k + 1, by omega, by go_num, hB.out.drew⟩
      case measure => simp [intOf]; omega
    · have hge : ¬ (k : Int) < (L.length : Int) := by omega
      go_wp2
      go_ret
      exact ⟨rfl, hB.out⟩

theorem make_strs (n : Nat) (hn : n ≤ 1048576) (w : World) : (Instr.makeSlice 59 (.int .i64 (n : Int)) (.int .i64 (n : Int))).run Try.prog w = .ok (.slice (some ⟨w.heap.size, 0, none⟩) n n) (w.alloc (.cells (madeCells #[.string ⟨#[]⟩] n) 9)) :=
  run_make_row' (P := Try.prog) 59 9 (.string ⟨#[]⟩) 16 Try.underlying59 infoStrB rfl .i64 .i64 n (by omega) (by omega) w
/-- A row of texts of the call's own, its length and its room n. -/
def SsOwn (B g n : Nat) (O : List ByteArray) (w : World) : Prop := O.length = n ∧ w.ownsRow B 9 1 (.slice (some ⟨g, 0, none⟩) n n) n (strVals O)
theorem SsOwn.cell {B g n k : Nat} {O : List ByteArray} {w : World} {s : ByteArray} (h : SsOwn B g n O w) (hk : O[k]? = some s) : w.cell? ⟨g, k, none⟩ = some (.string s) := by
  have hl := (List.getElem?_eq_some_iff.1 hk).1
  rw [World.ownsRow.cellAt h.2 k (by have := h.1; omega)]
  simp [strVals, hk]
theorem SsOwn.frozen {B g n k : Nat} {O : List ByteArray} {w : World} (h : SsOwn B g n O w) : w.frozen? ⟨g, k, none⟩ = false := World.ownsRow.frozenAt h.2 k
theorem SsOwn.put {B g n k : Nat} {O : List ByteArray} {w : World} (h : SsOwn B g n O w) (x : ByteArray) : SsOwn B g n (O.set k x) (w.setCell ⟨g, k, none⟩ (.string x)) := by
  refine ⟨by simp [h.1], ?_⟩
  have e : strVals (O.set k x) = (strVals O).set k (.string x) := by simp [strVals, List.map_set]
  rw [e]
  exact (h.2.stored k _).1
theorem SsOwn.new {B n : Nat} {w : World} (hB : B ≤ w.heap.size) (hn : n ≤ 1048576) : SsOwn B w.heap.size n (List.replicate n ⟨#[]⟩) (w.alloc (.cells (madeCells #[.string ⟨#[]⟩] n) 9)) := by
  refine ⟨by simp, by simp [strVals], .inr ⟨w.heap.size, n, _, rfl, hB, heap_alloc_new w _, Nat.le_refl _, by unfold maxLen; omega, by simp [size_madeCells], ?_⟩⟩
  rw [toList_madeCells_one]
  simp [strVals]
theorem SsOwn.lt {B g n : Nat} {O : List ByteArray} {w : World} (h : SsOwn B g n O w) : g < w.heap.size := (h.2.lt g rfl).2
theorem SsOwn.own {B g n : Nat} {O : List ByteArray} {w : World} (h : SsOwn B g n O w) (hB : B ≤ g) : StrOwn B O g w := by
  refine ⟨hB, fun k s hk => by rw [Nat.zero_add]; exact h.cell hk, fun j hj => ?_, h.lt⟩
  rw [Nat.zero_add]
  refine ⟨?_, h.frozen⟩
  rw [h.cell (List.getElem?_eq_getElem hj)]
  simp
end Go.Proofs.Ytplggghhhgmebaa
