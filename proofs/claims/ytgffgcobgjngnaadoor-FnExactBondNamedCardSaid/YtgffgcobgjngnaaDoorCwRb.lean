/-
  The walk of the law on ReadBond.
-/
import Derived.Test.YtgffgcobgjngnaaDoorRbL
namespace Go.Proofs.YtgffgcobgjngnaaDoor
open Go.ChangeShapes Go.WideShapes Go.ChangeAt Go.RowKit Go.Joins


theorem ckL_length (s : ByteArray) (hs : s.size ≤ 1048576) : (ckL s).length ≤ 1048577 := by
  unfold ckL
  split
  · simp
  · have h1 := cosTo_length (wordsB s) (wordsB s).length
    have h2 := (words_length s).2
    omega
/-- The courses of a bond that has been handed back are marked; the marks are held. -/
theorem mark_any (N : ByteArray) (L : List Co) (a : Option Addr) (cap B B2 : Nat) (w : World) (hL : L.length ≤ 1048577) (hBB : B ≤ B2) (hB : B2 ≤ w.heap.size) (h : L = [] ∨ ∃ g, a = some ⟨g, 0, none⟩ ∧ B ≤ g ∧ g < B2 ∧ w.there g 0 (L.length * 2)) :
    Calls Tryd.prog 12 #[.agg #[.string N, .slice a L.length cap], .int .i64 1] w fun e w' => e = .returned (.int .i64 ((1 + 2 * L.length : Nat) : Int)) ∧ Below B w w' ∧ (∀ b o, b < B ∨ B2 ≤ b → b < w.heap.size → w'.cell? ⟨b, o, none⟩ = w.cell? ⟨b, o, none⟩) ∧
      (∀ wx, Below w'.heap.size w' wx → Calls Tryd.prog 13 #[.agg #[.string N, .slice a L.length cap], .int .i64 1] wx fun e w2 => e = .returned (.int .i64 ((1 + 2 * L.length : Nat) : Int)) ∧ Below wx.heap.size wx w2) := by
  by_cases h0 : L = []
  · subst h0
    refine (mark_none N 1 a cap w).mono ?_
    rintro e w' ⟨rfl, hb⟩
    exact ⟨rfl, hb.mono (Nat.le_trans hBB hB), fun b o _ hlt => hb.cell (p := ⟨b, o, none⟩) hlt, fun wx _ => held_none N 1 (by omega) a cap wx⟩
  · rcases h with h | ⟨g, rfl, hg1, hg2, hT⟩
    · exact absurd h h0
    refine (mark_bondR N L.length hL 1 (by omega) (by omega) g cap w hT).mono ?_
    rintro e w' ⟨rfl, ho, hm⟩
    refine ⟨rfl, ⟨ho.os, ho.tape, ho.output, ho.size, fun k hk => ho.block k (by omega) (fun e => by cases e; omega)⟩, fun b o hb hlt => ?_, fun wx hx => held_bond N L.length hL 1 (by omega) (by omega) g cap wx (hm.later hx)⟩
    exact World.cell?_of_block (w := w) (a := ⟨b, o, none⟩) (ho.block b hlt (fun e => by cases e; omega))
end Go.Proofs.YtgffgcobgjngnaaDoor
