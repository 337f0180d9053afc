/-
  The cheapest packs: what the program asks of its sizes and prices, its row of purchases.
-/
import Derived.Test.YtlglijalhacmhabPkM
import Derived.Test.YtlglijalhacmhabWi
import Derived.Deep.MidRow
import Derived.Deep.DeepMust
import Derived.Deep.OwnRows
import Derived.OwnWalk
import Derived.Laws.AppendOwn
import Derived.Laws.OwnMore
namespace Go.Proofs.Ytlglijalhacmhab
open Go.ChangeShapes Go.WideShapes Go.ChangeAt Go.RowKit Go.Joins

set_option maxRecDepth 100000 in
set_option maxHeartbeats 6400000 in
theorem arePacks_impl (S P : List Int) (a b : Option Addr) (ca cb : Nat) (hl : S.length ≤ 1048576) (hp : P.length ≤ 1048576) (w : World) (ha : IntArg w a S) (hb : IntArg w b P) :
    Calls Try.prog 73 #[.slice a S.length ca, .slice b P.length cb] w fun e w' => e = .returned (.bool (pkOk S P)) ∧ w = w' := by
  have RS := Lib.hid (rising_impl S 1 1000 (by omega) (by omega) hl a ca w ha)
  have AL := Lib.hid (allin_impl P 1 100000 b cb hp w hb)
  have W0 := Lib.hid (fun wx => within_impl (S.length : Int) 1 5 wx)
  clear ha hb
  by_cases h1 : (S.length : Int) = (P.length : Int)
  · have hb1 : ((S.length : Int) == (P.length : Int)) = true := by simpa using h1
    have h1' : S.length = P.length := by omega
    cases h2 : inB (S.length : Int) 1 5
    · have HR : Hid (pkOk S P = false) := by show _ = _; simp [pkOk, h2]
      rw [h2] at W0
      clear h1 h1' h2
      go_enter Try.func73, Try.ntmps73
      go_wp2_with (go_at_call 74; refine (W0.out _).mono ?_; rintro e w1 ⟨rfl, rfl⟩)
      go_ret
      exact ⟨ret_bool (by rw [HR.out]), rfl⟩
    cases h3 : risesB 1 1000 S
    · have HR : Hid (pkOk S P = false) := by show _ = _; simp [pkOk, h3]
      rw [h2] at W0
      rw [h3] at RS
      clear h1 h1' h2 h3
      go_enter Try.func73, Try.ntmps73
      go_wp2_with (first | (go_at_call 74; refine (W0.out _).mono ?_; rintro e w1 ⟨rfl, rfl⟩) | (go_at_call 122; refine RS.out.mono ?_; rintro e w1 ⟨rfl, rfl⟩))
      go_ret
      exact ⟨ret_bool (by rw [HR.out]), rfl⟩
    · have HR : Hid (pkOk S P = allB P 1 100000) := by show _ = _; unfold pkOk; rw [h2, h3]; simp [h1']
      rw [h2] at W0
      rw [h3] at RS
      clear h1 h1' h2 h3
      go_enter Try.func73, Try.ntmps73
      go_wp2_with (first | (go_at_call 74; refine (W0.out _).mono ?_; rintro e w1 ⟨rfl, rfl⟩) | (go_at_call 122; refine RS.out.mono ?_; rintro e w1 ⟨rfl, rfl⟩) | (go_at_call 91; refine AL.out.mono ?_; rintro e w1 ⟨rfl, rfl⟩))
      go_ret
      exact ⟨ret_bool (by rw [HR.out]), rfl⟩
  · have hb1 : ((S.length : Int) == (P.length : Int)) = false := by simpa using h1
    have HR : Hid (pkOk S P = false) := by show _ = _; simp [pkOk]; omega
    clear h1
    go_enter Try.func73, Try.ntmps73
    go_wp2
    go_ret
    exact ⟨ret_bool (by rw [HR.out]), rfl⟩
/-- The purchase of i bricks: its first pack, how many bricks are still to be bought then. -/
def puA (S P : List Int) (i : Nat) : Nat := if i = 0 then 0 else agK (csP S P i) S.length
def puR (S P : List Int) (i : Nat) : Nat := if i = 0 then 0 else ((i : Int) - S.getD (agK (csP S P i) S.length) 0).toNat
def puE (S P : List Int) (i : Nat) : List Value := [.int .i64 (lpP S P i), .int .i64 (puA S P i : Int), .int .i64 (puR S P i : Int)]
def puVals (S P : List Int) (n : Nat) : List Value := (List.range n).flatMap (puE S P)
theorem puVals_succ (S P : List Int) (n : Nat) : puVals S P (n + 1) = puVals S P n ++ puE S P n := by
  unfold puVals
  rw [List.range_succ, List.flatMap_append]
  simp
theorem puVals_len (S P : List Int) (n : Nat) : (puVals S P n).length = n * 3 := by
  induction n with
  | zero => rfl
  | succ n ih => rw [puVals_succ, List.length_append, ih]; simp [puE]; omega
theorem puVals_at (S P : List Int) {n i j : Nat} (hi : i < n) (hj : j < 3) : (puVals S P n)[i * 3 + j]? = (puE S P i)[j]? := by
  induction n with
  | zero => omega
  | succ n ih =>
    rw [puVals_succ]
    have hl := puVals_len S P n
    by_cases e : i = n
    · subst e
      rw [List.getElem?_append_right (by omega), hl]
      congr 1; omega
    · rw [List.getElem?_append_left (by omega)]
      exact ih (by omega)
/-- The row of purchases of 0 to n - 1 bricks. -/
def PuRow (B : Nat) (S P : List Int) (n g cap : Nat) (w : World) : Prop := w.ownsRow B 103 3 (.slice (some ⟨g, 0, none⟩) n cap) n (puVals S P n)
theorem PuRow.cells {B n g cap i : Nat} {S P : List Int} {w : World} (h : PuRow B S P n g cap w) (hi : i < n) :
    w.cell? ⟨g, i * 3, none⟩ = some (.int .i64 (lpP S P i)) ∧ w.cell? ⟨g, i * 3 + 1, none⟩ = some (.int .i64 (puA S P i : Int)) ∧ w.cell? ⟨g, i * 3 + 2, none⟩ = some (.int .i64 (puR S P i : Int)) := by
  have c : ∀ j, j < 3 → w.cell? ⟨g, i * 3 + j, none⟩ = (puE S P i)[j]? := fun j hj => by
    rw [World.ownsRow.cellAt h (i * 3 + j) (by omega)]
    exact puVals_at S P hi hj
  exact ⟨c 0 (by omega), c 1 (by omega), c 2 (by omega)⟩
theorem PuRow.later {B n g cap : Nat} {S P : List Int} {w w' : World} (h : PuRow B S P n g cap w) (hb : Below w.heap.size w w') : PuRow B S P n g cap w' := by
  refine ⟨h.1, ?_⟩
  rcases h.2 with hn | ⟨g', cap', cur, hv, hB, hgg, rest⟩
  · exact .inl hn
  · exact .inr ⟨g', cap', cur, hv, hB, (hb.block g' (Array.getElem?_eq_some_iff.1 hgg).1).trans hgg, rest⟩
theorem PuRow.lt {B n g cap : Nat} {S P : List Int} {w : World} (h : PuRow B S P n g cap w) : B ≤ g ∧ g < w.heap.size := World.ownsRow.lt h g rfl
end Go.Proofs.Ytlglijalhacmhab
