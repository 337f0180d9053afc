/-
  The model's source of choices: a number out of a list.
-/
import Derived.Test.YtdandhmallbemaaDoorSrc
import Derived.Deep.DeepMust
namespace Go.Proofs.YtdandhmallbemaaDoor
open Go.ChangeShapes Go.WideShapes Go.ChangeAt Go.RowKit Go.Joins

def AmongOut (w0 w : World) (B : Nat) (cv : Value) (k n : Nat) (f : Nat → Int) (e : Ending) (w' : World) : Prop :=
  ∃ j, j < n ∧ e = .returned (.int .i64 (f j)) ∧ Src w0 w' B cv k ∧ Touch B w w'
set_option maxHeartbeats 800000 in
theorem src_among (w0 w : World) (B : Nat) (cv : Value) (k g n cap : Nat) (f : Nat → Int) (hn : 1 ≤ n) (hn' : n ≤ 100000) (hk : k ≤ 999998) (hg : g ≠ B) (hc : ∀ j, j < n → w.cell? ⟨g, j, none⟩ = some (.int .i64 (f j))) (h : Src w0 w B cv k) :
    Calls Tryd.prog 28 #[.pointer (some ⟨B, 0, none⟩), .slice (some ⟨g, 0, none⟩) n cap] w (AmongOut w0 w B cv (k + 2) n f) := by
  have HS := Lib.hid h
  have HC := Lib.hid hc
  clear h hc
  go_enter Tryd.func28, Tryd.ntmps28
  go_wp2_with fail
  refine (src_pick w0 _ B cv k n (by omega) (by omega) hk HS.out).mono ?_
  rintro e w1 ⟨r, hr0, hr1, rfl, h1, ht⟩
  obtain ⟨j, rfl⟩ := Int.eq_ofNat_of_zero_le hr0
  have hj : j < n := by omega
  have hj' : (j : Int) < (n : Int) := by omega
  have hc := HC.out j hj
  have c0 : w1.cell? ⟨g, j, none⟩ = some (.int .i64 (f j)) := (ht.cell (p := ⟨g, j, none⟩) (World.block_lt_of_cell? w _ hc) hg).trans hc
  have H1 := Lib.hid h1
  have T1 := Lib.hid ht
  clear h1 ht hc
  obtain ⟨t, ht⟩ : ∃ t, f j = t := ⟨_, rfl⟩
  have HT := Lib.hid ht
  rw [ht] at c0
  clear ht
  go_wp2
  go_ret
  exact ⟨j, hj, by rw [HT.out]; rfl, H1.out, T1.out⟩
end Go.Proofs.YtdandhmallbemaaDoor
