/-
  The heap's methods: Swap by the program.
-/
import Derived.Test.YtdandhmallbemaaDoorHpI
namespace Go.Proofs.YtdandhmallbemaaDoor
open Go.ChangeShapes Go.WideShapes Go.ChangeAt Go.RowKit Go.Joins

theorem own_set2 {B g cap : Nat} {L M : List (Int × Int)} {w : World} (h : w.ownsRow B 60 2 (.slice (some ⟨g, 0, none⟩) L.length cap) L.length (tnVals M)) (hl : M.length = L.length) {k : Nat} (hk : k < L.length) (t : Int × Int) : ((w.setCell ⟨g, k * 2, none⟩ (.int .i64 t.1)).setCell ⟨g, k * 2 + 1, none⟩ (.int .i64 t.2)).ownsRow B 60 2 (.slice (some ⟨g, 0, none⟩) L.length cap) L.length (tnVals (M.set k t)) := by
  rw [← tnVals_set t (by omega)]
  exact ((h.stored _ _).1.stored _ _).1
theorem own_swap {B g cap i j : Nat} {L : List (Int × Int)} {w : World} (h : TnOwn B (.slice (some ⟨g, 0, none⟩) L.length cap) L w) (hi : i < L.length) (hj : j < L.length) :
    TnOwn B (.slice (some ⟨g, 0, none⟩) L.length cap) (swapL L i j) ((((w.setCell ⟨g, i * 2, none⟩ (.int .i64 (tg L j).1)).setCell ⟨g, i * 2 + 1, none⟩ (.int .i64 (tg L j).2)).setCell ⟨g, j * 2, none⟩ (.int .i64 (tg L i).1)).setCell ⟨g, j * 2 + 1, none⟩ (.int .i64 (tg L i).2)) ∧
    Below B w ((((w.setCell ⟨g, i * 2, none⟩ (.int .i64 (tg L j).1)).setCell ⟨g, i * 2 + 1, none⟩ (.int .i64 (tg L j).2)).setCell ⟨g, j * 2, none⟩ (.int .i64 (tg L i).1)).setCell ⟨g, j * 2 + 1, none⟩ (.int .i64 (tg L i).2)) ∧
    KeepT [60] w ((((w.setCell ⟨g, i * 2, none⟩ (.int .i64 (tg L j).1)).setCell ⟨g, i * 2 + 1, none⟩ (.int .i64 (tg L j).2)).setCell ⟨g, j * 2, none⟩ (.int .i64 (tg L i).1)).setCell ⟨g, j * 2 + 1, none⟩ (.int .i64 (tg L i).2)) := by
  have hB : B ≤ g := by
    rcases h.2 with ⟨e, _⟩ | ⟨g', cap', cur, e, hB, _⟩
    · cases e
    · cases e; exact hB
  have h1 := own_set2 h rfl hi (tg L j)
  have h2 := own_set2 h1 (by simp) hj (tg L i)
  refine ⟨?_, ((((Below.refl B w).setCell (p := ⟨g, _, none⟩) hB _).setCell (p := ⟨g, _, none⟩) hB _).setCell (p := ⟨g, _, none⟩) hB _).setCell (p := ⟨g, _, none⟩) hB _, ?_⟩
  · show World.ownsRow _ B 60 2 _ (swapL L i j).length _
    rw [swapL_length]
    exact h2
  · have bl2 : ∀ {wx : World} {xs : List Value} {n : Nat}, wx.ownsRow B 60 2 (.slice (some ⟨g, 0, none⟩) n cap) n xs → ∃ cs, wx.heap[g]? = some (.cells cs 60 (0, 0)) := fun hx => by
      rcases hx.2 with ⟨e, _⟩ | ⟨g', cap', cur, e, _, hg, _⟩
      · cases e
      · cases e; exact ⟨_, hg⟩
    obtain ⟨c0, k0⟩ := bl2 h
    obtain ⟨c1, k1⟩ := bl2 (h.stored (i * 2) (.int .i64 (tg L j).1)).1
    obtain ⟨c2, k2⟩ := bl2 h1
    obtain ⟨c3, k3⟩ := bl2 (h1.stored (j * 2) (.int .i64 (tg L i).1)).1
    exact (((KeepT.set k0 (by simp)).trans (KeepT.set k1 (by simp))).trans (KeepT.set k2 (by simp))).trans (KeepT.set k3 (by simp))

set_option maxRecDepth 100000 in
set_option maxHeartbeats 3200000 in
theorem swap_impl (B g cap i j : Nat) (L : List (Int × Int)) (hi : i < L.length) (hj : j < L.length) (w : World) (h : TnOwn B (.slice (some ⟨g, 0, none⟩) L.length cap) L w) : Calls Tryd.prog 90 #[.slice (some ⟨g, 0, none⟩) L.length cap, .int .i64 (i : Int), .int .i64 (j : Int)] w fun e w' => e = .returned (.tuple #[]) ∧ TnOwn B (.slice (some ⟨g, 0, none⟩) L.length cap) (swapL L i j) w' ∧ Below B w w' ∧ KeepT [60] w w' := by
  have HS := Lib.hid (own_swap h hi hj)
  obtain ⟨a0, a1⟩ := h.cells hi
  obtain ⟨b0, b1⟩ := h.cells hj
  have fr : ∀ k : Nat, w.frozen? ⟨g, k, none⟩ = false := fun k => World.ownsRow.frozenAt h k
  have f0 := fr (i * 2)
  have f1 := fr (i * 2 + 1)
  have f2 := fr (j * 2)
  have f3 := fr (j * 2 + 1)
  obtain ⟨n, hn⟩ : ∃ n, L.length = n := ⟨_, rfl⟩
  have hi' : i < n := by omega
  have hj' : j < n := by omega
  have i0 : (0 : Int) ≤ (i : Int) := by omega
  have i1 : (i : Int) < (n : Int) := by omega
  have j0 : (0 : Int) ≤ (j : Int) := by omega
  have j1 : (j : Int) < (n : Int) := by omega
  obtain ⟨a, ha⟩ : ∃ a, tg L i = a := ⟨_, rfl⟩
  obtain ⟨b, hb⟩ : ∃ b, tg L j = b := ⟨_, rfl⟩
  rw [hn, ha, hb] at HS
  rw [ha] at a0 a1
  rw [hb] at b0 b1
  rw [hn]
  by_cases hij : i = j
  · subst hij
    have hab : a = b := ha.symm.trans hb
    clear fr h hn ha hb hi hj b0 b1 f2 f3 hj' j0 j1
    subst hab
    go_enter Tryd.func90, Tryd.ntmps90
    go_wp2_with fail
    go_region
    all_goals
      go_wp2
      go_end0
      exact ⟨rfl, World.ownsRow.drew HS.out.1, HS.out.2.1.drew, HS.out.2.2⟩
  · have e1 : ¬ i * 2 = j * 2 := by omega
    have e2 : ¬ j * 2 = i * 2 := by omega
    have e3 : ¬ j = i := by omega
    clear fr h hn ha hb hi hj
    go_enter Tryd.func90, Tryd.ntmps90
    go_wp2_with fail
    go_region
    all_goals
      go_wp2
      go_end0
      exact ⟨rfl, World.ownsRow.drew HS.out.1, HS.out.2.1.drew, HS.out.2.2⟩
end Go.Proofs.YtdandhmallbemaaDoor
