/-
  strings.Builder: String at this program, and what it leaves as it was: blocks of other types than bytes.
-/
import Derived.Test.YtplggghhhgmebaaDoorBuildW
import Derived.Lib.UnsafeStr
import Derived.Deep.RegionWith
import Derived.Deep.QuietTactic
import Derived.BigQuiet
namespace Go.Proofs.YtplggghhhgmebaaDoor
open Go.ChangeShapes Go.WideShapes Go.ChangeAt Go.RowKit Go.Joins

theorem cellsByteB : Tryd.prog.cellsOf 5 = 1 := by kernel_rfl
theorem heap_freeze (w : World) (p : Addr) (n k : Nat) (h : k ≠ p.block) : (w.freeze p n).heap[k]? = w.heap[k]? := by
  simp only [World.freeze]
  split <;> simp [Array.getElem?_modify, Ne.symm h]
theorem KeepT.freeze {ts : List TypeId} {w : World} {g n : Nat} {c0 : Array Value} {T0 : TypeId} {f0 : Nat × Nat} (hg : w.heap[g]? = some (.cells c0 T0 f0)) (ht : T0 ∈ ts) : KeepT ts w (w.freeze ⟨g, 0, none⟩ n) := fun i T cs fr h1 h2 => by
  have hne : i ≠ g := fun e => by subst e; rw [hg] at h1; cases h1; exact h2 ht
  exact (heap_freeze w ⟨g, 0, none⟩ n i hne).trans h1

set_option maxRecDepth 100000 in
set_option maxHeartbeats 2000000 in
theorem string_impl (B b : Nat) (l : List UInt8) (w : World) (h : IsB B b (Lib.byteCells l) w) (hBw : B ≤ w.heap.size) :
    Calls Tryd.prog 50 #[.pointer (some ⟨b, 0, none⟩)] w fun e w' => e = .returned (.string ⟨l.toArray⟩) ∧ Below B w w' ∧ KeepT [5] w w' := by
  obtain ⟨p, hB, v, hbk, hown, hne⟩ : ∃ p, Lib.BuilderAt 78 5 B b p (Lib.byteCells l) w := by
    rcases h with h | h
    · exact ⟨_, h⟩
    · exact ⟨_, h⟩
  have hlt : b < w.heap.size := (Array.getElem?_eq_some_iff.1 hbk).1
  rw [Lib.byteCells_length] at hown
  have hUN := fun (W : World) (q : Option Addr) => Lib.run_unsafeString_none (P := Tryd.prog) (w := W) 91 3 9 q
  by_cases h0 : l = []
  · subst h0
    rcases hown.2 with ⟨rfl, _⟩ | ⟨g, cap, cur, rfl, hbg, hg, _⟩
    · have c1 : w.cell? ⟨b, 1, none⟩ = some (.slice none 0 0) := by rw [Lib.cell_of_heap hbk]; rfl
      have hSD : (Builtin.unsafeSliceData_ #[76] 91 #[.slice none 0 0]).run Tryd.prog w.drew = .ok (.pointer none) w.drew := rfl
      clear hbk hown h
      go_enter Tryd.func50, Tryd.ntmps50
      go_wp2
      go_region
      all_goals
        go_wp2
        go_ret
        exact ⟨rfl, (Below.refl B w).drew, KeepT.refl _ _⟩
    · by_cases hc0 : cap = 0
      · subst hc0
        have c1 : w.cell? ⟨b, 1, none⟩ = some (.slice (some ⟨g, 0, none⟩) 0 0) := by rw [Lib.cell_of_heap hbk]; rfl
        have hSD : (Builtin.unsafeSliceData_ #[76] 91 #[.slice (some ⟨g, 0, none⟩) 0 0]).run Tryd.prog w.drew = .ok (.pointer (some ⟨w.drew.heap.size, 0, none⟩)) (w.drew.alloc (.view ⟨g, 0, none⟩ 5)) :=
          Lib.run_unsafeSliceData_zero w.drew _ _ 5 Tryd.underlying91 ⟨g, 0, none⟩ 0 (5, cur.size) (by have hg' : w.drew.heap[g]? = some (.cells cur 5 (0, 0)) := hg; simp [World.shape?, hg'])
        have c2 : (w.drew.alloc (.view ⟨g, 0, none⟩ 5)).cell? ⟨b, 1, none⟩ = some (.slice (some ⟨g, 0, none⟩) 0 0) := (World.cell?_alloc_lt _ _ _ hlt).trans c1
        have c3 : (w.alloc (.view ⟨g, 0, none⟩ 5)).drew.cell? ⟨b, 1, none⟩ = some (.slice (some ⟨g, 0, none⟩) 0 0) := c2
        clear hbk hown h hg
        go_enter Tryd.func50, Tryd.ntmps50
        go_wp2
        go_region
        all_goals
          go_wp2
          go_ret
          exact ⟨rfl, (Below.refl B w).drew.alloc hBw _, KeepT.below (balloc0 w _).drew⟩
      · have c1 : w.cell? ⟨b, 1, none⟩ = some (.slice (some ⟨g, 0, none⟩) 0 cap) := by rw [Lib.cell_of_heap hbk]; rfl
        have hSD : (Builtin.unsafeSliceData_ #[76] 91 #[.slice (some ⟨g, 0, none⟩) 0 cap]).run Tryd.prog w.drew = .ok (.pointer (some ⟨g, 0, none⟩)) w.drew := Lib.run_unsafeSliceData_row _ _ _ _ _ _ hc0
        clear hbk hown h hg hc0
        go_enter Tryd.func50, Tryd.ntmps50
        go_wp2
        go_region
        all_goals
          go_wp2
          go_ret
          exact ⟨rfl, (Below.refl B w).drew, KeepT.refl _ _⟩
  · have hl0 : l.length ≠ 0 := by simpa using h0
    obtain ⟨g, cap, cur, rfl, hbg, hg, hnc, hcm, hcs, htake⟩ : ∃ g cap cur, v = .slice (some ⟨g, 0, none⟩) l.length cap ∧ B ≤ g ∧ w.heap[g]? = some (.cells cur 5 (0, 0)) ∧ l.length ≤ cap ∧ cap ≤ maxLen ∧ cur.size = cap * 1 ∧ cur.toList.take (l.length * 1) = Lib.byteCells l := by
      rcases hown.2 with ⟨_, hz⟩ | ⟨g, cap, cur, hv, r⟩
      · exact absurd hz hl0
      · exact ⟨g, cap, cur, hv, r⟩
    have c1 : w.cell? ⟨b, 1, none⟩ = some (.slice (some ⟨g, 0, none⟩) l.length cap) := by rw [Lib.cell_of_heap hbk]; rfl
    have hSD : (Builtin.unsafeSliceData_ #[76] 91 #[.slice (some ⟨g, 0, none⟩) l.length cap]).run Tryd.prog w.drew = .ok (.pointer (some ⟨g, 0, none⟩)) w.drew := Lib.run_unsafeSliceData_row _ _ _ _ _ _ (by omega)
    have hUS : (Builtin.unsafeString_ #[91, 3] 9 #[.pointer (some ⟨g, 0, none⟩), .int .i64 l.length]).run Tryd.prog w.drew = .ok (.string ⟨l.toArray⟩) (w.drew.freeze ⟨g, 0, none⟩ l.length) :=
      Lib.run_unsafeString_row (w := w.drew) 91 3 9 5 Tryd.underlying91 cellsByteB g cur.size (by have hg' : w.drew.heap[g]? = some (.cells cur 5 (0, 0)) := hg; simp [World.shape?, hg']) l h0 (by omega) (by unfold maxLen at hcm; omega) (fun j x hx => hown.cells (g := g) rfl j (.int .u8 x.toNat) (by simp [Lib.byteCells, hx]))
    have HG := Lib.hid hg
    clear hbk hown h hg hnc hcm hcs htake hUN
    go_enter Tryd.func50, Tryd.ntmps50
    go_wp2
    go_region
    all_goals
      go_wp2
      go_ret
      exact ⟨rfl, Lib.below_freeze (Below.drew (Below.refl B w)) (p := ⟨g, 0, none⟩) hbg _, KeepT.freeze (w := w.drew) HG.out (by simp)⟩
end Go.Proofs.YtplggghhhgmebaaDoor
