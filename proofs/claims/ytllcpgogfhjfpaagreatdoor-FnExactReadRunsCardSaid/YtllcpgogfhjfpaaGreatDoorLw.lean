/-
  LayWall: the model's word.
-/
import Derived.Test.YtllcpgogfhjfpaaGreatDoorWaLc
import Derived.Test.YtllcpgogfhjfpaaGreatDoorStM
namespace Go.Proofs.YtllcpgogfhjfpaaGreatDoor
open Go.ChangeShapes Go.WideShapes Go.ChangeAt Go.RowKit Go.Joins


/-- A laid course as a text; the first n of them; whether none has too many pieces. -/
def lwB (L : List Co) (u k : Nat) : ByteArray := ⟨(layL (crs L k) u).toArray⟩
def lwTo (L : List Co) (u n : Nat) : List ByteArray := (List.range n).map (lwB L u)
theorem lwTo_length (L : List Co) (u n : Nat) : (lwTo L u n).length = n := by simp [lwTo]
theorem lwTo_succ (L : List Co) (u n : Nat) : lwTo L u (n + 1) = lwTo L u n ++ [lwB L u n] := by simp [lwTo, List.range_succ]
def lwF (L : List Co) (u n : Nat) : Bool := (List.range n).all fun k => decide ((layL (crs L k) u).length ≤ 60)
theorem lwF_succ (L : List Co) (u n : Nat) : lwF L u (n + 1) = (lwF L u n && decide ((layL (crs L n) u).length ≤ 60)) := by simp [lwF, List.range_succ]
theorem lwF_bad {L : List Co} {u k n : Nat} (hk : k < n) (h : ¬ (layL (crs L k) u).length ≤ 60) : lwF L u n = false := by
  unfold lwF
  rw [List.all_eq_false]
  exact ⟨k, List.mem_range.2 hk, by simpa using h⟩
def lwC (nm : ByteArray) (L : List Co) (t n : Int) : Int := if bCode nm L 0 t = 0 then (if inB n 1 40 = true then (if lwF L t.toNat n.toNat = true then 0 else 5) else 2) else bCode nm L 0 t
def lwV (nm : ByteArray) (L : List Co) (t n : Int) : List ByteArray := if lwC nm L t n = 0 then lwTo L t.toNat n.toNat else []
theorem lw_bad {nm : ByteArray} {L : List Co} {t n : Int} (h : ¬ bCode nm L 0 t = 0) : lwC nm L t n = bCode nm L 0 t ∧ lwV nm L t n = [] := by
  have h1 : lwC nm L t n = bCode nm L 0 t := by unfold lwC; rw [if_neg h]
  exact ⟨h1, by unfold lwV; rw [h1, if_neg h]⟩
theorem lw_range {nm : ByteArray} {L : List Co} {t n : Int} (h : bCode nm L 0 t = 0) (h2 : inB n 1 40 = false) : lwC nm L t n = 2 ∧ lwV nm L t n = [] := by
  have h1 : lwC nm L t n = 2 := by unfold lwC; rw [if_pos h, h2]; rfl
  exact ⟨h1, by unfold lwV; rw [h1, if_neg (by omega)]⟩
theorem lw_full {nm : ByteArray} {L : List Co} {t n : Int} (h : bCode nm L 0 t = 0) (h2 : inB n 1 40 = true) (h3 : lwF L t.toNat n.toNat = false) : lwC nm L t n = 5 ∧ lwV nm L t n = [] := by
  have h1 : lwC nm L t n = 5 := by unfold lwC; rw [if_pos h, if_pos h2, h3]; rfl
  exact ⟨h1, by unfold lwV; rw [h1, if_neg (by omega)]⟩
theorem lw_good {nm : ByteArray} {L : List Co} {t n : Int} (h : bCode nm L 0 t = 0) (h2 : inB n 1 40 = true) (h3 : lwF L t.toNat n.toNat = true) : lwC nm L t n = 0 ∧ lwV nm L t n = lwTo L t.toNat n.toNat := by
  have h1 : lwC nm L t n = 0 := by unfold lwC; rw [if_pos h, if_pos h2, if_pos h3]
  exact ⟨h1, by unfold lwV; rw [h1, if_pos rfl]⟩
theorem lwV_length (nm : ByteArray) (L : List Co) (t n : Int) : (lwV nm L t n).length ≤ 40 := by
  unfold lwV
  split
  · rename_i h
    rw [lwTo_length]
    unfold lwC at h
    split at h
    · split at h
      · rename_i h2
        have := inB_true.1 h2
        omega
      · omega
    · omega
  · simp
/-- Courses and a code are handed back. -/
def LwAns (w : World) (nm : ByteArray) (L : List Co) (t n : Int) (e : Ending) (w' : World) : Prop := ∃ a cap, e = .returned (.tuple #[.slice a (lwV nm L t n).length cap, .int .i64 (lwC nm L t n)]) ∧ StrRes w.heap.size (lwV nm L t n) a w' ∧ Below w.heap.size w w'
/-- A row of texts that grows. -/
theorem str_res {wr : World} {B : Nat} {P : List ByteArray} {v : Value} (h : wr.ownsRow B 9 1 v P.length (strVals P)) : ∃ a cap, v = .slice a P.length cap ∧ StrRes B P a wr := by
  rcases h.2 with ⟨hv, h0⟩ | ⟨g, cap, cur, hv, hB, hg, _⟩
  · have hP : P = [] := List.eq_nil_of_length_eq_zero h0
    subst hP
    exact ⟨_, _, hv, .inl rfl⟩
  · refine ⟨_, _, hv, .inr ⟨g, rfl, hB, fun k z hk => ?_, fun j hj => ?_, (Array.getElem?_eq_some_iff.1 hg).1⟩⟩
    · have hl := (List.getElem?_eq_some_iff.1 hk).1
      subst hv
      rw [Nat.zero_add, World.ownsRow.cellAt h k (by omega)]
      simp [strVals, hk]
    · subst hv
      rw [Nat.zero_add]
      refine ⟨?_, World.ownsRow.frozenAt h j⟩
      rw [World.ownsRow.cellAt h j (by omega), List.getElem?_eq_getElem (by simpa [strVals] using hj)]
      rfl
theorem StrRes.mono {B B' : Nat} {Q : List ByteArray} {a : Option Addr} {w : World} (h : StrRes B Q a w) (hB : B' ≤ B) : StrRes B' Q a w := by
  rcases h with h | ⟨g, h1, h2⟩
  · exact .inl h
  · exact .inr ⟨g, h1, Nat.le_trans hB h2.1, h2.2⟩
theorem strs_start (w : World) : (w.alloc (.cells #[] 9)).ownsRow w.heap.size 9 1 (.slice (some ⟨w.heap.size, 0, none⟩) 0 0) 0 (strVals []) :=
  ⟨rfl, .inr ⟨w.heap.size, 0, #[], rfl, Nat.le_refl _, heap_alloc_new w _, Nat.le_refl _, by decide, rfl, rfl⟩⟩
theorem strVals_snoc (P : List ByteArray) (x : ByteArray) : strVals P ++ [.string x] = strVals (P ++ [x]) := by simp [strVals]
end Go.Proofs.YtllcpgogfhjfpaaGreatDoor
