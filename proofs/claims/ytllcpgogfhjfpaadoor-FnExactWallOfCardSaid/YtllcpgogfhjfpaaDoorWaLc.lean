/-
  LayCourse: what it tells, and the model's word.
-/
import Derived.Test.YtllcpgogfhjfpaaDoorWaL
namespace Go.Proofs.YtllcpgogfhjfpaaDoor
open Go.ChangeShapes Go.WideShapes Go.ChangeAt Go.RowKit Go.Joins


def lyL (L : List Co) (c t : Int) : List UInt8 := layL (crs L c.toNat) t.toNat
def lyC (nm : ByteArray) (L : List Co) (c t : Int) : Int := if bCode nm L c t = 0 then (if (lyL L c t).length ≤ 60 then 0 else 5) else bCode nm L c t
def lyB (nm : ByteArray) (L : List Co) (c t : Int) : ByteArray := if lyC nm L c t = 0 then ⟨(lyL L c t).toArray⟩ else ⟨#[]⟩
theorem ly_bad {nm : ByteArray} {L : List Co} {c t : Int} (h : ¬ bCode nm L c t = 0) : lyC nm L c t = bCode nm L c t ∧ lyB nm L c t = ⟨#[]⟩ := by
  have h1 : lyC nm L c t = bCode nm L c t := by unfold lyC; rw [if_neg h]
  exact ⟨h1, by unfold lyB; rw [h1, if_neg h]⟩
theorem ly_full {nm : ByteArray} {L : List Co} {c t : Int} (h : bCode nm L c t = 0) (hl : ¬ (lyL L c t).length ≤ 60) : lyC nm L c t = 5 ∧ lyB nm L c t = ⟨#[]⟩ := by
  have h1 : lyC nm L c t = 5 := by unfold lyC; rw [if_pos h, if_neg hl]
  exact ⟨h1, by unfold lyB; rw [h1, if_neg (by omega)]⟩
theorem ly_good {nm : ByteArray} {L : List Co} {c t : Int} (h : bCode nm L c t = 0) (hl : (lyL L c t).length ≤ 60) : lyC nm L c t = 0 ∧ lyB nm L c t = ⟨(lyL L c t).toArray⟩ := by
  have h1 : lyC nm L c t = 0 := by unfold lyC; rw [if_pos h, if_pos hl]
  exact ⟨h1, by unfold lyB; rw [h1, if_pos rfl]⟩
theorem lyL_nat (L : List Co) (k u : Nat) : lyL L (k : Int) (u : Int) = layL (crs L k) u := by simp [lyL]
end Go.Proofs.YtllcpgogfhjfpaaDoor
