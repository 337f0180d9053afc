/-
  UseMould: what is handed back, and the model's answer.
-/
import Derived.Test.YtcjmdmkcipiabaaMoF
import Derived.Test.YtcjmdmkcipiabaaMoL
namespace Go.Proofs.Ytcjmdmkcipiabaa
open Go.ChangeShapes Go.WideShapes Go.ChangeAt Go.RowKit Go.Joins


theorem um_bad {L : List Mo} {k t q : Int} (h : umC L k t = q) (hq : ¬ q = 0) : umL L k t = [] := by unfold umL; rw [if_neg (by rw [h]; exact hq)]
theorem um_good {L : List Mo} {k t : Int} (h : umC L k t = 0) : umL L k t = usedL L k t := by unfold umL; rw [if_pos h]
theorem used_ok {c : Mo} {t : Int} (h : c.ok = true) (ht : 0 ≤ t) : ({ c with us := c.us + t } : Mo).ok = decide (c.us + t ≤ 100000) := by
  obtain ⟨h0, h1, h2, h3⟩ := Mo.ok_facts h
  have e : inB (c.us + t) 0 100000 = decide (c.us + t ≤ 100000) := by
    by_cases hx : c.us + t ≤ 100000
    · rw [inB_true.2 ⟨by omega, hx⟩]; simp [hx]
    · rw [inB_false.2 (fun h => hx h.2)]; simp [hx]
  simp only [Mo.ok, inB_true.2 h0, inB_true.2 h1, inB_true.2 h2, e]
  simp
theorem MoOwn.use {B g k : Nat} {L : List Mo} {w : World} {c : Mo} (h : MoOwn B L g w) (hk : L[k]? = some c) (u : Int) : MoOwn B (L.set k { c with us := u }) g (w.setCell ⟨g, k * 4 + 3, none⟩ (.int .i64 u)) := by
  obtain ⟨h1, h2, h3, h4⟩ := h
  have hl : k < L.length := (List.getElem?_eq_some_iff.1 hk).1
  obtain ⟨t1, t2, t3⟩ := int_store h3 (show k * 4 + 3 < L.length * 4 by omega) (.int .i64 u)
  refine ⟨h1, fun j d hj i v hv => ?_, by rw [List.length_set]; exact t1, by simpa [World.setCell] using h4⟩
  have hi : i < 4 := (List.getElem?_eq_some_iff.1 hv).1
  rw [Nat.zero_add]
  by_cases e : j = k
  · subst e
    have hd : d = { c with us := u } := by rw [List.getElem?_set_self hl] at hj; exact (Option.some.inj hj).symm
    subst hd
    by_cases e3 : i = 3
    · subst e3
      have hv' : Value.int .i64 u = v := by simpa [Mo.vals] using hv
      rw [t2, hv']
    · have hv' : c.vals[i]? = some v := by
        match i, hi, e3, hv with
        | 0, _, _, hv => simpa [Mo.vals] using hv
        | 1, _, _, hv => simpa [Mo.vals] using hv
        | 2, _, _, hv => simpa [Mo.vals] using hv
        | 3, _, e3, _ => exact absurd rfl e3
      have h5 := h2 j c hk i v hv'
      rw [Nat.zero_add] at h5
      rw [t3 ⟨g, j * 4 + i, none⟩ (fun h => by have := congrArg Addr.off h; simp at this; omega)]
      exact h5
  · rw [List.getElem?_set_ne (fun h => e h.symm)] at hj
    have h5 := h2 j d hj i v hv
    rw [Nat.zero_add] at h5
    rw [t3 ⟨g, j * 4 + i, none⟩ (fun h => by have := congrArg Addr.off h; simp at this; omega)]
    exact h5
theorem MoOwn.put {B g k : Nat} {L : List Mo} {w : World} (h : MoOwn B L g w) (hl : k < L.length) (c : Mo) : MoOwn B (L.set k c) g (w.setCells g (k * 4) c.vals) := by
  obtain ⟨h1, h2, h3, h4⟩ := h
  refine ⟨h1, fun j d hj => ?_, by rw [List.length_set]; exact World.there_setCells h3 g (k * 4) c.vals, by rw [size_setCells]; exact h4⟩
  rw [Nat.zero_add]
  by_cases e : j = k
  · subst e
    have hd : d = c := by rw [List.getElem?_set_self hl] at hj; exact (Option.some.inj hj).symm
    subst hd
    exact World.rangeAt_setCells_same w g (j * 4) d.vals (there_part h3 hl)
  · rw [List.getElem?_set_ne (fun h => e h.symm)] at hj
    have h5 := h2 j d hj
    rw [Nat.zero_add] at h5
    refine World.rangeAt_setCells_apart h5 _ _ _ ?_
    by_cases e2 : j < k
    · exact .inr (.inl (by show j * 4 + 4 ≤ k * 4; omega))
    · exact .inr (.inr (by show k * 4 + 4 ≤ j * 4; omega))
theorem MoOwn.down {B B' : Nat} {L : List Mo} {g : Nat} {w : World} (h : MoOwn B L g w) (hb : B' ≤ B) : MoOwn B' L g w := ⟨Nat.le_trans hb h.1, h.2⟩
end Go.Proofs.Ytcjmdmkcipiabaa
