/-
  FnUses: plain facts. Shared uses are even and have their sum; a mould that has been used is among the worn ones.
-/
import Derived.Test.YtdandhmallbemaaDoorSuP
namespace Go.Proofs.YtdandhmallbemaaDoor
open Go.ChangeShapes Go.WideShapes Go.ChangeAt Go.RowKit Go.Joins

theorem sum_set : ∀ {O : List Int} {b : Nat} {x : Int}, b < O.length → (O.set b x).sum = O.sum - og O b + x
  | [], _, _, h => by simp at h
  | y :: O, 0, x, _ => by
    show (x :: O).sum = (y :: O).sum - y + x
    rw [List.sum_cons, List.sum_cons]
    omega
  | y :: O, b + 1, x, h => by
    show (y :: O.set b x).sum = (y :: O).sum - og O b + x
    rw [List.sum_cons, List.sum_cons, sum_set (by simpa using h)]
    omega
theorem nextU_lt {L : List Mo} {O : List Int} (h : 0 < L.length) : nextU L O < L.length := leastTo_lt _ _ h
/-- Shared uses have their sum. -/
theorem shTo_sum {L : List Mo} (h : 0 < L.length) : ∀ n : Nat, (shTo L n).sum = (n : Int)
  | 0 => by
    show (List.replicate L.length (0 : Int)).sum = 0
    induction L.length with
    | zero => rfl
    | succ k ih => rw [List.replicate_succ, List.sum_cons, ih]; rfl
  | n + 1 => by
    have hb : nextU L (shTo L n) < (shTo L n).length := by rw [shTo_length]; exact nextU_lt h
    show ((shTo L n).set _ _).sum = _
    rw [sum_set hb, shTo_sum h n]
    omega
/-- No mould is used more than once beyond another one. -/
theorem shTo_even {L : List Mo} (h : 0 < L.length) : ∀ (n i j : Nat), i < L.length → j < L.length → 0 < og (shTo L n) i → usA L i + og (shTo L n) i ≤ usA L j + og (shTo L n) j + 1
  | 0, i, j, _, _, hp => by have := shTo_range L 0 i; omega
  | n + 1, i, j, hi, hj, hp => by
    obtain ⟨O, hO⟩ : ∃ O, shTo L n = O := ⟨_, rfl⟩
    have hb : nextU L O < O.length := by rw [← hO, shTo_length]; exact nextU_lt h
    have e : shTo L (n + 1) = O.set (nextU L O) (og O (nextU L O) + 1) := by rw [← hO]; rfl
    have ih := shTo_even h n
    rw [hO] at ih
    have hm := (leastTo_min (fun k => usA L k + og O k) L.length h).1
    have hm2 : ∀ k, k < L.length → usA L (nextU L O) + og O (nextU L O) ≤ usA L k + og O k := fun k hk => hm k hk
    rw [e] at hp ⊢
    rw [og_set hb] at hp
    rw [og_set hb, og_set hb]
    by_cases e1 : i = nextU L O
    · rw [if_pos e1, e1]
      have := hm2 j hj
      split
      · rename_i e2
        rw [e2]
        omega
      · omega
    · rw [if_neg e1] at hp ⊢
      have := ih i j hi hj hp
      split
      · rename_i e2
        rw [e2] at this
        rw [e2]
        omega
      · exact this
/-- The mould that has been used. -/
theorem used_at {L : List Mo} {k t : Int} (h : umC L k t = 0) : okMos L = true ∧ 0 ≤ k ∧ k < (L.length : Int) ∧ 1 ≤ t ∧ (L.getD k.toNat default).us + t ≤ 100000 := by
  unfold umC at h
  by_cases h1 : okMos L = true
  · rw [if_pos h1] at h
    by_cases h2 : inB k 0 ((L.length : Int) - 1) = true ∧ inB t 1 100000 = true
    · rw [if_pos h2] at h
      obtain ⟨a1, a2⟩ := inB_true.1 h2.1
      obtain ⟨b1, b2⟩ := inB_true.1 h2.2
      by_cases h3 : (L.getD k.toNat default).us + t ≤ 100000
      · exact ⟨h1, a1, by omega, b1, h3⟩
      · rw [if_neg h3] at h
        omega
    · rw [if_neg h2] at h
      omega
  · rw [if_neg h1] at h
    omega
theorem usedL_at {L : List Mo} {k t : Int} (h : umC L k t = 0) : (usedL L k t)[k.toNat]? = some { (L.getD k.toNat default) with us := (L.getD k.toNat default).us + t } := by
  obtain ⟨_, h0, h1, _, _⟩ := used_at h
  unfold usedL
  rw [List.getElem?_set]
  have : k.toNat < L.length := by omega
  simp [this]
theorem usedL_ok {L : List Mo} {k t : Int} (h : umC L k t = 0) : okMos (usedL L k t) = true := by
  obtain ⟨h1, k0, k1, t1, hs⟩ := used_at h
  obtain ⟨hl, hall⟩ := okMos_all h1
  refine okMos_yes (fun j c hc => ?_) (by unfold usedL; rw [List.length_set]; exact hl)
  unfold usedL at hc
  rw [List.getElem?_set] at hc
  by_cases e : k.toNat = j
  · have hj : k.toNat < L.length := by omega
    rw [if_pos e, if_pos (by omega)] at hc
    have hd := Option.some.inj hc
    have hold := hall k.toNat (L.getD k.toNat default) (by rw [List.getD_eq_getElem?_getD, List.getElem?_eq_getElem hj]; rfl)
    obtain ⟨⟨a1, a2⟩, ⟨b1, b2⟩, ⟨c1, c2⟩, d1, d2⟩ := Mo.ok_facts hold
    rw [← hd]
    simp only [Mo.ok, Bool.and_eq_true, inB_true]
    exact ⟨⟨a1, a2⟩, ⟨b1, b2⟩, ⟨c1, c2⟩, by omega, hs⟩
  · rw [if_neg e] at hc
    exact hall j c hc
theorem wornTo_has {L : List Mo} {m : Int} {j : Nat} : ∀ k, j < k → m < (L.getD j default).us → (j : Int) ∈ wornTo L m k
  | 0, h, _ => by omega
  | k + 1, h, hm => by
    by_cases e : j = k
    · subst e
      simp only [wornTo, if_pos hm]
      simp
    · have := wornTo_has (m := m) k (by omega) hm
      simp only [wornTo]
      split
      · simp [this]
      · exact this
/-- The used mould is among those that have been used more often than once less. -/
theorem used_worn {L : List Mo} {k t m : Int} (h : umC L k t = 0) (hm : m = (L.getD k.toNat default).us + t - 1) : wmC (usedL L k t) m = 0 ∧ k ∈ wmL (usedL L k t) m := by
  obtain ⟨h1, k0, k1, t1, hs⟩ := used_at h
  have hk : k.toNat < L.length := by omega
  have hold := (okMos_all h1).2 k.toNat (L.getD k.toNat default) (by rw [List.getD_eq_getElem?_getD, List.getElem?_eq_getElem hk]; rfl)
  obtain ⟨_, _, _, d1, d2⟩ := Mo.ok_facts hold
  have hc : wmC (usedL L k t) m = 0 := by
    unfold wmC
    rw [if_pos (usedL_ok h), if_pos (inB_true.2 ⟨by omega, by omega⟩)]
  refine ⟨hc, ?_⟩
  unfold wmL
  rw [if_pos hc]
  have e : ((k.toNat : Nat) : Int) = k := by omega
  rw [← e]
  rw [← e] at h
  have hu := usedL_at (L := L) (k := ((k.toNat : Nat) : Int)) (t := t) h
  refine wornTo_has _ (by unfold usedL; rw [List.length_set]; exact hk) ?_
  have hu2 : (usedL L ((k.toNat : Nat) : Int) t).getD k.toNat default = { (L.getD k.toNat default) with us := (L.getD k.toNat default).us + t } := by
    rw [List.getD_eq_getElem?_getD]
    have : ((k.toNat : Nat) : Int).toNat = k.toNat := by omega
    rw [this] at hu
    rw [hu]
    rfl
  rw [hu2]
  show m < (L.getD k.toNat default).us + t
  omega
end Go.Proofs.YtdandhmallbemaaDoor
