/-
  The program's parts of CheckBond: the first word, the course of a word, and the noting of a problem.
-/
import Derived.Test.YtikjielgnlgnjaaDoorEis
import Derived.Test.YtikjielgnlgnjaaDoorChkP
import Derived.Test.YtikjielgnlgnjaaDoorCo
import Derived.Test.YtikjielgnlgnjaaDoorShelfC
import Derived.Test.YtikjielgnlgnjaaDoorSpl2
import Derived.Test.YtikjielgnlgnjaaDoorBy
namespace Go.Proofs.YtikjielgnlgnjaaDoor
open Go.ChangeShapes Go.WideShapes Go.ChangeAt Go.RowKit Go.Joins
theorem plain_not {s : ByteArray} (h : (43 : UInt8) ∈ s.data.toList) : plainB s = false := by
  cases hp : plainB s
  · rfl
  · unfold plainB at hp
    rw [List.all_eq_true] at hp
    exact absurd (hp _ h) (by decide)
theorem fault_plain {c : Co} (h : Bool) (hp : plainB c.cyc = false) : c.fault h = 3 := by simp [Co.fault, hp]
/-- What lies before and behind the first end of a Lead, and whether there is one, as the word's course. -/
theorem cut_word (s : ByteArray) : ∃ (a b : ByteArray) (f : Bool), a.size ≤ s.size ∧ b.size ≤ s.size ∧ (⟨(Lib.cut s.data.toList [43]).1.toArray⟩ : ByteArray) = a ∧ (⟨(Lib.cut s.data.toList [43]).2.1.toArray⟩ : ByteArray) = b ∧ (Lib.cut s.data.toList [43]).2.2 = f ∧
    (f = true → (Co.fault ⟨a, b⟩ true = (wordOf s).2 ∧ ((wordOf s).2 = 0 → (wordOf s).1 = ⟨a, b⟩))) ∧ (f = false → (Co.fault ⟨.empty, s⟩ false = (wordOf s).2 ∧ ((wordOf s).2 = 0 → (wordOf s).1 = ⟨.empty, s⟩))) := by
  rcases cut_cases 43 s with ⟨h1, h2⟩ | ⟨a, b, h2, h1, k1, k2⟩
  · refine ⟨s, ⟨#[]⟩, false, Nat.le_refl _, Nat.zero_le _, by rw [h2], by rw [h2], by rw [h2], fun h => (by cases h), fun _ => ?_⟩
    have e : wordOf s = (⟨.empty, s⟩, Co.fault ⟨.empty, s⟩ false) := by unfold wordOf; rw [h1]
    rw [e]
    exact ⟨rfl, fun _ => rfl⟩
  · refine ⟨a, b, true, k1, k2, by rw [h2], by rw [h2], by rw [h2], fun _ => ?_, fun h => (by cases h)⟩
    rcases idx_cases 43 b.data.toList with ⟨h3, _⟩ | ⟨p, r, h3, h4, _⟩
    · have e2 : partsOf b 43 = [b] := toList_inj_map (by rw [partsOf_spl, spl_plain h3]; rfl)
      have e : wordOf s = (⟨a, b⟩, Co.fault ⟨a, b⟩ true) := by unfold wordOf; rw [h1, e2]
      rw [e]
      exact ⟨rfl, fun _ => rfl⟩
    · have e3 : (partsOf b 43).map (fun x => x.data.toList) = p :: spl 43 r := by rw [partsOf_spl, h3, spl_first h4]
      obtain ⟨p2, q2, e4⟩ := spl_cons 43 r
      rw [e4] at e3
      have hm : (43 : UInt8) ∈ b.data.toList := by rw [h3]; simp
      have e : (wordOf s).2 = 3 := by
        unfold wordOf
        rw [h1]
        match hq : partsOf b 43, e3 with
        | [], e3 => simp at e3
        | [x], e3 => simp at e3
        | x :: y :: z, e3 => rfl
      rw [e]
      exact ⟨fault_plain true (plain_not hm), fun h => absurd h (by decide)⟩
end Go.Proofs.YtikjielgnlgnjaaDoor
