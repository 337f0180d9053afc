/-
  The program's parts of CheckBond: the first word, the course of a word, and the noting of a problem.
-/
import Derived.Test.YtgffgcobgjngnaaDoorEis
import Derived.Test.YtgffgcobgjngnaaDoorChkP
import Derived.Test.YtgffgcobgjngnaaDoorNameI
import Derived.Test.YtgffgcobgjngnaaDoorShelfC
import Derived.Test.YtgffgcobgjngnaaDoorSpl2
import Derived.Test.YtgffgcobgjngnaaDoorBuildW
namespace Go.Proofs.YtgffgcobgjngnaaDoor
open Go.ChangeShapes Go.WideShapes Go.ChangeAt Go.RowKit Go.Joins

theorem faultVal_nil : faultVal 0 = .nilIface := rfl
theorem faultVal_some {x : Int} (h : ¬ x = 0) : faultVal x = .iface 102 (.int .i64 x) := by simp [faultVal, h]
theorem first_impl (ws : List ByteArray) (h1 : 1 ≤ ws.length) (_hL : ws.length ≤ maxLen) (g cap : Nat) (w : World) (h0 : w.cell? ⟨g, 0, none⟩ = some (.string (ws.getD 0 .empty))) :
    Calls Tryd.prog 39 #[.slice (some ⟨g, 0, none⟩) ws.length cap] w fun e w' => e = .returned (faultVal (kindAt ws 0)) ∧ Below w.heap.size w w' := by
  obtain ⟨s, hs⟩ : ∃ s, ws.getD 0 .empty = s := ⟨_, rfl⟩
  rw [hs] at h0
  obtain ⟨n, hn⟩ : ∃ n, ws.length = n := ⟨_, rfl⟩
  have HK : Hid (kindAt ws 0 = if n = 1 then 1 else if nameB s = true then 0 else 2) := by show kindAt ws 0 = _; simp only [kindAt, if_true, hn, hs]
  rw [hn] at h1 ⊢
  clear hs hn
  have HN := Lib.hid (name_impl s)
  by_cases hc : n = 1
  · have hc' : ((n : Int) == 1) = true := by rw [hc]; rfl
    have HK2 : Hid (kindAt ws 0 = 1) := by show kindAt ws 0 = 1; rw [HK.out, if_pos hc]
    clear hc h0
    go_enter Tryd.func39, Tryd.ntmps39
    go_wp2
    go_ret
    exact ⟨by rw [HK2.out]; rfl, Below.refl _ _⟩
  · have hc' : ((n : Int) == 1) = false := by simp; omega
    have hp : (0 : Int) < (n : Int) := by omega
    cases hb : nameB s
    · have HK2 : Hid (kindAt ws 0 = 2) := by show kindAt ws 0 = 2; rw [HK.out, if_neg hc, hb]; rfl
      rw [hb] at HN
      clear hc hb
      go_enter Tryd.func39, Tryd.ntmps39
      go_wp2_with fail
      refine (HN.out _).mono ?_
      rintro e w1 ⟨rfl, b1⟩
      have B1 := Lib.hid b1
      clear b1
      go_wp2
      go_ret
      exact ⟨by rw [HK2.out]; rfl, B1.out⟩
    · have HK2 : Hid (kindAt ws 0 = 0) := by show kindAt ws 0 = 0; rw [HK.out, if_neg hc, hb]; rfl
      rw [hb] at HN
      clear hc hb
      go_enter Tryd.func39, Tryd.ntmps39
      go_wp2_with fail
      refine (HN.out _).mono ?_
      rintro e w1 ⟨rfl, b1⟩
      have B1 := Lib.hid b1
      clear b1
      go_wp2
      go_ret
      exact ⟨by rw [HK2.out]; rfl, B1.out⟩

theorem plain_not {s : ByteArray} (h : (43 : UInt8) ∈ s.data.toList) : plainB s = false := by
  cases hp : plainB s
  · rfl
  · unfold plainB at hp
    rw [List.all_eq_true] at hp
    exact absurd (hp _ h) (by decide)
theorem fault_plain {c : Co} (h : Bool) (hp : plainB c.cyc = false) : c.fault h = 3 := by simp [Co.fault, hp]
/-- What lies before and behind the first end of a Lead, and whether there is one, as the word's course. -/
theorem cut_word (s : ByteArray) : ∃ (a b : ByteArray) (f : Bool), a.size ≤ s.size ∧ b.size ≤ s.size ∧ (⟨(Lib.cut s.data.toList [43]).1.toArray⟩ : ByteArray) = a ∧ (⟨(Lib.cut s.data.toList [43]).2.1.toArray⟩ : ByteArray) = b ∧ (Lib.cut s.data.toList [43]).2.2 = f ∧
    (f = true → (Co.fault ⟨a, b⟩ true = (wordOf s).2 ∧ ((wordOf s).2 = 0 → (wordOf s).1 = ⟨a, b⟩))) ∧ (f = false → (Co.fault ⟨.empty, s⟩ false = (wordOf s).2 ∧ ((wordOf s).2 = 0 → (wordOf s).1 = ⟨.empty, s⟩))) := by
  rcases cut_cases 43 s with ⟨h1, h2⟩ | ⟨a, b, h2, h1, k1, k2⟩
  · refine ⟨s, ⟨#[]⟩, false, Nat.le_refl _, Nat.zero_le _, by rw [h2], by rw [h2], by rw [h2], fun h => (by cases h), fun _ => ?_⟩
    have e : wordOf s = (⟨.empty, s⟩, Co.fault ⟨.empty, s⟩ false) := by unfold wordOf; rw [h1]
    rw [e]
    exact ⟨rfl, fun _ => rfl⟩
  · refine ⟨a, b, true, k1, k2, by rw [h2], by rw [h2], by rw [h2], fun _ => ?_, fun h => (by cases h)⟩
    rcases idx_cases 43 b.data.toList with ⟨h3, _⟩ | ⟨p, r, h3, h4, _⟩
    · have e2 : partsOf b 43 = [b] := toList_inj_map (by rw [partsOf_spl, spl_plain h3]; rfl)
      have e : wordOf s = (⟨a, b⟩, Co.fault ⟨a, b⟩ true) := by unfold wordOf; rw [h1, e2]
      rw [e]
      exact ⟨rfl, fun _ => rfl⟩
    · have e3 : (partsOf b 43).map (fun x => x.data.toList) = p :: spl 43 r := by rw [partsOf_spl, h3, spl_first h4]
      obtain ⟨p2, q2, e4⟩ := spl_cons 43 r
      rw [e4] at e3
      have hm : (43 : UInt8) ∈ b.data.toList := by rw [h3]; simp
      have e : (wordOf s).2 = 3 := by
        unfold wordOf
        rw [h1]
        match hq : partsOf b 43, e3 with
        | [], e3 => simp at e3
        | [x], e3 => simp at e3
        | x :: y :: z, e3 => rfl
      rw [e]
      exact ⟨fault_plain true (plain_not hm), fun h => absurd h (by decide)⟩
end Go.Proofs.YtgffgcobgjngnaaDoor
