/-
  Walls as told: the model's word.
-/
import Derived.Test.YtllcpgogfhjfpaaDoorWaS
import Derived.Test.YtllcpgogfhjfpaaDoorSt
import Derived.Test.YtllcpgogfhjfpaaDoorRow
import Derived.Deep.QuietTactic
import Derived.BigQuiet
namespace Go.Proofs.YtllcpgogfhjfpaaDoor
open Go.ChangeShapes Go.WideShapes Go.ChangeAt Go.RowKit Go.Joins


/-- The length of the first course. -/
def qfirst (L : List ByteArray) : Nat := qall (L.headD ⟨#[]⟩)
/-- The first k courses are right and as long as the first one. -/
def okWTo (L : List ByteArray) (k : Nat) : Bool := (L.take k).all fun s => okCr s && decide (qall s = qfirst L)
def okW (L : List ByteArray) : Bool := (L.all fun s => okCr s && decide (qall s = qfirst L)) && inB (L.length : Int) 1 40
theorem okWTo_succ {L : List ByteArray} {k : Nat} {s : ByteArray} (h : L[k]? = some s) : okWTo L (k + 1) = (okWTo L k && (okCr s && decide (qall s = qfirst L))) := by
  unfold okWTo
  rw [List.take_add_one, h, List.all_append]
  simp
theorem okW_bad {L : List ByteArray} {k : Nat} {s : ByteArray} (h : L[k]? = some s) (hb : (okCr s && decide (qall s = qfirst L)) = false) : okW L = false := by
  have : (L.all fun s => okCr s && decide (qall s = qfirst L)) = false := by
    rw [List.all_eq_false]
    exact ⟨s, List.mem_of_getElem? h, by rw [hb]; decide⟩
  rw [okW, this]
  rfl
theorem okW_end {L : List ByteArray} (h : okWTo L L.length = true) : okW L = inB (L.length : Int) 1 40 := by
  have : (L.all fun s => okCr s && decide (qall s = qfirst L)) = true := by
    unfold okWTo at h
    rwa [List.take_length] at h
  rw [okW, this]
  rfl
theorem okW_facts {L : List ByteArray} (h : okW L = true) : 1 ≤ L.length ∧ L.length ≤ 40 ∧ ∀ (k : Nat) (s : ByteArray), L[k]? = some s → okCr s = true := by
  simp only [okW, Bool.and_eq_true, inB_true, List.all_eq_true] at h
  exact ⟨by omega, by omega, fun k s hk => (h.1 s (List.mem_of_getElem? hk)).1⟩
theorem qfirst_at {L : List ByteArray} {s : ByteArray} (h : L[0]? = some s) : qfirst L = qall s := by
  cases L with
  | nil => simp at h
  | cons x r => simp at h; subst h; rfl

set_option maxRecDepth 100000 in
set_option maxHeartbeats 3200000 in
theorem wall_spec (L : List ByteArray) (a : Option Addr) (cap : Nat) (hl : L.length ≤ 1048576) (hs : StrLe 1048576 L) (w : World) (ha : StrArg w a L) :
    Calls Tryd.prog 69 #[.slice a L.length cap] w fun e w' => e = .returned (.bool (okW L)) ∧ Below w.heap.size w w' := by
  have HA := Lib.hid ha
  have HS := Lib.hid hs
  clear ha hs
  go_enter Tryd.func69, Tryd.ntmps69
  go_wp2
  go_loopw [3] (fun i wr => ∃ (k : Nat), k ≤ L.length ∧ i = .int .i64 k ∧ Hid (okWTo L k = true) ∧ Hid (Below w.heap.size w wr)) (fun i _ => L.length - (intOf i).toNat)
  case atStart => exact ⟨0, Nat.zero_le _, rfl, rfl, Below.refl _ _⟩
  case round =>
    obtain ⟨k, hk, rfl, hF, hB⟩ := hrel
    by_cases hlt : k < L.length
    · have hlt' : (k : Int) < (L.length : Int) := by omega
      have hk0 : (0 : Int) ≤ (k : Int) := by omega
      have hL0 : (0 : Int) < (L.length : Int) := by omega
      obtain ⟨b, o, s, rfl, hc, hat⟩ := (HA.out.later hB.out).at hlt
      obtain ⟨t, ht⟩ : ∃ t, L[0]? = some t := ⟨_, List.getElem?_eq_getElem (by omega)⟩
      have c0 := hat k s hc
      have c1 := hat 0 t ht
      rw [Nat.add_zero] at c1
      have hsz := HS.out k s hc
      have C := Lib.hid (cok_spec s hsz)
      have Q := Lib.hid (clen_spec s hsz)
      have Q0 := Lib.hid (clen_spec t (HS.out 0 t ht))
      have HQ : Hid (qfirst L = qall t) := qfirst_at ht
      have HC := Lib.hid hc
      clear hc hat ht hsz
      cases hok : okCr s
      · rw [hok] at C
        go_wp2_with fail
        go_quiet (first | (go_at_call 59; exact Calls.quiet_of_same ((C.out _).mono fun _ _ ⟨a, b⟩ => ⟨a, b.symm⟩)) | (go_at_call_of 60 (Value.string s); exact Calls.quiet_of_same ((Q.out _).mono fun _ _ ⟨a, b⟩ => ⟨a, b.symm⟩)) | (go_at_call_of 60 (Value.string t); exact Calls.quiet_of_same ((Q0.out _).mono fun _ _ ⟨a, b⟩ => ⟨a, b.symm⟩)))
        all_goals go_wp2
        all_goals go_ret
        all_goals exact ⟨ret_bool (okW_bad HC.out (by simp [hok])).symm, below_drewN hB.out _⟩
      · rw [hok] at C
        by_cases heq : qall s = qall t
        · have HN : Hid (okWTo L (k + 1) = true) := by show okWTo L (k + 1) = true; rw [okWTo_succ HC.out, hF.out, hok, HQ.out, heq]; simp
          rw [heq] at Q
          go_wp2_with fail
          go_quiet (first | (go_at_call 59; exact Calls.quiet_of_same ((C.out _).mono fun _ _ ⟨a, b⟩ => ⟨a, b.symm⟩)) | (go_at_call_of 60 (Value.string s); exact Calls.quiet_of_same ((Q.out _).mono fun _ _ ⟨a, b⟩ => ⟨a, b.symm⟩)) | (go_at_call_of 60 (Value.string t); exact Calls.quiet_of_same ((Q0.out _).mono fun _ _ ⟨a, b⟩ => ⟨a, b.symm⟩)))
          all_goals go_wp2
          all_goals
            go_roundw
            case rel => exact ⟨k + 1, by omega, by go_num, HN.out, below_drewN hB.out _⟩
            case measure => simp [intOf]; omega
        · have hne : ¬ (qall s : Int) = (qall t : Int) := by omega
          have hne2 : (((qall s : Int)) != (qall t : Int)) = true := bne_iff_ne.2 hne
          go_wp2_with fail
          go_quiet (first | (go_at_call 59; exact Calls.quiet_of_same ((C.out _).mono fun _ _ ⟨a, b⟩ => ⟨a, b.symm⟩)) | (go_at_call_of 60 (Value.string s); exact Calls.quiet_of_same ((Q.out _).mono fun _ _ ⟨a, b⟩ => ⟨a, b.symm⟩)) | (go_at_call_of 60 (Value.string t); exact Calls.quiet_of_same ((Q0.out _).mono fun _ _ ⟨a, b⟩ => ⟨a, b.symm⟩)))
          all_goals go_wp2
          all_goals go_ret
          all_goals exact ⟨ret_bool (okW_bad HC.out (by simp [HQ.out, heq])).symm, below_drewN hB.out _⟩
    · have hge : ¬ (k : Int) < (L.length : Int) := by omega
      have hkn : k = L.length := by omega
      subst hkn
      have HE := Lib.hid (okW_end hF.out)
      go_wp2_with (go_at_call 49; refine (in_any _ _ _ _).mono ?_; rintro e w' ⟨rfl, rfl⟩)
      go_ret
      exact ⟨by rw [HE.out]; rfl, hB.out⟩
end Go.Proofs.YtllcpgogfhjfpaaDoor
