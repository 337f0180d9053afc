/-
  The program's reading of decimal forms.
-/
import Derived.Test.YtikjielgnlgnjaaDoorNumS
import Derived.Test.YtikjielgnlgnjaaDoorDecI
import Derived.Test.YtikjielgnlgnjaaDoorShelfN
import Derived.Lib.ParseIntBTie
import Derived.Lib.AtoiErrMem
import Derived.Lib.SmallJoins
namespace Go.Proofs.YtikjielgnlgnjaaDoor
open Go.ChangeShapes Go.WideShapes Go.ChangeAt Go.RowKit Go.Joins

theorem trim_size (l : List UInt8) : (ByteArray.mk (Lib.trimPrefix l [45]).toArray).size = (tr l).length := by
  rw [tr_trim]; simp [ByteArray.size]

set_option maxHeartbeats 1600000 in
theorem number_impl (s : ByteArray) (hs : s.size ≤ 1048576) (tp : TypeId) (p : Value) (w : World) (ht : Lib.TabIs Tryd.prog w "internal/strconv.uint64pow10" .u64 Lib.pow10Tab) (hv : w.var? Tryd.prog "strconv.ErrSyntax" = some #[.iface tp p]) : Calls Tryd.prog 99 #[.string s] w fun e w' => e = .returned (.tuple #[.int .i64 ((numR s.data.toList).getD 0), .bool (numR s.data.toList).isSome]) ∧ Below w.heap.size w w' := by
  obtain ⟨t, htz, hT⟩ : ∃ t : ByteArray, t.size = (tr s.data.toList).length ∧ Hid (∀ w, Calls Tryd.prog 118 #[.string s, .string ⟨[45].toArray⟩] w fun e w' => e = .returned (.string t) ∧ w' = w) := ⟨_, trim_size s.data.toList, fun w => Tryd.strings_TrimPrefix s ⟨[45].toArray⟩ w⟩
  have HV := Lib.hid hv
  have HT := Lib.hid ht
  clear hv ht
  by_cases hg : t.size ≤ 18
  case neg =>
    have hg' : (18 : Int) < (t.size : Int) := by omega
    rw [numR_short _ (by rw [← htz]; omega)]
    clear htz hg
    go_enter Tryd.func99, Tryd.ntmps99
    go_wp2_with (go_at_call 118; refine (hT.out _).mono ?_; rintro e w1 ⟨rfl, rfl⟩)
    go_ret2
    exact ⟨rfl, Below.refl _ _⟩
  have hg' : (t.size : Int) ≤ 18 := by omega
  obtain ⟨hR, hnr⟩ := implR_eq s.data.toList (by rw [← htz]; exact hg)
  rw [← hR]
  clear hR htz hg
  rcases hp : Lib.parseIntB 64 s.data.toList with v | _ | _
  · have hb := Lib.parseIntB_bounds hp
    have p63 : ((2 ^ (64 - 1) : Nat) : Int) = 9223372036854775808 := by decide
    rw [p63] at hb
    obtain ⟨d, hd, D⟩ : ∃ d : ByteArray, Hid (d = ⟨(Lib.itoa v).toArray⟩) ∧ Hid (∀ w, Lib.TabIs Tryd.prog w "internal/strconv.uint64pow10" .u64 Lib.pow10Tab → Calls Tryd.prog 73 #[.int .i64 v] w fun e w' => e = .returned (.string d) ∧ Below w.heap.size w w') := ⟨_, rfl, fun w ht => decimal_impl v hb.1 (by omega) w ht⟩
    have C := Lib.hid (fun w => Tryd.strconv_ParseInt_10_at64_ok s (by omega) v hp w)
    have HR : Hid (implR s.data.toList = if d = s then some v else none) := by
      show implR s.data.toList = if d = s then some v else none
      rw [implR, hp, hd.out]
      by_cases e : Lib.itoa v = s.data.toList
      · rw [if_pos (itoa_eq _ s e)]; simp [e]
      · rw [if_neg (fun h => e (by rw [← h]))]; simp [e]
    clear hp hnr hb p63 hd
    have hB : ∀ w' : World, (w' = w ∨ ∃ t, w' = Lib.bytesWorld w 5 t) → Below w.heap.size w w' := by
      rintro w' (rfl | ⟨t, rfl⟩)
      · exact Below.refl _ _
      · exact Lib.bytesWorld_below _ _ _
    by_cases hds : d = s
    · subst hds
      have HR2 : Hid (implR d.data.toList = some v) := by
        show implR d.data.toList = some v
        rw [HR.out, if_pos rfl]
      clear HR
      go_enter Tryd.func99, Tryd.ntmps99
      go_wp2_with fail
      refine (hT.out _).mono ?_
      rintro e w1 ⟨rfl, rfl⟩
      go_wp2_with fail
      refine (C.out _).mono ?_
      rintro e w2 ⟨rfl, hb0⟩
      have hb := Lib.hid (hB _ hb0)
      clear hb0 hB C hT
      go_wp2_with fail
      refine (D.out _ (tab_stays gPow HT.out hb.out (Nat.le_refl _))).mono ?_
      rintro e w3 ⟨rfl, hb3⟩
      go_wp2
      go_ret2
      exact ⟨by rw [HR2.out]; rfl, bnext hb.out hb3⟩
    · have HR2 : Hid (implR s.data.toList = none) := by
        show implR s.data.toList = none
        rw [HR.out, if_neg hds]
      have hds' : (!(d.toList == s.toList)) = true := by rw [ByteArray.toList_eq, ByteArray.toList_eq]; simp; intro h; exact hds (ByteArray.ext (by simpa using h))
      clear HR hds
      go_enter Tryd.func99, Tryd.ntmps99
      go_wp2_with fail
      refine (hT.out _).mono ?_
      rintro e w1 ⟨rfl, rfl⟩
      go_wp2_with fail
      refine (C.out _).mono ?_
      rintro e w2 ⟨rfl, hb0⟩
      have hb := Lib.hid (hB _ hb0)
      clear hb0 hB C hT
      go_wp2_with fail
      refine (D.out _ (tab_stays gPow HT.out hb.out (Nat.le_refl _))).mono ?_
      rintro e w3 ⟨rfl, hb3⟩
      go_wp2
      go_ret2
      exact ⟨by rw [HR2.out]; rfl, bnext hb.out hb3⟩
  · have hN : implR s.data.toList = none := by rw [implR, hp]
    rw [hN]
    have C := Lib.hid (fun w => Tryd.strconv_ParseInt_10_at64_syntax_var s (by omega) hp tp p w)
    clear hN hp hnr
    go_enter Tryd.func99, Tryd.ntmps99
    go_wp2_with (first | (go_at_call 118; refine (hT.out _).mono ?_; rintro e w1 ⟨rfl, rfl⟩) | (go_at_call 119; refine (C.out _ HV.out).mono ?_; rintro e w2 ⟨N, rfl, -, -, hb⟩))
    go_ret2
    exact ⟨rfl, hb⟩
  · exact absurd hp hnr
end Go.Proofs.YtikjielgnlgnjaaDoor
