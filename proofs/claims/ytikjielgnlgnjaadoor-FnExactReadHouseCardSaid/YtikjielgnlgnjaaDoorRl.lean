/-
  A number and a letter behind it: plainly, and by the program.
-/
import Derived.Test.YtikjielgnlgnjaaDoorNumI
import Derived.Test.YtikjielgnlgnjaaDoorNumS
import Derived.Test.YtikjielgnlgnjaaDoorCoI
import Derived.Lib.SlTrimSet
import Derived.BigQuiet
import Derived.Deep.QuietTactic
namespace Go.Proofs.YtikjielgnlgnjaaDoor
open Go.ChangeShapes Go.WideShapes Go.ChangeAt Go.RowKit Go.Joins

/-- A number and the letter behind it; the same where the letter is one of some. -/
def wordR (l : List UInt8) : Option (Int × UInt8) := match l.getLast? with | none => none | some c => (numR l.dropLast).map fun n => (n, c)
def letR (cs l : List UInt8) : Option (Int × UInt8) := match l.getLast? with | none => none | some c => if c ∈ cs then (numR l.dropLast).map fun n => (n, c) else none
theorem valF_digits : ∀ (l : List UInt8) (acc u : Nat), valF acc l = some u → ∀ c ∈ l, 48 ≤ c.toNat ∧ c.toNat ≤ 57
  | [], _, _, _, c, hc => by simp at hc
  | x :: l, acc, u, h, c, hc => by
    simp only [valF] at h
    split at h
    · rename_i hd
      rcases List.mem_cons.1 hc with rfl | hc
      · exact hd
      · exact valF_digits l _ u h c hc
    · cases h
theorem numR_last {l : List UInt8} {n : Int} (h : numR l = some n) : ∃ z, l.getLast? = some z ∧ 48 ≤ z.toNat ∧ z.toNat ≤ 57 := by
  unfold numR at h
  split at h
  · rename_i h18
    split at h
    · rename_i u hu
      cases l with
      | nil => simp [tr] at h18
      | cons c r =>
        by_cases hc : c = 45
        · subst hc
          simp only [tr, if_true] at h18 hu
          rcases List.eq_nil_or_concat r with rfl | ⟨L, b, rfl⟩
          · simp at h18
          · refine ⟨b, ?_, valF_digits _ _ _ hu _ (by simp)⟩
            rw [List.concat_eq_append]
            exact List.getLast?_eq_some_iff.2 ⟨45 :: L, rfl⟩
        · have e : tr (c :: r) = c :: r := by simp [tr, hc]
          rw [e] at hu
          rcases List.eq_nil_or_concat (c :: r) with h0 | ⟨L, b, h0⟩
          · cases h0
          · rw [h0] at hu ⊢
            exact ⟨b, by simp, valF_digits _ _ _ hu _ (by simp)⟩
    · cases h
  · cases h
/-- No letter is a digit. -/
def NoDig (cs : List UInt8) : Prop := ∀ c ∈ cs, ¬ (48 ≤ c.toNat ∧ c.toNat ≤ 57)
theorem trimR_split (l cs : List UInt8) : ∃ t, l = Lib.trimRightS l cs ++ t ∧ (∀ c ∈ t, c ∈ cs) := by
  refine ⟨(l.reverse.takeWhile (cs.contains ·)).reverse, ?_, fun c hc => ?_⟩
  · unfold Lib.trimRightS
    rw [← List.reverse_append, List.takeWhile_append_dropWhile, List.reverse_reverse]
  · have := List.all_eq_true.1 (List.all_takeWhile (p := (cs.contains ·)) (l := l.reverse)) c (List.mem_reverse.1 hc)
    simpa using this
theorem trimR_last {d cs : List UInt8} {c z : UInt8} (hz : d.getLast? = some z) (hn : z ∉ cs) (hc : c ∈ cs) : Lib.trimRightS (d ++ [c]) cs = d := by
  obtain ⟨e, rfl⟩ := List.getLast?_eq_some_iff.1 hz
  unfold Lib.trimRightS
  simp [hn, hc]
theorem letR_some {cs l : List UInt8} {n : Int} {c : UInt8} (hd : NoDig cs) (h : letR cs l = some (n, c)) : l = l.dropLast ++ [c] ∧ c ∈ cs ∧ numR l.dropLast = some n ∧ Lib.trimRightS l cs = l.dropLast := by
  unfold letR at h
  split at h
  · cases h
  · rename_i c' hl
    split at h
    · rename_i hc
      obtain ⟨m, hm, he⟩ := Option.map_eq_some_iff.1 h
      cases he
      have hs : l = l.dropLast ++ [c] := by
        obtain ⟨e, rfl⟩ := List.getLast?_eq_some_iff.1 hl
        rw [List.dropLast_concat]
      obtain ⟨z, hz, h1, h2⟩ := numR_last hm
      refine ⟨hs, hc, hm, ?_⟩
      have := trimR_last (d := l.dropLast) (c := c) hz (fun hx => hd z hx ⟨h1, h2⟩) hc
      rw [← hs] at this
      exact this
    · cases h
theorem letR_of {cs l : List UInt8} {n : Int} (hn : numR (Lib.trimRightS l cs) = some n) (hl : l.length = (Lib.trimRightS l cs).length + 1) : ∃ c, letR cs l = some (n, c) ∧ l.drop (Lib.trimRightS l cs).length = [c] := by
  obtain ⟨t, h1, h2⟩ := trimR_split l cs
  obtain ⟨y, hy⟩ : ∃ y, Lib.trimRightS l cs = y := ⟨_, rfl⟩
  rw [hy] at hn hl h1
  rw [hy]
  subst h1
  rw [List.length_append] at hl
  obtain ⟨c, rfl⟩ : ∃ c, t = [c] := by
    match t, hl with
    | [c], _ => exact ⟨c, rfl⟩
    | [], hl => simp at hl
    | _ :: _ :: _, hl => simp at hl
  have hc := h2 c (by simp)
  refine ⟨c, ?_, by simp⟩
  unfold letR
  simp [hc, hn]
theorem letR_word {cs l : List UInt8} {n : Int} {c : UInt8} : letR cs l = some (n, c) ↔ wordR l = some (n, c) ∧ c ∈ cs := by
  unfold letR wordR
  cases l.getLast? with
  | none => simp
  | some z =>
    simp only
    by_cases hz : z ∈ cs
    · rw [if_pos hz]
      constructor
      · intro h
        refine ⟨h, ?_⟩
        obtain ⟨_, _, he⟩ := Option.map_eq_some_iff.1 h
        cases he
        exact hz
      · exact fun h => h.1
    · rw [if_neg hz]
      constructor
      · intro h; cases h
      · rintro ⟨h, hc⟩
        obtain ⟨_, _, he⟩ := Option.map_eq_some_iff.1 h
        cases he
        exact absurd hc hz
theorem gSynL : Tryd.prog.globalNamed "strconv.ErrSyntax" = some 5 := by kernel_rfl
def rlN (cs l : List UInt8) : Int := match letR cs l with | some p => p.1 | none => 0
def rlS (cs l : List UInt8) : ByteArray := match letR cs l with | some p => ⟨#[p.2]⟩ | none => ⟨#[]⟩
theorem size_listR (l : List UInt8) : (⟨l.toArray⟩ : ByteArray).size = l.length := by simp [ByteArray.size]
theorem drop_extract (x : ByteArray) (k : Nat) : x.extract k x.size = ⟨(x.data.toList.drop k).toArray⟩ := by
  apply ByteArray.ext
  apply Array.toList_inj.1
  have h : x.data.toList.length = x.size := by simp
  simp only [ByteArray.data_extract, Array.toList_extract, List.extract_eq_take_drop]
  exact List.take_of_length_le (by rw [List.length_drop]; omega)
set_option maxRecDepth 1000000 in
set_option maxHeartbeats 3200000 in
theorem readLettered_impl (x cs : ByteArray) (hx : x.size ≤ 1048576) (hcs : cs.size ≤ 10) (ha : cs.data.toList.all (fun b => decide (b.toNat < 128)) = true) (hd : NoDig cs.data.toList) (tp : TypeId) (p : Value) (w : World) (ht : Pow10 w) (hv : w.var? Tryd.prog "strconv.ErrSyntax" = some #[.iface tp p]) :
    Calls Tryd.prog 78 #[.string x, .string cs] w fun e w' => e = .returned (.tuple #[.int .i64 (rlN cs.data.toList x.data.toList), .string (rlS cs.data.toList x.data.toList), .bool (letR cs.data.toList x.data.toList).isSome]) ∧ Below w.heap.size w w' := by
  have C := Lib.hid (fun wx => Any.strings_TrimRight_laid Tryd.lays162 inf116 x cs wx (by omega) (by omega) (ascii_of_all ha))
  obtain ⟨y, hy⟩ : ∃ y, Lib.trimRightS x.data.toList cs.data.toList = y := ⟨_, rfl⟩
  have hlen : y.length ≤ x.data.toList.length := by
    obtain ⟨t, h1, _⟩ := trimR_split x.data.toList cs.data.toList
    rw [hy] at h1
    have := congrArg List.length h1
    rw [List.length_append] at this
    omega
  have hxl : x.data.toList.length = x.size := by simp
  have hyl := size_listR y
  have hyd : (⟨y.toArray⟩ : ByteArray).data.toList = y := by simp
  have N := Lib.hid (fun wx (hb : Below w.heap.size w wx) => number_impl ⟨y.toArray⟩ (by omega) tp p wx (ht.later hb) (var_stays gSynL hv hb (Nat.le_refl _)))
  rw [hyd] at N
  rw [hy] at C
  by_cases hs : (numR y).isSome = true ∧ x.size = y.length + 1
  · obtain ⟨n, hn⟩ := Option.isSome_iff_exists.1 hs.1
    obtain ⟨c, hc, hdr⟩ := letR_of (cs := cs.data.toList) (l := x.data.toList) (n := n) (by rw [hy]; exact hn) (by rw [hy, hxl]; exact hs.2)
    rw [hy] at hdr
    have e1 : rlN cs.data.toList x.data.toList = n := by unfold rlN; rw [hc]
    have e2 : rlS cs.data.toList x.data.toList = ⟨#[c]⟩ := by unfold rlS; rw [hc]
    rw [e1, e2, hc]
    rw [hn] at N
    have HX : Hid (x.extract y.length x.size = ⟨#[c]⟩) := by show _ = _; rw [drop_extract, hdr]
    have hsz : (x.size : Int) = (y.length : Int) + 1 := by omega
    obtain ⟨Y, hY⟩ : ∃ Y : ByteArray, ⟨y.toArray⟩ = Y := ⟨_, rfl⟩
    rw [hY] at C N hyl
    rw [← hyl] at HX hsz
    have hle : (Y.size : Int) ≤ (x.size : Int) := by omega
    clear hs hn hc hdr e1 e2 hyd hlen hxl hY hy ht hv hyl
    go_enter Tryd.func78, Tryd.ntmps78
    go_wp2_with fail
    refine (C.out _).mono ?_
    rintro e w1 ⟨rfl, hb1⟩
    have B1 := Lib.hid hb1
    clear hb1
    go_wp2_with fail
    refine (N.out _ B1.out).mono ?_
    rintro e w2 ⟨rfl, hb2⟩
    have B2 := Lib.hid (bnext B1.out hb2)
    clear hb2
    go_wp2
    go_quiet (fail "none")
    go_wp2
    refine bodyPost_ret (v := .tuple #[.int .i64 n, .string (x.extract Y.size x.size), .bool true]) (by simp [results, Tryd.results78, go_sem]) rfl ⟨by rw [HX.out]; rfl, below_drewN B2.out _⟩
  · have hnone : letR cs.data.toList x.data.toList = none := by
      cases h : letR cs.data.toList x.data.toList with
      | none => rfl
      | some p =>
        obtain ⟨n, c⟩ := p
        obtain ⟨h1, _, h3, h4⟩ := letR_some hd h
        rw [hy] at h4
        refine absurd ⟨by rw [h4, h3]; rfl, ?_⟩ hs
        have := congrArg List.length h1
        rw [List.length_append, List.length_singleton, ← h4] at this
        omega
    have e1 : rlN cs.data.toList x.data.toList = 0 := by unfold rlN; rw [hnone]
    have e2 : rlS cs.data.toList x.data.toList = ⟨#[]⟩ := by unfold rlS; rw [hnone]
    rw [e1, e2, hnone]
    obtain ⟨Y, hY⟩ : ∃ Y : ByteArray, ⟨y.toArray⟩ = Y := ⟨_, rfl⟩
    rw [hY] at C N hyl
    obtain ⟨v, hv2⟩ : ∃ v, (numR y).getD 0 = v := ⟨_, rfl⟩
    rw [hv2] at N
    cases hb : (numR y).isSome
    · rw [hb] at N
      clear hs hnone e1 e2 hyd hlen hxl hY hy ht hv hv2 hb hyl
      go_enter Tryd.func78, Tryd.ntmps78
      go_wp2_with fail
      refine (C.out _).mono ?_
      rintro e w1 ⟨rfl, hb1⟩
      have B1 := Lib.hid hb1
      clear hb1
      go_wp2_with fail
      refine (N.out _ B1.out).mono ?_
      rintro e w2 ⟨rfl, hb2⟩
      have B2 := Lib.hid (bnext B1.out hb2)
      clear hb2
      go_wp2
      refine bodyPost_ret (v := .tuple #[.int .i64 0, .string ⟨#[]⟩, .bool false]) (by simp [results, Tryd.results78, go_sem]) rfl ⟨rfl, B2.out⟩
    · rw [hb] at N
      have hsz : ¬ (x.size : Int) = (Y.size : Int) + 1 := fun e => hs ⟨hb, by omega⟩
      have hle : Y.size ≤ x.size := by omega
      clear hs hnone e1 e2 hyd hlen hxl hY hy ht hv hv2 hb hyl
      go_enter Tryd.func78, Tryd.ntmps78
      go_wp2_with fail
      refine (C.out _).mono ?_
      rintro e w1 ⟨rfl, hb1⟩
      have B1 := Lib.hid hb1
      clear hb1
      go_wp2_with fail
      refine (N.out _ B1.out).mono ?_
      rintro e w2 ⟨rfl, hb2⟩
      have B2 := Lib.hid (bnext B1.out hb2)
      clear hb2
      go_wp2
      refine bodyPost_ret (v := .tuple #[.int .i64 0, .string ⟨#[]⟩, .bool false]) (by simp [results, Tryd.results78, go_sem]) rfl ⟨rfl, B2.out⟩
end Go.Proofs.YtikjielgnlgnjaaDoor
