/-
  ReadRuns: the program.
-/
import Derived.Test.YtllcpgogfhjfpaaGreatDoorRr
import Derived.Test.YtllcpgogfhjfpaaGreatDoorRnJ
import Derived.Test.YtllcpgogfhjfpaaGreatDoorShelfC
import Derived.Lib.Repeat
namespace Go.Proofs.YtllcpgogfhjfpaaGreatDoor
open Go.ChangeShapes Go.WideShapes Go.ChangeAt Go.RowKit Go.Joins

theorem repeat_one (c : UInt8) : ∀ m, Lib.repeatL [c] m = List.replicate m c
  | 0 => rfl
  | m + 1 => by rw [Lib.repeatL, repeat_one c m, List.replicate_succ]; rfl
/-- The pieces of one run. -/
def rrB (x : ByteArray) : Bool := match letR [83, 72, 84, 66, 67] x.data.toList with | some p => inB p.1 1 60 | none => false
def rrS (x : ByteArray) : ByteArray := match letR [83, 72, 84, 66, 67] x.data.toList with | some p => if inB p.1 1 60 = true then ⟨(List.replicate p.1.toNat p.2).toArray⟩ else ⟨#[]⟩ | none => ⟨#[]⟩
theorem rr_cases (x : ByteArray) : (rrB x = false ∧ rrS x = ⟨#[]⟩ ∧ ∀ n c, wordR x.data.toList = some (n, c) → 1 ≤ n → n ≤ 60 → qtr c ≠ 0 → False) ∨ ∃ n c, wordR x.data.toList = some (n, c) ∧ 1 ≤ n ∧ n ≤ 60 ∧ rrB x = true ∧ rrS x = ⟨(List.replicate n.toNat c).toArray⟩ := by
  cases hl : letR [83, 72, 84, 66, 67] x.data.toList with
  | none =>
    refine .inl ⟨by simp only [rrB, hl], by simp only [rrS, hl], fun n c h1 _ _ h4 => ?_⟩
    rw [letR_word.2 ⟨h1, qtr_letter h4⟩] at hl
    cases hl
  | some q =>
    obtain ⟨n, c⟩ := q
    by_cases hn : inB n 1 60 = true
    · have hn' := hn
      simp only [inB, Bool.and_eq_true, decide_eq_true_eq] at hn'
      exact .inr ⟨n, c, (letR_word.1 hl).1, hn'.1, hn'.2, by simp only [rrB, hl, hn], by simp only [rrS, hl, hn, if_true]⟩
    · refine .inl ⟨by simp only [rrB, hl]; simpa using hn, by simp only [rrS, hl]; rw [if_neg hn], fun n' c' h1 h2 h3 h4 => hn ?_⟩
      rw [letR_word.2 ⟨h1, qtr_letter h4⟩] at hl
      cases hl
      simp [inB, h2, h3]
set_option maxRecDepth 100000 in
set_option maxHeartbeats 1600000 in
theorem readRun_impl (x : ByteArray) (hx : x.size ≤ 1048576) (tp : TypeId) (p : Value) (w : World) (ht : Pow10 w) (hv : w.var? Tryz.prog "strconv.ErrSyntax" = some #[.iface tp p]) :
    Calls Tryz.prog 12 #[.string x] w fun e w' => e = .returned (.tuple #[.string (rrS x), .bool (rrB x)]) ∧ Below w.heap.size w w' := by
  have N : Hid (Calls Tryz.prog 19 #[.string x, .string ⟨#[83, 72, 84, 66, 67]⟩] w fun e w' => e = .returned (.tuple #[.int .i64 (rlN [83, 72, 84, 66, 67] x.data.toList), .string (rlS [83, 72, 84, 66, 67] x.data.toList), .bool (letR [83, 72, 84, 66, 67] x.data.toList).isSome]) ∧ Below w.heap.size w w') := readLettered_impl x ⟨#[83, 72, 84, 66, 67]⟩ hx (by decide) (by decide) noDigP tp p w ht hv
  clear hx ht hv
  cases hl : letR [83, 72, 84, 66, 67] x.data.toList with
  | none =>
    have n1 : rlN [83, 72, 84, 66, 67] x.data.toList = 0 := by unfold rlN; rw [hl]
    have n2 : rlS [83, 72, 84, 66, 67] x.data.toList = ⟨#[]⟩ := by unfold rlS; rw [hl]
    have e1 : rrB x = false := by unfold rrB; rw [hl]
    have e2 : rrS x = ⟨#[]⟩ := by unfold rrS; rw [hl]
    rw [n1, n2, hl] at N
    rw [e1, e2]
    clear n1 n2 e1 e2 hl
    go_enter Tryz.func12, Tryz.ntmps12
    go_wp2_with fail
    refine N.out.mono ?_
    rintro e w1 ⟨rfl, hb1⟩
    have B1 := Lib.hid hb1
    clear hb1
    go_wp2
    refine bodyPost_ret (v := .tuple #[.string ⟨#[]⟩, .bool false]) (by simp [results, Tryz.results12, go_sem]) rfl ⟨rfl, B1.out⟩
  | some q =>
    obtain ⟨n, c⟩ := q
    have n1 : rlN [83, 72, 84, 66, 67] x.data.toList = n := by unfold rlN; rw [hl]
    have n2 : rlS [83, 72, 84, 66, 67] x.data.toList = ⟨#[c]⟩ := by unfold rlS; rw [hl]
    rw [n1, n2, hl] at N
    have W := Lib.hid (within_impl n 1 60)
    cases hn : inB n 1 60
    · have e1 : rrB x = false := by unfold rrB; rw [hl]; exact hn
      have e2 : rrS x = ⟨#[]⟩ := by unfold rrS; rw [hl]; simp [hn]
      rw [e1, e2]
      rw [hn] at W
      clear n1 n2 e1 e2 hl hn
      go_enter Tryz.func12, Tryz.ntmps12
      go_wp2_with fail
      refine N.out.mono ?_
      rintro e w1 ⟨rfl, hb1⟩
      have B1 := Lib.hid hb1
      clear hb1
      go_wp2_with fail
      refine (W.out _).mono ?_
      rintro e w2 ⟨rfl, rfl⟩
      go_wp2
      refine bodyPost_ret (v := .tuple #[.string ⟨#[]⟩, .bool false]) (by simp [results, Tryz.results12, go_sem]) rfl ⟨rfl, B1.out⟩
    · have e1 : rrB x = true := by unfold rrB; rw [hl]; exact hn
      have e2 : rrS x = ⟨(List.replicate n.toNat c).toArray⟩ := by unfold rrS; rw [hl]; simp [hn]
      rw [e1, e2]
      rw [hn] at W
      simp only [inB, Bool.and_eq_true, decide_eq_true_eq] at hn
      obtain ⟨m, rfl⟩ : ∃ m : Nat, n = (m : Int) := ⟨n.toNat, by omega⟩
      have hm : m ≤ 60 := by omega
      have R : Hid (∀ wx, Calls Tryz.prog 21 #[.string ⟨#[c]⟩, .int .i64 (m : Int)] wx fun e w' => e = .returned (.string ⟨(List.replicate m c).toArray⟩) ∧ Below wx.heap.size wx w') := fun wx => by
        have h := Tryz.strings_Repeat ⟨#[c]⟩ m wx (by omega) (by rw [show (⟨#[c]⟩ : ByteArray).size = 1 from rfl]; omega)
        rw [show (⟨#[c]⟩ : ByteArray).data.toList = [c] from rfl, repeat_one] at h
        exact h
      rw [show ((m : Int)).toNat = m by omega]
      clear n1 n2 e1 e2 hl hn hm
      go_enter Tryz.func12, Tryz.ntmps12
      go_wp2_with fail
      refine N.out.mono ?_
      rintro e w1 ⟨rfl, hb1⟩
      have B1 := Lib.hid hb1
      clear hb1
      go_wp2_with fail
      refine (W.out _).mono ?_
      rintro e w2 ⟨rfl, rfl⟩
      go_wp2_with fail
      refine (R.out _).mono ?_
      rintro e w3 ⟨rfl, hb3⟩
      have B3 := Lib.hid (bnext B1.out hb3)
      clear hb3
      go_wp2
      refine bodyPost_ret (v := .tuple #[.string ⟨(List.replicate m c).toArray⟩, .bool true]) (by simp [results, Tryz.results12, go_sem]) rfl ⟨rfl, B3.out⟩
/-- What is known at the end. -/
theorem rr_size {s : ByteArray} {ls : List (Int × UInt8)} (h : HrTo (partsOf s 32) (partsOf s 32).length ls) : 2 ≤ s.size := by
  have hp := parts_pos s 32
  obtain ⟨x, hx⟩ : ∃ x, (partsOf s 32)[0]? = some x := ⟨(partsOf s 32)[0], List.getElem?_eq_getElem (by omega)⟩
  obtain ⟨p, _, hw⟩ := h.word hx
  have h1 := wordR_len hw
  have h2 := part_size (List.mem_of_getElem? hx)
  have h3 : x.data.toList.length = x.size := by simp
  omega
theorem rr_is {s : ByteArray} {ls : List (Int × UInt8)} (h : HrTo (partsOf s 32) (partsOf s 32).length ls) (hn : ∀ p ∈ ls, 1 ≤ p.1 ∧ p.1 ≤ 60) (hf : (rrL ls).length ≤ 60) (hs : shortS ⟨(rrL ls).toArray⟩ = s) : RrIs s ls := by
  have h2 := rr_size h
  by_cases ho : okCr ⟨(rrL ls).toArray⟩ = true
  · exact ⟨h, hn, hf, ho, by rw [← hs]; simp [shortS, ho]⟩
  · rw [← hs] at h2
    simp only [shortS, if_neg ho] at h2
    exact absurd h2 (by decide)
theorem rr_not {s : ByteArray} {ls : List (Int × UInt8)} (h : HrTo (partsOf s 32) (partsOf s 32).length ls) (hs : ¬ shortS ⟨(rrL ls).toArray⟩ = s) : ∀ l', ¬ RrIs s l' := fun l' h' => by
  obtain rfl : ls = l' := some_eq (h.symm.trans h'.read)
  refine hs ?_
  have := h'.short
  simp only [shortS, h'.ok, if_true]
  exact this
theorem rr_add (a b : List UInt8) : (⟨a.toArray⟩ : ByteArray) ++ ⟨b.toArray⟩ = ⟨(a ++ b).toArray⟩ := by
  apply ByteArray.ext
  apply Array.toList_inj.1
  simp
theorem sneX {x y : ByteArray} (h : ¬ x = y) : (x.toList == y.toList) = false := by
  have h2 : ¬ x.toList = y.toList := fun e => h (by rw [ByteArray.toList_eq, ByteArray.toList_eq] at e; exact bytes_inj e)
  simpa using h2
set_option maxRecDepth 100000 in
set_option maxHeartbeats 6400000 in
theorem readRuns_impl (s : ByteArray) (hs : s.size ≤ 1048576) (Q : ByteArray) (b : Bool) (hV : RrVal s Q b) (tp : TypeId) (p : Value) (m : Int) (w : World) (hm : w.cell? ⟨0, 0, none⟩ = some (.int .i64 m)) (hp : Pow10 w) (hv : w.var? Tryz.prog "strconv.ErrSyntax" = some #[.iface tp p]) :
    Calls Tryz.prog 5 #[.string s] w (RrAns w Q b) := by
  have C0 := Tryz.strings_Split s ⟨#[32]⟩ m w (by omega) hm (by rw [one_size]; omega)
  rw [splitB_count, splitB_parts] at C0
  have HS : Hid (∀ x ∈ partsOf s 32, x.size ≤ 1048576) := fun x hx => Nat.le_trans (part_size hx) hs
  have hpos := parts_pos s 32
  have hbig : (partsOf s 32).length ≤ 1048577 := by
    show (cutParts s (cutsC s 32 s.size 0 0)).length ≤ _
    have := cuts_length s 32 s.size 0 0
    simp [cutParts]; omega
  have HP : Hid (∀ wx, Below w.heap.size w wx → Pow10 wx) := fun wx h => hp.later h
  have HV : Hid (∀ wx, Below w.heap.size w wx → wx.var? Tryz.prog "strconv.ErrSyntax" = some #[.iface tp p]) := fun wx h => var_stays gSynL hv h (Nat.le_refl _)
  have HVAL := Lib.hid hV
  obtain ⟨P, hP⟩ : ∃ P, partsOf s 32 = P := ⟨_, rfl⟩
  have HPQ := Lib.hid hP
  rw [hP] at C0 HS hpos hbig
  clear hP hp hv hm hs hV
  have HB : Hid (Below w.heap.size w (w.alloc (.cells (P.map Value.string).toArray 9))) := balloc0 _ _
  have HC : Hid ((w.alloc (.cells (P.map Value.string).toArray 9)).heap[w.heap.size]? = some (.cells (P.map Value.string).toArray 9 (0, 0))) := heap_alloc_new w _
  obtain ⟨wS, hWS⟩ : ∃ wS, w.alloc (.cells (P.map Value.string).toArray 9) = wS := ⟨_, rfl⟩
  rw [hWS] at C0 HB HC
  clear hWS
  have C := Lib.hid C0
  clear C0
  unfold RrAns
  go_enter Tryz.func5, Tryz.ntmps5
  go_wp2_with fail
  refine C.out.mono ?_
  rintro e w1 ⟨rfl, hw⟩
  rw [hw]
  clear hw
  go_wp2_with fail
  go_loopw [4, 12] (fun cr i wr => ∃ (k : Nat) (ls : List (Int × UInt8)) (y : ByteArray), cr = .string y ∧ i = .int .i64 (k : Int) ∧ k ≤ P.length ∧ y.size ≤ 60 ∧ Hid (y = ⟨(rrL ls).toArray⟩) ∧ Hid (HrTo P k ls) ∧ Hid (∀ q ∈ ls, 1 ≤ q.1 ∧ q.1 ≤ 60) ∧ Hid (Below w.heap.size w wr) ∧ Hid (wr.heap[w.heap.size]? = some (.cells (P.map Value.string).toArray 9 (0, 0)))) (fun _ i _ => P.length - (intOf i).toNat)
  case atStart => exact ⟨0, [], ⟨#[]⟩, rfl, rfl, Nat.zero_le _, by decide, rfl, HrTo.zero _, fun q hq => by simp at hq, HB.out, HC.out⟩
  case round =>
    obtain ⟨k, ls, y, rfl, rfl, hk, hy, hY, hT, hN, hB, hC⟩ := hrel
    by_cases hlt : k < P.length
    · have hlt' : (k : Int) < (P.length : Int) := by omega
      have hk0 : (0 : Int) ≤ (k : Int) := by omega
      obtain ⟨x, hx⟩ : ∃ x, P[k]? = some x := ⟨P[k], List.getElem?_eq_getElem hlt⟩
      have c0 : wr.cell? ⟨w.heap.size, k, none⟩ = some (.string x) := by
        rw [cell_of_row _ _ _ _ _ (0, 0) hC.out]
        simp [hx]
      have N := Lib.hid (readRun_impl x (HS.out x (List.mem_of_getElem? hx)) tp p wr (HP.out _ hB.out) (HV.out _ hB.out))
      rcases rr_cases x with ⟨h1, h2, h3⟩ | ⟨n, c, h0, h1, h2, h3, h4⟩
      · obtain ⟨e1, e2⟩ := HVAL.out.no (fun l' h => by
          obtain ⟨n, c, a1, a2, a3, a4⟩ := h.word (k := k) (x := x) (by rw [HPQ.out]; exact hx)
          exact h3 n c a1 a2 a3 a4)
        have HE1 := Lib.hid e1
        have HE2 := Lib.hid e2
        rw [h1, h2] at N
        clear e1 e2 h1 h2 h3 hx
        go_wp2_with fail
        refine N.out.mono ?_
        rintro e w4 ⟨rfl, hb4⟩
        have B4 := Lib.hid (bnext hB.out hb4)
        clear hb4
        go_wp2
        refine bodyPost_ret (v := .tuple #[.string ⟨#[]⟩, .bool false]) (by simp [results, Tryz.results5, go_sem]) rfl ⟨by rw [HE1.out, HE2.out], B4.out⟩
      · rw [h3, h4] at N
        have HT2 := Lib.hid (hT.out.succ hx h0)
        have HN2 : Hid (∀ q ∈ ls ++ [(n, c)], 1 ≤ q.1 ∧ q.1 ≤ 60) := fun q hq => by
          rcases List.mem_append.1 hq with h | h
          · exact hN.out q h
          · rw [List.mem_singleton] at h
            subst h
            exact ⟨h1, h2⟩
        obtain ⟨z, hz⟩ : ∃ z : ByteArray, ⟨(List.replicate n.toNat c).toArray⟩ = z := ⟨_, rfl⟩
        have hzs : z.size ≤ 60 := by rw [← hz, size_listR, List.length_replicate]; omega
        have hYZ : Hid (y ++ z = ⟨(rrL (ls ++ [(n, c)])).toArray⟩) := by show _ = _; rw [hY.out, ← hz, rrL_snoc, rr_add]
        have hsum : (y ++ z).size = y.size + z.size := ByteArray.size_append
        rw [hz] at N
        clear h0 h1 h2 h3 h4 hz
        by_cases hgt : y.size + z.size ≤ 60
        · have hgi : ¬ (60 : Int) < (y.size : Int) + (z.size : Int) := by omega
          have HSUM := Lib.hid hsum
          clear hsum hx
          go_wp2_with fail
          refine N.out.mono ?_
          rintro e w4 ⟨rfl, hb4⟩
          have B4 := Lib.hid (bnext hB.out hb4)
          have C4 := Lib.hid ((hb4.block w.heap.size (Array.getElem?_eq_some_iff.1 hC.out).1).trans hC.out)
          clear hb4
          go_wp2
          go_roundw
          case rel => exact ⟨k + 1, ls ++ [(n, c)], y ++ z, rfl, by go_num, by omega, by rw [HSUM.out]; exact hgt, hYZ.out, HT2.out, HN2.out, B4.out, C4.out⟩
          case measure => simp [intOf]; omega
        · have hgi : (60 : Int) < (y.size : Int) + (z.size : Int) := by omega
          obtain ⟨e1, e2⟩ := HVAL.out.no (fun l' h => hgt (by
            have := h.part (k := k + 1) (by rw [HPQ.out]; exact HT2.out)
            rw [← hsum, hYZ.out, size_listR]
            exact this))
          have HE1 := Lib.hid e1
          have HE2 := Lib.hid e2
          clear e1 e2 hsum hx
          go_wp2_with fail
          refine N.out.mono ?_
          rintro e w4 ⟨rfl, hb4⟩
          have B4 := Lib.hid (bnext hB.out hb4)
          clear hb4
          go_wp2
          refine bodyPost_ret (v := .tuple #[.string ⟨#[]⟩, .bool false]) (by simp [results, Tryz.results5, go_sem]) rfl ⟨by rw [HE1.out, HE2.out], B4.out⟩
    · have hge : ¬ (k : Int) < (P.length : Int) := by omega
      obtain rfl : k = P.length := by omega
      have N := Lib.hid (courseRuns_impl y (by omega) wr (HP.out _ hB.out))
      have HT : HrTo (partsOf s 32) (partsOf s 32).length ls := by rw [HPQ.out]; exact hT.out
      obtain ⟨z, hz⟩ : ∃ z, shortS y = z := ⟨_, rfl⟩
      rw [hz] at N
      by_cases hzs : z = s
      · obtain ⟨e1, e2⟩ := HVAL.out.yes ls (rr_is HT hN.out (by have := hY.out; rw [this, size_listR] at hy; exact hy) (by rw [← hY.out, hz]; exact hzs))
        have HE1 := Lib.hid e1
        have HE2 := Lib.hid e2
        subst hzs
        clear e1 e2 HT hz
        go_wp2_with fail
        refine N.out.mono ?_
        rintro e w4 ⟨rfl, hb4⟩
        have B4 := Lib.hid (bnext hB.out hb4)
        clear hb4
        go_wp2
        refine bodyPost_ret (v := .tuple #[.string y, .bool true]) (by simp [results, Tryz.results5, go_sem]) rfl ⟨by rw [HE1.out, HE2.out, hY.out], B4.out⟩
      · obtain ⟨e1, e2⟩ := HVAL.out.no (rr_not HT (by rw [← hY.out, hz]; exact hzs))
        have HE1 := Lib.hid e1
        have HE2 := Lib.hid e2
        have hzn := sneX hzs
        clear e1 e2 HT hz
        go_wp2_with fail
        refine N.out.mono ?_
        rintro e w4 ⟨rfl, hb4⟩
        have B4 := Lib.hid (bnext hB.out hb4)
        clear hb4
        go_wp2
        refine bodyPost_ret (v := .tuple #[.string ⟨#[]⟩, .bool false]) (by simp [results, Tryz.results5, go_sem]) rfl ⟨by rw [HE1.out, HE2.out], B4.out⟩
end Go.Proofs.YtllcpgogfhjfpaaGreatDoor
