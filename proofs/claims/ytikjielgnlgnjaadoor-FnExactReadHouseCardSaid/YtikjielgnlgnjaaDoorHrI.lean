/-
  ReadHouse: the program.
-/
import Derived.Test.YtikjielgnlgnjaaDoorHr
import Derived.Test.YtikjielgnlgnjaaDoorTh
import Derived.Test.YtikjielgnlgnjaaDoorHoI
import Derived.Test.YtikjielgnlgnjaaDoorShelfC
import Derived.Test.YtikjielgnlgnjaaDoorBy
import Derived.Test.YtikjielgnlgnjaaDoorChkN
namespace Go.Proofs.YtikjielgnlgnjaaDoor
open Go.ChangeShapes Go.WideShapes Go.ChangeAt Go.RowKit Go.Joins

theorem noDigLR : NoDig [76, 82] := by
  intro c hc
  simp at hc
  rcases hc with rfl | rfl <;> decide
theorem parts_pos (s : ByteArray) (c : UInt8) : 1 ≤ (partsOf s c).length := by rw [← splitB_count]; omega
theorem set_two (W : World) (b c : Nat) (h : c ≠ b) (v0 v1 : Value) : ((W.setCell ⟨b, 0, none⟩ v0).setCell ⟨b, 1, none⟩ v1).heap[c]? = W.heap[c]? := (set_block _ b 1 c v1 h).trans (set_block W b 0 c v0 h)
theorem block_two {W : World} {b : Nat} {u0 u1 : Value} {t : TypeId} (h : W.heap[b]? = some (.cells #[u0, u1] t (0, 0))) (v0 v1 : Value) : ((W.setCell ⟨b, 0, none⟩ v0).setCell ⟨b, 1, none⟩ v1).heap[b]? = some (.cells #[v0, v1] t (0, 0)) := by
  simp [World.setCell, Array.getElem?_modify, h]
theorem keep_two {W : World} {b : Nat} {u0 u1 : Value} {t : TypeId} (h : W.heap[b]? = some (.cells #[u0, u1] t (0, 0))) (v0 v1 : Value) : KeepT [t] W ((W.setCell ⟨b, 0, none⟩ v0).setCell ⟨b, 1, none⟩ v1) := fun i T cs fr h1 h2 => by
  refine (set_two W b i (fun e => ?_) v0 v1).trans h1
  subst e
  rw [h] at h1
  cases h1
  exact h2 (by simp)
set_option maxRecDepth 100000 in
set_option maxHeartbeats 6400000 in
theorem readHouse_impl (s : ByteArray) (hs : s.size ≤ 1048576) (Q : List Int) (TQ : ByteArray) (b : Bool) (hV : HrVal s Q TQ b) (tp : TypeId) (p : Value) (m : Int) (w : World) (hm : w.cell? ⟨1, 0, none⟩ = some (.int .i64 m)) (hp : Pow10 w) (hv : w.var? Tryd.prog "strconv.ErrSyntax" = some #[.iface tp p]) (hd : DirAt w) :
    Calls Tryd.prog 47 #[.string s] w (HrAns w Q TQ b) := by
  obtain ⟨W0, hW⟩ : ∃ W0, w.alloc (.cells #[.slice none 0 0, .string ⟨#[]⟩] 27) = W0 := ⟨_, rfl⟩
  have E0 : Hid (Below w.heap.size w W0) := by show Below w.heap.size w W0; rw [← hW]; exact balloc0 _ _
  have z0 : W0.heap.size = w.heap.size + 1 := by rw [← hW]; simp
  have HRX : Hid (W0.heap[w.heap.size]? = some (.cells #[.slice none 0 0, .string ⟨#[]⟩] 27 (0, 0))) := by
    show _ = _
    rw [← hW]
    exact heap_alloc_new w _
  have HW := Lib.hid hW
  have hm0 : W0.cell? ⟨1, 0, none⟩ = some (.int .i64 m) := (E0.out.cell (p := ⟨1, 0, none⟩) (World.block_lt_of_cell? w _ hm)).trans hm
  have C0 := Tryd.strings_Split s ⟨#[32]⟩ m W0 (by omega) hm0 (by rw [one_size]; omega)
  rw [splitB_count, splitB_parts] at C0
  have HS : Hid (∀ x ∈ partsOf s 32, x.size ≤ 1048576) := fun x hx => Nat.le_trans (part_size hx) hs
  have hpos := parts_pos s 32
  have HP : Hid (∀ wx, Below w.heap.size w wx → Pow10 wx) := fun wx h => hp.later h
  have HV : Hid (∀ wx, Below w.heap.size w wx → wx.var? Tryd.prog "strconv.ErrSyntax" = some #[.iface tp p]) := fun wx h => var_stays gSynL hv h (Nat.le_refl _)
  have HD : Hid (∀ wx, Below w.heap.size w wx → DirAt wx) := fun wx h => hd.later h
  have HVAL := Lib.hid hV
  obtain ⟨P, hP⟩ : ∃ P, partsOf s 32 = P := ⟨_, rfl⟩
  have HPQ := Lib.hid hP
  rw [hP] at C0 HS hpos
  clear hP hp hv hm hs hd hW hV hm0
  have HB : Hid (Below w.heap.size w (W0.alloc (.cells (P.map Value.string).toArray 9))) := balloc E0.out _
  have HC : Hid ((W0.alloc (.cells (P.map Value.string).toArray 9)).heap[w.heap.size + 1]? = some (.cells (P.map Value.string).toArray 9 (0, 0))) := by show _ = _; rw [← z0]; exact heap_alloc_new W0 _
  have HRS : Hid ((W0.alloc (.cells (P.map Value.string).toArray 9)).heap[w.heap.size]? = some (.cells #[.slice none 0 0, .string ⟨#[]⟩] 27 (0, 0))) := (Below.heap_alloc _ _ _ (by omega)).trans HRX.out
  have zS : (W0.alloc (.cells (P.map Value.string).toArray 9)).heap.size = w.heap.size + 2 := by simp; omega
  obtain ⟨wS, hWS⟩ : ∃ wS, W0.alloc (.cells (P.map Value.string).toArray 9) = wS := ⟨_, rfl⟩
  rw [hWS] at C0 HB HC HRS zS
  clear hWS
  have C := Lib.hid C0
  clear C0
  by_cases h12 : P.length ≤ 12
  case neg =>
    obtain ⟨e1, e2, e3⟩ := HVAL.out.no (fun P' T' h => h12 (by rw [← HPQ.out]; exact h.len))
    have hgt : (12 : Int) < (P.length : Int) := by omega
    unfold HrAns
    rw [e1, e2, e3]
    have r1 := HRS.out
    have x0 : wS.cell? ⟨w.heap.size, 0, none⟩ = some (.slice none 0 0) := (cell_of_block r1 0).trans rfl
    have x1 : wS.cell? ⟨w.heap.size, 1, none⟩ = some (.string ⟨#[]⟩) := (cell_of_block r1 1).trans rfl
    have y0 : wS.frozen? ⟨w.heap.size, 0, none⟩ = false := unfrozen_of_block r1 0
    have y1 : wS.frozen? ⟨w.heap.size, 1, none⟩ = false := unfrozen_of_block r1 1
    clear r1 e1 e2 e3
    go_enter Tryd.func47, Tryd.ntmps47
    go_wp2_with fail
    rw [HW.out]
    refine C.out.mono ?_
    rintro e w1 ⟨rfl, hw⟩
    rw [hw]
    clear hw
    go_wp2
    obtain ⟨g0, g1⟩ := two_set (b := w.heap.size) (w := wS) (by rw [x0]; rfl) (by rw [x1]; rfl) (.slice none 0 0) (.string ⟨#[]⟩)
    refine bodyPost_ret (v := .tuple #[.agg #[.slice none 0 0, .string ⟨#[]⟩], .bool false]) (by simp [results, Tryd.results47, go_sem, g0, g1]) rfl ⟨none, 0, rfl, .inl rfl, two_below HB.out (Nat.le_refl _) _ _⟩
  have hng : ¬ (12 : Int) < (P.length : Int) := by omega
  -- the box of the plan
  have HBH : Hid ((wS.alloc (.cells #[.slice none 0 0, .string ⟨#[]⟩] 27)).heap[w.heap.size + 2]? = some (.cells #[.slice none 0 0, .string ⟨#[]⟩] 27 (0, 0))) := by
    have := heap_alloc_new wS (.cells #[.slice none 0 0, .string ⟨#[]⟩] 27)
    rw [zS] at this
    exact this
  have HB1 : Hid (Below w.heap.size w (wS.alloc (.cells #[.slice none 0 0, .string ⟨#[]⟩] 27))) := balloc HB.out _
  have HC1 : Hid ((wS.alloc (.cells #[.slice none 0 0, .string ⟨#[]⟩] 27)).heap[w.heap.size + 1]? = some (.cells (P.map Value.string).toArray 9 (0, 0))) := (Below.heap_alloc _ _ _ (by omega)).trans HC.out
  have HR1 : Hid ((wS.alloc (.cells #[.slice none 0 0, .string ⟨#[]⟩] 27)).heap[w.heap.size]? = some (.cells #[.slice none 0 0, .string ⟨#[]⟩] 27 (0, 0))) := (Below.heap_alloc _ _ _ (by omega)).trans HRS.out
  have zV : (wS.alloc (.cells #[.slice none 0 0, .string ⟨#[]⟩] 27)).heap.size = w.heap.size + 3 := by simp; omega
  go_enter Tryd.func47, Tryd.ntmps47
  go_wp2_with fail
  rw [HW.out]
  refine C.out.mono ?_
  rintro e w1 ⟨rfl, hw⟩
  rw [hw]
  clear hw
  go_wp2_with fail
  obtain ⟨V, hVV⟩ : ∃ V, wS.alloc (.cells #[.slice none 0 0, .string ⟨#[]⟩] 27) = V := ⟨_, rfl⟩
  rw [hVV] at HBH HB1 HC1 HR1 zV
  rw [hVV]
  clear hVV
  go_loopw [19] (fun i wr => ∃ (k : Nat) (ls : List (Int × UInt8)) (v : Value), i = .int .i64 (k : Int) ∧ k ≤ P.length ∧ ls.length = k ∧ Hid (HrTo P k ls) ∧ Hid (wr.heap[w.heap.size + 2]? = some (.cells #[v, .string (lsT ls)] 27 (0, 0))) ∧ Hid (wr.ownsRow w.heap.size 2 1 v k (intVals (lsP ls))) ∧ Hid (Below w.heap.size w wr) ∧ Hid (wr.heap[w.heap.size + 1]? = some (.cells (P.map Value.string).toArray 9 (0, 0))) ∧ Hid (wr.heap[w.heap.size]? = some (.cells #[.slice none 0 0, .string ⟨#[]⟩] 27 (0, 0)))) (fun i _ => P.length - (intOf i).toNat)
  case atStart => exact ⟨0, [], _, rfl, Nat.zero_le _, rfl, HrTo.zero _, HBH.out, World.ownsRow_nil _ _ _ _, HB1.out, HC1.out, HR1.out⟩
  case round =>
    obtain ⟨k, ls, v, rfl, hk, hls, hT, hX, hO, hB, hC, hR⟩ := hrel
    by_cases hlt : k < P.length
    · have hlt' : (k : Int) < (P.length : Int) := by omega
      have hk0 : (0 : Int) ≤ (k : Int) := by omega
      obtain ⟨x, hx⟩ : ∃ x, P[k]? = some x := ⟨P[k], List.getElem?_eq_getElem hlt⟩
      have c0 : wr.cell? ⟨w.heap.size + 1, k, none⟩ = some (.string x) := by
        rw [cell_of_row _ _ _ _ _ (0, 0) hC.out]
        simp [hx]
      have N : Hid (Calls Tryd.prog 78 #[.string x, .string ⟨#[76, 82]⟩] wr fun e w' => e = .returned (.tuple #[.int .i64 (rlN [76, 82] x.data.toList), .string (rlS [76, 82] x.data.toList), .bool (letR [76, 82] x.data.toList).isSome]) ∧ Below wr.heap.size wr w') := readLettered_impl x ⟨#[76, 82]⟩ (HS.out x (List.mem_of_getElem? hx)) (by decide) (by decide) noDigLR tp p wr (HP.out _ hB.out) (HV.out _ hB.out)
      cases hl : letR [76, 82] x.data.toList with
      | none =>
        obtain ⟨e1, e2, e3⟩ := HVAL.out.no (fun P' T' h => by
          obtain ⟨n, c, h1, h2⟩ := h.word (k := k) (x := x) (by rw [HPQ.out]; exact hx)
          rw [letR_word.2 ⟨h1, h2⟩] at hl
          cases hl)
        unfold HrAns
        rw [e1, e2, e3]
        have n1 : rlN [76, 82] x.data.toList = 0 := by unfold rlN; rw [hl]
        have n2 : rlS [76, 82] x.data.toList = ⟨#[]⟩ := by unfold rlS; rw [hl]
        rw [n1, n2, hl] at N
        clear e1 e2 e3 n1 n2 hl hx
        go_wp2_with fail
        refine N.out.mono ?_
        rintro e w4 ⟨rfl, hb4⟩
        have r1 := (hb4.block w.heap.size (Array.getElem?_eq_some_iff.1 hR.out).1).trans hR.out
        have x0 : w4.cell? ⟨w.heap.size, 0, none⟩ = some (.slice none 0 0) := (cell_of_block r1 0).trans rfl
        have x1 : w4.cell? ⟨w.heap.size, 1, none⟩ = some (.string ⟨#[]⟩) := (cell_of_block r1 1).trans rfl
        have y0 : w4.frozen? ⟨w.heap.size, 0, none⟩ = false := unfrozen_of_block r1 0
        have y1 : w4.frozen? ⟨w.heap.size, 1, none⟩ = false := unfrozen_of_block r1 1
        have B4 := Lib.hid (bnext hB.out hb4)
        clear hb4 r1
        go_wp2
        obtain ⟨g0, g1⟩ := two_set (b := w.heap.size) (w := w4) (by rw [x0]; rfl) (by rw [x1]; rfl) (.slice none 0 0) (.string ⟨#[]⟩)
        refine bodyPost_ret (v := .tuple #[.agg #[.slice none 0 0, .string ⟨#[]⟩], .bool false]) (by simp [results, Tryd.results47, go_sem, g0, g1]) rfl ⟨none, 0, rfl, .inl rfl, two_below B4.out (Nat.le_refl _) _ _⟩
      | some q =>
        obtain ⟨n, c⟩ := q
        have n1 : rlN [76, 82] x.data.toList = n := by unfold rlN; rw [hl]
        have n2 : rlS [76, 82] x.data.toList = ⟨#[c]⟩ := by unfold rlS; rw [hl]
        have HT2 := Lib.hid (hT.out.succ hx (letR_word.1 hl).1)
        rw [n1, n2, hl] at N
        clear n1 n2 hl hx
        obtain ⟨i0, hi, hz0, hz1, hz2⟩ := info_parts infoInt
        have c3 : Hid (k + 1 ≤ maxLen) := by show k + 1 ≤ maxLen; unfold maxLen; omega
        have hsz : (lsT ls).size ≤ 12 := by rw [lsT_size]; omega
        have HTS := Lib.hid (lsT_snoc ls (n, c))
        have HPS := Lib.hid (lsP_snoc ls (n, c))
        obtain ⟨T0, hT0⟩ : ∃ T0, lsT ls = T0 := ⟨_, rfl⟩
        rw [hT0] at hX hsz HTS
        clear hT0
        go_wp2_with fail
        refine N.out.mono ?_
        rintro e w4 ⟨rfl, hb4⟩
        have X4 := (hb4.block (w.heap.size + 2) (Array.getElem?_eq_some_iff.1 hX.out).1).trans hX.out
        have R4 := Lib.hid ((hb4.block w.heap.size (Array.getElem?_eq_some_iff.1 hR.out).1).trans hR.out)
        have O4 := Lib.hid (own_later2 hO.out hb4)
        have B4 := Lib.hid (bnext hB.out hb4)
        have C4 := Lib.hid ((hb4.block (w.heap.size + 1) (Array.getElem?_eq_some_iff.1 hC.out).1).trans hC.out)
        have x0 : w4.cell? ⟨w.heap.size + 2, 0, none⟩ = some v := (cell_of_block X4 0).trans rfl
        have zz4 : w.heap.size ≤ w4.heap.size := B4.out.size
        have HX4 := Lib.hid X4
        have xx0 : (w4.alloc (.cells #[.int .i64 n] 2)).cell? ⟨w.heap.size + 2, 0, none⟩ = some v := (World.cell?_alloc_lt _ _ _ (World.block_lt_of_cell? _ _ x0)).trans x0
        clear hb4 X4
        go_wp2_with (at_builtin; go_must ((refine wpList_append_own _ rfl _ _ 22 rfl w.heap.size 2 i0 (.int .i64 0) 1 8 Tryd.underlying22 hi hz0 hz1 hz2 rfl (by decide) v k (intVals (lsP ls)) rfl (O4.out.alloc _) ⟨w4.heap.size, 0, none⟩ 1 1 [.int .i64 n] rfl rfl ((lit8 w.heap.size w4 _ zz4).cells rfl) (by simp [Value.oneCell']) c3.out (by omega) (by simp; omega) ?_; intro v5 w5 hown5 hgrow5 _; obtain ⟨g5, cp5, hv5⟩ := own_form8 hown5 (Nat.succ_ne_zero k); subst hv5; have K5 : KeepT [2] w4 w5 := (KeepT.below (balloc0 w4 _)).trans (keep_grown2 hgrow5 (O4.out.alloc _) (by simp)); have X5 := K5 _ _ _ _ HX4.out (by simp); have R5 := Lib.hid (K5 _ _ _ _ R4.out (by simp)); have C5 := Lib.hid (K5 _ _ _ _ C4.out (by simp)); have B5 : Hid (Below w.heap.size w w5) := (B4.out.alloc zz4 _).grown hgrow5 (by simp; omega) (fun q hq => (O4.out.lt q hq).1); have O5 := Lib.hid hown5; have HX5 := Lib.hid X5; have x50 : w5.cell? ⟨w.heap.size + 2, 0, none⟩ = some v := (cell_of_block X5 0).trans rfl; have x51 : w5.cell? ⟨w.heap.size + 2, 1, none⟩ = some (.string T0) := (cell_of_block X5 1).trans rfl; have y50 : w5.frozen? ⟨w.heap.size + 2, 0, none⟩ = false := unfrozen_of_block X5 0; have y51 : w5.frozen? ⟨w.heap.size + 2, 1, none⟩ = false := unfrozen_of_block X5 1; clear hown5 X5)))
        go_roundw
        case rel => exact ⟨k + 1, ls ++ [(n, c)], _, by go_num, by omega, by simp; omega, HT2.out, by show _ = _; rw [HTS.out]; exact block_two HX5.out _ _, by show World.ownsRow _ _ _ _ _ _ _; rw [HPS.out, ← intVals_app]; exact own_keep2 O5.out (keep_two HX5.out _ _) (by simp), two_below B5.out (by omega) _ _, (set_two _ _ _ (by omega) _ _).trans C5.out, (set_two _ _ _ (by omega) _ _).trans R5.out⟩
        case measure => simp [intOf]; omega
    · have hge : ¬ (k : Int) < (P.length : Int) := by omega
      have hkn : k = P.length := by omega
      have hk1 : 1 ≤ k := by omega
      obtain ⟨g, cp, rfl⟩ := own_form8 hO.out (by omega)
      have hpl : (lsP ls).length = k := by rw [lsP_length]; exact hls
      have HO : Hid (IntOwn w.heap.size (lsP ls) g wr) := own_of_row (cap := cp) (by rw [hpl]; exact hO.out)
      have HT : Hid (HrTo (partsOf s 32) (partsOf s 32).length ls) := by show HrTo _ _ _; rw [HPQ.out, ← hkn]; exact hT.out
      have hts : (lsT ls).size ≤ 12 := by rw [lsT_size]; omega
      have CV : Hid (Calls Tryd.prog 18 #[.agg #[.slice (some ⟨g, 0, none⟩) k cp, .string (lsT ls)]] wr fun e w' => e = .returned (.bool (okHo (lsP ls) (lsT ls))) ∧ Below wr.heap.size wr w') := by
        have := validHouse_impl (lsP ls) (lsT ls) (some ⟨g, 0, none⟩) cp (by omega) (by omega) wr HO.out.arg (HD.out _ hB.out)
        rw [hpl] at this
        exact this
      have c0 : wr.cell? ⟨w.heap.size + 2, 0, none⟩ = some (.slice (some ⟨g, 0, none⟩) k cp) := (cell_of_block hX.out 0).trans rfl
      have c1 : wr.cell? ⟨w.heap.size + 2, 1, none⟩ = some (.string (lsT ls)) := (cell_of_block hX.out 1).trans rfl
      have HPL := Lib.hid hpl
      cases hok : okHo (lsP ls) (lsT ls)
      · rw [hok] at CV
        obtain ⟨e1, e2, e3⟩ := HVAL.out.no (fun P' T' h => by
          obtain ⟨ls', h1, rfl, rfl, h2⟩ := h
          have : ls = ls' := by
            have := congrArg (List.filterMap id) (HT.out.symm.trans h1)
            simpa using this
          rw [← this, hok] at h2
          cases h2)
        have HE1 := Lib.hid e1
        have HE2 := Lib.hid e2
        have HE3 := Lib.hid e3
        clear e1 e2 e3 hok hpl hls hk1 hts
        have HKN := Lib.hid hkn
        have HK2 := Lib.hid hk
        obtain ⟨PL, hPL⟩ : ∃ PL, P.length = PL := ⟨_, rfl⟩
        rw [hPL] at hge hkn hk ⊢
        obtain rfl : k = PL := hkn
        clear hPL HKN HK2
        go_wp2_with fail
        refine CV.out.mono ?_
        rintro e w4 ⟨rfl, hb4⟩
        have r1 := (hb4.block w.heap.size (Array.getElem?_eq_some_iff.1 hR.out).1).trans hR.out
        have x0 : w4.cell? ⟨w.heap.size, 0, none⟩ = some (.slice none 0 0) := (cell_of_block r1 0).trans rfl
        have x1 : w4.cell? ⟨w.heap.size, 1, none⟩ = some (.string ⟨#[]⟩) := (cell_of_block r1 1).trans rfl
        have y0 : w4.frozen? ⟨w.heap.size, 0, none⟩ = false := unfrozen_of_block r1 0
        have y1 : w4.frozen? ⟨w.heap.size, 1, none⟩ = false := unfrozen_of_block r1 1
        have B4 := Lib.hid (bnext hB.out hb4)
        clear hb4 r1
        go_wp2
        obtain ⟨g0, g1⟩ := two_set (b := w.heap.size) (w := w4) (by rw [x0]; rfl) (by rw [x1]; rfl) (.slice none 0 0) (.string ⟨#[]⟩)
        refine bodyPost_ret (v := .tuple #[.agg #[.slice none 0 0, .string ⟨#[]⟩], .bool false]) (by simp [results, Tryd.results47, go_sem, g0, g1]) rfl ⟨none, 0, by rw [HE1.out, HE2.out, HE3.out]; rfl, .inl HE1.out, two_below B4.out (Nat.le_refl _) _ _⟩
      · rw [hok] at CV
        obtain ⟨e1, e2, e3⟩ := HVAL.out.yes (lsP ls) (lsT ls) ⟨ls, HT.out, rfl, rfl, hok⟩
        have HE1 := Lib.hid e1
        have HE2 := Lib.hid e2
        have HE3 := Lib.hid e3
        clear e1 e2 e3 hok hpl hls hk1 hts
        have HKN := Lib.hid hkn
        have HK2 := Lib.hid hk
        obtain ⟨PL, hPL⟩ : ∃ PL, P.length = PL := ⟨_, rfl⟩
        rw [hPL] at hge hkn hk ⊢
        obtain rfl : k = PL := hkn
        clear hPL HKN HK2
        go_wp2_with fail
        refine CV.out.mono ?_
        rintro e w4 ⟨rfl, hb4⟩
        have r1 := (hb4.block w.heap.size (Array.getElem?_eq_some_iff.1 hR.out).1).trans hR.out
        have X4 := (hb4.block (w.heap.size + 2) (Array.getElem?_eq_some_iff.1 hX.out).1).trans hX.out
        have HO4 := Lib.hid (HO.out.later hb4)
        have hne : g ≠ w.heap.size := fun e => by
          obtain ⟨cur, hcur⟩ := row_block hO.out
          rw [e, hR.out] at hcur
          cases hcur
        have x0 : w4.cell? ⟨w.heap.size, 0, none⟩ = some (.slice none 0 0) := (cell_of_block r1 0).trans rfl
        have x1 : w4.cell? ⟨w.heap.size, 1, none⟩ = some (.string ⟨#[]⟩) := (cell_of_block r1 1).trans rfl
        have y0 : w4.frozen? ⟨w.heap.size, 0, none⟩ = false := unfrozen_of_block r1 0
        have y1 : w4.frozen? ⟨w.heap.size, 1, none⟩ = false := unfrozen_of_block r1 1
        have d0 : w4.cell? ⟨w.heap.size + 2, 0, none⟩ = some (.slice (some ⟨g, 0, none⟩) k cp) := (cell_of_block X4 0).trans rfl
        have d1 : w4.cell? ⟨w.heap.size + 2, 1, none⟩ = some (.string (lsT ls)) := (cell_of_block X4 1).trans rfl
        have B4 := Lib.hid (bnext hB.out hb4)
        have HNE := Lib.hid hne
        clear hb4 r1 X4 hne c0 c1
        go_wp2
        obtain ⟨g0, g1⟩ := two_set (b := w.heap.size) (w := w4) (by rw [x0]; rfl) (by rw [x1]; rfl) (.slice (some ⟨g, 0, none⟩) k cp) (.string (lsT ls))
        refine bodyPost_ret (v := .tuple #[.agg #[.slice (some ⟨g, 0, none⟩) k cp, .string (lsT ls)], .bool true]) (by simp [results, Tryd.results47, go_sem, g0, g1]) rfl ⟨some ⟨g, 0, none⟩, cp, by rw [HE1.out, HE2.out, HE3.out, HPL.out], .inr ⟨g, rfl, by rw [HE1.out]; exact (HO4.out.set HNE.out).set HNE.out⟩, two_below B4.out (Nat.le_refl _) _ _⟩
end Go.Proofs.YtikjielgnlgnjaaDoor
