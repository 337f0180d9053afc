/-
  ReadRuns: the model.
-/
import Derived.Test.YtllcpgogfhjfpaaGreatDoorRrI
namespace Go.Proofs.YtllcpgogfhjfpaaGreatDoor
open Go.ChangeShapes Go.WideShapes Go.ChangeAt Go.RowKit Go.Joins

theorem own_keep2 {ts : List TypeId} {w w' : World} {B e size n : Nat} {v : Value} {xs : List Value} (h : w.ownsRow B e size v n xs) (hk : KeepT ts w w') (he : e ∉ ts) : w'.ownsRow B e size v n xs := by
  refine ⟨h.1, ?_⟩
  rcases h.2 with hn | ⟨g, cap, cur, hv, hB, hgg, rest⟩
  · exact .inl hn
  · exact .inr ⟨g, cap, cur, hv, hB, hk _ _ _ _ hgg he, rest⟩
theorem own_later2 {w w' : World} {B e size n : Nat} {v : Value} {xs : List Value} (h : w.ownsRow B e size v n xs) (hb : Below w.heap.size w w') : w'.ownsRow B e size v n xs := by
  refine ⟨h.1, ?_⟩
  rcases h.2 with hn | ⟨g, cap, cur, hv, hB, hgg, rest⟩
  · exact .inl hn
  · exact .inr ⟨g, cap, cur, hv, hB, (hb.block g (Array.getElem?_eq_some_iff.1 hgg).1).trans hgg, rest⟩
/-- What grows by an own row keeps the blocks of other types. -/
theorem keep_grown2 {ts : List TypeId} {w w' : World} {v : Value} {B e size n : Nat} {xs : List Value} (hg : w.grownBy w' v.ownBlock) (ho : w.ownsRow B e size v n xs) (he : e ∈ ts) : KeepT ts w w' := fun i T cs fr h1 h2 => by
  refine (hg.block i (Array.getElem?_eq_some_iff.1 h1).1 (fun h3 => ?_)).trans h1
  rcases ho.2 with ⟨hv, _⟩ | ⟨g, cap, cur, hv, hB, hgg, _⟩
  · rw [hv] at h3
    simp [Value.ownBlock] at h3
  · rw [hv] at h3
    simp only [Value.ownBlock, Option.some.injEq] at h3
    subst h3
    rw [h1] at hgg
    cases hgg
    exact h2 he
theorem bytes_str2 {wr : World} {B g cap : Nat} {ds : List UInt8} (h : wr.ownsRow B 5 1 (.slice (some ⟨g, 0, none⟩) ds.length cap) ds.length (byteVals ds)) : (convert 27 9 (.slice (some ⟨g, 0, none⟩) ds.length cap)).run Tryz.prog wr = .ok (.string ⟨ds.toArray⟩) wr :=
  run_convert_bytes_back (P := Tryz.prog) wr 27 9 5 ⟨g, 0, none⟩ cap ds Tryz.underlying27 Tryz.underlying5 Tryz.underlying9 (fun j hj => h.cells rfl j _ (by simp [byteVals, List.getElem?_eq_getElem hj]))
theorem numR_casesH (l : List UInt8) : (∃ n, numR l = some n ∧ (numR l).getD 0 = n ∧ (numR l).isSome = true) ∨ (numR l = none ∧ (numR l).isSome = false) := by
  cases h : numR l with
  | none => exact .inr ⟨rfl, rfl⟩
  | some n => exact .inl ⟨n, rfl, rfl, rfl⟩
theorem byteVals_more (a : List UInt8) (d : Nat) (x : UInt8) : byteVals (a ++ List.replicate d x) ++ [.int .u8 (x.toNat : Int)] = byteVals (a ++ List.replicate (d + 1) x) := by
  rw [List.replicate_succ', ← List.append_assoc]
  simp [byteVals]
set_option maxRecDepth 100000 in
set_option maxHeartbeats 6400000 in
theorem readRuns_spec (s : ByteArray) (hs : s.size ≤ 1048576) (Q : ByteArray) (b : Bool) (hV : RrVal s Q b) (w : World) :
    Calls Tryz.prog 4 #[.string s] w (RrAns w Q b) := by
  have C := Lib.hid (split_spec s hs 32 w)
  have hcut : cutParts s (cutsC s 32 s.size 0 0) = partsOf s 32 := rfl
  rw [hcut] at C
  have hpos := parts_pos s 32
  have hbig : (partsOf s 32).length ≤ 1048577 := by
    show (cutParts s (cutsC s 32 s.size 0 0)).length ≤ _
    have := cuts_length s 32 s.size 0 0
    simp [cutParts]; omega
  have HS : Hid (∀ x ∈ partsOf s 32, x.size ≤ 1048576) := fun x hx => Nat.le_trans (part_size hx) hs
  have HVAL := Lib.hid hV
  obtain ⟨P, hP⟩ : ∃ P, partsOf s 32 = P := ⟨_, rfl⟩
  have HPQ := Lib.hid hP
  rw [hP] at C hpos hbig HS
  clear hP hs hV hcut
  unfold RrAns
  go_enter Tryz.func4, Tryz.ntmps4
  go_wp2_with fail
  refine C.out.mono ?_
  rintro e w1 ⟨gw, cw, rfl, hA⟩
  have B1 := Lib.hid hA.2.1
  have z1 := hA.2.2
  have HWB : Hid (∃ cs : Array Value, w1.heap[gw]? = some (.cells cs 9 (0, 0)) ∧ ∀ (k : Nat) (x : ByteArray), P[k]? = some x → cs[k]? = some (Value.string x)) := by
    obtain ⟨h1, h2 | ⟨g', cap', cur, e1, _, e3, e4, _, e6, e7⟩⟩ := hA.1
    · cases h2.1
    · cases e1
      refine ⟨cur, e3, fun k x hx => ?_⟩
      have hl := (List.getElem?_eq_some_iff.1 hx).1
      have h5 : (partVals P)[k]? = some (Value.string x) := by simp [partVals, hx]
      rw [← e7, List.getElem?_take_of_lt (by omega)] at h5
      simpa using h5
  clear hA
  -- the empty row
  obtain ⟨VC, hVC⟩ : ∃ VC, w1.alloc (.cells #[] 5) = VC := ⟨_, rfl⟩
  have HT3 : Hid (VC.ownsRow w.heap.size 5 1 (.slice (some ⟨w1.heap.size, 0, none⟩) 0 0) 0 (byteVals (rrL []))) := by
    have h := heap_alloc_new w1 (.cells #[] 5)
    rw [hVC] at h
    exact ⟨rfl, .inr ⟨w1.heap.size, 0, #[], rfl, by omega, h, Nat.le_refl _, by decide, rfl, rfl⟩⟩
  have hBC : Below w1.heap.size w1 VC := by rw [← hVC]; exact balloc0 _ _
  have HB3 := Lib.hid (bnext B1.out hBC)
  have KT3 : Hid (KeepT [5] w1 VC) := KeepT.below hBC
  have QC := Lib.hid hVC
  clear hVC hBC z1
  go_wp2_with fail
  rw [QC.out]
  clear QC
  go_loopw [5, 6] (fun t i wr => ∃ (k gt ct L : Nat) (ls : List (Int × UInt8)), t = .slice (some ⟨gt, 0, none⟩) L ct ∧ i = .int .i64 (k : Int) ∧ k ≤ P.length ∧ L ≤ 60 ∧ Hid ((rrL ls).length = L) ∧ Hid (HrTo P k ls) ∧ Hid (∀ q ∈ ls, 1 ≤ q.1 ∧ q.1 ≤ 60) ∧ Hid (wr.ownsRow w.heap.size 5 1 (.slice (some ⟨gt, 0, none⟩) L ct) L (byteVals (rrL ls))) ∧ Hid (Below w.heap.size w wr) ∧ Hid (KeepT [5] w1 wr)) (fun _ i _ => P.length - (intOf i).toNat)
  case atStart => exact ⟨0, w1.heap.size, 0, 0, [], rfl, rfl, Nat.zero_le _, Nat.zero_le _, rfl, HrTo.zero _, fun q hq => by simp at hq, HT3.out, HB3.out, KT3.out⟩
  case round =>
    clear HT3 HB3 KT3
    obtain ⟨k, gt, ct, L, ls, rfl, rfl, hk, hL, hLL, hT, hN, hY, hB, hK⟩ := hrel
    by_cases hlt : k < P.length
    · have hlt' : (k : Int) < (P.length : Int) := by omega
      have hk0 : (0 : Int) ≤ (k : Int) := by omega
      obtain ⟨x, hx⟩ : ∃ x, P[k]? = some x := ⟨P[k], List.getElem?_eq_getElem hlt⟩
      have HROW : Hid (∀ wx, KeepT [5] w1 wx → wx.cell? ⟨gw, k, none⟩ = some (.string x)) := fun wx hkx => by
        obtain ⟨cs, hcs, hc⟩ := HWB.out
        rw [cell_of_row _ _ _ _ _ (0, 0) (hkx _ _ _ _ hcs (by simp))]
        exact hc k x hx
      have c0 := HROW.out wr hK.out
      by_cases hz : x.size < 2
      · obtain ⟨e1, e2⟩ := HVAL.out.no (fun l' h => by
          obtain ⟨n, c, h1, _⟩ := h.word (k := k) (x := x) (by rw [HPQ.out]; exact hx)
          have h2 := wordR_len h1
          have h3 : x.data.toList.length = x.size := by simp
          omega)
        have HE1 := Lib.hid e1
        have HE2 := Lib.hid e2
        have hzi : (x.size : Int) < 2 := by omega
        clear e1 e2 hx hz
        go_wp2
        refine bodyPost_ret (v := .tuple #[.string ⟨#[]⟩, .bool false]) (by simp [results, Tryz.results4, go_sem]) rfl ⟨by rw [HE1.out, HE2.out], hB.out⟩
      obtain ⟨n, hn⟩ : ∃ n, x.size = n + 1 := ⟨x.size - 1, by omega⟩
      have hxs := HS.out x (List.mem_of_getElem? hx)
      have hnx : n < x.size := by omega
      have hsub : (x.size : Int) - 1 = (n : Int) := by omega
      have hxz : ¬ (x.size : Int) < 2 := by omega
      have hn0 : (0 : Int) ≤ (n : Int) := by omega
      have hn1 : (n : Int) ≤ (x.size : Int) := by omega
      have hn2 : (n : Int) < (x.size : Int) := by omega
      have N : Hid (Calls Tryz.prog 7 #[.string (x.extract 0 n)] wr fun e w' => e = .returned (.tuple #[.int .i64 ((numR x.data.toList.dropLast).getD 0), .bool (numR x.data.toList.dropLast).isSome]) ∧ Below wr.heap.size wr w') := by
        have := number_spec (x.extract 0 n) wr
        rw [dropLast_extract x n hn.symm] at this
        exact this
      have hw := wordR_at x n hnx hn.symm
      rcases numR_casesH x.data.toList.dropLast with ⟨q, h1, h2, h3⟩ | ⟨h1, h3⟩
      case inr =>
        rw [h1] at hw
        obtain ⟨e1, e2⟩ := HVAL.out.no (fun l' h => by
          obtain ⟨n, c, h1, _⟩ := h.word (k := k) (x := x) (by rw [HPQ.out]; exact hx)
          rw [hw] at h1
          cases h1)
        have HE1 := Lib.hid e1
        have HE2 := Lib.hid e2
        obtain ⟨v4, hv4⟩ : ∃ v, (numR x.data.toList.dropLast).getD 0 = v := ⟨_, rfl⟩
        rw [h3, hv4] at N
        clear e1 e2 hx hz hn hw h1 h3 hv4
        go_wp2_with fail
        refine N.out.mono ?_
        rintro e w4 ⟨rfl, hb4⟩
        have B4 := Lib.hid (bnext hB.out hb4)
        clear hb4
        go_wp2
        refine bodyPost_ret (v := .tuple #[.string ⟨#[]⟩, .bool false]) (by simp [results, Tryz.results4, go_sem]) rfl ⟨by rw [HE1.out, HE2.out], B4.out⟩
      rw [h2, h3] at N
      rw [h1] at hw
      have W := Lib.hid (in_any q 1 60)
      cases hin : inB q 1 60
      · rw [hin] at W
        obtain ⟨e1, e2⟩ := HVAL.out.no (fun l' h => by
          obtain ⟨n, c, a1, a2, a3, _⟩ := h.word (k := k) (x := x) (by rw [HPQ.out]; exact hx)
          rw [hw] at a1
          cases a1
          simp [inB, a2, a3] at hin)
        have HE1 := Lib.hid e1
        have HE2 := Lib.hid e2
        clear e1 e2 hx hz hn hw h1 h2 h3 hin
        go_wp2_with fail
        refine N.out.mono ?_
        rintro e w4 ⟨rfl, hb4⟩
        have B4 := Lib.hid (bnext hB.out hb4)
        clear hb4
        go_wp2_with fail
        refine (W.out _).mono ?_
        rintro e w5 ⟨rfl, rfl⟩
        go_wp2
        refine bodyPost_ret (v := .tuple #[.string ⟨#[]⟩, .bool false]) (by simp [results, Tryz.results4, go_sem]) rfl ⟨by rw [HE1.out, HE2.out], B4.out⟩
      rw [hin] at W
      simp only [inB, Bool.and_eq_true, decide_eq_true_eq] at hin
      obtain ⟨nn, rfl⟩ : ∃ m : Nat, q = (m : Int) := ⟨q.toNat, by omega⟩
      obtain ⟨hq1, hq2⟩ := hin
      have hnn : nn ≤ 60 := by omega
      obtain ⟨c, hc⟩ : ∃ c, x[n]'hnx = c := ⟨_, rfl⟩
      have HT2 : Hid (HrTo P (k + 1) (ls ++ [((nn : Int), c)])) := hT.out.succ hx (hw.trans (by rw [← hc]; rfl))
      have HN2 : Hid (∀ q ∈ ls ++ [((nn : Int), c)], 1 ≤ q.1 ∧ q.1 ≤ 60) := fun q hq => by
        rcases List.mem_append.1 hq with h | h
        · exact hN.out q h
        · rw [List.mem_singleton] at h
          subst h
          exact ⟨hq1, hq2⟩
      have HRR : Hid (rrL (ls ++ [((nn : Int), c)]) = rrL ls ++ List.replicate nn c) := by
        show _ = _
        rw [rrL_snoc]
        rfl
      have HCC : Hid (x[n]'hnx = c) := hc
      clear hx hz hn hw h1 h2 h3 hc hq1 hq2
      obtain ⟨j0, hj, hy0, hy1, hy2⟩ := info_parts infoByteY
      go_wp2_with fail
      refine N.out.mono ?_
      rintro e w4 ⟨rfl, hb4⟩
      have Y4 := Lib.hid (own_later2 hY.out hb4)
      have B4 := Lib.hid (bnext hB.out hb4)
      have K4 := Lib.hid (hK.out.trans (KeepT.below hb4))
      have c4 := HROW.out w4 K4.out
      clear hb4 hY hB hK c0 N
      go_wp2_with fail
      refine (W.out _).mono ?_
      rintro e w5 ⟨rfl, rfl⟩
      go_wp2_with fail
      go_loopw [5, 10] (fun t j wq => ∃ (d g2 c2 : Nat), t = .slice (some ⟨g2, 0, none⟩) (L + d) c2 ∧ j = .int .i64 (d : Int) ∧ d ≤ nn ∧ Hid (wq.ownsRow w.heap.size 5 1 (.slice (some ⟨g2, 0, none⟩) (L + d) c2) (L + d) (byteVals (rrL ls ++ List.replicate d c))) ∧ Hid (Below w.heap.size w wq) ∧ Hid (KeepT [5] w1 wq)) (fun _ j _ => nn - (intOf j).toNat)
      case atStart => exact ⟨0, gt, ct, rfl, rfl, Nat.zero_le _, by show World.ownsRow _ _ _ _ _ _ _; rw [List.replicate_zero, List.append_nil]; exact Y4.out, B4.out, K4.out⟩
      case round =>
        clear Y4 B4 K4 c4
        obtain ⟨d, g2, c2, rfl, rfl, hd, hY, hB, hK⟩ := hrel
        have c0 := HROW.out wr hK.out
        by_cases hdl : d < nn
        · have hdl' : (d : Int) < (nn : Int) := by omega
          have c3 : Hid (L + d + 1 ≤ maxLen) := by show L + d + 1 ≤ maxLen; unfold maxLen; omega
          have zz : w.heap.size ≤ wr.heap.size := hB.out.size
          go_wp2_with (at_builtin; go_must ((refine wpList_append_own _ rfl _ _ 27 rfl w.heap.size 5 j0 (.int .u8 0) 1 1 Tryz.underlying27 hj hy0 hy1 hy2 rfl (by decide) (.slice (some ⟨g2, 0, none⟩) (L + d) c2) (L + d) (byteVals (rrL ls ++ List.replicate d c)) rfl (hY.out.alloc _) ⟨wr.heap.size, 0, none⟩ 1 1 [.int .u8 ((x[n]'hnx).toNat : Int)] rfl rfl ((lit8B w.heap.size wr _ zz).cells (by show some _ = some _; simp)) (by simp [Value.oneCell']) c3.out (by omega) (by have h := zz; simp at h ⊢; omega) ?_; intro v7 w7 hown7 hgrow7 _; obtain ⟨g7, cp7, hv7⟩ := own_form8 hown7 (Nat.succ_ne_zero (L + d)); subst hv7; have K7 : KeepT [5] wr w7 := (KeepT.below (balloc0 wr _)).trans (keep_grown2 hgrow7 (hY.out.alloc _) (by simp)); have B7 : Hid (Below w.heap.size w w7) := (hB.out.alloc zz _).grown hgrow7 (by have h := zz; simp at h ⊢; omega) (fun q hq => (hY.out.lt q hq).1); have Y7 := Lib.hid hown7; have HK7 := Lib.hid (hK.out.trans K7); clear hown7 hgrow7 K7)))
          go_roundw
          case rel => exact ⟨d + 1, g7, cp7, rfl, by go_num, by omega, by show World.ownsRow _ _ _ _ _ _ _; have h := Y7.out; rw [HCC.out, byteVals_more] at h; exact h, B7.out, HK7.out⟩
          case measure => simp [intOf]; omega
        · have hdl' : ¬ (d : Int) < (nn : Int) := by omega
          obtain rfl : d = nn := by omega
          have hlen : (rrL (ls ++ [((d : Int), c)])).length = L + d := by rw [HRR.out, List.length_append, List.length_replicate, hLL.out]
          by_cases hgt : L + d ≤ 60
          · have hgi : ¬ (60 : Int) < ((L + d : Nat) : Int) := by omega
            have HLEN := Lib.hid hlen
            clear hlen
            go_wp2
            go_roundw
            case rel => exact ⟨k + 1, g2, c2, L + d, ls ++ [((d : Int), c)], rfl, by go_num, by omega, hgt, HLEN.out, HT2.out, HN2.out, by show World.ownsRow _ _ _ _ _ _ _; rw [HRR.out]; exact hY.out, hB.out, hK.out⟩
            case measure => simp [intOf]; omega
          · have hgi : (60 : Int) < ((L + d : Nat) : Int) := by omega
            obtain ⟨e1, e2⟩ := HVAL.out.no (fun l' h => hgt (by
              have := h.part (k := k + 1) (by rw [HPQ.out]; exact HT2.out)
              rw [hlen] at this
              exact this))
            have HE1 := Lib.hid e1
            have HE2 := Lib.hid e2
            clear e1 e2 hlen
            go_wp2
            refine bodyPost_ret (v := .tuple #[.string ⟨#[]⟩, .bool false]) (by simp [results, Tryz.results4, go_sem]) rfl ⟨by rw [HE1.out, HE2.out], hB.out⟩
    · have hge : ¬ (k : Int) < (P.length : Int) := by omega
      obtain rfl : k = P.length := by omega
      obtain ⟨y, hy⟩ : ∃ y : ByteArray, ⟨(rrL ls).toArray⟩ = y := ⟨_, rfl⟩
      have hys : y.size ≤ 60 := by rw [← hy, size_listR, hLL.out]; exact hL
      have hcv : (convert 27 9 (.slice (some ⟨gt, 0, none⟩) L ct)).run Tryz.prog wr = .ok (.string y) wr := by
        have h := bytes_str2 (wr := wr) (B := w.heap.size) (g := gt) (cap := ct) (ds := rrL ls) (by rw [hLL.out]; exact hY.out)
        rw [hLL.out, hy] at h
        exact h
      have HT : HrTo (partsOf s 32) (partsOf s 32).length ls := by rw [HPQ.out]; exact hT.out
      have O := Lib.hid (cok_spec y (by omega))
      have HY : Hid (⟨(rrL ls).toArray⟩ = y) := hy
      by_cases hzs : shortS y = s
      · obtain ⟨e1, e2⟩ := HVAL.out.yes ls (rr_is HT hN.out (by rw [hLL.out]; exact hL) (by rw [hy]; exact hzs))
        have hok : okCr y = true := by rw [← hy]; exact (rr_is HT hN.out (by rw [hLL.out]; exact hL) (by rw [hy]; exact hzs)).ok
        have hsh : shortT y = s := by simpa only [shortS, hok, if_true] using hzs
        have R := Lib.hid (runs_spec y hys)
        rw [hok] at O
        rw [hsh] at R
        have HE1 := Lib.hid e1
        have HE2 := Lib.hid e2
        clear e1 e2 HT hy hok hsh hzs
        go_wp2_with fail
        refine (O.out _).mono ?_
        rintro e w4 ⟨rfl, rfl⟩
        go_wp2_with fail
        refine (R.out _).mono ?_
        rintro e w5 ⟨rfl, hb5⟩
        have B5 := Lib.hid (bnext hB.out hb5)
        clear hb5
        go_wp2
        refine bodyPost_ret (v := .tuple #[.string y, .bool true]) (by simp [results, Tryz.results4, go_sem]) rfl ⟨by rw [HE1.out, HE2.out, HY.out], B5.out⟩
      · obtain ⟨e1, e2⟩ := HVAL.out.no (rr_not HT (by rw [hy]; exact hzs))
        have HE1 := Lib.hid e1
        have HE2 := Lib.hid e2
        cases hok : okCr y
        · rw [hok] at O
          clear e1 e2 HT hy hok hzs
          go_wp2_with fail
          refine (O.out _).mono ?_
          rintro e w4 ⟨rfl, rfl⟩
          go_wp2
          refine bodyPost_ret (v := .tuple #[.string ⟨#[]⟩, .bool false]) (by simp [results, Tryz.results4, go_sem]) rfl ⟨by rw [HE1.out, HE2.out], hB.out⟩
        · have hsh : shortS y = shortT y := by simp only [shortS, hok, if_true]
          have R := Lib.hid (runs_spec y hys)
          rw [hok] at O
          rw [hsh] at hzs
          have hzn := sneX hzs
          obtain ⟨z, hz⟩ : ∃ z, shortT y = z := ⟨_, rfl⟩
          rw [hz] at R hzn
          clear e1 e2 HT hy hok hsh hzs hz
          go_wp2_with fail
          refine (O.out _).mono ?_
          rintro e w4 ⟨rfl, rfl⟩
          go_wp2_with fail
          refine (R.out _).mono ?_
          rintro e w5 ⟨rfl, hb5⟩
          have B5 := Lib.hid (bnext hB.out hb5)
          clear hb5
          go_wp2
          refine bodyPost_ret (v := .tuple #[.string ⟨#[]⟩, .bool false]) (by simp [results, Tryz.results4, go_sem]) rfl ⟨by rw [HE1.out, HE2.out], B5.out⟩
end Go.Proofs.YtllcpgogfhjfpaaGreatDoor
