/-
  ReadHouse: the model.
-/
import Derived.Test.YtikjielgnlgnjaaDoorHrI
import Derived.Test.YtikjielgnlgnjaaDoorBy
namespace Go.Proofs.YtikjielgnlgnjaaDoor
open Go.ChangeShapes Go.WideShapes Go.ChangeAt Go.RowKit Go.Joins

theorem join_len (sep : List UInt8) : ∀ L : List (List UInt8), (∀ x ∈ L, 2 ≤ x.length) → 2 * L.length ≤ (Lib.join L sep).length
  | [], _ => by simp
  | [x], h => by have := h x (by simp); simpa [Lib.join] using this
  | x :: y :: L, h => by
    have h1 := h x (by simp)
    have h2 := join_len sep (y :: L) (fun z hz => h z (by simp [hz]))
    rw [join_two, List.length_append, List.length_append]
    simp only [List.length_cons] at h2 ⊢
    omega
theorem wordR_len {l : List UInt8} {p : Int × UInt8} (h : wordR l = some p) : 2 ≤ l.length := by
  unfold wordR at h
  cases hl : l.getLast? with
  | none => rw [hl] at h; cases h
  | some c =>
    rw [hl] at h
    obtain ⟨n, hn, _⟩ := Option.map_eq_some_iff.1 h
    obtain ⟨z, hz, _⟩ := numR_last hn
    obtain ⟨e, he⟩ := List.getLast?_eq_some_iff.1 hz
    have := congrArg List.length he
    rw [List.length_dropLast, List.length_append, List.length_singleton] at this
    omega
theorem HrTo.small {s : ByteArray} {ls : List (Int × UInt8)} (hs : s.size ≤ 1048576) (h : HrTo (partsOf s 32) (partsOf s 32).length ls) : ls.length ≤ 1048576 := by
  have hl := h.len (Nat.le_refl _)
  unfold HrTo at h
  rw [List.take_length] at h
  have hj := join_len [32] ((partsOf s 32).map (fun x => x.data.toList)) (fun y hy => by
    obtain ⟨x, hx, rfl⟩ := List.mem_map.1 hy
    have h1 : wordR x.data.toList ∈ ls.map some := by rw [← h]; exact List.mem_map.2 ⟨x, hx, rfl⟩
    obtain ⟨p, _, hp⟩ := List.mem_map.1 h1
    exact wordR_len hp.symm)
  rw [join_partsOf, List.length_map] at hj
  have h2 : s.data.toList.length = s.size := by simp
  omega
theorem bytes_str2 {wr : World} {B g cap : Nat} {ds : List UInt8} (h : wr.ownsRow B 5 1 (.slice (some ⟨g, 0, none⟩) ds.length cap) ds.length (byteVals ds)) : (convert 83 9 (.slice (some ⟨g, 0, none⟩) ds.length cap)).run Tryd.prog wr = .ok (.string ⟨ds.toArray⟩) wr :=
  run_convert_bytes_back (P := Tryd.prog) wr 83 9 5 ⟨g, 0, none⟩ cap ds Tryd.underlying83 Tryd.underlying5 Tryd.underlying9 (fun j hj => h.cells rfl j _ (by simp [byteVals, List.getElem?_eq_getElem hj]))
theorem block_one {W : World} {b : Nat} {u0 u1 : Value} {t : TypeId} (h : W.heap[b]? = some (.cells #[u0, u1] t (0, 0))) (v0 : Value) : (W.setCell ⟨b, 0, none⟩ v0).heap[b]? = some (.cells #[v0, u1] t (0, 0)) := by
  simp [World.setCell, Array.getElem?_modify, h]
theorem numR_casesH (l : List UInt8) : (∃ n, numR l = some n ∧ (numR l).getD 0 = n ∧ (numR l).isSome = true) ∨ (numR l = none ∧ (numR l).isSome = false) := by
  cases h : numR l with
  | none => exact .inr ⟨rfl, rfl⟩
  | some n => exact .inl ⟨n, rfl, rfl, rfl⟩
theorem block_at1 {W : World} {b : Nat} {u0 u1 : Value} {t : TypeId} (h : W.heap[b]? = some (.cells #[u0, u1] t (0, 0))) (v1 : Value) : (W.setCell ⟨b, 1, none⟩ v1).heap[b]? = some (.cells #[u0, v1] t (0, 0)) := by
  simp [World.setCell, Array.getElem?_modify, h]
theorem byteVals_snoc2 (ds : List UInt8) (x : UInt8) : byteVals ds ++ [.int .u8 (x.toNat : Int)] = byteVals (ds ++ [x]) := by simp [byteVals]
set_option maxRecDepth 100000 in
set_option maxHeartbeats 6400000 in
theorem readHouse_spec (s : ByteArray) (hs : s.size ≤ 1048576) (Q : List Int) (TQ : ByteArray) (b : Bool) (hV : HrVal s Q TQ b) (w : World) :
    Calls Tryd.prog 46 #[.string s] w (HrAns w Q TQ b) := by
  obtain ⟨W0, hW⟩ : ∃ W0, w.alloc (.cells #[.slice none 0 0, .string ⟨#[]⟩] 27) = W0 := ⟨_, rfl⟩
  have E0 : Hid (Below w.heap.size w W0) := by show Below w.heap.size w W0; rw [← hW]; exact balloc0 _ _
  have z0 : W0.heap.size = w.heap.size + 1 := by rw [← hW]; simp
  have HRX : Hid (W0.heap[w.heap.size]? = some (.cells #[.slice none 0 0, .string ⟨#[]⟩] 27 (0, 0))) := by
    show _ = _
    rw [← hW]
    exact heap_alloc_new w _
  have HW := Lib.hid hW
  have C := Lib.hid (split_spec s hs 32 W0)
  have hcut : cutParts s (cutsC s 32 s.size 0 0) = partsOf s 32 := rfl
  rw [hcut] at C
  have hpos := parts_pos s 32
  have hbig : (partsOf s 32).length ≤ 1048577 := by
    show (cutParts s (cutsC s 32 s.size 0 0)).length ≤ _
    have := cuts_length s 32 s.size 0 0
    simp [cutParts]; omega
  have HS : Hid (∀ x ∈ partsOf s 32, x.size ≤ 1048576) := fun x hx => Nat.le_trans (part_size hx) hs
  have HVAL := Lib.hid hV
  have HSM : Hid (∀ ls, HrTo (partsOf s 32) (partsOf s 32).length ls → ls.length ≤ 1048576) := fun ls h => h.small hs
  obtain ⟨P, hP⟩ : ∃ P, partsOf s 32 = P := ⟨_, rfl⟩
  have HPQ := Lib.hid hP
  rw [hP] at C hpos hbig HSM HS
  clear hP hs hW hV hcut
  go_enter Tryd.func46, Tryd.ntmps46
  go_wp2_with fail
  rw [HW.out]
  refine C.out.mono ?_
  rintro e w1 ⟨gw, cw, rfl, hA⟩
  have B1 := Lib.hid (bnext E0.out hA.2.1)
  have z1 := hA.2.2
  have HWD := Lib.hid hA
  have R1 := (hA.2.1.block w.heap.size (by omega)).trans HRX.out
  have zw1 : w.heap.size + 2 ≤ w1.heap.size := by omega
  clear hA
  -- the empty row, the box of the plan, the empty turns
  obtain ⟨VA, hVA⟩ : ∃ VA, w1.alloc (.cells #[] 2) = VA := ⟨_, rfl⟩
  have zA : VA.heap.size = w1.heap.size + 1 := by rw [← hVA]; simp
  have hOA : VA.ownsRow w.heap.size 2 1 (.slice (some ⟨w1.heap.size, 0, none⟩) 0 0) 0 (intVals (lsP [])) := by
    rw [← hVA]
    exact ⟨rfl, .inr ⟨w1.heap.size, 0, #[], rfl, by omega, heap_alloc_new w1 _, Nat.le_refl _, by decide, rfl, rfl⟩⟩
  have hBA : Below w1.heap.size w1 VA := by rw [← hVA]; exact balloc0 _ _
  obtain ⟨VB, hVB⟩ : ∃ VB, VA.alloc (.cells #[.slice (some ⟨w1.heap.size, 0, none⟩) 0 0, .string ⟨#[]⟩] 27) = VB := ⟨_, rfl⟩
  have zB : VB.heap.size = w1.heap.size + 2 := by rw [← hVB]; simp; omega
  have hXB : VB.heap[w1.heap.size + 1]? = some (.cells #[.slice (some ⟨w1.heap.size, 0, none⟩) 0 0, .string ⟨#[]⟩] 27 (0, 0)) := by
    rw [← hVB, ← zA]
    exact heap_alloc_new VA _
  have hBB : Below VA.heap.size VA VB := by rw [← hVB]; exact balloc0 _ _
  obtain ⟨VC, hVC⟩ : ∃ VC, VB.alloc (.cells #[] 5) = VC := ⟨_, rfl⟩
  have zC : VC.heap.size = w1.heap.size + 3 := by rw [← hVC]; simp; omega
  have hTC : VC.ownsRow w.heap.size 5 1 (.slice (some ⟨w1.heap.size + 2, 0, none⟩) 0 0) 0 (byteVals []) := by
    have h := heap_alloc_new VB (.cells #[] 5)
    rw [hVC, zB] at h
    exact ⟨rfl, .inr ⟨w1.heap.size + 2, 0, #[], rfl, by omega, h, Nat.le_refl _, by decide, rfl, rfl⟩⟩
  have hBC : Below VB.heap.size VB VC := by rw [← hVC]; exact balloc0 _ _
  have HB3 := Lib.hid (bnext (bnext (bnext B1.out hBA) hBB) hBC)
  have HX3 := Lib.hid ((hBC.block (w1.heap.size + 1) (by omega)).trans hXB)
  have HO3 := Lib.hid (own_later2 (own_later2 hOA hBB) hBC)
  have HR3 := Lib.hid ((hBC.block w.heap.size (by omega)).trans ((hBB.block w.heap.size (by omega)).trans ((hBA.block w.heap.size (by omega)).trans R1)))
  have HT3 := Lib.hid hTC
  have HW3 := Lib.hid ((hBA.trans (hBB.mono (by omega))).trans (hBC.mono (by omega)))
  have QA := Lib.hid hVA
  have QB := Lib.hid hVB
  have QC := Lib.hid hVC
  clear hVA hVB hVC hOA hBA hXB hBB hTC hBC R1 zA zB
  have HWB : Hid (∃ cs : Array Value, w1.heap[gw]? = some (.cells cs 9 (0, 0)) ∧ ∀ (k : Nat) (x : ByteArray), P[k]? = some x → cs[k]? = some (Value.string x)) := by
    obtain ⟨h1, h2 | ⟨g', cap', cur, e1, _, e3, e4, _, e6, e7⟩⟩ := HWD.out.1
    · cases h2.1
    · cases e1
      refine ⟨cur, e3, fun k x hx => ?_⟩
      have hl := (List.getElem?_eq_some_iff.1 hx).1
      have h5 : (partVals P)[k]? = some (Value.string x) := by simp [partVals, hx]
      rw [← e7, List.getElem?_take_of_lt (by omega)] at h5
      simpa using h5
  have KeepT3 : Hid (KeepT [2, 5, 27] w1 VC) := KeepT.below HW3.out
  go_wp2_with fail
  rw [QA.out, QB.out, QC.out]
  clear QA QB QC
  go_loopw [6, 7] (fun t i wr => ∃ (k gt ct : Nat) (ls : List (Int × UInt8)) (v : Value), t = .slice (some ⟨gt, 0, none⟩) k ct ∧ i = .int .i64 (k : Int) ∧ k ≤ P.length ∧ ls.length = k ∧ Hid (HrTo P k ls) ∧ Hid (wr.heap[w1.heap.size + 1]? = some (.cells #[v, .string ⟨#[]⟩] 27 (0, 0))) ∧ Hid (wr.ownsRow w.heap.size 2 1 v k (intVals (lsP ls))) ∧ Hid (wr.ownsRow w.heap.size 5 1 (.slice (some ⟨gt, 0, none⟩) k ct) k (byteVals (ls.map (·.2)))) ∧ Hid (Below w.heap.size w wr) ∧ Hid (KeepT [2, 5, 27] w1 wr) ∧ Hid (wr.heap[w.heap.size]? = some (.cells #[.slice none 0 0, .string ⟨#[]⟩] 27 (0, 0)))) (fun _ i _ => P.length - (intOf i).toNat)
  case atStart => exact ⟨0, w1.heap.size + 2, 0, [], _, rfl, rfl, Nat.zero_le _, rfl, HrTo.zero _, HX3.out, HO3.out, HT3.out, HB3.out, KeepT3, HR3.out⟩
  case round =>
    obtain ⟨k, gt, ct, ls, v, rfl, rfl, hk, hls, hT, hX, hO, hY, hB, hK, hR⟩ := hrel
    have HLS := Lib.hid hls
    clear hls
    by_cases hlt : k < P.length
    · have hlt' : (k : Int) < (P.length : Int) := by omega
      have hk0 : (0 : Int) ≤ (k : Int) := by omega
      obtain ⟨x, hx⟩ : ∃ x, P[k]? = some x := ⟨P[k], List.getElem?_eq_getElem hlt⟩
      have c0 : wr.cell? ⟨gw, k, none⟩ = some (.string x) := by
        obtain ⟨cs, hcs, hc⟩ := HWB.out
        rw [cell_of_row _ _ _ _ _ (0, 0) (hK.out _ _ _ _ hcs (by simp))]
        exact hc k x hx
      by_cases hz : x.size = 0
      · skip
        obtain ⟨e1, e2, e3⟩ := HVAL.out.no (fun P' T' h => by
          obtain ⟨n, c, h1, h2⟩ := h.word (k := k) (x := x) (by rw [HPQ.out]; exact hx)
          rw [wordR_none hz] at h1
          cases h1)
        have HE1 := Lib.hid e1
        have HE2 := Lib.hid e2
        have HE3 := Lib.hid e3
        clear e1 e2 e3
        have hzi : (x.size : Int) = 0 := by omega
        clear hx hz
        have r1 : wr.heap[w.heap.size]? = some (.cells #[.slice none 0 0, .string ⟨#[]⟩] 27 (0, 0)) := hR.out
        have x0 : wr.cell? ⟨w.heap.size, 0, none⟩ = some (.slice none 0 0) := (cell_of_block r1 0).trans rfl
        have x1 : wr.cell? ⟨w.heap.size, 1, none⟩ = some (.string ⟨#[]⟩) := (cell_of_block r1 1).trans rfl
        have y0 : wr.frozen? ⟨w.heap.size, 0, none⟩ = false := unfrozen_of_block r1 0
        have y1 : wr.frozen? ⟨w.heap.size, 1, none⟩ = false := unfrozen_of_block r1 1
        go_wp2
        obtain ⟨g0, g1⟩ := two_set (b := w.heap.size) (w := wr) (by rw [x0]; rfl) (by rw [x1]; rfl) (.slice none 0 0) (.string ⟨#[]⟩)
        refine bodyPost_ret (v := .tuple #[.agg #[.slice none 0 0, .string ⟨#[]⟩], .bool false]) (by simp [results, Tryd.results46, go_sem, g0, g1]) rfl ⟨none, 0, by rw [HE1.out, HE2.out, HE3.out]; rfl, .inl HE1.out, two_below hB.out (Nat.le_refl _) _ _⟩
      obtain ⟨n, hn⟩ : ∃ n, x.size = n + 1 := ⟨x.size - 1, by omega⟩
      have hxs := HS.out x (List.mem_of_getElem? hx)
      have hnx : n < x.size := by omega
      have hsub : (x.size : Int) - 1 = (n : Int) := by omega
      have hxz : ¬ (x.size : Int) = 0 := by omega
      have hn0 : (0 : Int) ≤ (n : Int) := by omega
      have hn1 : (n : Int) ≤ (x.size : Int) := by omega
      have hn2 : (n : Int) < (x.size : Int) := by omega
      have N : Hid (Calls Tryd.prog 76 #[.string (x.extract 0 n)] wr fun e w' => e = .returned (.tuple #[.int .i64 ((numR x.data.toList.dropLast).getD 0), .bool (numR x.data.toList.dropLast).isSome]) ∧ Below wr.heap.size wr w') := by
        have := number_spec (x.extract 0 n) wr
        rw [dropLast_extract x n hn.symm] at this
        exact this
      have hw := wordR_at x n hnx hn.symm
      rcases numR_casesH x.data.toList.dropLast with ⟨q, h1, h2, h3⟩ | ⟨h1, h3⟩
      case inr =>
        rw [h1] at hw
        obtain ⟨e1, e2, e3⟩ := HVAL.out.no (fun P' T' h => by
          obtain ⟨n, c, h1, h2⟩ := h.word (k := k) (x := x) (by rw [HPQ.out]; exact hx)
          rw [hw] at h1
          cases h1)
        have HE1 := Lib.hid e1
        have HE2 := Lib.hid e2
        have HE3 := Lib.hid e3
        clear e1 e2 e3
        obtain ⟨v4, hv4⟩ : ∃ v, (numR x.data.toList.dropLast).getD 0 = v := ⟨_, rfl⟩
        rw [h3, hv4] at N
        clear hx hz hn hw h1 h3 hv4
        go_wp2_with fail
        refine N.out.mono ?_
        rintro e w4 ⟨rfl, hb4⟩
        have r1 : w4.heap[w.heap.size]? = some (.cells #[.slice none 0 0, .string ⟨#[]⟩] 27 (0, 0)) := (hb4.block w.heap.size (Array.getElem?_eq_some_iff.1 hR.out).1).trans hR.out
        have x0 : w4.cell? ⟨w.heap.size, 0, none⟩ = some (.slice none 0 0) := (cell_of_block r1 0).trans rfl
        have x1 : w4.cell? ⟨w.heap.size, 1, none⟩ = some (.string ⟨#[]⟩) := (cell_of_block r1 1).trans rfl
        have y0 : w4.frozen? ⟨w.heap.size, 0, none⟩ = false := unfrozen_of_block r1 0
        have y1 : w4.frozen? ⟨w.heap.size, 1, none⟩ = false := unfrozen_of_block r1 1
        have B4 := Lib.hid (bnext hB.out hb4)
        clear hb4 r1
        go_wp2
        obtain ⟨g0, g1⟩ := two_set (b := w.heap.size) (w := w4) (by rw [x0]; rfl) (by rw [x1]; rfl) (.slice none 0 0) (.string ⟨#[]⟩)
        refine bodyPost_ret (v := .tuple #[.agg #[.slice none 0 0, .string ⟨#[]⟩], .bool false]) (by simp [results, Tryd.results46, go_sem, g0, g1]) rfl ⟨none, 0, by rw [HE1.out, HE2.out, HE3.out]; rfl, .inl HE1.out, two_below B4.out (Nat.le_refl _) _ _⟩
      rw [h2, h3] at N
      have HT2 := Lib.hid (hT.out.succ hx (hw.trans (by rw [h1]; rfl)))
      obtain ⟨c, hc⟩ : ∃ c, x[n]'hnx = c := ⟨_, rfl⟩
      rw [hc] at HT2
      have HCC : Hid (x[n]'hnx = c) := hc
      have HXX := Lib.hid hx
      clear hx hz hn hw h1 h2 h3 hc
      obtain ⟨i0, hi, hz0, hz1, hz2⟩ := info_parts infoInt
      obtain ⟨j0, hj, hy0, hy1, hy2⟩ := info_parts infoByteY
      have c3 : Hid (k + 1 ≤ maxLen) := by show k + 1 ≤ maxLen; unfold maxLen; omega
      have HPS := Lib.hid (lsP_snoc ls (q, c))
      go_wp2_with fail
      refine N.out.mono ?_
      rintro e w4 ⟨rfl, hb4⟩
      have X4 := (hb4.block (w1.heap.size + 1) (Array.getElem?_eq_some_iff.1 hX.out).1).trans hX.out
      have R4 := Lib.hid ((hb4.block w.heap.size (Array.getElem?_eq_some_iff.1 hR.out).1).trans hR.out)
      have O4 := Lib.hid (own_later2 hO.out hb4)
      have Y4 := Lib.hid (own_later2 hY.out hb4)
      have B4 := Lib.hid (bnext hB.out hb4)
      have K4 := Lib.hid (hK.out.trans (KeepT.below hb4))
      have x0 : w4.cell? ⟨w1.heap.size + 1, 0, none⟩ = some v := (cell_of_block X4 0).trans rfl
      have zz4 : w.heap.size ≤ w4.heap.size := B4.out.size
      have HX4 := Lib.hid X4
      have d4 : w4.cell? ⟨gw, k, none⟩ = some (.string x) := (hb4.cell (World.block_lt_of_cell? _ _ c0)).trans c0
      have xx0 : (w4.alloc (.cells #[.int .i64 q] 2)).cell? ⟨w1.heap.size + 1, 0, none⟩ = some v := (World.cell?_alloc_lt _ _ _ (World.block_lt_of_cell? _ _ x0)).trans x0
      have HD4 := Lib.hid d4
      clear hb4 X4
      go_wp2_with (first | (at_builtin; (refine wpList_append_own _ rfl _ _ 22 rfl w.heap.size 2 i0 (.int .i64 0) 1 8 Tryd.underlying22 hi hz0 hz1 hz2 rfl (by decide) v k (intVals (lsP ls)) rfl (O4.out.alloc _) ⟨w4.heap.size, 0, none⟩ 1 1 [.int .i64 q] rfl rfl ((lit8 w.heap.size w4 _ zz4).cells rfl) (by simp [Value.oneCell']) c3.out (by omega) (by simp; omega) ?_; intro v5 w5 hown5 hgrow5 _; obtain ⟨g5, cp5, hv5⟩ := own_form8 hown5 (Nat.succ_ne_zero k); subst hv5; have K5 : KeepT [2] w4 w5 := (KeepT.below (balloc0 w4 _)).trans (keep_grown2 hgrow5 (O4.out.alloc _) (by simp)); have X5 := K5 _ _ _ _ HX4.out (by simp); have R5 := Lib.hid (K5 _ _ _ _ R4.out (by simp)); have B5 : Hid (Below w.heap.size w w5) := (B4.out.alloc zz4 _).grown hgrow5 (by simp; omega) (fun q hq => (O4.out.lt q hq).1); have O5 := Lib.hid hown5; have Y5 := Lib.hid (own_keep2 Y4.out K5 (by simp)); have HX5 := Lib.hid X5; have HK5 : Hid (KeepT [2, 5, 27] w1 w5) := K4.out.trans (fun i T cs fr a1 a2 => K5 i T cs fr a1 (fun h => a2 (by simp at h; simp [h]))); have x50 : w5.cell? ⟨w1.heap.size + 1, 0, none⟩ = some v := (cell_of_block X5 0).trans rfl; have y50 : w5.frozen? ⟨w1.heap.size + 1, 0, none⟩ = false := unfrozen_of_block X5 0; have X6 := Lib.hid (block_one X5 (.slice (some ⟨g5, 0, none⟩) (k + 1) cp5)); have KH : KeepT [27] w5 (w5.setCell ⟨w1.heap.size + 1, 0, none⟩ (.slice (some ⟨g5, 0, none⟩) (k + 1) cp5)) := KeepT.set X5 (by simp); have O6 := Lib.hid (own_keep2 O5.out KH (by simp)); have Y6 := Lib.hid (own_keep2 Y5.out KH (by simp)); have R6 := Lib.hid ((set_block w5 (w1.heap.size + 1) 0 w.heap.size (.slice (some ⟨g5, 0, none⟩) (k + 1) cp5) (by omega)).trans R5.out); have B6 : Hid (Below w.heap.size w (w5.setCell ⟨w1.heap.size + 1, 0, none⟩ (.slice (some ⟨g5, 0, none⟩) (k + 1) cp5))) := B5.out.setCell (p := ⟨w1.heap.size + 1, 0, none⟩) (by show w.heap.size ≤ w1.heap.size + 1; omega) _; have K6 : Hid (KeepT [2, 5, 27] w1 (w5.setCell ⟨w1.heap.size + 1, 0, none⟩ (.slice (some ⟨g5, 0, none⟩) (k + 1) cp5))) := HK5.out.trans (fun i T cs fr a1 a2 => KH i T cs fr a1 (fun h => a2 (by simp at h; simp [h]))); have zz6 : w.heap.size ≤ (w5.setCell ⟨w1.heap.size + 1, 0, none⟩ (.slice (some ⟨g5, 0, none⟩) (k + 1) cp5)).heap.size := B6.out.size; have d6 : (w5.setCell ⟨w1.heap.size + 1, 0, none⟩ (.slice (some ⟨g5, 0, none⟩) (k + 1) cp5)).cell? ⟨gw, k, none⟩ = some (.string x) := (by obtain ⟨cs, hcs, hcc⟩ := HWB.out; rw [cell_of_row _ _ _ _ _ (0, 0) (K6.out _ _ _ _ hcs (by simp))]; exact hcc k x HXX.out); clear hown5 X5 hgrow5 K5 xx0 KH x0 d4)) | (at_builtin; go_must ((refine wpList_append_own _ rfl _ _ 83 rfl w.heap.size 5 j0 (.int .u8 0) 1 1 Tryd.underlying83 hj hy0 hy1 hy2 rfl (by decide) (.slice (some ⟨gt, 0, none⟩) k ct) k (byteVals (ls.map (·.2))) rfl (Y6.out.alloc _) ⟨w5.heap.size, 0, none⟩ 1 1 [.int .u8 ((x[n]'hnx).toNat : Int)] rfl rfl ((lit8B w.heap.size (w5.setCell ⟨w1.heap.size + 1, 0, none⟩ (.slice (some ⟨g5, 0, none⟩) (k + 1) cp5)) _ zz6).cells (by show some _ = some _; simp)) (by simp [Value.oneCell']) c3.out (by omega) (by have h := zz6; simp at h ⊢; omega) ?_; intro v7 w7 hown7 hgrow7 _; obtain ⟨g7, cp7, hv7⟩ := own_form8 hown7 (Nat.succ_ne_zero k); subst hv7; have K7 : KeepT [5] (w5.setCell ⟨w1.heap.size + 1, 0, none⟩ (.slice (some ⟨g5, 0, none⟩) (k + 1) cp5)) w7 := (KeepT.below (balloc0 _ _)).trans (keep_grown2 hgrow7 (Y6.out.alloc _) (by simp)); have X7 := Lib.hid (K7 _ _ _ _ X6.out (by simp)); have R7 := Lib.hid (K7 _ _ _ _ R6.out (by simp)); have B7 : Hid (Below w.heap.size w w7) := (B6.out.alloc zz6 _).grown hgrow7 (by have h := zz6; simp at h ⊢; omega) (fun q hq => (Y6.out.lt q hq).1); have O7 := Lib.hid (own_keep2 O6.out K7 (by simp)); have Y7 := Lib.hid hown7; have HK7 : Hid (KeepT [2, 5, 27] w1 w7) := K6.out.trans (fun i T cs fr a1 a2 => K7 i T cs fr a1 (fun h => a2 (by simp at h; simp [h]))); clear hown7 hgrow7 K7))))
      go_roundw
      case rel => exact ⟨k + 1, g7, cp7, ls ++ [(q, c)], _, rfl, by go_num, by omega, by have := HLS.out; simp; omega, HT2.out, X7.out, by show World.ownsRow _ _ _ _ _ _ _; rw [HPS.out, ← intVals_app]; exact O7.out, by show World.ownsRow _ _ _ _ _ _ _; have h := Y7.out; rw [byteVals_snoc2, HCC.out] at h; rw [List.map_append]; exact h, B7.out, HK7.out, R7.out⟩
      case measure => simp [intOf]; omega
    · have hge : ¬ (k : Int) < (P.length : Int) := by omega
      have hkn : k = P.length := by omega
      have hk1 : 1 ≤ k := by omega
      obtain ⟨g, cp, rfl⟩ := own_form8 hO.out (by omega)
      have hpl : (lsP ls).length = k := by rw [lsP_length]; exact HLS.out
      have HO : Hid (IntOwn w.heap.size (lsP ls) g wr) := own_of_row (cap := cp) (by rw [hpl]; exact hO.out)
      have HT : Hid (HrTo (partsOf s 32) (partsOf s 32).length ls) := by show HrTo _ _ _; rw [HPQ.out, ← hkn]; exact hT.out
      have hsm := HSM.out ls (by rw [← hkn]; exact hT.out)
      have hcv : (convert 83 9 (.slice (some ⟨gt, 0, none⟩) k ct)).run Tryd.prog wr = .ok (.string (lsT ls)) wr := by
        have h := bytes_str2 (wr := wr) (B := w.heap.size) (g := gt) (cap := ct) (ds := ls.map (·.2)) (by rw [List.length_map, HLS.out]; exact hY.out)
        rw [List.length_map, HLS.out] at h
        exact h
      have hX6 := block_at1 hX.out (.string (lsT ls))
      have hneg : g ≠ w1.heap.size + 1 := fun e => by
        obtain ⟨cur, hcur⟩ := row_block hO.out
        rw [e, hX.out] at hcur
        cases hcur
      have hner : g ≠ w.heap.size := fun e => by
        obtain ⟨cur, hcur⟩ := row_block hO.out
        rw [e, hR.out] at hcur
        cases hcur
      have HO6 := Lib.hid (HO.out.set (o := 1) (v := .string (lsT ls)) hneg)
      have HR6 := Lib.hid ((set_block wr (w1.heap.size + 1) 1 w.heap.size (.string (lsT ls)) (by omega)).trans hR.out)
      have HB6 : Hid (Below w.heap.size w (wr.setCell ⟨w1.heap.size + 1, 1, none⟩ (.string (lsT ls)))) := hB.out.setCell (p := ⟨w1.heap.size + 1, 1, none⟩) (by show w.heap.size ≤ w1.heap.size + 1; omega) _
      have CV := Lib.hid (okH_spec (lsP ls) (lsT ls) (some ⟨g, 0, none⟩) cp (by rw [lsP_length]; exact hsm) (by rw [lsT_size]; exact hsm) (w1.heap.size + 1) (wr.setCell ⟨w1.heap.size + 1, 1, none⟩ (.string (lsT ls))) ⟨by rw [hpl]; exact (cell_of_block hX6 0).trans rfl, (cell_of_block hX6 1).trans rfl⟩ HO6.out.arg)
      have c1 : wr.cell? ⟨w1.heap.size + 1, 1, none⟩ = some (.string ⟨#[]⟩) := (cell_of_block hX.out 1).trans rfl
      have f1 : wr.frozen? ⟨w1.heap.size + 1, 1, none⟩ = false := unfrozen_of_block hX.out 1
      have HX6 := Lib.hid hX6
      have HPL := Lib.hid hpl
      have HNE := Lib.hid hner
      obtain ⟨PL, hPL⟩ : ∃ PL, P.length = PL := ⟨_, rfl⟩
      rw [hPL] at hge hkn hk ⊢
      obtain rfl : k = PL := hkn
      clear hPL hpl hX6 hneg hner hk1 hsm
      cases hok : okHo (lsP ls) (lsT ls)
      · rw [hok] at CV
        obtain ⟨e1, e2, e3⟩ := HVAL.out.no (fun P' T' h => by
          obtain ⟨ls', h1, rfl, rfl, h2⟩ := h
          have : ls = ls' := by
            have := congrArg (List.filterMap id) (HT.out.symm.trans h1)
            simpa using this
          rw [← this, hok] at h2
          cases h2)
        have HE1 := Lib.hid e1
        have HE2 := Lib.hid e2
        have HE3 := Lib.hid e3
        clear e1 e2 e3 hok
        go_wp2_with fail
        refine CV.out.mono ?_
        rintro e w4 ⟨rfl, hb4⟩
        have r1 := (hb4.block w.heap.size (Array.getElem?_eq_some_iff.1 HR6.out).1).trans HR6.out
        have x0 : w4.cell? ⟨w.heap.size, 0, none⟩ = some (.slice none 0 0) := (cell_of_block r1 0).trans rfl
        have x1 : w4.cell? ⟨w.heap.size, 1, none⟩ = some (.string ⟨#[]⟩) := (cell_of_block r1 1).trans rfl
        have y0 : w4.frozen? ⟨w.heap.size, 0, none⟩ = false := unfrozen_of_block r1 0
        have y1 : w4.frozen? ⟨w.heap.size, 1, none⟩ = false := unfrozen_of_block r1 1
        have B4 := Lib.hid (bnext HB6.out hb4)
        clear hb4 r1
        go_wp2
        obtain ⟨g0, g1⟩ := two_set (b := w.heap.size) (w := w4) (by rw [x0]; rfl) (by rw [x1]; rfl) (.slice none 0 0) (.string ⟨#[]⟩)
        refine bodyPost_ret (v := .tuple #[.agg #[.slice none 0 0, .string ⟨#[]⟩], .bool false]) (by simp [results, Tryd.results46, go_sem, g0, g1]) rfl ⟨none, 0, by rw [HE1.out, HE2.out, HE3.out]; rfl, .inl HE1.out, two_below B4.out (Nat.le_refl _) _ _⟩
      · rw [hok] at CV
        obtain ⟨e1, e2, e3⟩ := HVAL.out.yes (lsP ls) (lsT ls) ⟨ls, HT.out, rfl, rfl, hok⟩
        have HE1 := Lib.hid e1
        have HE2 := Lib.hid e2
        have HE3 := Lib.hid e3
        clear e1 e2 e3 hok
        go_wp2_with fail
        refine CV.out.mono ?_
        rintro e w4 ⟨rfl, hb4⟩
        have r1 := (hb4.block w.heap.size (Array.getElem?_eq_some_iff.1 HR6.out).1).trans HR6.out
        have X4 := (hb4.block (w1.heap.size + 1) (Array.getElem?_eq_some_iff.1 HX6.out).1).trans HX6.out
        have HO4 := Lib.hid (HO6.out.later hb4)
        have x0 : w4.cell? ⟨w.heap.size, 0, none⟩ = some (.slice none 0 0) := (cell_of_block r1 0).trans rfl
        have x1 : w4.cell? ⟨w.heap.size, 1, none⟩ = some (.string ⟨#[]⟩) := (cell_of_block r1 1).trans rfl
        have y0 : w4.frozen? ⟨w.heap.size, 0, none⟩ = false := unfrozen_of_block r1 0
        have y1 : w4.frozen? ⟨w.heap.size, 1, none⟩ = false := unfrozen_of_block r1 1
        have d0 : w4.cell? ⟨w1.heap.size + 1, 0, none⟩ = some (.slice (some ⟨g, 0, none⟩) k cp) := (cell_of_block X4 0).trans rfl
        have d1 : w4.cell? ⟨w1.heap.size + 1, 1, none⟩ = some (.string (lsT ls)) := (cell_of_block X4 1).trans rfl
        have B4 := Lib.hid (bnext HB6.out hb4)
        clear hb4 r1 X4 c1 f1
        go_wp2
        obtain ⟨g0, g1⟩ := two_set (b := w.heap.size) (w := w4) (by rw [x0]; rfl) (by rw [x1]; rfl) (.slice (some ⟨g, 0, none⟩) k cp) (.string (lsT ls))
        refine bodyPost_ret (v := .tuple #[.agg #[.slice (some ⟨g, 0, none⟩) k cp, .string (lsT ls)], .bool true]) (by simp [results, Tryd.results46, go_sem, g0, g1]) rfl ⟨some ⟨g, 0, none⟩, cp, by rw [HE1.out, HE2.out, HE3.out, HPL.out], .inr ⟨g, rfl, by rw [HE1.out]; exact (HO4.out.set HNE.out).set HNE.out⟩, two_below B4.out (Nat.le_refl _) _ _⟩
end Go.Proofs.YtikjielgnlgnjaaDoor
