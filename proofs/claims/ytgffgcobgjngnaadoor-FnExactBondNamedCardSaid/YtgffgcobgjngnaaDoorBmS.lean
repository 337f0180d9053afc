/-
  BondNamed: the model's and the program's answers.
-/
import Derived.Test.YtgffgcobgjngnaaDoorBm
namespace Go.Proofs.YtgffgcobgjngnaaDoor
open Go.ChangeShapes Go.WideShapes Go.ChangeAt Go.RowKit Go.Joins

theorem lib_idx0 (w : World) : (Instr.index 57 (.agg #[.string ⟨#[115, 116, 114, 101, 116, 99, 104, 101, 114, 32, 83, 32, 66, 43, 83]⟩, .string ⟨#[104, 101, 97, 100, 101, 114, 32, 72, 32, 67, 43, 72]⟩, .string ⟨#[101, 110, 103, 108, 105, 115, 104, 32, 83, 32, 72, 67, 43, 72]⟩, .string ⟨#[102, 108, 101, 109, 105, 115, 104, 32, 83, 72, 32, 72, 67, 43, 83, 72]⟩, .string ⟨#[103, 97, 114, 100, 101, 110, 32, 83, 32, 66, 43, 83, 32, 83, 32, 72, 67, 43, 72]⟩]) (.int .i64 0)).run Tryd.prog w = .ok (.string ⟨#[115, 116, 114, 101, 116, 99, 104, 101, 114, 32, 83, 32, 66, 43, 83]⟩) w := by kernel_rfl
theorem lib_idx1 (w : World) : (Instr.index 57 (.agg #[.string ⟨#[115, 116, 114, 101, 116, 99, 104, 101, 114, 32, 83, 32, 66, 43, 83]⟩, .string ⟨#[104, 101, 97, 100, 101, 114, 32, 72, 32, 67, 43, 72]⟩, .string ⟨#[101, 110, 103, 108, 105, 115, 104, 32, 83, 32, 72, 67, 43, 72]⟩, .string ⟨#[102, 108, 101, 109, 105, 115, 104, 32, 83, 72, 32, 72, 67, 43, 83, 72]⟩, .string ⟨#[103, 97, 114, 100, 101, 110, 32, 83, 32, 66, 43, 83, 32, 83, 32, 72, 67, 43, 72]⟩]) (.int .i64 1)).run Tryd.prog w = .ok (.string ⟨#[104, 101, 97, 100, 101, 114, 32, 72, 32, 67, 43, 72]⟩) w := by kernel_rfl
theorem lib_idx2 (w : World) : (Instr.index 57 (.agg #[.string ⟨#[115, 116, 114, 101, 116, 99, 104, 101, 114, 32, 83, 32, 66, 43, 83]⟩, .string ⟨#[104, 101, 97, 100, 101, 114, 32, 72, 32, 67, 43, 72]⟩, .string ⟨#[101, 110, 103, 108, 105, 115, 104, 32, 83, 32, 72, 67, 43, 72]⟩, .string ⟨#[102, 108, 101, 109, 105, 115, 104, 32, 83, 72, 32, 72, 67, 43, 83, 72]⟩, .string ⟨#[103, 97, 114, 100, 101, 110, 32, 83, 32, 66, 43, 83, 32, 83, 32, 72, 67, 43, 72]⟩]) (.int .i64 2)).run Tryd.prog w = .ok (.string ⟨#[101, 110, 103, 108, 105, 115, 104, 32, 83, 32, 72, 67, 43, 72]⟩) w := by kernel_rfl
theorem lib_idx3 (w : World) : (Instr.index 57 (.agg #[.string ⟨#[115, 116, 114, 101, 116, 99, 104, 101, 114, 32, 83, 32, 66, 43, 83]⟩, .string ⟨#[104, 101, 97, 100, 101, 114, 32, 72, 32, 67, 43, 72]⟩, .string ⟨#[101, 110, 103, 108, 105, 115, 104, 32, 83, 32, 72, 67, 43, 72]⟩, .string ⟨#[102, 108, 101, 109, 105, 115, 104, 32, 83, 72, 32, 72, 67, 43, 83, 72]⟩, .string ⟨#[103, 97, 114, 100, 101, 110, 32, 83, 32, 66, 43, 83, 32, 83, 32, 72, 67, 43, 72]⟩]) (.int .i64 3)).run Tryd.prog w = .ok (.string ⟨#[102, 108, 101, 109, 105, 115, 104, 32, 83, 72, 32, 72, 67, 43, 83, 72]⟩) w := by kernel_rfl
theorem lib_idx4 (w : World) : (Instr.index 57 (.agg #[.string ⟨#[115, 116, 114, 101, 116, 99, 104, 101, 114, 32, 83, 32, 66, 43, 83]⟩, .string ⟨#[104, 101, 97, 100, 101, 114, 32, 72, 32, 67, 43, 72]⟩, .string ⟨#[101, 110, 103, 108, 105, 115, 104, 32, 83, 32, 72, 67, 43, 72]⟩, .string ⟨#[102, 108, 101, 109, 105, 115, 104, 32, 83, 72, 32, 72, 67, 43, 83, 72]⟩, .string ⟨#[103, 97, 114, 100, 101, 110, 32, 83, 32, 66, 43, 83, 32, 83, 32, 72, 67, 43, 72]⟩]) (.int .i64 4)).run Tryd.prog w = .ok (.string ⟨#[103, 97, 114, 100, 101, 110, 32, 83, 32, 66, 43, 83, 32, 83, 32, 72, 67, 43, 72]⟩) w := by kernel_rfl
theorem lib_idx (k : Nat) (T : ByteArray) (h : LTb[k]? = some T) (w : World) : (Instr.index 57 (.agg #[.string ⟨#[115, 116, 114, 101, 116, 99, 104, 101, 114, 32, 83, 32, 66, 43, 83]⟩, .string ⟨#[104, 101, 97, 100, 101, 114, 32, 72, 32, 67, 43, 72]⟩, .string ⟨#[101, 110, 103, 108, 105, 115, 104, 32, 83, 32, 72, 67, 43, 72]⟩, .string ⟨#[102, 108, 101, 109, 105, 115, 104, 32, 83, 72, 32, 72, 67, 43, 83, 72]⟩, .string ⟨#[103, 97, 114, 100, 101, 110, 32, 83, 32, 66, 43, 83, 32, 83, 32, 72, 67, 43, 72]⟩]) (.int .i64 (k : Int))).run Tryd.prog w = .ok (.string T) w := by
  match k, h with
  | 0, h => cases h; exact lib_idx0 w
  | 1, h => cases h; exact lib_idx1 w
  | 2, h => cases h; exact lib_idx2 w
  | 3, h => cases h; exact lib_idx3 w
  | 4, h => cases h; exact lib_idx4 w
  | k + 5, h => simp [LTb] at h
theorem sneX {x y : ByteArray} (h : ¬ x = y) : (x.toList == y.toList) = false := by
  have h2 : ¬ x.toList = y.toList := fun e => h (by rw [ByteArray.toList_eq, ByteArray.toList_eq] at e; exact bytes_inj e)
  simpa using h2
set_option maxRecDepth 100000 in
set_option maxHeartbeats 6400000 in
theorem bn_spec (nm : ByteArray) (_hs : nm.size ≤ 1048576) (w : World) : Calls Tryd.prog 9 #[.string nm] w (BnOut nm w) := by
  have B0 : Hid (Below w.heap.size w (w.alloc (.cells #[.string ⟨#[]⟩, .slice none 0 0] 24))) := balloc0 _ _
  have T0 : Hid ((w.alloc (.cells #[.string ⟨#[]⟩, .slice none 0 0] 24)).there w.heap.size 0 2) := there_new w _ _ 2 rfl
  have hsz : (w.alloc (.cells #[.string ⟨#[]⟩, .slice none 0 0] 24)).heap.size = w.heap.size + 1 := by simp
  obtain ⟨W0, hW⟩ : ∃ W0, w.alloc (.cells #[.string ⟨#[]⟩, .slice none 0 0] 24) = W0 := ⟨_, rfl⟩
  rw [hW] at B0 T0 hsz
  have HW := Lib.hid hW
  have HZ := Lib.hid hsz
  clear hW hsz
  have LS := Lib.hid (lib_spec W0)
  have LC := Lib.hid (lib_cells W0)
  go_enter Tryd.func9, Tryd.ntmps9
  go_wp2_with fail
  rw [HW.out]
  refine LS.out.mono ?_
  rintro e w1 ⟨rfl, hw1⟩
  have HL : Hid (∀ wx, Below w1.heap.size w1 wx → ∀ (k : Nat) (T : ByteArray), LTb[k]? = some T → wx.cell? ⟨W0.heap.size, k, none⟩ = some (.string T)) := fun wx hx k T hT => by
    have h := LC.out k T hT
    rw [hw1] at h
    exact (hx.cell (World.block_lt_of_cell? w1 _ h)).trans h
  have B1 : Hid (Below W0.heap.size W0 w1) := by show Below W0.heap.size W0 w1; rw [← hw1]; exact balloc0 _ _
  clear hw1
  go_wp2
  go_loopw [5] (fun i wr => ∃ k : Nat, k ≤ 5 ∧ i = .int .i64 (k : Int) ∧ Hid (NoHit nm k) ∧ Hid (Below w1.heap.size w1 wr)) (fun i _ => 5 - (intOf i).toNat)
  case atStart => exact ⟨0, by omega, rfl, (fun j hj => by omega), Below.refl _ _⟩
  case round =>
    obtain ⟨k, hk, rfl, hF, hB⟩ := hrel
    have HX : Hid (Below W0.heap.size W0 wr) := bnext B1.out hB.out
    have HY : Hid (Below w.heap.size w wr) := bnext B0.out HX.out
    by_cases hlt : k < 5
    · have hlt' : (k : Int) < 5 := by omega
      have hk0 : (0 : Int) ≤ (k : Int) := by omega
      obtain ⟨T, hT⟩ : ∃ T, LTb[k]? = some T := ⟨_, List.getElem?_eq_getElem (show k < LTb.length from hlt)⟩
      obtain ⟨hbad, hs100⟩ := lib_good k T hT
      have c0 := HL.out wr hB.out k T hT
      have C := Lib.hid (readBond_spec T hs100 wr)
      unfold RbOut at C
      rw [hbad] at C
      have HT := Lib.hid hT
      have HH : Hid (∀ w' cv, ckN T = nm → w'.ownsRow w.heap.size 68 2 cv (ckL T).length (coVals (ckL T)) → Below w.heap.size w w' → BnOut nm w (.returned (.tuple #[.agg #[.string (ckN T), cv], .int .i64 0])) w') := fun w' cv h1 h2 h3 => BnOut.hit (hit_yes HT.out hF.out h1) h2 h3
      have HN : Hid (¬ ckN T = nm → NoHit nm (k + 1)) := fun h => hF.out.next HT.out h
      obtain ⟨N, hN⟩ : ∃ N, ckN T = N := ⟨_, rfl⟩
      rw [hN] at C HH HN
      clear hT hbad hs100 hN
      go_wp2_with fail
      refine C.out.mono ?_
      rintro e w2 ⟨cv, rfl, o2, hb2⟩
      obtain ⟨a2, c2, hv⟩ := own_slice o2
      subst hv
      obtain ⟨lc, hlc⟩ : ∃ l, (ckL T).length = l := ⟨_, rfl⟩
      rw [hlc] at o2 HH
      have HB2 := Lib.hid (bnext HX.out hb2)
      have HY2 := Lib.hid (bnext HY.out hb2)
      have B2 := Lib.hid (hB.out.trans (hb2.mono hB.out.size))
      have O2 := Lib.hid o2
      have hz2 : w.heap.size + 1 ≤ w2.heap.size := by have h1 := HB2.out.size; have h2 := HZ.out; omega
      have hzr : w.heap.size + 1 ≤ wr.heap.size := by have h1 := HX.out.size; have h2 := HZ.out; omega
      have TN := there_below (there_below T0.out HB2.out) (balloc0 w2 (.cells #[.string N, .slice a2 lc c2] 24))
      rw [hlc]
      clear hb2 o2 hlc c0
      obtain ⟨u0, x0, t0⟩ := there_at TN (k := 0) (by omega)
      obtain ⟨u1, x1, t1⟩ := there_at TN (k := 1) (by omega)
      have BB := Lib.hid (balloc HY2.out (.cells #[.string N, .slice a2 lc c2] 24))
      have OB := Lib.hid (O2.out.alloc (.cells #[.string N, .slice a2 lc c2] 24))
      clear TN
      by_cases e : N = nm
      · have he : (N.toList == nm.toList) = true := by rw [e]; simp
        have F : Hid (∀ w3, w3 = ((w2.alloc (.cells #[.string N, .slice a2 lc c2] 24)).setCell ⟨w.heap.size, 0, none⟩ (.string N)).setCell ⟨w.heap.size, 1, none⟩ (.slice a2 lc c2) → BnOut nm w (.returned (.tuple #[.agg #[.string N, .slice a2 lc c2], .int .i64 0])) w3) := fun w3 hw3 => by
          subst hw3
          exact HH.out _ _ e (own_low (B := wr.heap.size) (own_set (own_set OB.out (by omega)) (by omega)) (by omega)) ((BB.out.setCell (Nat.le_refl _) _).setCell (Nat.le_refl _) _)
        clear e hk0
        go_wp2
        refine bodyPost_ret (v := .tuple #[.agg #[.string N, .slice a2 lc c2], .int .i64 0]) (by simp [results, Tryd.results9, go_sem, x0, x1]) rfl (F.out _ rfl)
      · have he : (N.toList == nm.toList) = false := sneX e
        have HN2 := Lib.hid (HN.out e)
        clear e
        go_wp2
        go_roundw
        case rel => exact ⟨k + 1, by omega, by go_num, HN2.out, balloc B2.out _⟩
        case measure => simp [intOf]; omega
    · have hge : ¬ (k : Int) < 5 := by omega
      have hk5 : k = 5 := by omega
      subst hk5
      have TN := there_below T0.out HX.out
      obtain ⟨u0, x0, t0⟩ := there_at TN (k := 0) (by omega)
      obtain ⟨u1, x1, t1⟩ := there_at TN (k := 1) (by omega)
      have F : Hid (∀ w3, w3 = (wr.setCell ⟨w.heap.size, 0, none⟩ (.string ⟨#[]⟩)).setCell ⟨w.heap.size, 1, none⟩ (.slice none 0 0) → BnOut nm w (.returned (.tuple #[.agg #[.string ⟨#[]⟩, .slice none 0 0], .int .i64 3])) w3) := fun w3 hw3 => by
        subst hw3
        exact BnOut.miss (NoHit.end hF.out) ((HY.out.setCell (Nat.le_refl _) _).setCell (Nat.le_refl _) _)
      clear TN
      go_wp2
      refine bodyPost_ret (v := .tuple #[.agg #[.string ⟨#[]⟩, .slice none 0 0], .int .i64 3]) (by simp [results, Tryd.results9, go_sem, x0, x1]) rfl (F.out _ rfl)
set_option maxRecDepth 100000 in
set_option maxHeartbeats 6400000 in
theorem bn_impl (nm : ByteArray) (_hs : nm.size ≤ 1048576) (w : World) (hlib : LibAt w) (m : Int) (hm : w.cell? ⟨2, 0, none⟩ = some (.int .i64 m)) : Calls Tryd.prog 10 #[.string nm] w (BnOut nm w) := by
  have B0 : Hid (Below w.heap.size w (w.alloc (.cells #[.string ⟨#[]⟩, .slice none 0 0] 24))) := balloc0 _ _
  have T0 : Hid ((w.alloc (.cells #[.string ⟨#[]⟩, .slice none 0 0] 24)).there w.heap.size 0 2) := there_new w _ _ 2 rfl
  have hsz : (w.alloc (.cells #[.string ⟨#[]⟩, .slice none 0 0] 24)).heap.size = w.heap.size + 1 := by simp
  obtain ⟨l0, l1, l2, l3, l4⟩ := hlib.later (balloc0 w (.cells #[.string ⟨#[]⟩, .slice none 0 0] 24))
  have HM : Hid (∀ wx, Below w.heap.size w wx → wx.cell? ⟨2, 0, none⟩ = some (.int .i64 m)) := fun wx h => (h.cell (p := ⟨2, 0, none⟩) (World.block_lt_of_cell? w _ hm)).trans hm
  clear hm hlib
  obtain ⟨W0, hW⟩ : ∃ W0, w.alloc (.cells #[.string ⟨#[]⟩, .slice none 0 0] 24) = W0 := ⟨_, rfl⟩
  rw [hW] at B0 T0 hsz
  have HW := Lib.hid hW
  have HZ := Lib.hid hsz
  clear hW hsz
  go_enter Tryd.func10, Tryd.ntmps10
  go_wp2_with fail
  rw [HW.out]
  clear l0 l1 l2 l3 l4
  go_loopw [9] (fun i wr => ∃ k : Nat, k ≤ 5 ∧ i = .int .i64 (k : Int) ∧ Hid (NoHit nm k) ∧ Hid (Below W0.heap.size W0 wr)) (fun i _ => 5 - (intOf i).toNat)
  case atStart => exact ⟨0, by omega, rfl, (fun j hj => by omega), Below.refl _ _⟩
  case round =>
    obtain ⟨k, hk, rfl, hF, hB⟩ := hrel
    have HX : Hid (Below W0.heap.size W0 wr) := hB.out
    have HY : Hid (Below w.heap.size w wr) := bnext B0.out HX.out
    by_cases hlt : k < 5
    · have hlt' : (k : Int) < 5 := by omega
      have hk0 : (0 : Int) ≤ (k : Int) := by omega
      obtain ⟨T, hT⟩ : ∃ T, LTb[k]? = some T := ⟨_, List.getElem?_eq_getElem (show k < LTb.length from hlt)⟩
      obtain ⟨hbad, hs100⟩ := lib_good k T hT
      have hix := lib_idx k T hT
      have C := Lib.hid (readBond_impl T hs100 m wr (HM.out wr HY.out))
      unfold RbOut at C
      rw [hbad] at C
      have HT := Lib.hid hT
      have HH : Hid (∀ w' cv, ckN T = nm → w'.ownsRow w.heap.size 68 2 cv (ckL T).length (coVals (ckL T)) → Below w.heap.size w w' → BnOut nm w (.returned (.tuple #[.agg #[.string (ckN T), cv], .int .i64 0])) w') := fun w' cv h1 h2 h3 => BnOut.hit (hit_yes HT.out hF.out h1) h2 h3
      have HN : Hid (¬ ckN T = nm → NoHit nm (k + 1)) := fun h => hF.out.next HT.out h
      obtain ⟨N, hN⟩ : ∃ N, ckN T = N := ⟨_, rfl⟩
      rw [hN] at C HH HN
      clear hT hbad hs100 hN
      go_wp2_with fail
      refine C.out.mono ?_
      rintro e w2 ⟨cv, rfl, o2, hb2⟩
      obtain ⟨a2, c2, hv⟩ := own_slice o2
      subst hv
      obtain ⟨lc, hlc⟩ : ∃ l, (ckL T).length = l := ⟨_, rfl⟩
      rw [hlc] at o2 HH
      have HB2 := Lib.hid (bnext HX.out hb2)
      have HY2 := Lib.hid (bnext HY.out hb2)
      have B2 := Lib.hid (hB.out.trans (hb2.mono hB.out.size))
      have O2 := Lib.hid o2
      have hz2 : w.heap.size + 1 ≤ w2.heap.size := by have h1 := HB2.out.size; have h2 := HZ.out; omega
      have hzr : w.heap.size + 1 ≤ wr.heap.size := by have h1 := HX.out.size; have h2 := HZ.out; omega
      have TN := there_below (there_below T0.out HB2.out) (balloc0 w2 (.cells #[.string N, .slice a2 lc c2] 24))
      rw [hlc]
      clear hb2 o2 hlc hix
      obtain ⟨u0, x0, t0⟩ := there_at TN (k := 0) (by omega)
      obtain ⟨u1, x1, t1⟩ := there_at TN (k := 1) (by omega)
      have BB := Lib.hid (balloc HY2.out (.cells #[.string N, .slice a2 lc c2] 24))
      have OB := Lib.hid (O2.out.alloc (.cells #[.string N, .slice a2 lc c2] 24))
      clear TN
      by_cases e : N = nm
      · have he : (N.toList == nm.toList) = true := by rw [e]; simp
        have F : Hid (∀ w3, w3 = ((w2.alloc (.cells #[.string N, .slice a2 lc c2] 24)).setCell ⟨w.heap.size, 0, none⟩ (.string N)).setCell ⟨w.heap.size, 1, none⟩ (.slice a2 lc c2) → BnOut nm w (.returned (.tuple #[.agg #[.string N, .slice a2 lc c2], .int .i64 0])) w3) := fun w3 hw3 => by
          subst hw3
          exact HH.out _ _ e (own_low (B := wr.heap.size) (own_set (own_set OB.out (by omega)) (by omega)) (by omega)) ((BB.out.setCell (Nat.le_refl _) _).setCell (Nat.le_refl _) _)
        clear e hk0
        go_wp2
        refine bodyPost_ret (v := .tuple #[.agg #[.string N, .slice a2 lc c2], .int .i64 0]) (by simp [results, Tryd.results10, go_sem, x0, x1]) rfl (F.out _ rfl)
      · have he : (N.toList == nm.toList) = false := sneX e
        have HN2 := Lib.hid (HN.out e)
        clear e
        go_wp2
        go_roundw
        case rel => exact ⟨k + 1, by omega, by go_num, HN2.out, balloc B2.out _⟩
        case measure => simp [intOf]; omega
    · have hge : ¬ (k : Int) < 5 := by omega
      have hk5 : k = 5 := by omega
      subst hk5
      have TN := there_below T0.out HX.out
      obtain ⟨u0, x0, t0⟩ := there_at TN (k := 0) (by omega)
      obtain ⟨u1, x1, t1⟩ := there_at TN (k := 1) (by omega)
      have F : Hid (∀ w3, w3 = (wr.setCell ⟨w.heap.size, 0, none⟩ (.string ⟨#[]⟩)).setCell ⟨w.heap.size, 1, none⟩ (.slice none 0 0) → BnOut nm w (.returned (.tuple #[.agg #[.string ⟨#[]⟩, .slice none 0 0], .int .i64 3])) w3) := fun w3 hw3 => by
        subst hw3
        exact BnOut.miss (NoHit.end hF.out) ((HY.out.setCell (Nat.le_refl _) _).setCell (Nat.le_refl _) _)
      clear TN
      go_wp2
      refine bodyPost_ret (v := .tuple #[.agg #[.string ⟨#[]⟩, .slice none 0 0], .int .i64 3]) (by simp [results, Tryd.results10, go_sem, x0, x1]) rfl (F.out _ rfl)
end Go.Proofs.YtgffgcobgjngnaaDoor
