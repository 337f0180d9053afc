/-
  CourseAround and CornerPoints by the program.
-/
import Derived.Test.YtikjielgnlgnjaaDoorHoJ
import Derived.Test.YtikjielgnlgnjaaDoorHoY
namespace Go.Proofs.YtikjielgnlgnjaaDoor
open Go.ChangeShapes Go.WideShapes Go.ChangeAt Go.RowKit Go.Joins Go.Shelf

theorem row_resH {w wr : World} {P : List Int} {v : Value} (h : wr.ownsRow w.heap.size 2 1 v P.length (intVals P)) : ∃ a cap, v = .slice a P.length cap ∧ IntRes w.heap.size P a wr := by
  rcases h.2 with ⟨hv, h0⟩ | ⟨g, cap, cur, hv, hB, hg, _⟩
  · have hP : P = [] := List.eq_nil_of_length_eq_zero h0
    subst hP
    exact ⟨_, _, hv, .inl rfl⟩
  · refine ⟨_, _, hv, .inr ⟨g, rfl, hB, fun k z hk => ?_, fun j hj => ?_, (Array.getElem?_eq_some_iff.1 hg).1⟩⟩
    · have hl := (List.getElem?_eq_some_iff.1 hk).1
      subst hv
      rw [Nat.zero_add, World.ownsRow.cellAt h k (by omega)]
      simp [intVals, hk]
    · subst hv
      rw [Nat.zero_add]
      refine ⟨?_, World.ownsRow.frozenAt h j⟩
      rw [World.ownsRow.cellAt h j (by omega), List.getElem?_eq_getElem (by simpa [intVals] using hj)]
      rfl
set_option maxRecDepth 100000 in
set_option maxHeartbeats 3200000 in
theorem courseAround_impl (P : List Int) (T : ByteArray) (a : Option Addr) (cap : Nat) (hl : P.length ≤ 1048576) (hs : T.size ≤ 1048576) (c : Int) (w : World) (ha : IntArg w a P) (hd : DirAt w) :
    Calls Tryd.prog 27 #[.agg #[.slice a P.length cap, .string T], .int .i64 c] w (CaAns w P T c) := by
  unfold CaAns
  have K := house_new w (.slice a P.length cap) T 27
  obtain ⟨W0, hW⟩ : ∃ W0, w.alloc (.cells #[.slice a P.length cap, .string T] 27) = W0 := ⟨_, rfl⟩
  have E0 : Hid (Below w.heap.size w W0) := by show Below w.heap.size w W0; rw [← hW]; exact balloc0 _ _
  rw [hW] at K
  have HA := Lib.hid (ha.later E0.out)
  have HD := Lib.hid (hd.later E0.out)
  have HW := Lib.hid hW
  obtain ⟨d0, d1⟩ := K.out _ (Below.refl _ _)
  have C := Lib.hid (checkHouse_impl P T a cap hl hs 0 c W0 HA.out HD.out)
  have z0 : W0.heap.size = w.heap.size + 1 := by rw [← hW]; simp
  clear hW ha hd
  by_cases hc : hoK P T 0 c = 0
  case neg =>
    rw [show caV P T c = [] from by simp [caV, hc]]
    obtain ⟨q, hq⟩ : ∃ q, hoK P T 0 c = q := ⟨_, rfl⟩
    rw [hq] at C hc ⊢
    clear hq
    go_enter Tryd.func27, Tryd.ntmps27
    go_wp2_with fail
    rw [HW.out]
    go_wp2_with fail
    refine C.out.mono ?_
    rintro e w1 ⟨rfl, hb1⟩
    have B1 := Lib.hid (bnext E0.out hb1)
    clear hb1
    go_wp2
    go_ret2
    exact ⟨none, 0, rfl, .inl rfl, B1.out⟩
  obtain ⟨ho, _, hcc⟩ := hoK_zero hc
  obtain ⟨_, h12, _, hr⟩ := okHo_size ho
  have SD := Lib.hid (fun k hk wx h => side_impl P T a cap hr h12 k c hk hcc wx h)
  rw [show caV P T c = cour P c P.length from by simp [caV, hc]]
  rw [hc] at C ⊢
  clear hc ho hr
  go_enter Tryd.func27, Tryd.ntmps27
  go_wp2_with fail
  rw [HW.out]
  go_wp2_with fail
  refine C.out.mono ?_
  rintro e w1 ⟨rfl, hb1⟩
  have B1 := Lib.hid (bnext E0.out hb1)
  have KL := Lib.hid hb1
  have HA1 := Lib.hid (HA.out.later hb1)
  have hz1 : w.heap.size + 1 ≤ w1.heap.size := by have := hb1.size; omega
  clear d0 d1
  obtain ⟨d0, d1⟩ := K.out _ hb1
  clear hb1
  go_wp2
  go_loopw [7, 18] (fun v0 i wr => ∃ (v : Value) (k : Nat) (ps : List Int), v = v0 ∧ i = .int .i64 (k : Int) ∧ k ≤ P.length ∧ Hid (ps.length = k) ∧ Hid (ps = cour P c k) ∧ Hid (wr.ownsRow w1.heap.size 2 1 v ps.length (intVals ps)) ∧ Hid (Below w1.heap.size w1 wr)) (fun _ i _ => P.length - (intOf i).toNat)
  case atStart => exact ⟨.slice none 0 0, 0, [], rfl, rfl, Nat.zero_le _, rfl, rfl, World.ownsRow_nil _ _ _ _, Below.refl _ _⟩
  case round =>
    obtain ⟨v, k, ps, rfl, rfl, hk, hpl, hP, hD, hB⟩ := hrel
    clear d0 d1
    obtain ⟨d0, d1⟩ := K.out _ (bnext KL.out hB.out)
    by_cases hlt : k < P.length
    · have hlt' : (k : Int) < (P.length : Int) := by omega
      have hk0 : (0 : Int) ≤ (k : Int) := by omega
      have S1 := Lib.hid (SD.out (k : Int) (by omega) wr (HA1.out.later hB.out))
      have hN : Hid (cour P c (k + 1) = cour P c k ++ [sideV P (k : Int) c]) := cour_succ _ _ _
      obtain ⟨q, hq⟩ : ∃ q, sideV P (k : Int) c = q := ⟨_, rfl⟩
      rw [hq] at S1 hN
      clear hq
      have hps := hpl.out
      have c3 : Hid (ps.length + 1 ≤ maxLen) := by show ps.length + 1 ≤ maxLen; unfold maxLen; omega
      have c4 : ps.length ≤ 250 := by omega
      clear hps
      obtain ⟨i0, hi, hz0, hz1', hz2⟩ := info_parts infoInt
      go_wp2_with fail
      refine S1.out.mono ?_
      rintro e w2 ⟨rfl, hb2⟩
      have D1 : Hid (w2.ownsRow w1.heap.size 2 1 v ps.length (intVals ps)) := hD.out.kept (row := none) ⟨hb2.os, hb2.tape, hb2.output, hb2.size, fun k hk _ => hb2.block k hk⟩ (by cases hv : v.ownBlock <;> simp)
      have B2 := Lib.hid (bnext hB.out hb2)
      have hbase : w1.heap.size ≤ w2.heap.size := B2.out.size
      clear hb2
      go_wp2_with (at_builtin; go_must ((refine wpList_append_own _ rfl _ _ 22 rfl w1.heap.size 2 i0 (.int .i64 0) 1 8 Tryd.underlying22 hi hz0 hz1' hz2 rfl (by decide) v ps.length (intVals ps) rfl (D1.out.alloc _) ⟨w2.heap.size, 0, none⟩ 1 1 [.int .i64 q] rfl rfl ((lit8 w1.heap.size w2 _ hbase).cells rfl) (by simp [Value.oneCell']) c3.out (by omega) (by simp; omega) ?_; intro v1 w3 hown1 hgrow1 _; have hB3 : Hid (Below w1.heap.size w1 w3) := (balloc B2.out _).grown hgrow1 (by simp; omega) (fun r hr => (D1.out.lt r hr).1); have D2 := Lib.hid hown1; clear hown1 hgrow1)))
      go_roundw
      case rel => exact ⟨_, k + 1, ps ++ [q], rfl, by go_num, by omega, by have := hpl.out; show (ps ++ [q]).length = k + 1; simp; omega, by show ps ++ [q] = cour P c (k + 1); rw [hN.out, hP.out], by show World.ownsRow _ _ _ _ _ _ _; have := D2.out; simpa [intVals] using this, hB3.out⟩
      case measure => simp [intOf]; omega
    · have hge : ¬ (k : Int) < (P.length : Int) := by omega
      have hkn : k = P.length := by omega
      have HP : Hid (ps = cour P c P.length) := by show ps = _; rw [hP.out, hkn]
      obtain ⟨a5, c5, rfl, hr5⟩ := row_resH (P := ps) hD.out
      have HO : Hid (IntRes w.heap.size ps a5 wr) := by
        rcases hr5 with h | ⟨g, h1, h2⟩
        · exact .inl h
        · exact .inr ⟨g, h1, by have := h2.1; omega, h2.2⟩
      have HE : Hid (Below w.heap.size w wr) := bnext B1.out hB.out
      clear hr5
      go_wp2
      go_ret2
      exact ⟨a5, ⟨c5, by rw [← HP.out]; rfl⟩, by rw [← HP.out]; exact HO.out, HE.out⟩
end Go.Proofs.YtikjielgnlgnjaaDoor
