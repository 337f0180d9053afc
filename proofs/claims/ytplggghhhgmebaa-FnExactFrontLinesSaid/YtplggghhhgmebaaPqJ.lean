/-
  Parts of a course by the program.
-/
import Derived.Test.YtplggghhhgmebaaPqI
namespace Go.Proofs.Ytplggghhhgmebaa
open Go.ChangeShapes Go.WideShapes Go.ChangeAt Go.RowKit Go.Joins Go.Shelf

attribute [local go_sem] Oper.semAt_some

theorem ints_lit (w : World) (x : Int) : (w.alloc (.cells #[.int .i64 x] 2)).ownsRow w.heap.size 2 1 (.slice (some ⟨w.heap.size, 0, none⟩) 1 1) 1 (intVals [x]) :=
  ⟨rfl, .inr ⟨w.heap.size, 1, _, rfl, Nat.le_refl _, heap_alloc_new w _, Nat.le_refl _, by decide, rfl, rfl⟩⟩
theorem cells_two (w : World) (x y : Value) (t : TypeId) : ∀ j u, [x, y][j]? = some u → (w.alloc (.cells #[x, y] t)).cell? ((⟨w.heap.size, 0, none⟩ : Addr).add j) = some u := by
  intro j u hj
  match j, hj with
  | 0, hj => simp at hj; subst hj; simp [Addr.add]
  | 1, hj => simp at hj; subst hj; simp [Addr.add]
/-- The parts among the first rows of two. -/
def accP (E : List Pt) {m : Nat} (pre : List (Fin m)) : List Pt := (pre.filterMap fun x => E[x.1]?).filter Pt.pos
theorem accP_nil (E : List Pt) (m : Nat) : accP E ([] : List (Fin m)) = [] := rfl
theorem accP_snoc {E : List Pt} {m : Nat} (pre : List (Fin m)) {x : Fin m} {p : Pt} (h : E[x.1]? = some p) : accP E (pre ++ [x]) = accP E pre ++ (if p.pos = true then [p] else []) := by
  unfold accP
  rw [List.filterMap_append, List.filter_append]
  congr 1
  by_cases e : p.pos = true <;> simp [h, e]
theorem accP_all (E : List Pt) : accP E (List.finRange E.length) = E.filter Pt.pos := by
  unfold accP
  congr 1
  have e : (fun x : Fin E.length => E[x.1]?) = some ∘ (fun x : Fin E.length => E[x.1]) := by
    funext x
    exact List.getElem?_eq_getElem x.2
  rw [e, List.filterMap_eq_map]
  apply List.ext_getElem
  · simp
  · intro i h1 h2
    simp
theorem accP_length (E : List Pt) {m : Nat} (pre : List (Fin m)) : (accP E pre).length ≤ pre.length := Nat.le_trans (List.length_filter_le _ _) (List.length_filterMap_le _ _)
theorem prs_small {F C : Int} {L : List Og} {c : Int} (hok : FrOk F C L) {j : Nat} {p : Pt} (h : (prs F 0 (cutL L c))[j]? = some p) : (-1000 ≤ p.fr ∧ p.fr ≤ 1000) ∧ (-1000 ≤ p.tt ∧ p.tt ≤ 1000) := by
  have hm : ∀ (R : List Og) (x : Int), (0 ≤ x ∧ x ≤ 200) → (∀ o ∈ R, 0 ≤ o.fr ∧ o.fr ≤ 200 ∧ 0 ≤ o.tt ∧ o.tt ≤ 200) → ∀ q ∈ prs F x R, (-1000 ≤ q.fr ∧ q.fr ≤ 1000) ∧ (-1000 ≤ q.tt ∧ q.tt ≤ 1000) := by
    intro R
    induction R with
    | nil =>
      intro x hx _ q hq
      have hF := hok.fl
      obtain rfl : q = ⟨x, F⟩ := by simpa [prs] using hq
      dsimp only
      omega
    | cons o R ih =>
      intro x hx hR q hq
      have ho := hR o (List.mem_cons_self ..)
      rcases List.mem_cons.1 (show q ∈ (⟨x, o.fr⟩ : Pt) :: prs F o.tt R from hq) with rfl | hq
      · dsimp only; omega
      · exact ih o.tt (by omega) (fun d hd => hR d (List.mem_cons_of_mem _ hd)) q hq
  refine hm (cutL L c) 0 (by omega) (fun o ho => ?_) p (List.mem_of_getElem? h)
  obtain ⟨k, hk⟩ := List.getElem?_of_mem (List.mem_filter.1 ho).1
  have h3 := Og.fit_true.1 (hok.fit k o hk)
  have h4 := hok.fl
  omega
theorem own_intBlock {w : World} {B n : Nat} {v : Value} {xs : List Value} {e : TypeId} {z : Nat} (h : w.ownsRow B e z v n xs) : ∀ k, v.ownBlock = some k → B ≤ k := by
  intro k hk
  rcases h.2 with ⟨hv, _⟩ | ⟨g, cap, cur, hv, hB, _⟩
  · rw [hv] at hk; simp [Value.ownBlock] at hk
  · rw [hv] at hk; simp [Value.ownBlock] at hk; omega
theorem keepsO_drew (W : World) : KeepsOthers W W.drew := ⟨Nat.le_refl _, fun _ _ h _ => h⟩
theorem keepsO_below {W W' : World} (h : Below W.heap.size W W') : KeepsOthers W W' := ⟨h.size, fun k o hk _ => (h.block k (Array.getElem?_eq_some_iff.1 hk).1).trans hk⟩
theorem KpT.below {b c : Nat} {W W' : World} (h : Below W.heap.size W W') : KpT b c W W' := ⟨fun o hk _ => (h.block b (Array.getElem?_eq_some_iff.1 hk).1).trans hk, fun o hk _ => (h.block c (Array.getElem?_eq_some_iff.1 hk).1).trans hk⟩
theorem ownsRow_mono {w : World} {B B' e n z : Nat} {v : Value} {xs : List Value} (h : w.ownsRow B e z v n xs) (hb : B' ≤ B) : w.ownsRow B' e z v n xs := by
  refine ⟨h.1, ?_⟩
  rcases h.2 with hn | ⟨g, cap, cur, hv, hB, rest⟩
  · exact .inl hn
  · exact .inr ⟨g, cap, cur, hv, Nat.le_trans hb hB, rest⟩
theorem boxed_below {W W' : World} {b : Nat} {t : TypeId} {v : Value} (h : Boxed W b t v) (hb : Below W.heap.size W W') : Boxed W' b t v := (hb.block b h.lt).trans h
theorem owns_below {w w' : World} {B e n z : Nat} {v : Value} {xs : List Value} (h : w.ownsRow B e z v n xs) (hb : Below w.heap.size w w') : w'.ownsRow B e z v n xs := by
  refine ⟨h.1, ?_⟩
  rcases h.2 with hn | ⟨g, cap, cur, hv, hB, hh, rest⟩
  · exact .inl hn
  · exact .inr ⟨g, cap, cur, hv, hB, (hb.block g (Array.getElem?_eq_some_iff.1 hh).1).trans hh, rest⟩
/-- A row that lies behind the box of its slice, and behind what is to be kept. -/
theorem appended3 {W w1 : World} {n₀ B b c : Nat} {t e : TypeId} {size : Nat} {v v' : Value} {k m : Nat} {xs ys : List Value} {tmp : Obj} (hv : Boxed W B t v) (hrow : W.ownsRow n₀ e size v k xs) (hn₀ : n₀ ≤ W.heap.size) (hB : B < n₀) (hb : B < b ∧ b < n₀) (hc : B < c ∧ c < n₀) (hown' : w1.ownsRow n₀ e size v' m ys) (hgrow : (W.alloc tmp).grownBy w1 v.ownBlock) :
    Boxed w1 B t v ∧ Boxed (w1.setCell ⟨B, 0, none⟩ v') B t v' ∧ (w1.setCell ⟨B, 0, none⟩ v').ownsRow n₀ e size v' m ys ∧ KeepsOthers W (w1.setCell ⟨B, 0, none⟩ v') ∧ Below B W (w1.setCell ⟨B, 0, none⟩ v') ∧ KpT b c W (w1.setCell ⟨B, 0, none⟩ v') := by
  have hne : ∀ j, j < n₀ → some j ≠ v.ownBlock := fun j hj e => by have := own_intBlock hrow j e.symm; omega
  have hne' : ∀ j, j < n₀ → v'.ownBlock ≠ some j := fun j hj e => by have := own_intBlock hown' j e; omega
  have hv1 : Boxed w1 B t v := (hv.alloc tmp).kept hgrow (hne B hB)
  have hkp : ∀ j, B < j → j < n₀ → ∀ o : Obj, W.heap[j]? = some o → (w1.setCell ⟨B, 0, none⟩ v').heap[j]? = some o := fun j hj1 hj2 o ho => by
    refine (Below.heap_setCell _ _ _ j (fun e => ?_)).trans ?_
    · have : j = B := e
      omega
    · exact (hgrow.block j (by have := (Array.getElem?_eq_some_iff.1 ho).1; simp; omega) (hne j hj2)).trans ((Below.heap_alloc _ _ _ (Array.getElem?_eq_some_iff.1 ho).1).trans ho)
  refine ⟨hv1, hv1.set v', hown'.kept (grownBy_setCell' w1 B v') (.inr (hne' B hB)), ?_, ?_, fun o ho _ => hkp b hb.1 hb.2 o ho, fun o ho _ => hkp c hc.1 hc.2 o ho⟩
  · refine ((KeepsOthers.alloc W tmp).trans (KeepsOthers.of_grownBy hgrow fun j o ej hj => ?_)).trans (KeepsOthers.setCell _ _ _)
    rcases (hrow.alloc tmp).2 with ⟨rfl, _⟩ | ⟨g, cap, cur, rfl, _, hgb, _⟩
    · simp [Value.ownBlock] at ej
    · obtain rfl : g = j := by simpa [Value.ownBlock] using ej
      rw [hgb] at hj; cases hj; rfl
  · refine (((Below.refl B W).alloc (by omega) tmp).grown hgrow (by simp; omega) fun j ej => ?_).setCell (p := ⟨B, 0, none⟩) (Nat.le_refl _) v'
    have := own_intBlock hrow j ej
    omega
set_option maxRecDepth 100000 in
set_option maxHeartbeats 6400000 in
theorem isInCourse_impl (o : Og) (c : Int) (w : World) : Calls Try.prog 86 #[.agg #[.int .i64 o.fr, .int .i64 o.tt, .int .i64 o.lo, .int .i64 o.hi], .int .i64 c] w fun e w' => e = .returned (.bool (o.inC c)) ∧ Below w.heap.size w w' := by
  by_cases h1 : o.lo ≤ c <;> by_cases h2 : c < o.hi
  all_goals
    go_enter Try.func86, Try.ntmps86
    go_wp2
    go_ret
    exact ⟨ret_bool (by simp [Og.inC, h1, h2]), balloc0 _ _⟩
set_option maxRecDepth 100000 in
set_option maxHeartbeats 6400000 in
theorem partLen_impl (x y : Int) (h1 : -1000 ≤ x ∧ x ≤ 1000) (h2 : -1000 ≤ y ∧ y ≤ 1000) (w : World) : Calls Try.prog 88 #[.agg #[.int .i64 x, .int .i64 y]] w fun e w' => e = .returned (.int .i64 (y - x)) ∧ Below w.heap.size w w' := by
  obtain ⟨h1, h1'⟩ := h1
  obtain ⟨h2, h2'⟩ := h2
  go_enter Try.func88, Try.ntmps88
  go_wp2
  go_ret
  exact ⟨rfl, balloc0 _ _⟩
set_option maxRecDepth 100000 in
set_option maxHeartbeats 40000000 in
theorem parts_impl (F C : Int) (L : List Og) (a : Option Addr) (cap : Nat) (hok : FrOk F C L) (c : Int) (w : World) (ha : OgArg w a L) :
    Calls Try.prog 67 #[.agg #[.int .i64 F, .int .i64 C, .slice a L.length cap], .int .i64 c] w fun e w' => ∃ v, e = .returned v ∧ w'.ownsRow w.heap.size 51 2 v (partsF F L c).length (ptVals (partsF F L c)) ∧ Below w.heap.size w w' := by
  have FB' := FrBox.new w F C a cap L 29
  have E0' := Lib.hid (balloc0 w (.cells #[.int .i64 F, .int .i64 C, .slice a L.length cap] 29))
  have z0 : (w.alloc (.cells #[.int .i64 F, .int .i64 C, .slice a L.length cap] 29)).heap.size = w.heap.size + 1 := by simp
  have RW' := ints_lit (w.alloc (.cells #[.int .i64 F, .int .i64 C, .slice a L.length cap] 29)) 0
  have EB' := balloc0 (w.alloc (.cells #[.int .i64 F, .int .i64 C, .slice a L.length cap] 29)) (.cells #[.int .i64 0] 2)
  obtain ⟨W0, hW⟩ : ∃ W0, w.alloc (.cells #[.int .i64 F, .int .i64 C, .slice a L.length cap] 29) = W0 := ⟨_, rfl⟩
  rw [hW] at FB' E0' z0 RW' EB'
  have FB := Lib.hid FB'
  have E0 := Lib.hid E0'.out
  have HA := Lib.hid (ha.later E0.out)
  obtain ⟨W1, hW1⟩ : ∃ W1, W0.alloc (.cells #[.int .i64 0] 2) = W1 := ⟨_, rfl⟩
  rw [hW1] at RW' EB'
  rw [z0] at RW'
  have RW := Lib.hid RW'
  have EB := Lib.hid EB'
  have HW : Hid ((w.alloc (.cells #[.int .i64 F, .int .i64 C, .slice a L.length cap] 29)).alloc (.cells #[.int .i64 0] 2) = W1) := by show _ = W1; rw [hW]; exact hW1
  have hf1 := FB'.later EB'
  clear hW E0' FB' ha RW' EB' hW1
  have hl8 : L.length ≤ 8 := hok.len
  obtain ⟨i0, hi, hz0, hz1, hz2⟩ := info_parts infoInt
  obtain ⟨i1, hi', hy0, hy1, hy2⟩ := info_parts infoPt
  obtain ⟨f0, f1, f2⟩ := hf1
  refine (callsIn_wide (n := 4)).1 ?_
  refine callsIn_of_wp_marks Try.func67 rfl trivial ?_ rfl
  simp only [Try.ntmps67, List.size_toArray, List.length_cons, List.length_nil, Nat.reduceAdd, Nat.reduceSub, Array.replicate_succ, Array.replicate_zero, List.push_toArray, List.append_toArray, List.nil_append, List.cons_append]
  gi_wp2_with fail
  rw [HW.out]
  gi_wp2_with fail
  gi_loopw [5, 15] (fun r i wr => ∃ (k : Nat), k ≤ L.length ∧ i = .int .i64 (k : Int) ∧ Hid (wr.ownsRow (w.heap.size + 1) 2 1 r (1 + 2 * (cutL (L.take k) c).length) (intVals (0 :: flatO (cutL (L.take k) c)))) ∧ Hid (Below W0.heap.size W0 wr)) (fun _ i _ => L.length - (intOf i).toNat)
  case atStart => exact ⟨0, Nat.zero_le _, rfl, RW.out, EB.out⟩
  case round =>
    obtain ⟨k, hk, rfl, hR, hB⟩ := hrel
    by_cases hlt : k < L.length
    · have hlt' : (k : Int) < (L.length : Int) := by omega
      have hk0 : (0 : Int) ≤ (k : Int) := by omega
      obtain ⟨b, o, d, rfl, hd, hat⟩ := (HA.out.later hB.out).at hlt
      obtain ⟨c0, c1, c2, c3⟩ := hat.cells hd
      have X := Lib.hid (isInCourse_impl d c)
      have OX := Lib.hid (box_og wr d)
      have HN := Lib.hid (cutL_take c hd)
      have hcl : (cutL (L.take k) c).length ≤ 8 := by have := cutL_length (L.take k) c; rw [List.length_take] at this; omega
      have hsz := hB.out.size
      clear hd hat
      cases hin : d.inC c
      · rw [hin] at X
        have HM : Hid (cutL (L.take (k + 1)) c = cutL (L.take k) c) := by show _ = _; rw [HN.out, hin]; simp
        clear hin
        gi_wp2_with (refine ⟨trivial, ?_⟩; gi_at_call 86; refine (callsIn_wide.2 (X.out _)).mono ?_; rintro e w2 ⟨rfl, hb2⟩; have hr2 := Lib.hid (owns_below (hR.out.alloc (.cells #[.int .i64 d.fr, .int .i64 d.tt, .int .i64 d.lo, .int .i64 d.hi] 38)) hb2); have hB2 := Lib.hid (bnext (balloc hB.out (.cells #[.int .i64 d.fr, .int .i64 d.tt, .int .i64 d.lo, .int .i64 d.hi] 38)) hb2); clear hb2)
        go_roundw
        case rel => exact ⟨k + 1, by omega, by go_num, by rw [HM.out]; exact hr2.out, hB2.out⟩
        case measure => simp [intOf]; omega
      · rw [hin] at X
        have HM : Hid (cutL (L.take (k + 1)) c = cutL (L.take k) c ++ [d]) := by show _ = _; rw [HN.out, hin]; simp
        clear hin
        gi_wp2_with (first | (refine ⟨trivial, ?_⟩; gi_at_call 86; refine (callsIn_wide.2 (X.out _)).mono ?_; rintro e w2 ⟨rfl, hb2⟩; have hr2 := Lib.hid (owns_below (hR.out.alloc (.cells #[.int .i64 d.fr, .int .i64 d.tt, .int .i64 d.lo, .int .i64 d.hi] 38)) hb2); have hB2 := Lib.hid (bnext (balloc hB.out (.cells #[.int .i64 d.fr, .int .i64 d.tt, .int .i64 d.lo, .int .i64 d.hi] 38)) hb2); obtain ⟨x0, x1, x2, x3⟩ := OX.out w2 hb2; have hs2 := hB2.out.size; clear hb2) | (gi_at_builtin; refine wpListIn_append_own _ rfl _ _ 86 rfl (w.heap.size + 1) 2 i0 (.int .i64 0) 1 8 Try.underlying86 hi hz0 hz1 hz2 rfl (by decide) _ (1 + 2 * (cutL (L.take k) c).length) _ rfl (hr2.out.alloc _) ⟨w2.heap.size, 0, none⟩ 2 2 [.int .i64 d.fr, .int .i64 d.tt] rfl rfl (cells_two _ _ _ _) (by simp [Value.oneCell']) (by unfold maxLen; omega) (by omega) (by simp; omega) ?_; intro v' w3 hown' hgrow hnil))
        go_roundw
        case rel =>
          refine ⟨k + 1, by omega, by go_num, ?_, ?_⟩
          · rw [HM.out]
            have e1 : intVals (0 :: flatO (cutL (L.take k) c)) ++ [.int .i64 d.fr, .int .i64 d.tt] = intVals (0 :: flatO (cutL (L.take k) c ++ [d])) := by rw [flatO_snoc]; simp [intVals]
            rw [e1] at hown'
            have e2 : 1 + 2 * (cutL (L.take k) c).length + 2 = 1 + 2 * (cutL (L.take k) c ++ [d]).length := by simp; omega
            rw [e2] at hown'
            exact hown'
          · refine (balloc hB2.out (.cells #[.int .i64 d.fr, .int .i64 d.tt] 2)).grown hgrow (by simp; omega) (fun r hr => ?_)
            have := own_intBlock hr2.out r hr
            omega
        case measure => simp [intOf]; omega
    · have hge : ¬ (k : Int) < (L.length : Int) := by omega
      have hkn : k = L.length := by omega
      subst hkn
      rw [List.take_length] at hR
      obtain ⟨g0, g1, g2⟩ := FB.out.later hB.out
      have hcl := cutL_length L c
      have hsz := hB.out.size
      gi_wp2_with (gi_at_builtin; refine wpListIn_append_own _ rfl _ _ 86 rfl (w.heap.size + 1) 2 i0 (.int .i64 0) 1 8 Try.underlying86 hi hz0 hz1 hz2 rfl (by decide) _ (1 + 2 * (cutL L c).length) _ rfl (hR.out.alloc _) ⟨wr.heap.size, 0, none⟩ 1 1 [.int .i64 F] rfl rfl (cell_one_new _ _ _) (by simp [Value.oneCell']) (by unfold maxLen; omega) (by omega) (by simp; omega) ?_; intro v' w3 hown' hgrow hnil)
      obtain ⟨m, hm⟩ : ∃ m, (cutL L c).length + 1 = m := ⟨_, rfl⟩
      have hE : intVals (0 :: flatO (cutL L c)) ++ [.int .i64 F] = intVals (endsL (prs F 0 (cutL L c))) := by
        rw [endsL_prs]
        simp [intVals]
      rw [hE] at hown'
      have hlenE : (prs F 0 (cutL L c)).length = m := by rw [prs_length]; exact hm
      have hn2 : 1 + 2 * (cutL L c).length + 1 = 2 * m := by omega
      rw [hn2] at hown'
      obtain ⟨E, hEe⟩ : ∃ E, prs F 0 (cutL L c) = E := ⟨_, rfl⟩
      rw [hEe] at hown' hlenE
      have HEE := Lib.hid hEe
      have HPF : Hid (partsF F L c = E.filter Pt.pos) := by show partsF F L c = _; rw [← hEe]; rfl
      have hbd : ∀ (j : Nat) (p : Pt), E[j]? = some p → (-1000 ≤ p.fr ∧ p.fr ≤ 1000) ∧ (-1000 ≤ p.tt ∧ p.tt ≤ 1000) := fun j p hp => by rw [← hEe] at hp; exact prs_small hok hp
      have HBD := Lib.hid hbd
      have hge2 : w.heap.size + 1 ≤ w3.heap.size := by have := hgrow.size; simp at this; omega
      have hfin : ∃ g cp, v' = .slice (some ⟨g, 0, none⟩) (2 * m) cp ∧ 2 * m ≤ cp ∧ g < w3.heap.size ∧ IntAt w3 g 0 (endsL E) := by
        rcases hown'.2 with ⟨_, h0⟩ | ⟨g, cp, cur, rfl, hg1, hg2, hg3, _⟩
        · omega
        · refine ⟨g, cp, rfl, hg3, (Array.getElem?_eq_some_iff.1 hg2).1, fun j z hj => ?_⟩
          have hjl := (List.getElem?_eq_some_iff.1 hj).1
          rw [endsL_length, hlenE] at hjl
          rw [Nat.zero_add, World.ownsRow.cellAt hown' j (by omega)]
          simp [intVals, hj]
      obtain ⟨g, cp, rfl, hcp, hg, hIA⟩ := hfin
      have BW3 : Hid (Below W0.heap.size W0 w3) := by
        show Below W0.heap.size W0 w3
        refine (balloc hB.out (.cells #[.int .i64 F] 2)).grown hgrow (by simp; omega) (fun r hr => ?_)
        have := own_intBlock hR.out r hr
        omega
      have hm9 : m ≤ 100 := by omega
      have HIA := Lib.hid hIA
      have HOK := Lib.hid hok
      clear hown' hgrow hE hEe hn2 hbd hok hR hIA g0 g1 g2 f0 f1 f2 hm hnil
      gi_wp2_with (refine ⟨trivial, ?_⟩; gi_at_call 87; refine (callsIn_wide.2 (callsIn_wide.1 (chunk_in _ _ _ _))).mono ?_; rintro e w' ⟨rfl, rfl⟩)
      have bP := ((Boxed.new w3 42 (.slice none 0 0)).alloc (.cells #[.slice (some ⟨g, 0, none⟩) (2 * m) cp] 86)).alloc (.cells #[.int .i64 2] 3)
      have bS := (Boxed.new (w3.alloc (.cells #[.slice none 0 0] 42)) 86 (.slice (some ⟨g, 0, none⟩) (2 * m) cp)).alloc (.cells #[.int .i64 2] 3)
      have bN := Boxed.new ((w3.alloc (.cells #[.slice none 0 0] 42)).alloc (.cells #[.slice (some ⟨g, 0, none⟩) (2 * m) cp] 86)) 3 (.int .i64 2)
      have hB2 : Below w3.heap.size w3 (((w3.alloc (.cells #[.slice none 0 0] 42)).alloc (.cells #[.slice (some ⟨g, 0, none⟩) (2 * m) cp] 86)).alloc (.cells #[.int .i64 2] 3)) := balloc (balloc (balloc0 _ _) _) _
      simp only [World.size_alloc] at bP bS bN
      obtain ⟨W2, hW2⟩ : ∃ W2, (((w3.alloc (.cells #[.slice none 0 0] 42)).alloc (.cells #[.slice (some ⟨g, 0, none⟩) (2 * m) cp] 86)).alloc (.cells #[.int .i64 2] 3)) = W2 := ⟨_, rfl⟩
      have z2 : W2.heap.size = w3.heap.size + 3 := by rw [← hW2]; simp
      rw [hW2] at bP bS bN hB2
      try rw [hW2]
      clear hW2
      refine wpIn_rangeFunc_ownG rfl (by omega) (gf := 94) (lb := #[.pointer (some ⟨w3.heap.size + 1, 0, none⟩), .pointer (some ⟨w3.heap.size + 1 + 1, 0, none⟩)]) rfl trivial (enters_of Try.func94 (by kernel_rfl) rfl)
        (chunk_stops _ (by omega) (w3.heap.size + 1) (w3.heap.size + 1 + 1) g m cp hm9 hcp W2 bS bN) KpT.t KpT.b (Below.refl _ _) (fun _ => rfl)
        (fun pre W => (∃ v, Boxed W w3.heap.size 42 v ∧ W.ownsRow (w3.heap.size + 3) 51 2 v (accP E pre).length (ptVals (accP E pre)) ∧ w3.heap.size + 3 ≤ W.heap.size) ∧ Below w3.heap.size w3 W)
        (fun _ _ _ => False)
        (OwnFrom.and (fun s X Y row hs hg hr => by obtain ⟨v, h1, h2, h3⟩ := hs; obtain ⟨u, k1, k2, _⟩ := (Own.from (holdsRow_own (w3.heap.size + 3) w3.heap.size 42 51 2 (fun pre : List (Fin m) => (accP E pre).length) (fun pre => ptVals (accP E pre)) (fun _ _ => True)) W2.heap.size) s X Y row ⟨v, h1, h2, trivial⟩ hg hr; exact ⟨u, k1, k2, Nat.le_trans h3 hg.size⟩) (ownFrom_below (Nat.le_refl _) (by omega)))
        (fun _ _ _ _ _ hs _ _ => hs)
        ⟨⟨_, bP, World.ownsRow_nil _ _ _ _, by omega⟩, hB2⟩
        (fun x => { tmps := #[.agg #[.int .i64 F, .int .i64 C, .slice a L.length cap], .int .i64 c, .pointer (some ⟨w.heap.size, 0, none⟩), undef, .slice none 0 0, .slice (some ⟨g, 0, none⟩) (2 * m) cp, undef, u7, .pointer (some ⟨w3.heap.size, 0, none⟩), .slice (some ⟨g, 2 * x.1, none⟩) 2 2, undef, .slice (some ⟨w.heap.size + 1, 0, none⟩) 1 1, .pointer (some ⟨w.heap.size, 2, none⟩), .slice a L.length cap, .int .i64 (L.length : Int), .int .i64 (L.length : Int), .bool false, u17, u18, u19, u20, u21, u22, u23, u24, u25, u26, u27, u28, u29, u5, .pointer (some ⟨w.heap.size, 0, none⟩), .int .i64 F, .slice (some ⟨wr.heap.size, 0, none⟩) 1 1, .slice (some ⟨g, 0, none⟩) (2 * m) cp, .slice (some ⟨g, 0, none⟩) (2 * m) cp, .func (.func 94) #[] #[.pointer (some ⟨w3.heap.size + 1, 0, none⟩), .pointer (some ⟨w3.heap.size + 1 + 1, 0, none⟩)], .slice (some ⟨g, 2 * x.1, none⟩) 2 2, undef, undef, undef, undef, undef, undef, undef, undef, undef, undef, undef, undef, undef, undef, undef], defers := [] }) ?assign ?body ?done ?stop
      case assign =>
        intro l x W K hK
        simp only [encT]
        gi_wp2
        exact hK
      case body =>
        rintro l pre x W ⟨⟨v, hv, hrow, hWS⟩, hBW⟩ hlt2
        obtain ⟨k, hkm⟩ := x
        dsimp only
        obtain ⟨p, hp⟩ : ∃ p, E[k]? = some p := ⟨_, List.getElem?_eq_getElem (by omega)⟩
        have HP := Lib.hid hp
        obtain ⟨hq1, hq2⟩ := HBD.out k p hp
        obtain ⟨e0, e1⟩ := endsL_at hp
        have HIW : IntAt W g 0 (endsL E) := fun j z hj => (hBW.cell (p := ⟨g, 0 + j, none⟩) hg).trans (HIA.out j z hj)
        have c0 : W.drew.cell? ⟨g, 2 * k, none⟩ = some (.int .i64 p.fr) := by have := HIW _ _ e0; rwa [Nat.zero_add] at this
        have c1 : W.drew.cell? ⟨g, 2 * k + 1, none⟩ = some (.int .i64 p.tt) := by have := HIW _ _ e1; rwa [Nat.zero_add] at this
        have PL := Lib.hid (fun wx => partLen_impl p.fr p.tt hq1 hq2 wx)
        have hgW : g < W.heap.size := Nat.lt_of_lt_of_le hg hBW.size
        have A0 : (W.alloc (.cells #[.int .i64 0, .int .i64 0] 51)).drew.cell? ⟨g, 2 * k, none⟩ = some (.int .i64 p.fr) := (World.cell?_alloc_lt W _ ⟨g, 2 * k, none⟩ hgW).trans c0
        have A1 : (W.alloc (.cells #[.int .i64 0, .int .i64 0] 51)).drew.cell? ⟨g, 2 * k + 1, none⟩ = some (.int .i64 p.tt) := (World.cell?_alloc_lt W _ ⟨g, 2 * k + 1, none⟩ hgW).trans c1
        have D0 : (W.alloc (.cells #[.int .i64 p.fr, .int .i64 p.tt] 51)).drew.cell? ⟨g, 2 * k, none⟩ = some (.int .i64 p.fr) := (World.cell?_alloc_lt W _ ⟨g, 2 * k, none⟩ hgW).trans c0
        have D1 : (W.alloc (.cells #[.int .i64 p.fr, .int .i64 p.tt] 51)).drew.cell? ⟨g, 2 * k + 1, none⟩ = some (.int .i64 p.tt) := (World.cell?_alloc_lt W _ ⟨g, 2 * k + 1, none⟩ hgW).trans c1
        clear hp e0 e1 HIW hq1 hq2
        gi_wp2_with fail
        have hHeld : (fun W => W.cell? ⟨g, 2 * k, none⟩ = some (.int .i64 p.fr) ∧ W.cell? ⟨g, 2 * k + 1, none⟩ = some (.int .i64 p.tt) : World → Prop) W.drew := ⟨c0, c1⟩
        refine wpIn_region_S (S := fun W => W.cell? ⟨g, 2 * k, none⟩ = some (.int .i64 p.fr) ∧ W.cell? ⟨g, 2 * k + 1, none⟩ = some (.int .i64 p.tt)) (by kernel_rfl) ?_
        refine wpAnyS_take (i := 0) (v := .slice (some ⟨g, 2 * k, none⟩) 2 2) rfl (noDefer_of (by kernel_rfl)) (by kernel_rfl) (by kernel_rfl) (by kernel_rfl) (fun _ _ _ h => h) ⟨Or.inl ⟨by kernel_rfl, ?_⟩, fun w => by first | rfl | simp [Oper.about, resolve, Target.leads, go_sem]⟩ hHeld ?_
        · intro w hSw
          try dsimp only at hSw
          skip
          go_simp
        try simp only [Act.put, List.setIfInBounds_toArray, List.set_cons_zero, List.set_cons_succ, List.getElem_toArray, List.getElem_cons_zero]
        refine wpAnyS_take (i := 1) (v := .pointer (some ⟨g, 2 * k, none⟩)) rfl (noDefer_of (by kernel_rfl)) (by kernel_rfl) (by kernel_rfl) (by kernel_rfl) (fun _ _ _ h => h) ⟨Or.inl ⟨by kernel_rfl, ?_⟩, fun w => by first | rfl | simp [Oper.about, resolve, Target.leads, go_sem]⟩ hHeld ?_
        · intro w hSw
          try dsimp only at hSw
          skip
          go_simp
          all_goals first | omega | exact IntWalk.i64_in _ (by omega)
        try simp only [Act.put, List.setIfInBounds_toArray, List.set_cons_zero, List.set_cons_succ, List.getElem_toArray, List.getElem_cons_zero, List.getElem_cons_succ]
        refine wpAnyS_take (i := 2) (v := .int .i64 p.fr) rfl (noDefer_of (by kernel_rfl)) (by kernel_rfl) (by kernel_rfl) (by kernel_rfl) (fun _ _ _ h => h) ⟨Or.inl ⟨by kernel_rfl, ?_⟩, fun w => by first | rfl | simp [Oper.about, resolve, Target.leads, go_sem]⟩ hHeld ?_
        · intro w hSw
          try dsimp only at hSw
          obtain ⟨s0, s1⟩ := hSw
          go_simp
        try simp only [Act.put, List.setIfInBounds_toArray, List.set_cons_zero, List.set_cons_succ, List.getElem_toArray, List.getElem_cons_zero, List.getElem_cons_succ]
        refine wpAnyS_take (i := 3) (v := .slice (some ⟨g, 2 * k, none⟩) 2 2) rfl (noDefer_of (by kernel_rfl)) (by kernel_rfl) (by kernel_rfl) (by kernel_rfl) (fun _ _ _ h => h) ⟨Or.inl ⟨by kernel_rfl, ?_⟩, fun w => by first | rfl | simp [Oper.about, resolve, Target.leads, go_sem]⟩ hHeld ?_
        · intro w hSw
          try dsimp only at hSw
          skip
          go_simp
        try simp only [Act.put, List.setIfInBounds_toArray, List.set_cons_zero, List.set_cons_succ, List.getElem_toArray, List.getElem_cons_zero, List.getElem_cons_succ]
        refine wpAnyS_take (i := 4) (v := .pointer (some ⟨g, 2 * k + 1, none⟩)) rfl (noDefer_of (by kernel_rfl)) (by kernel_rfl) (by kernel_rfl) (by kernel_rfl) (fun _ _ _ h => h) ⟨Or.inl ⟨by kernel_rfl, ?_⟩, fun w => by first | rfl | simp [Oper.about, resolve, Target.leads, go_sem]⟩ hHeld ?_
        · intro w hSw
          try dsimp only at hSw
          skip
          go_simp
          all_goals first | omega | exact IntWalk.i64_in _ (by omega)
        try simp only [Act.put, List.setIfInBounds_toArray, List.set_cons_zero, List.set_cons_succ, List.getElem_toArray, List.getElem_cons_zero, List.getElem_cons_succ]
        refine wpAnyS_take (i := 5) (v := .int .i64 p.tt) rfl (noDefer_of (by kernel_rfl)) (by kernel_rfl) (by kernel_rfl) (by kernel_rfl) (fun _ _ _ h => h) ⟨Or.inl ⟨by kernel_rfl, ?_⟩, fun w => by first | rfl | simp [Oper.about, resolve, Target.leads, go_sem]⟩ hHeld ?_
        · intro w hSw
          try dsimp only at hSw
          obtain ⟨s0, s1⟩ := hSw
          go_simp
        try simp only [Act.put, List.setIfInBounds_toArray, List.set_cons_zero, List.set_cons_succ, List.getElem_toArray, List.getElem_cons_zero, List.getElem_cons_succ]
        refine wpAnyS_take (i := 6) (v := .agg #[.int .i64 p.fr, .int .i64 p.tt]) rfl (noDefer_of (by kernel_rfl)) (by kernel_rfl) (by kernel_rfl) (by kernel_rfl) (fun _ _ _ h => h) ⟨Or.inl ⟨by kernel_rfl, ?_⟩, fun w => by first | rfl | simp [Oper.about, resolve, Target.leads, go_sem]⟩ hHeld ?_
        · intro w hSw
          try dsimp only at hSw
          skip
          go_simp
        try simp only [Act.put, List.setIfInBounds_toArray, List.set_cons_zero, List.set_cons_succ, List.getElem_toArray, List.getElem_cons_zero, List.getElem_cons_succ]
        refine wpAnyS_ready (rs := [7]) (by kernel_rfl) (by simp) (fun j hj => ?_)
        obtain rfl : j = 7 := by simpa using hj
        refine wpOpIn_at rfl (by kernel_rfl) (fun K hK => ?_)
        clear hj
        unfold Oper.wpIn
        refine ⟨fun f hf => by simp [Oper.about] at hf, ?_⟩
        rw [Oper.semAt_plain _ _ _ (by intro c hc; cases hc)]
        go_simp
        refine hK _ _ ⟨?_, ?_⟩
        · exact ⟨A0, A1⟩
        clear hK K
        have hHeld : (fun W => W.cell? ⟨g, 2 * k, none⟩ = some (.int .i64 p.fr) ∧ W.cell? ⟨g, 2 * k + 1, none⟩ = some (.int .i64 p.tt) : World → Prop) (W.alloc (.cells #[.int .i64 0, .int .i64 0] 51)).drew := ⟨A0, A1⟩
        try simp only [Act.put, List.setIfInBounds_toArray, List.set_cons_zero, List.set_cons_succ, List.getElem_toArray, List.getElem_cons_zero, List.getElem_cons_succ]
        refine wpAnyS_ready (rs := [8]) (by kernel_rfl) (by simp) (fun j hj => ?_)
        obtain rfl : j = 8 := by simpa using hj
        refine wpOpIn_at rfl (by kernel_rfl) (fun K hK => ?_)
        clear hj
        unfold Oper.wpIn
        refine ⟨fun f hf => by simp [Oper.about] at hf, ?_⟩
        rw [Oper.semAt_plain _ _ _ (by intro c hc; cases hc)]
        go_simp
        refine hK _ _ ⟨?_, ?_⟩
        · exact ⟨D0, D1⟩
        clear hK K
        have hHeld : (fun W => W.cell? ⟨g, 2 * k, none⟩ = some (.int .i64 p.fr) ∧ W.cell? ⟨g, 2 * k + 1, none⟩ = some (.int .i64 p.tt) : World → Prop) (W.alloc (.cells #[.int .i64 p.fr, .int .i64 p.tt] 51)).drew := ⟨D0, D1⟩
        try simp only [Act.put, List.setIfInBounds_toArray, List.set_cons_zero, List.set_cons_succ, List.getElem_toArray, List.getElem_cons_zero, List.getElem_cons_succ]
        refine wpAnyS_done (by kernel_rfl) ?_ _
        clear A0 A1 D0 D1 hHeld c0 c1
        have d0 := hv.cell
        have bX := box_pt W p
        have hV0 := balloc0 W (.cells #[.int .i64 p.fr, .int .i64 p.tt] 51)
        have hvV := hv.alloc (.cells #[.int .i64 p.fr, .int .i64 p.tt] 51)
        have hrV := hrow.alloc (.cells #[.int .i64 p.fr, .int .i64 p.tt] 51)
        obtain ⟨p0, p1⟩ := bX _ (Below.refl _ _)
        obtain ⟨V, hVe⟩ : ∃ V, W.alloc (.cells #[.int .i64 p.fr, .int .i64 p.tt] 51) = V := ⟨_, rfl⟩
        rw [hVe] at bX hV0 hvV hrV p0 p1
        rw [hVe]
        have p0 : V.drew.cell? ⟨W.heap.size, 0, none⟩ = some (.int .i64 p.fr) := p0
        have p1 : V.drew.cell? ⟨W.heap.size, 1, none⟩ = some (.int .i64 p.tt) := p1
        clear hVe
        have hac := accP_length E pre
        have hWsz : w3.heap.size + 3 ≤ W.heap.size := hWS
        have hsn := accP_snoc (E := E) pre (x := ⟨k, hkm⟩) HP.out
        by_cases hpos : p.fr < p.tt
        · have hp0 : (0 : Int) < p.tt - p.fr := by omega
          rw [if_pos (show p.pos = true by simp [Pt.pos, hpos])] at hsn
          gi_wp2_with (first | ((first | refine ⟨trivial, fun _ => by omega, ?_⟩ | refine ⟨trivial, ?_⟩); gi_at_call 88; refine (show CallsIn (Fence.wide.inRound l) _ _ _ _ _ _ from callsIn_wide.2 (PL.out _)).mono ?_; rintro e w5 ⟨rfl, hb5⟩; have hB5 : Below V.heap.size V w5 := bnext (Below.refl V.heap.size V).drew hb5; have hv5 := boxed_below hvV hB5; have hr5 := owns_below hrV hB5; have d5 := hv5.cell; obtain ⟨x0, x1⟩ := bX w5 hB5; have hW5 := bnext hV0 hB5) | (gi_at_builtin; refine wpListIn_append_own _ rfl _ _ 42 rfl (w3.heap.size + 3) 51 i1 (.agg #[.int .i64 0, .int .i64 0]) 2 16 Try.underlying42 hi' hy0 hy1 hy2 rfl (by decide) v (accP E pre).length (ptVals (accP E pre)) rfl (hr5.alloc _) ⟨w5.heap.size, 0, none⟩ 1 1 [.int .i64 p.fr, .int .i64 p.tt] rfl rfl (cells_two _ _ _ _) (by simp [Value.oneCell']) (by unfold maxLen; omega) (by omega) (by have := hW5.size; have := hBW.size; have := hB2.size; have := hv5.lt; simp; omega) ?_; intro v' w6 hown' hgrow _; obtain ⟨g', cap', rfl⟩ := ownsRow_succ hown'; obtain ⟨q1, q2, q3, q4, q5, q6⟩ := appended3 (b := w3.heap.size + 1) (c := w3.heap.size + 1 + 1) hv5 hr5 (by have := hW5.size; omega) (by omega) ⟨by omega, by omega⟩ ⟨by omega, by omega⟩ hown' hgrow; have c6 := q1.cell; have f6 := q1.frozen))
          refine ⟨((keepsO_below hW5).trans q4).from _, (KpT.below hW5).t q6, ⟨_, q2, ?_, by have := q4.size; have := hW5.size; omega⟩, hBW.trans ((hW5.mono hBW.size).trans q5)⟩
          rw [hsn, List.length_append, ← ptVals_append]
          exact q3
        · have hp0 : ¬ (0 : Int) < p.tt - p.fr := by omega
          rw [if_neg (show ¬ p.pos = true by simp [Pt.pos]; omega), List.append_nil] at hsn
          gi_wp2_with ((first | refine ⟨trivial, fun _ => by omega, ?_⟩ | refine ⟨trivial, ?_⟩); gi_at_call 88; refine (show CallsIn (Fence.wide.inRound l) _ _ _ _ _ _ from callsIn_wide.2 (PL.out _)).mono ?_; rintro e w5 ⟨rfl, hb5⟩; have hB5 : Below V.heap.size V w5 := bnext (Below.refl V.heap.size V).drew hb5; have hv5 := boxed_below hvV hB5; have hr5 := owns_below hrV hB5; have d5 := hv5.cell; obtain ⟨x0, x1⟩ := bX w5 hB5; have hW5 := bnext hV0 hB5)
          refine ⟨(keepsO_below hW5).from _, KpT.below hW5, ⟨_, hv5, ?_, by have := hW5.size; omega⟩, hBW.trans (hW5.mono hBW.size)⟩
          rw [hsn]
          exact hr5
      case done =>
        rintro D ys W hD rfl ⟨⟨v, hv, hrow, _⟩, hBW⟩ hK
        have hr2 : accP E (List.finRange m) = partsF F L c := by
          subst hlenE
          rw [accP_all, HPF.out]
        rw [hr2] at hrow
        have d0 := hv.cell
        clear hr2
        gi_wp2
        refine ⟨by simp, .inl ⟨_, _, rfl, run_takeDeferred hK, ?_⟩⟩
        refine ⟨_, results_tmp rfl _ _ _, v, rfl, ownsRow_mono (ownsRow_putObj hrow _ hK rfl) (by have := E0.out.size; omega), ?_⟩
        have h1 : Below w.heap.size w W := E0.out.trans ((BW3.out.trans (hBW.mono BW3.out.size)).mono E0.out.size)
        exact h1.trans (belowK_b (w := w) (Nat.le_refl _) W D _ _ (by have := h1.size; have := hB2.size; omega) hK rfl rfl)
      case stop =>
        rintro D c pre W _ _ h _
        exact h.elim
end Go.Proofs.Ytplggghhhgmebaa
