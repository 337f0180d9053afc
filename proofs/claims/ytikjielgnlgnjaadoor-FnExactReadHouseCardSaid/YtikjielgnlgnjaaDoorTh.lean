/-
  TurnHouse: what it is, and the model's word.
-/
import Derived.Test.YtikjielgnlgnjaaDoorHoX
import Derived.Laws.AppendOwnNone
import Derived.Maps.AppendAt
import Derived.Deep.RegionHeld
namespace Go.Proofs.YtikjielgnlgnjaaDoor
open Go.ChangeShapes Go.WideShapes Go.ChangeAt Go.RowKit Go.Joins

/-- A row of numbers, and a text, from the k-th on and around. -/
def rotI (P : List Int) (k : Nat) : List Int := P.drop k ++ P.take k
def rotB (T : ByteArray) (k : Nat) : ByteArray := T.extract k T.size ++ T.extract 0 k
theorem rotI_length (P : List Int) (k : Nat) : (rotI P k).length = P.length := by
  unfold rotI
  rw [List.length_append, List.length_drop, List.length_take]
  omega
def thP (P : List Int) (T : ByteArray) (k : Int) : List Int := if hoK P T k 0 = 0 then rotI P k.toNat else []
def thT (P : List Int) (T : ByteArray) (k : Int) : ByteArray := if hoK P T k 0 = 0 then rotB T k.toNat else ⟨#[]⟩
theorem thP_length (P : List Int) (T : ByteArray) (k : Int) : (thP P T k).length ≤ 12 := by
  unfold thP
  split
  · rename_i h
    rw [rotI_length]
    exact (okHo_size (hoK_zero h).1).2.1
  · simp
/-- A plan and a code are handed back. -/
def ThAns (w : World) (P : List Int) (T : ByteArray) (k : Int) (e : Ending) (w' : World) : Prop := ∃ a cap, e = .returned (.tuple #[.agg #[.slice a (thP P T k).length cap, .string (thT P T k)], .int .i64 (hoK P T k 0)]) ∧ IntRes w.heap.size (thP P T k) a w' ∧ Below w.heap.size w w'
theorem intAt_drop {w : World} {b o : Nat} {P : List Int} (h : IntAt w b o P) (k : Nat) : IntAt w b (o + k) (P.drop k) := fun j z hz => by
  rw [List.getElem?_drop] at hz
  have := h (k + j) z hz
  rw [← Nat.add_assoc] at this
  exact this
theorem intAt_take {w : World} {b o : Nat} {P : List Int} (h : IntAt w b o P) (k : Nat) : IntAt w b o (P.take k) := fun j z hz => by
  rw [List.getElem?_take] at hz
  split at hz
  · exact h j z hz
  · cases hz
theorem int_cells {w : World} {b o : Nat} {P : List Int} (h : IntAt w b o P) : ∀ j u, (intVals P)[j]? = some u → w.cell? ((⟨b, o, none⟩ : Addr).add j) = some u := by
  intro j u hu
  rw [Addr.add_mid]
  unfold intVals at hu
  rw [List.getElem?_map] at hu
  obtain ⟨z, hz, rfl⟩ := Option.map_eq_some_iff.1 hu
  exact h j z hz
theorem int_of_own {w : World} {B : Nat} {g cap : Nat} {P : List Int} (h : w.ownsRow B 2 1 (.slice (some ⟨g, 0, none⟩) P.length cap) P.length (intVals P)) : IntAt w g 0 P := fun k z hk => by
  have hl := (List.getElem?_eq_some_iff.1 hk).1
  rw [Nat.zero_add, World.ownsRow.cellAt h k (by omega)]
  simp [intVals, hk]
theorem own_of_row {w : World} {B : Nat} {g cap : Nat} {P : List Int} (h : w.ownsRow B 2 1 (.slice (some ⟨g, 0, none⟩) P.length cap) P.length (intVals P)) : IntOwn B P g w := by
  refine ⟨own_base8 h, int_of_own h, fun j hj => ?_, ?_⟩
  · rw [Nat.zero_add]
    refine ⟨?_, World.ownsRow.frozenAt h j⟩
    rw [World.ownsRow.cellAt h j (by omega), List.getElem?_eq_getElem (by simpa [intVals] using hj)]
    rfl
  · obtain ⟨_, h0 | ⟨b, c, cs, hv, _, hh, _⟩⟩ := h
    · simp at h0
    · simp at hv
      rw [hv.1]
      exact (Array.getElem?_eq_some_iff.1 hh).1

theorem intVals_app (P Q : List Int) : intVals P ++ intVals Q = intVals (P ++ Q) := by simp [intVals]
theorem intVals_len (P : List Int) : (intVals P).length = P.length := by simp [intVals]
set_option maxRecDepth 100000 in
set_option maxHeartbeats 800000 in
/-- A copy of numbers in a new row. -/
theorem own2_spec (Q : List Int) (g o cp : Nat) (h1 : 1 ≤ Q.length) (hl : Q.length ≤ 1048576) (w : World) (h : IntAt w g o Q) :
    Calls Tryd.prog 70 #[.slice (some ⟨g, o, none⟩) Q.length cp] w fun e w' => ∃ g' cp', e = .returned (.slice (some ⟨g', 0, none⟩) Q.length cp') ∧ w'.ownsRow w.heap.size 2 1 (.slice (some ⟨g', 0, none⟩) Q.length cp') Q.length (intVals Q) ∧ Below w.heap.size w w' := by
  have HC := Lib.hid (int_cells (h.later (balloc0 w (.cells #[] 2))))
  have HS := Lib.hid (nums_start w).1
  have hql : (intVals Q).length = Q.length * 1 := by simp [intVals]
  have hone := Lib.hid (intVals_one Q)
  have m1 : Hid (0 + Q.length ≤ maxLen) := by show 0 + Q.length ≤ maxLen; unfold maxLen; omega
  obtain ⟨i0, hi, hz0, hz1, hz2⟩ := info_parts infoInt
  clear h
  go_enter Tryd.func70, Tryd.ntmps70
  go_wp2_with (at_builtin; (refine wpList_append_own _ rfl _ _ 22 rfl w.heap.size 2 i0 (.int .i64 0) 1 8 Tryd.underlying22 hi hz0 hz1 hz2 rfl (by decide) (.slice (some ⟨w.heap.size, 0, none⟩) 0 0) 0 [] rfl HS.out ⟨g, o, none⟩ Q.length cp (intVals Q) rfl hql HC.out hone.out m1.out (by omega) (by simp) ?_); intro v1 w1 hown hgrow _)
  have hown1 : w1.ownsRow w.heap.size 2 1 v1 Q.length (intVals Q) := by simpa using hown
  obtain ⟨g1, c1, hv⟩ := own_form8 hown1 (by omega)
  subst hv
  go_ret
  exact ⟨g1, c1, rfl, hown1, (balloc0 w _).grown hgrow (by simp) (fun k hk => by cases hk; exact Nat.le_refl _)⟩

theorem wp_append_any {P : Program} {o : Oper} {a : Act} {w w' : World} {K : Act → World → Prop} {Q : Exit → Act → World → Prop} {s x : Operand} {t : TypeId} {v v' : Value} {ad : Addr} {m c : Nat}
    (ho : o.op = .call { callee := .builtin .append, args := #[s, x], argTypes := #[t, t] }) (hs : a.eval s = v) (hx : a.eval x = .slice (some ad) m c) (hr : (Builtin.append_ #[t, t] o.type #[v, .slice (some ad) m c]).run P w = .ok v' w') (h : K (a.put o.dst v') w') : Oper.wp P o a w K Q := by
  unfold Oper.wp execOp
  simp only [ho, resolve, invoke, builtin, Sem.run_bind, Sem.run_pure, Result.andThen_ok, List.map_toArray, List.map_cons, List.map_nil, hs, hx, hr]
  exact h
theorem size_drewT (w : World) : w.drew.heap.size = w.heap.size := rfl
theorem two_set {w : World} {b : Nat} (r0 : (w.cell? ⟨b, 0, none⟩).isSome = true) (r1 : (w.cell? ⟨b, 1, none⟩).isSome = true) (v0 v1 : Value) :
    ((w.setCell ⟨b, 0, none⟩ v0).setCell ⟨b, 1, none⟩ v1).cell? ⟨b, 0, none⟩ = some v0 ∧ ((w.setCell ⟨b, 0, none⟩ v0).setCell ⟨b, 1, none⟩ v1).cell? ⟨b, 1, none⟩ = some v1 := by
  refine ⟨?_, ?_⟩
  · rw [World.cell?_setCell_other _ _ _ _ (by simp)]
    exact World.cell?_setCell_same' _ _ _ r0
  · exact World.cell?_setCell_same' _ _ _ (by rw [World.cell?_setCell_other _ _ _ _ (by simp)]; exact r1)
theorem two_below {n b : Nat} {w W : World} (h : Below n w W) (hb : n ≤ b) (v0 v1 : Value) : Below n w ((W.setCell ⟨b, 0, none⟩ v0).setCell ⟨b, 1, none⟩ v1) :=
  (h.setCell (p := ⟨b, 0, none⟩) hb v0).setCell (p := ⟨b, 1, none⟩) hb v1
/-- A plan is about to be stored in a box. -/
structure ThEnd (w W : World) (bx g : Nat) (R : List Int) : Prop where
  hb : W.heap[bx]? = some (.cells #[.slice none 0 0, .string ⟨#[]⟩] 27 (0, 0))
  hr : W.heap[w.heap.size + 1]? = some (.cells #[.slice none 0 0, .string ⟨#[]⟩] 27 (0, 0))
  ho : IntOwn w.heap.size R g W
  n1 : g ≠ bx
  n2 : g ≠ w.heap.size + 1
  n3 : bx ≠ w.heap.size + 1
  hB : Below w.heap.size w W
  hbx : w.heap.size ≤ bx
theorem ThEnd.facts {w W : World} {bx g : Nat} {R : List Int} (h : ThEnd w W bx g R) : W.cell? ⟨bx, 0, none⟩ = some (.slice none 0 0) ∧ W.cell? ⟨bx, 1, none⟩ = some (.string ⟨#[]⟩) ∧ W.frozen? ⟨bx, 0, none⟩ = false ∧ W.frozen? ⟨bx, 1, none⟩ = false :=
  ⟨(cell_of_block h.hb 0).trans rfl, (cell_of_block h.hb 1).trans rfl, unfrozen_of_block h.hb 0, unfrozen_of_block h.hb 1⟩
theorem cell_two {W : World} {b c i : Nat} (h : c ≠ b) (v0 v1 : Value) : ((W.setCell ⟨b, 0, none⟩ v0).setCell ⟨b, 1, none⟩ v1).cell? ⟨c, i, none⟩ = W.cell? ⟨c, i, none⟩ := by
  rw [World.cell?_setCell_other _ _ _ _ (fun e => h (by cases e; rfl)), World.cell?_setCell_other _ _ _ _ (fun e => h (by cases e; rfl))]
theorem row_block {w : World} {B g n m cap : Nat} {xs : List Value} (h : w.ownsRow B 2 1 (.slice (some ⟨g, 0, none⟩) m cap) n xs) : ∃ cur, w.heap[g]? = some (.cells cur 2 (0, 0)) := by
  rcases h.2 with ⟨e, _⟩ | ⟨g', cap', cur, e, hB, hg, _⟩
  · cases e
  · cases e
    exact ⟨cur, hg⟩
theorem set_block (W : World) (b i c : Nat) (v : Value) (h : c ≠ b) : (W.setCell ⟨b, i, none⟩ v).heap[c]? = W.heap[c]? := Below.heap_setCell _ _ _ c (fun e => h (by simpa using e))
theorem ThEnd.next {w W : World} {bx g : Nat} {R : List Int} (h : ThEnd w W bx g R) (v0 v1 : Value) :
    let X := (W.setCell ⟨bx, 0, none⟩ v0).setCell ⟨bx, 1, none⟩ v1
    X.cell? ⟨bx, 0, none⟩ = some v0 ∧ X.cell? ⟨bx, 1, none⟩ = some v1 ∧ X.cell? ⟨w.heap.size + 1, 0, none⟩ = some (.slice none 0 0) ∧ X.cell? ⟨w.heap.size + 1, 1, none⟩ = some (.string ⟨#[]⟩) ∧ X.frozen? ⟨w.heap.size + 1, 0, none⟩ = false ∧ X.frozen? ⟨w.heap.size + 1, 1, none⟩ = false ∧
      IntOwn w.heap.size R g X ∧ Below w.heap.size w X := by
  have e1 := (set_block (W.setCell ⟨bx, 0, none⟩ v0) bx 1 (w.heap.size + 1) v1 (fun e => h.n3 e.symm)).trans ((set_block W bx 0 (w.heap.size + 1) v0 (fun e => h.n3 e.symm)).trans h.hr)
  obtain ⟨x0, x1, _, _⟩ := h.facts
  obtain ⟨g0, g1⟩ := two_set (b := bx) (w := W) (by rw [x0]; rfl) (by rw [x1]; rfl) v0 v1
  exact ⟨g0, g1, (cell_of_block e1 0).trans rfl, (cell_of_block e1 1).trans rfl, unfrozen_of_block e1 0, unfrozen_of_block e1 1, (h.ho.set h.n1).set h.n1, two_below h.hB h.hbx _ _⟩
set_option maxRecDepth 100000 in
set_option maxHeartbeats 6400000 in
theorem turnHouse_spec (P : List Int) (T : ByteArray) (a : Option Addr) (cap : Nat) (hcap : P.length ≤ cap) (hl : P.length ≤ 1048576) (hs : T.size ≤ 1048576) (k : Int) (w : World) (ha : IntArg w a P) :
    Calls Tryd.prog 41 #[.agg #[.slice a P.length cap, .string T], .int .i64 k] w (ThAns w P T k) := by
  obtain ⟨W0, hW⟩ : ∃ W0, (w.alloc (.cells #[.slice a P.length cap, .string T] 27)).alloc (.cells #[.slice none 0 0, .string ⟨#[]⟩] 27) = W0 := ⟨_, rfl⟩
  have E0 : Hid (Below w.heap.size w W0) := by show Below w.heap.size w W0; rw [← hW]; exact balloc (balloc0 _ _) _
  have z0 : W0.heap.size = w.heap.size + 2 := by rw [← hW]; simp
  have hb0 : W0.heap[w.heap.size]? = some (.cells #[.slice a P.length cap, .string T] 27 (0, 0)) := by
    rw [← hW, Below.heap_alloc _ _ _ (by simp)]
    exact heap_alloc_new w _
  have hb1 : W0.heap[w.heap.size + 1]? = some (.cells #[.slice none 0 0, .string ⟨#[]⟩] 27 (0, 0)) := by
    rw [← hW]
    have := heap_alloc_new (w.alloc (.cells #[.slice a P.length cap, .string T] 27)) (.cells #[.slice none 0 0, .string ⟨#[]⟩] 27)
    simpa using this
  have HBX := Lib.hid hb0
  have HRX := Lib.hid hb1
  have C := Lib.hid (okH_spec P T a cap hl hs w.heap.size W0 ⟨(cell_of_block hb0 0).trans rfl, (cell_of_block hb0 1).trans rfl⟩ (ha.later E0.out))
  have HW := Lib.hid hW
  have HA := Lib.hid (ha.later E0.out)
  clear hW ha hb0 hb1
  rcases hoK_cases P T k 0 with ⟨h1, h4⟩ | ⟨h1, h2, h4⟩ | ⟨h1, h2, h3, h4⟩ | ⟨h1, h2, h3, h4⟩
  · have e1 : thP P T k = [] := by unfold thP; rw [h4]; rfl
    have e2 : thT P T k = ⟨#[]⟩ := by unfold thT; rw [h4]; rfl
    unfold ThAns
    rw [e1, e2, h4]
    rw [h1] at C
    clear e1 e2 h1 h4
    go_enter Tryd.func41, Tryd.ntmps41
    go_wp2_with fail
    rw [HW.out]
    refine C.out.mono ?_
    rintro e w1 ⟨rfl, hb1⟩
    have r1 := (hb1.block (w.heap.size + 1) (by omega)).trans HRX.out
    have x0 : w1.cell? ⟨w.heap.size + 1, 0, none⟩ = some (.slice none 0 0) := (cell_of_block r1 0).trans rfl
    have x1 : w1.cell? ⟨w.heap.size + 1, 1, none⟩ = some (.string ⟨#[]⟩) := (cell_of_block r1 1).trans rfl
    have y0 : w1.frozen? ⟨w.heap.size + 1, 0, none⟩ = false := unfrozen_of_block r1 0
    have y1 : w1.frozen? ⟨w.heap.size + 1, 1, none⟩ = false := unfrozen_of_block r1 1
    have B1 := Lib.hid (bnext E0.out hb1)
    clear hb1 r1
    go_wp2
    obtain ⟨g0, g1⟩ := two_set (b := w.heap.size + 1) (w := w1) (by rw [x0]; rfl) (by rw [x1]; rfl) (.slice none 0 0) (.string ⟨#[]⟩)
    refine bodyPost_ret (v := .tuple #[.agg #[.slice none 0 0, .string ⟨#[]⟩], .int .i64 1]) (by simp [results, Tryd.results41, go_sem, g0, g1]) rfl ⟨none, 0, rfl, .inl rfl, two_below B1.out (by omega) _ _⟩
  · have e1 : thP P T k = [] := by unfold thP; rw [h4]; rfl
    have e2 : thT P T k = ⟨#[]⟩ := by unfold thT; rw [h4]; rfl
    unfold ThAns
    rw [e1, e2, h4]
    rw [h1] at C
    have IN : Hid (∀ wx, Calls Tryd.prog 69 #[.int .i64 k, .int .i64 0, .int .i64 ((P.length : Int) - 1)] wx fun e w' => e = .returned (.bool false) ∧ wx = w') := fun wx => by rw [← inB_false.2 h2]; exact in_any _ _ _ wx
    clear e1 e2 h1 h4 h2
    go_enter Tryd.func41, Tryd.ntmps41
    go_wp2_with fail
    rw [HW.out]
    refine C.out.mono ?_
    rintro e w1 ⟨rfl, hb1⟩
    have r1 := (hb1.block (w.heap.size + 1) (by omega)).trans HRX.out
    have r0 := (hb1.block w.heap.size (by omega)).trans HBX.out
    have d0 : w1.cell? ⟨w.heap.size, 0, none⟩ = some (.slice a P.length cap) := (cell_of_block r0 0).trans rfl
    have x0 : w1.cell? ⟨w.heap.size + 1, 0, none⟩ = some (.slice none 0 0) := (cell_of_block r1 0).trans rfl
    have x1 : w1.cell? ⟨w.heap.size + 1, 1, none⟩ = some (.string ⟨#[]⟩) := (cell_of_block r1 1).trans rfl
    have y0 : w1.frozen? ⟨w.heap.size + 1, 0, none⟩ = false := unfrozen_of_block r1 0
    have y1 : w1.frozen? ⟨w.heap.size + 1, 1, none⟩ = false := unfrozen_of_block r1 1
    have B1 := Lib.hid (bnext E0.out hb1)
    clear hb1 r1 r0
    go_wp2_with fail
    refine (IN.out _).mono ?_
    rintro e w2 ⟨rfl, rfl⟩
    go_wp2
    obtain ⟨g0, g1⟩ := two_set (b := w.heap.size + 1) (w := w1) (by rw [x0]; rfl) (by rw [x1]; rfl) (.slice none 0 0) (.string ⟨#[]⟩)
    refine bodyPost_ret (v := .tuple #[.agg #[.slice none 0 0, .string ⟨#[]⟩], .int .i64 2]) (by simp [results, Tryd.results41, go_sem, g0, g1]) rfl ⟨none, 0, rfl, .inl rfl, two_below B1.out (by omega) _ _⟩
  · omega
  obtain ⟨n, rfl⟩ := Int.eq_ofNat_of_zero_le h2.1
  have hoks := okHo_size h1
  have e1 : thP P T (n : Int) = rotI P n := by unfold thP; rw [h4]; rfl
  have e2 : thT P T (n : Int) = rotB T n := by unfold thT; rw [h4]; rfl
  unfold ThAns
  rw [e1, e2, h4, rotI_length]
  rw [h1] at C
  have IN : Hid (∀ wx, Calls Tryd.prog 69 #[.int .i64 (n : Int), .int .i64 0, .int .i64 ((P.length : Int) - 1)] wx fun e w' => e = .returned (.bool true) ∧ wx = w') := fun wx => by rw [← inB_true.2 h2]; exact in_any _ _ _ wx
  obtain ⟨b, o, rfl⟩ : ∃ b o, a = some ⟨b, o, none⟩ := by
    obtain ⟨b, o, _, h, _⟩ := HA.out.at (show 0 < P.length by omega)
    exact ⟨b, o, h⟩
  have HAT : Hid (IntAt W0 b o P) := by
    obtain ⟨b2, o2, _, h, _, hat⟩ := HA.out.at (show 0 < P.length by omega)
    cases h
    exact hat
  have hn1 : n < P.length := by omega
  have hn2 : (n : Int) ≤ (P.length : Int) := by omega
  have hn0 : (0 : Int) ≤ (n : Int) := by omega
  have hTs : T.size = P.length := hoks.2.2.1
  have hT1 : (n : Int) ≤ (T.size : Int) := by omega
  have hc2 : (P.length : Int) ≤ (cap : Int) := by omega
  have hc3 : (n : Int) ≤ (cap : Int) := by omega
  have h12 := hoks.2.1
  have hcn : ¬ cap = 0 := by omega
  have hcn2 : ¬ cap = n := by omega
  have hT12 : T.size ≤ 12 := by omega
  clear e1 e2 h1 h4 h2 h3 hoks hTs
  have CO : Hid (∀ X, IntAt X b o P → Calls Tryd.prog 70 #[.slice (some ⟨b, o + n, none⟩) (P.length - n) (cap - n)] X fun e w' => ∃ g' cp', e = .returned (.slice (some ⟨g', 0, none⟩) (P.length - n) cp') ∧ w'.ownsRow X.heap.size 2 1 (.slice (some ⟨g', 0, none⟩) (P.length - n) cp') (P.length - n) (intVals (P.drop n)) ∧ Below X.heap.size X w') := fun X hX => by
    have hl2 : (P.drop n).length = P.length - n := List.length_drop
    have := own2_spec (P.drop n) b (o + n) (cap - n) (by omega) (by omega) X (intAt_drop hX n)
    rw [hl2] at this
    exact this
  have HTL : Hid ((intVals (P.take n)).length = n * 1) := by show _ = _; rw [intVals_len, List.length_take]; omega
  have HML : Hid (P.length - n + n ≤ maxLen) := by show _ ≤ _; unfold maxLen; omega
  have HR : Hid (intVals (P.drop n) ++ intVals (P.take n) = intVals (rotI P n)) := intVals_app _ _
  have HLN : Hid (P.length - n + n = P.length) := by show _ = _; omega
  obtain ⟨i0, hi, hz0, hz1, hz2⟩ := info_parts infoInt
  go_enter Tryd.func41, Tryd.ntmps41
  go_wp2_with fail
  rw [HW.out]
  refine C.out.mono ?_
  rintro e w1 ⟨rfl, hb1⟩
  have r1 := Lib.hid ((hb1.block (w.heap.size + 1) (by omega)).trans HRX.out)
  have r0 := (hb1.block w.heap.size (by omega)).trans HBX.out
  have d0 : w1.cell? ⟨w.heap.size, 0, none⟩ = some (.slice (some ⟨b, o, none⟩) P.length cap) := (cell_of_block r0 0).trans rfl
  have d1 : w1.cell? ⟨w.heap.size, 1, none⟩ = some (.string T) := (cell_of_block r0 1).trans rfl
  have B1 := Lib.hid (bnext E0.out hb1)
  have hat1 := Lib.hid (HAT.out.later hb1)
  have zz := hb1.size
  have zz2 : w.heap.size ≤ w1.heap.size := by omega
  clear hb1 r0
  go_wp2_with fail
  refine (IN.out _).mono ?_
  rintro e w2 ⟨rfl, rfl⟩
  go_wp2_with fail
  refine wp_region_held_drew (S := fun X => (X.cell? ⟨w.heap.size, 0, none⟩ = some (.slice (some ⟨b, o, none⟩) P.length cap) ∧ X.cell? ⟨w.heap.size, 1, none⟩ = some (.string T)) ∧ Below w1.heap.size w1 X) (by kernel_rfl) ?_ (fun hHeld => ?_)
  · exact ⟨⟨d0, d1⟩, (Below.refl _ _).drew⟩
  refine wpAnyH_take (i := 0) (v := .pointer (some ⟨w.heap.size, 0, none⟩)) rfl (by kernel_rfl) (by kernel_rfl) (by kernel_rfl) (fun _ _ _ h => h) (Or.inl ⟨by kernel_rfl, ?_⟩) (by assumption) ?_
  · intro w hSw
    try dsimp only at hSw
    skip
    go_simp
  try simp only [Act.put, List.setIfInBounds_toArray, List.set_cons_zero, List.set_cons_succ, List.getElem_toArray, List.getElem_cons_zero]
  refine wpAnyH_take (i := 1) (v := .slice (some ⟨b, o, none⟩) P.length cap) rfl (by kernel_rfl) (by kernel_rfl) (by kernel_rfl) (fun _ _ _ h => h) (Or.inl ⟨by kernel_rfl, ?_⟩) (by assumption) ?_
  · intro w hSw
    try dsimp only at hSw
    obtain ⟨⟨hS0, hS1⟩, hS2⟩ := hSw
    go_simp
  try simp only [Act.put, List.setIfInBounds_toArray, List.set_cons_zero, List.set_cons_succ, List.getElem_toArray, List.getElem_cons_zero, List.getElem_cons_succ]
  refine wpAnyH_take (i := 2) (v := .int .i64 (n : Int)) rfl (by kernel_rfl) (by kernel_rfl) (by kernel_rfl) (fun _ _ _ h => h) (Or.inl ⟨by kernel_rfl, ?_⟩) (by assumption) ?_
  · intro w hSw
    try dsimp only at hSw
    skip
    go_simp
  try simp only [Act.put, List.setIfInBounds_toArray, List.set_cons_zero, List.set_cons_succ, List.getElem_toArray, List.getElem_cons_zero, List.getElem_cons_succ]
  refine wpAnyH_take (i := 3) (v := .slice (some ⟨b, o + n, none⟩) (P.length - n) (cap - n)) rfl (by kernel_rfl) (by kernel_rfl) (by kernel_rfl) (fun _ _ _ h => h) (Or.inl ⟨by kernel_rfl, ?_⟩) (by assumption) ?_
  · intro w hSw
    try dsimp only at hSw
    skip
    go_simp
  try simp only [Act.put, List.setIfInBounds_toArray, List.set_cons_zero, List.set_cons_succ, List.getElem_toArray, List.getElem_cons_zero, List.getElem_cons_succ]
  refine wpAnyH_take (i := 5) (v := .pointer (some ⟨w.heap.size, 0, none⟩)) rfl (by kernel_rfl) (by kernel_rfl) (by kernel_rfl) (fun _ _ _ h => h) (Or.inl ⟨by kernel_rfl, ?_⟩) (by assumption) ?_
  · intro w hSw
    try dsimp only at hSw
    skip
    go_simp
  try simp only [Act.put, List.setIfInBounds_toArray, List.set_cons_zero, List.set_cons_succ, List.getElem_toArray, List.getElem_cons_zero, List.getElem_cons_succ]
  refine wpAnyH_take (i := 6) (v := .slice (some ⟨b, o, none⟩) P.length cap) rfl (by kernel_rfl) (by kernel_rfl) (by kernel_rfl) (fun _ _ _ h => h) (Or.inl ⟨by kernel_rfl, ?_⟩) (by assumption) ?_
  · intro w hSw
    try dsimp only at hSw
    obtain ⟨⟨hS0, hS1⟩, hS2⟩ := hSw
    go_simp
  try simp only [Act.put, List.setIfInBounds_toArray, List.set_cons_zero, List.set_cons_succ, List.getElem_toArray, List.getElem_cons_zero, List.getElem_cons_succ]
  refine wpAnyH_take (i := 7) (v := .int .i64 (n : Int)) rfl (by kernel_rfl) (by kernel_rfl) (by kernel_rfl) (fun _ _ _ h => h) (Or.inl ⟨by kernel_rfl, ?_⟩) (by assumption) ?_
  · intro w hSw
    try dsimp only at hSw
    skip
    go_simp
  try simp only [Act.put, List.setIfInBounds_toArray, List.set_cons_zero, List.set_cons_succ, List.getElem_toArray, List.getElem_cons_zero, List.getElem_cons_succ]
  refine wpAnyH_take (i := 8) (v := .slice (some ⟨b, o, none⟩) n cap) rfl (by kernel_rfl) (by kernel_rfl) (by kernel_rfl) (fun _ _ _ h => h) (Or.inl ⟨by kernel_rfl, ?_⟩) (by assumption) ?_
  · intro w hSw
    try dsimp only at hSw
    skip
    go_simp
  try simp only [Act.put, List.setIfInBounds_toArray, List.set_cons_zero, List.set_cons_succ, List.getElem_toArray, List.getElem_cons_zero, List.getElem_cons_succ]
  refine wpAnyH_take (i := 10) (v := .pointer (some ⟨w.heap.size, 1, none⟩)) rfl (by kernel_rfl) (by kernel_rfl) (by kernel_rfl) (fun _ _ _ h => h) (Or.inl ⟨by kernel_rfl, ?_⟩) (by assumption) ?_
  · intro w hSw
    try dsimp only at hSw
    skip
    go_simp
  try simp only [Act.put, List.setIfInBounds_toArray, List.set_cons_zero, List.set_cons_succ, List.getElem_toArray, List.getElem_cons_zero, List.getElem_cons_succ]
  refine wpAnyH_take (i := 11) (v := .string T) rfl (by kernel_rfl) (by kernel_rfl) (by kernel_rfl) (fun _ _ _ h => h) (Or.inl ⟨by kernel_rfl, ?_⟩) (by assumption) ?_
  · intro w hSw
    try dsimp only at hSw
    obtain ⟨⟨hS0, hS1⟩, hS2⟩ := hSw
    go_simp
  try simp only [Act.put, List.setIfInBounds_toArray, List.set_cons_zero, List.set_cons_succ, List.getElem_toArray, List.getElem_cons_zero, List.getElem_cons_succ]
  refine wpAnyH_take (i := 12) (v := .int .i64 (n : Int)) rfl (by kernel_rfl) (by kernel_rfl) (by kernel_rfl) (fun _ _ _ h => h) (Or.inl ⟨by kernel_rfl, ?_⟩) (by assumption) ?_
  · intro w hSw
    try dsimp only at hSw
    skip
    go_simp
  try simp only [Act.put, List.setIfInBounds_toArray, List.set_cons_zero, List.set_cons_succ, List.getElem_toArray, List.getElem_cons_zero, List.getElem_cons_succ]
  refine wpAnyH_take (i := 13) (v := .string (T.extract n T.size)) rfl (by kernel_rfl) (by kernel_rfl) (by kernel_rfl) (fun _ _ _ h => h) (Or.inl ⟨by kernel_rfl, ?_⟩) (by assumption) ?_
  · intro w hSw
    try dsimp only at hSw
    skip
    go_simp
  try simp only [Act.put, List.setIfInBounds_toArray, List.set_cons_zero, List.set_cons_succ, List.getElem_toArray, List.getElem_cons_zero, List.getElem_cons_succ]
  refine wpAnyH_take (i := 14) (v := .pointer (some ⟨w.heap.size, 1, none⟩)) rfl (by kernel_rfl) (by kernel_rfl) (by kernel_rfl) (fun _ _ _ h => h) (Or.inl ⟨by kernel_rfl, ?_⟩) (by assumption) ?_
  · intro w hSw
    try dsimp only at hSw
    skip
    go_simp
  try simp only [Act.put, List.setIfInBounds_toArray, List.set_cons_zero, List.set_cons_succ, List.getElem_toArray, List.getElem_cons_zero, List.getElem_cons_succ]
  refine wpAnyH_take (i := 15) (v := .string T) rfl (by kernel_rfl) (by kernel_rfl) (by kernel_rfl) (fun _ _ _ h => h) (Or.inl ⟨by kernel_rfl, ?_⟩) (by assumption) ?_
  · intro w hSw
    try dsimp only at hSw
    obtain ⟨⟨hS0, hS1⟩, hS2⟩ := hSw
    go_simp
  try simp only [Act.put, List.setIfInBounds_toArray, List.set_cons_zero, List.set_cons_succ, List.getElem_toArray, List.getElem_cons_zero, List.getElem_cons_succ]
  refine wpAnyH_take (i := 16) (v := .int .i64 (n : Int)) rfl (by kernel_rfl) (by kernel_rfl) (by kernel_rfl) (fun _ _ _ h => h) (Or.inl ⟨by kernel_rfl, ?_⟩) (by assumption) ?_
  · intro w hSw
    try dsimp only at hSw
    skip
    go_simp
  try simp only [Act.put, List.setIfInBounds_toArray, List.set_cons_zero, List.set_cons_succ, List.getElem_toArray, List.getElem_cons_zero, List.getElem_cons_succ]
  refine wpAnyH_take (i := 17) (v := .string (T.extract 0 n)) rfl (by kernel_rfl) (by kernel_rfl) (by kernel_rfl) (fun _ _ _ h => h) (Or.inl ⟨by kernel_rfl, ?_⟩) (by assumption) ?_
  · intro w hSw
    try dsimp only at hSw
    skip
    go_simp
  try simp only [Act.put, List.setIfInBounds_toArray, List.set_cons_zero, List.set_cons_succ, List.getElem_toArray, List.getElem_cons_zero, List.getElem_cons_succ]
  refine wpAnyH_take (i := 18) (v := .string (T.extract n T.size ++ T.extract 0 n)) rfl (by kernel_rfl) (by kernel_rfl) (by kernel_rfl) (fun _ _ _ h => h) (Or.inl ⟨by kernel_rfl, ?_⟩) (by assumption) ?_
  · intro w hSw
    try dsimp only at hSw
    skip
    go_simp
    omega
  try simp only [Act.put, List.setIfInBounds_toArray, List.set_cons_zero, List.set_cons_succ, List.getElem_toArray, List.getElem_cons_zero, List.getElem_cons_succ]
  refine wpAnyH_ready (rs := [4, 20]) (by kernel_rfl) (by simp) ?_
  refine AllReadyH.cons rfl (fun K hK => ?_) (AllReadyH.cons rfl (fun K hK => ?_) AllReadyH.nil)
  · go_simp
    go_at_call 70
    refine (CO.out _ (hat1.out.later hHeld.2)).mono ?_
    rintro e w3 ⟨g1, cp1, rfl, ho3, hb3⟩
    have hzz3 := hb3.size
    have hz3 : w1.heap.size ≤ w3.heap.size := by
      have h := hb3.size
      first | exact h | (simp at h; omega)
    refine hK.out _ _ ?_ (fun hHeld' => ?_)
    · exact ⟨⟨(hb3.cell (World.block_lt_of_cell? _ _ hHeld.1.1)).trans hHeld.1.1, (hb3.cell (World.block_lt_of_cell? _ _ hHeld.1.2)).trans hHeld.1.2⟩, bnext hHeld.2 hb3⟩
    clear hK K hHeld
    have hHeld := hHeld'
    clear hHeld'
    try simp only [Act.put, List.setIfInBounds_toArray, List.set_cons_zero, List.set_cons_succ, List.getElem_toArray, List.getElem_cons_zero, List.getElem_cons_succ]
    refine wpAnyH_ready (rs := [9, 20]) (by kernel_rfl) (by simp) ?_
    refine AllReadyH.cons rfl (fun K hK => ?_) (AllReadyH.cons rfl (fun K hK => ?_) AllReadyH.nil)
    · rw [if_pos (by kernel_rfl)]
      obtain ⟨v4, w4, hr4, hO4, hG4, _, _⟩ := run_append_own_at (P := Tryd.prog) w3 w1.drew.heap.size 22 22 2 i0 (.int .i64 0) 1 8 Tryd.underlying22 hi hz0 hz1 hz2 rfl (by decide) (.slice (some ⟨g1, 0, none⟩) (P.length - n) cp1) (P.length - n) (intVals (P.drop n)) ho3 ⟨b, o, none⟩ n cap (intVals (P.take n)) HTL.out (int_cells (intAt_take (hat1.out.later hHeld.2) n)) (intVals_one _) HML.out (by first | omega | exact hzz3) (by first | (simp; omega) | exact hzz3)
      refine wp_append_any (s := .tmp 24) (x := .tmp 28) (t := 22) rfl rfl rfl hr4 ?_
      obtain ⟨g4, cp4, rfl⟩ := own_form8 hO4 (by omega)
      have hge4 := own_base8 hO4
      have hge1 := own_base8 ho3
      have hlt1 := (World.ownsRow.lt ho3 g1 rfl).2
      have hzX := hHeld.2.size
      have hg1 : w1.heap.size ≤ g1 := by first | exact hge1 | (have := hge1; simp at this; omega)
      have hg4 : w1.heap.size ≤ g4 := by first | exact hge4 | (have := hge4; simp at this; omega)
      refine hK.out _ _ ?_ (fun hHeld' => ?_)
      · exact ⟨⟨(World.cell?_of_block (hG4.block w.heap.size (by omega) (fun e => absurd (Option.some.inj e) (by show ¬ (w.heap.size = g1); omega)))).trans hHeld.1.1, (World.cell?_of_block (hG4.block w.heap.size (by omega) (fun e => absurd (Option.some.inj e) (by show ¬ (w.heap.size = g1); omega)))).trans hHeld.1.2⟩, hHeld.2.grown hG4 hzX (fun r e => by have h := Option.some.inj e; subst h; show w1.heap.size ≤ g1; omega)⟩
      have hb4 := hHeld'.2
      clear hK K hHeld
      have hHeld := hHeld'
      clear hHeld'
      try simp only [Act.put, List.setIfInBounds_toArray, List.set_cons_zero, List.set_cons_succ, List.getElem_toArray, List.getElem_cons_zero, List.getElem_cons_succ]
      refine wpAnyH_take (i := 19) (v := .agg #[.slice (some ⟨g4, 0, none⟩) (P.length - n + n) cp4, .string (T.extract n T.size ++ T.extract 0 n)]) rfl (by kernel_rfl) (by kernel_rfl) (by kernel_rfl) (fun _ _ _ h => h) (Or.inl ⟨by kernel_rfl, ?_⟩) (by assumption) ?_
      · intro w hSw
        try dsimp only at hSw
        skip
        go_simp
      try simp only [Act.put, List.setIfInBounds_toArray, List.set_cons_zero, List.set_cons_succ, List.getElem_toArray, List.getElem_cons_zero, List.getElem_cons_succ]
      refine wpAnyH_ready (rs := [20]) (by kernel_rfl) (by simp) ?_
      refine AllReadyH.cons rfl (fun K hK => ?_) AllReadyH.nil
      go_simp
      refine hK.out _ _ ?_ (fun hHeld' => ?_)
      · exact ⟨⟨(World.cell?_alloc_lt _ _ _ (World.block_lt_of_cell? _ _ hHeld.1.1)).trans hHeld.1.1, (World.cell?_alloc_lt _ _ _ (World.block_lt_of_cell? _ _ hHeld.1.2)).trans hHeld.1.2⟩, hHeld.2.alloc hHeld.2.size _⟩
      clear hK K hHeld
      have hHeld := hHeld'
      clear hHeld'
      try simp only [Act.put, List.setIfInBounds_toArray, List.set_cons_zero, List.set_cons_succ, List.getElem_toArray, List.getElem_cons_zero, List.getElem_cons_succ]
      have HE : Hid (ThEnd w (w4.alloc (.cells #[.slice none 0 0, .string ⟨#[]⟩] 27)) (w4.heap.size) g4 (rotI P n)) := by
        show ThEnd _ _ _ _ _
        have hrr : w4.heap[w.heap.size + 1]? = some (.cells #[.slice none 0 0, .string ⟨#[]⟩] 27 (0, 0)) := (hG4.block (w.heap.size + 1) (by omega) (fun e => absurd (Option.some.inj e) (by show ¬ (w.heap.size + 1 = g1); omega))).trans ((hb3.block (w.heap.size + 1) (by simp only [size_drewT]; omega)).trans r1.out)
        have ho4 := own_of_row (P := rotI P n) (g := g4) (cap := cp4) (B := w1.drew.heap.size) (by have h := hO4; rw [HR.out, show P.length - n + n = (rotI P n).length by rw [rotI_length]; exact HLN.out] at h; exact h)
        have hlt4 := ho4.2.2.2
        exact ⟨heap_alloc_new w4 _, (Below.heap_alloc w4 _ _ (by omega)).trans hrr, IntOwn.later ⟨by omega, ho4.2⟩ (balloc0 _ _), by omega, by omega, by omega, (B1.out.trans (hb4.mono zz2)).alloc (by omega) _, by omega⟩
      obtain ⟨WX, hWX⟩ : ∃ WX, (w4.alloc (.cells #[.slice none 0 0, .string ⟨#[]⟩] 27)) = WX := ⟨_, rfl⟩
      rw [hWX] at HE hHeld ⊢
      clear hWX
      obtain ⟨x0, x1, y0, y1⟩ := HE.out.facts
      refine wpAnyH_ready (rs := [21]) (by kernel_rfl) (by simp) ?_
      refine AllReadyH.cons rfl (fun K hK => ?_) AllReadyH.nil
      go_simp
      obtain ⟨q0, q1, q2, q3, q4, q5, q6, q7⟩ := HE.out.next (.slice (some ⟨g4, 0, none⟩) (P.length - n + n) cp4) (.string (T.extract n T.size ++ T.extract 0 n))
      have HQ := Lib.hid q6
      have HZ := Lib.hid q7
      refine hK.out _ _ ?_ (fun hHeld' => ?_)
      · have z4 := hb4.size
        exact ⟨⟨(cell_two (by omega) _ _).trans hHeld.1.1, (cell_two (by omega) _ _).trans hHeld.1.2⟩, two_below hHeld.2 (by omega) _ _⟩
      clear hK K hHeld hHeld' x0 x1 y0 y1 q6 q7
      try simp only [Act.put, List.setIfInBounds_toArray, List.set_cons_zero, List.set_cons_succ, List.getElem_toArray, List.getElem_cons_zero, List.getElem_cons_succ]
      refine wpAnyH_done (by kernel_rfl) ?_ _
      go_wp2
      have hlen4 := HLN.out
      obtain ⟨r0, r1⟩ := two_set (b := w.heap.size + 1) (w := ((WX.setCell ⟨w4.heap.size, 0, none⟩ (.slice (some ⟨g4, 0, none⟩) (P.length - n + n) cp4)).setCell ⟨w4.heap.size, 1, none⟩ (.string (T.extract n T.size ++ T.extract 0 n)))) (by rw [q2]; rfl) (by rw [q3]; rfl) (.slice (some ⟨g4, 0, none⟩) (P.length - n + n) cp4) (.string (T.extract n T.size ++ T.extract 0 n))
      refine bodyPost_ret (v := .tuple #[.agg #[.slice (some ⟨g4, 0, none⟩) (P.length - n + n) cp4, .string (T.extract n T.size ++ T.extract 0 n)], .int .i64 0]) (by simp [results, Tryd.results41, go_sem, r0, r1]) rfl ⟨some ⟨g4, 0, none⟩, cp4, ?_, .inr ⟨g4, rfl, (HQ.out.set HE.out.n2).set HE.out.n2⟩, two_below HZ.out (by omega) _ _⟩
      rw [HLN.out]
      rfl
    · go_simp
      refine hK.out _ _ ?_ (fun hHeld' => ?_)
      · exact ⟨⟨(World.cell?_alloc_lt _ _ _ (World.block_lt_of_cell? _ _ hHeld.1.1)).trans hHeld.1.1, (World.cell?_alloc_lt _ _ _ (World.block_lt_of_cell? _ _ hHeld.1.2)).trans hHeld.1.2⟩, hHeld.2.alloc hHeld.2.size _⟩
      clear hK K hHeld
      have hHeld := hHeld'
      clear hHeld'
      try simp only [Act.put, List.setIfInBounds_toArray, List.set_cons_zero, List.set_cons_succ, List.getElem_toArray, List.getElem_cons_zero, List.getElem_cons_succ]
      refine wpAnyH_ready (rs := [9]) (by kernel_rfl) (by simp) ?_
      refine AllReadyH.cons rfl (fun K hK => ?_) AllReadyH.nil
      rw [if_pos (by kernel_rfl)]
      obtain ⟨v4, w4, hr4, hO4, hG4, _, _⟩ := run_append_own_at (P := Tryd.prog) (w3.alloc (.cells #[.slice none 0 0, .string ⟨#[]⟩] 27)) w1.drew.heap.size 22 22 2 i0 (.int .i64 0) 1 8 Tryd.underlying22 hi hz0 hz1 hz2 rfl (by decide) (.slice (some ⟨g1, 0, none⟩) (P.length - n) cp1) (P.length - n) (intVals (P.drop n)) (ho3.alloc _) ⟨b, o, none⟩ n cap (intVals (P.take n)) HTL.out (int_cells (intAt_take (hat1.out.later hHeld.2) n)) (intVals_one _) HML.out (by first | omega | exact hzz3) (by first | (simp; omega) | exact hzz3)
      refine wp_append_any (s := .tmp 24) (x := .tmp 28) (t := 22) rfl rfl rfl hr4 ?_
      obtain ⟨g4, cp4, rfl⟩ := own_form8 hO4 (by omega)
      have hge4 := own_base8 hO4
      have hge1 := own_base8 ho3
      have hlt1 := (World.ownsRow.lt ho3 g1 rfl).2
      have hzX := hHeld.2.size
      have hg1 : w1.heap.size ≤ g1 := by first | exact hge1 | (have := hge1; simp at this; omega)
      have hg4 : w1.heap.size ≤ g4 := by first | exact hge4 | (have := hge4; simp at this; omega)
      refine hK.out _ _ ?_ (fun hHeld' => ?_)
      · exact ⟨⟨(World.cell?_of_block (hG4.block w.heap.size (by omega) (fun e => absurd (Option.some.inj e) (by show ¬ (w.heap.size = g1); omega)))).trans hHeld.1.1, (World.cell?_of_block (hG4.block w.heap.size (by omega) (fun e => absurd (Option.some.inj e) (by show ¬ (w.heap.size = g1); omega)))).trans hHeld.1.2⟩, hHeld.2.grown hG4 hzX (fun r e => by have h := Option.some.inj e; subst h; show w1.heap.size ≤ g1; omega)⟩
      have hb4 := hHeld'.2
      clear hK K hHeld
      have hHeld := hHeld'
      clear hHeld'
      try simp only [Act.put, List.setIfInBounds_toArray, List.set_cons_zero, List.set_cons_succ, List.getElem_toArray, List.getElem_cons_zero, List.getElem_cons_succ]
      refine wpAnyH_take (i := 19) (v := .agg #[.slice (some ⟨g4, 0, none⟩) (P.length - n + n) cp4, .string (T.extract n T.size ++ T.extract 0 n)]) rfl (by kernel_rfl) (by kernel_rfl) (by kernel_rfl) (fun _ _ _ h => h) (Or.inl ⟨by kernel_rfl, ?_⟩) (by assumption) ?_
      · intro w hSw
        try dsimp only at hSw
        skip
        go_simp
      try simp only [Act.put, List.setIfInBounds_toArray, List.set_cons_zero, List.set_cons_succ, List.getElem_toArray, List.getElem_cons_zero, List.getElem_cons_succ]
      have HE : Hid (ThEnd w w4 (w3.heap.size) g4 (rotI P n)) := by
        show ThEnd _ _ _ _ _
        have hbb : w4.heap[w3.heap.size]? = some (.cells #[.slice none 0 0, .string ⟨#[]⟩] 27 (0, 0)) := (hG4.block w3.heap.size (by simp) (fun e => absurd (Option.some.inj e) (by show ¬ (w3.heap.size = g1); omega))).trans (heap_alloc_new w3 _)
        have hrr : w4.heap[w.heap.size + 1]? = some (.cells #[.slice none 0 0, .string ⟨#[]⟩] 27 (0, 0)) := (hG4.block (w.heap.size + 1) (by simp; omega) (fun e => absurd (Option.some.inj e) (by show ¬ (w.heap.size + 1 = g1); omega))).trans ((Below.heap_alloc w3 _ _ (by omega)).trans ((hb3.block (w.heap.size + 1) (by simp only [size_drewT]; omega)).trans r1.out))
        have ho4 := own_of_row (P := rotI P n) (g := g4) (cap := cp4) (B := w1.drew.heap.size) (by have h := hO4; rw [HR.out, show P.length - n + n = (rotI P n).length by rw [rotI_length]; exact HLN.out] at h; exact h)
        have hne : g4 ≠ w3.heap.size := fun e => by
          obtain ⟨cur, hcur⟩ := row_block hO4
          rw [e, hbb] at hcur
          cases hcur
        exact ⟨hbb, hrr, ⟨by omega, ho4.2⟩, hne, by omega, by omega, B1.out.trans (hb4.mono zz2), by omega⟩
      obtain ⟨WX, hWX⟩ : ∃ WX, w4 = WX := ⟨_, rfl⟩
      rw [hWX] at HE hHeld ⊢
      clear hWX
      obtain ⟨x0, x1, y0, y1⟩ := HE.out.facts
      refine wpAnyH_ready (rs := [21]) (by kernel_rfl) (by simp) ?_
      refine AllReadyH.cons rfl (fun K hK => ?_) AllReadyH.nil
      go_simp
      obtain ⟨q0, q1, q2, q3, q4, q5, q6, q7⟩ := HE.out.next (.slice (some ⟨g4, 0, none⟩) (P.length - n + n) cp4) (.string (T.extract n T.size ++ T.extract 0 n))
      have HQ := Lib.hid q6
      have HZ := Lib.hid q7
      refine hK.out _ _ ?_ (fun hHeld' => ?_)
      · have z4 := hb4.size
        exact ⟨⟨(cell_two (by omega) _ _).trans hHeld.1.1, (cell_two (by omega) _ _).trans hHeld.1.2⟩, two_below hHeld.2 (by omega) _ _⟩
      clear hK K hHeld hHeld' x0 x1 y0 y1 q6 q7
      try simp only [Act.put, List.setIfInBounds_toArray, List.set_cons_zero, List.set_cons_succ, List.getElem_toArray, List.getElem_cons_zero, List.getElem_cons_succ]
      refine wpAnyH_done (by kernel_rfl) ?_ _
      go_wp2
      have hlen4 := HLN.out
      obtain ⟨r0, r1⟩ := two_set (b := w.heap.size + 1) (w := ((WX.setCell ⟨w3.heap.size, 0, none⟩ (.slice (some ⟨g4, 0, none⟩) (P.length - n + n) cp4)).setCell ⟨w3.heap.size, 1, none⟩ (.string (T.extract n T.size ++ T.extract 0 n)))) (by rw [q2]; rfl) (by rw [q3]; rfl) (.slice (some ⟨g4, 0, none⟩) (P.length - n + n) cp4) (.string (T.extract n T.size ++ T.extract 0 n))
      refine bodyPost_ret (v := .tuple #[.agg #[.slice (some ⟨g4, 0, none⟩) (P.length - n + n) cp4, .string (T.extract n T.size ++ T.extract 0 n)], .int .i64 0]) (by simp [results, Tryd.results41, go_sem, r0, r1]) rfl ⟨some ⟨g4, 0, none⟩, cp4, ?_, .inr ⟨g4, rfl, (HQ.out.set HE.out.n2).set HE.out.n2⟩, two_below HZ.out (by omega) _ _⟩
      rw [HLN.out]
      rfl
  · go_simp
    refine hK.out _ _ ?_ (fun hHeld' => ?_)
    · exact ⟨⟨(World.cell?_alloc_lt _ _ _ (World.block_lt_of_cell? _ _ hHeld.1.1)).trans hHeld.1.1, (World.cell?_alloc_lt _ _ _ (World.block_lt_of_cell? _ _ hHeld.1.2)).trans hHeld.1.2⟩, hHeld.2.alloc hHeld.2.size _⟩
    clear hK K hHeld
    have hHeld := hHeld'
    clear hHeld'
    try simp only [Act.put, List.setIfInBounds_toArray, List.set_cons_zero, List.set_cons_succ, List.getElem_toArray, List.getElem_cons_zero, List.getElem_cons_succ]
    refine wpAnyH_ready (rs := [4]) (by kernel_rfl) (by simp) ?_
    refine AllReadyH.cons rfl (fun K hK => ?_) AllReadyH.nil
    go_simp
    go_at_call 70
    refine (CO.out _ (hat1.out.later hHeld.2)).mono ?_
    rintro e w3 ⟨g1, cp1, rfl, ho3, hb3⟩
    have hzz3 := hb3.size
    have hz3 : w1.heap.size ≤ w3.heap.size := by
      have h := hb3.size
      first | exact h | (simp at h; omega)
    refine hK.out _ _ ?_ (fun hHeld' => ?_)
    · exact ⟨⟨(hb3.cell (World.block_lt_of_cell? _ _ hHeld.1.1)).trans hHeld.1.1, (hb3.cell (World.block_lt_of_cell? _ _ hHeld.1.2)).trans hHeld.1.2⟩, bnext hHeld.2 hb3⟩
    clear hK K hHeld
    have hHeld := hHeld'
    clear hHeld'
    try simp only [Act.put, List.setIfInBounds_toArray, List.set_cons_zero, List.set_cons_succ, List.getElem_toArray, List.getElem_cons_zero, List.getElem_cons_succ]
    refine wpAnyH_ready (rs := [9]) (by kernel_rfl) (by simp) ?_
    refine AllReadyH.cons rfl (fun K hK => ?_) AllReadyH.nil
    rw [if_pos (by kernel_rfl)]
    obtain ⟨v4, w4, hr4, hO4, hG4, _, _⟩ := run_append_own_at (P := Tryd.prog) w3 (w1.drew.alloc (.cells #[.slice none 0 0, .string ⟨#[]⟩] 27)).heap.size 22 22 2 i0 (.int .i64 0) 1 8 Tryd.underlying22 hi hz0 hz1 hz2 rfl (by decide) (.slice (some ⟨g1, 0, none⟩) (P.length - n) cp1) (P.length - n) (intVals (P.drop n)) ho3 ⟨b, o, none⟩ n cap (intVals (P.take n)) HTL.out (int_cells (intAt_take (hat1.out.later hHeld.2) n)) (intVals_one _) HML.out (by first | omega | exact hzz3) (by first | (simp; omega) | exact hzz3)
    refine wp_append_any (s := .tmp 24) (x := .tmp 28) (t := 22) rfl rfl rfl hr4 ?_
    obtain ⟨g4, cp4, rfl⟩ := own_form8 hO4 (by omega)
    have hge4 := own_base8 hO4
    have hge1 := own_base8 ho3
    have hlt1 := (World.ownsRow.lt ho3 g1 rfl).2
    have hzX := hHeld.2.size
    have hg1 : w1.heap.size + 1 ≤ g1 := by first | exact hge1 | (have := hge1; simp at this; omega)
    have hg4 : w1.heap.size + 1 ≤ g4 := by first | exact hge4 | (have := hge4; simp at this; omega)
    refine hK.out _ _ ?_ (fun hHeld' => ?_)
    · exact ⟨⟨(World.cell?_of_block (hG4.block w.heap.size (by omega) (fun e => absurd (Option.some.inj e) (by show ¬ (w.heap.size = g1); omega)))).trans hHeld.1.1, (World.cell?_of_block (hG4.block w.heap.size (by omega) (fun e => absurd (Option.some.inj e) (by show ¬ (w.heap.size = g1); omega)))).trans hHeld.1.2⟩, hHeld.2.grown hG4 hzX (fun r e => by have h := Option.some.inj e; subst h; show w1.heap.size ≤ g1; omega)⟩
    have hb4 := hHeld'.2
    clear hK K hHeld
    have hHeld := hHeld'
    clear hHeld'
    try simp only [Act.put, List.setIfInBounds_toArray, List.set_cons_zero, List.set_cons_succ, List.getElem_toArray, List.getElem_cons_zero, List.getElem_cons_succ]
    refine wpAnyH_take (i := 19) (v := .agg #[.slice (some ⟨g4, 0, none⟩) (P.length - n + n) cp4, .string (T.extract n T.size ++ T.extract 0 n)]) rfl (by kernel_rfl) (by kernel_rfl) (by kernel_rfl) (fun _ _ _ h => h) (Or.inl ⟨by kernel_rfl, ?_⟩) (by assumption) ?_
    · intro w hSw
      try dsimp only at hSw
      skip
      go_simp
    try simp only [Act.put, List.setIfInBounds_toArray, List.set_cons_zero, List.set_cons_succ, List.getElem_toArray, List.getElem_cons_zero, List.getElem_cons_succ]
    have HE : Hid (ThEnd w w4 (w1.heap.size) g4 (rotI P n)) := by
      show ThEnd _ _ _ _ _
      have hbb : w4.heap[w1.heap.size]? = some (.cells #[.slice none 0 0, .string ⟨#[]⟩] 27 (0, 0)) := (hG4.block w1.heap.size (by omega) (fun e => absurd (Option.some.inj e) (by show ¬ (w1.heap.size = g1); omega))).trans ((hb3.block w1.heap.size (by simp)).trans (heap_alloc_new w1.drew _))
      have hrr : w4.heap[w.heap.size + 1]? = some (.cells #[.slice none 0 0, .string ⟨#[]⟩] 27 (0, 0)) := (hG4.block (w.heap.size + 1) (by omega) (fun e => absurd (Option.some.inj e) (by show ¬ (w.heap.size + 1 = g1); omega))).trans ((hb3.block (w.heap.size + 1) (by simp; omega)).trans ((Below.heap_alloc w1.drew _ _ (by simp only [size_drewT]; omega)).trans r1.out))
      have ho4 := own_of_row (P := rotI P n) (g := g4) (cap := cp4) (B := (w1.drew.alloc (.cells #[.slice none 0 0, .string ⟨#[]⟩] 27)).heap.size) (by have h := hO4; rw [HR.out, show P.length - n + n = (rotI P n).length by rw [rotI_length]; exact HLN.out] at h; exact h)
      exact ⟨hbb, hrr, ⟨by omega, ho4.2⟩, by omega, by omega, by omega, B1.out.trans (hb4.mono zz2), by omega⟩
    obtain ⟨WX, hWX⟩ : ∃ WX, w4 = WX := ⟨_, rfl⟩
    rw [hWX] at HE hHeld ⊢
    clear hWX
    obtain ⟨x0, x1, y0, y1⟩ := HE.out.facts
    refine wpAnyH_ready (rs := [21]) (by kernel_rfl) (by simp) ?_
    refine AllReadyH.cons rfl (fun K hK => ?_) AllReadyH.nil
    go_simp
    obtain ⟨q0, q1, q2, q3, q4, q5, q6, q7⟩ := HE.out.next (.slice (some ⟨g4, 0, none⟩) (P.length - n + n) cp4) (.string (T.extract n T.size ++ T.extract 0 n))
    have HQ := Lib.hid q6
    have HZ := Lib.hid q7
    refine hK.out _ _ ?_ (fun hHeld' => ?_)
    · have z4 := hb4.size
      exact ⟨⟨(cell_two (by omega) _ _).trans hHeld.1.1, (cell_two (by omega) _ _).trans hHeld.1.2⟩, two_below hHeld.2 (by omega) _ _⟩
    clear hK K hHeld hHeld' x0 x1 y0 y1 q6 q7
    try simp only [Act.put, List.setIfInBounds_toArray, List.set_cons_zero, List.set_cons_succ, List.getElem_toArray, List.getElem_cons_zero, List.getElem_cons_succ]
    refine wpAnyH_done (by kernel_rfl) ?_ _
    go_wp2
    have hlen4 := HLN.out
    obtain ⟨r0, r1⟩ := two_set (b := w.heap.size + 1) (w := ((WX.setCell ⟨w1.heap.size, 0, none⟩ (.slice (some ⟨g4, 0, none⟩) (P.length - n + n) cp4)).setCell ⟨w1.heap.size, 1, none⟩ (.string (T.extract n T.size ++ T.extract 0 n)))) (by rw [q2]; rfl) (by rw [q3]; rfl) (.slice (some ⟨g4, 0, none⟩) (P.length - n + n) cp4) (.string (T.extract n T.size ++ T.extract 0 n))
    refine bodyPost_ret (v := .tuple #[.agg #[.slice (some ⟨g4, 0, none⟩) (P.length - n + n) cp4, .string (T.extract n T.size ++ T.extract 0 n)], .int .i64 0]) (by simp [results, Tryd.results41, go_sem, r0, r1]) rfl ⟨some ⟨g4, 0, none⟩, cp4, ?_, .inr ⟨g4, rfl, (HQ.out.set HE.out.n2).set HE.out.n2⟩, two_below HZ.out (by omega) _ _⟩
    rw [HLN.out]
    rfl
end Go.Proofs.YtikjielgnlgnjaaDoor
