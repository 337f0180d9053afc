/-
  CornerPoints: the model's word, and the program's.
-/
import Derived.Test.YtikjielgnlgnjaaDoorHoJ
import Derived.Test.YtikjielgnlgnjaaDoorHoX
namespace Go.Proofs.YtikjielgnlgnjaaDoor
open Go.ChangeShapes Go.WideShapes Go.ChangeAt Go.RowKit Go.Joins Go.Shelf

/-- The corners, if the plan is right. -/
def cpV (P : List Int) (T : ByteArray) : List (Int × Int) := if okHo P T = true then ptsC P T P.length else []
theorem cp_bad {P : List Int} {T : ByteArray} (h : okHo P T = false) : cpV P T = [] ∧ hoC P T = 1 := by simp [cpV, hoC, h]
theorem cp_good {P : List Int} {T : ByteArray} (h : okHo P T = true) : cpV P T = ptsC P T P.length ∧ hoC P T = 0 := by simp [cpV, hoC, h]
theorem cpV_length (P : List Int) (T : ByteArray) : (cpV P T).length ≤ 12 := by
  unfold cpV
  split
  · rename_i h
    have := okHo_size h
    rw [ptsC_length]
    omega
  · simp
theorem PrRow.mono {B B' : Nat} {v : Value} {Q : List (Int × Int)} {bs : List Nat} {w : World} (h : PrRow B v Q bs w) (hB : B' ≤ B) : PrRow B' v Q bs w :=
  ⟨⟨h.1.1, h.1.2.elim .inl fun ⟨g, cap, cur, h1, h2, h3⟩ => .inr ⟨g, cap, cur, h1, Nat.le_trans hB h2, h3⟩⟩, h.2.1, h.2.2.1, fun k b q hb hq => ⟨Nat.le_trans hB (h.2.2.2 k b q hb hq).1, (h.2.2.2 k b q hb hq).2⟩⟩
theorem PrRow.keep {B : Nat} {v : Value} {Q : List (Int × Int)} {bs : List Nat} {w w' : World} {row : Option Nat} (h : PrRow B v Q bs w) (hg : w.grownBy w' row) (hr : ∀ r, row = some r → r < B ∨ ∃ o : Obj, w.heap[r]? = some o ∧ o.isCells = false) : PrRow B v Q bs w' := by
  have hoff : ∀ (b : Nat) (cs : Array Value) (t : TypeId), B ≤ b → w.heap[b]? = some (.cells cs t (0, 0)) → some b ≠ row := fun b cs t hb hc e => by
    rcases hr b e.symm with h1 | ⟨o, h1, h2⟩
    · omega
    · rw [hc] at h1; cases h1; cases h2
  refine ⟨?_, h.2.1, h.2.2.1, fun k b q hb hq => ?_⟩
  · cases hv : v.ownBlock with
    | none => exact h.1.kept hg (.inl hv)
    | some g =>
      refine h.1.kept hg (.inr ?_)
      rw [hv]
      rcases h.1.2 with ⟨rfl, _⟩ | ⟨g', cap, cur, rfl, hB, hgg, _⟩
      · simp [Value.ownBlock] at hv
      · simp only [Value.ownBlock, Option.some.injEq] at hv
        subst hv
        exact hoff _ _ _ hB hgg
  · obtain ⟨h1, h2⟩ := h.2.2.2 k b q hb hq
    exact ⟨h1, (hg.block b (Array.getElem?_eq_some_iff.1 h2).1 (hoff _ _ _ h1 h2)).trans h2⟩
/-- The first of some corners. -/
theorem PrLie.take {v : Value} {Q : List (Int × Int)} {g cap n : Nat} {w : World} (h : PrLie v Q w) (hv : v = .slice (some ⟨g, 0, none⟩) Q.length cap) (hn : n ≤ Q.length) (c' : Nat) : PrLie (.slice (some ⟨g, 0, none⟩) n c') (Q.take n) w := by
  have hl : (Q.take n).length = n := by simp; omega
  refine ⟨⟨_, _, by rw [hl]⟩, fun k q hk => ?_⟩
  have hk2 : Q[k]? = some q := by
    rw [List.getElem?_take] at hk
    split at hk
    · exact hk
    · cases hk
  obtain ⟨g1, c1, b, e1, h1, h2⟩ := h.2 k q hk2
  rw [hv] at e1
  cases e1
  exact ⟨g, c', b, by rw [hl], h1, h2⟩
theorem ptsC_take (P : List Int) (T : ByteArray) (n : Nat) : (ptsC P T (n + 1)).take n = ptsC P T n := by
  rw [ptsC_succ, List.take_left' (ptsC_length P T n)]
/-- Corners and a code are handed back: the model's lie there; the program's are its own. -/
def CpSpec (w : World) (P : List Int) (T : ByteArray) (e : Ending) (w' : World) : Prop := ∃ v, e = .returned (.tuple #[v, .int .i64 (hoC P T)]) ∧ PrLie v (cpV P T) w' ∧ Below w.heap.size w w'
def CpImpl (w : World) (P : List Int) (T : ByteArray) (e : Ending) (w' : World) : Prop := ∃ v bs, e = .returned (.tuple #[v, .int .i64 (hoC P T)]) ∧ PrRow w.heap.size v (cpV P T) bs w' ∧ Below w.heap.size w w'
theorem prow_cap {B : Nat} {Q : List (Int × Int)} {bs : List Nat} {w : World} {g cp n : Nat} (h : PrRow B (.slice (some ⟨g, 0, none⟩) n cp) Q bs w) : Q.length ≤ cp := by
  rcases h.1.2 with ⟨hv, _⟩ | ⟨g', cap', cur, hv, _, _, hc, _⟩
  · simp at hv
  · simp at hv; omega
/-- The corners, and the place behind the last side: the first of them. -/
theorem points_first (P : List Int) (T : ByteArray) (a : Option Addr) (cap : Nat) (hr : runsB P = true) (hl : P.length ≤ 12) (hT : T.size = P.length) (b : Nat) (w : World) (hb : HoBox b a cap P T w) (ha : IntArg w a P) :
    Calls Tryd.prog 63 #[.pointer (some ⟨b, 0, none⟩)] w fun e w' => ∃ g cp, e = .returned (.slice (some ⟨g, 0, none⟩) (P.length + 1) cp) ∧ (P.length : Int) ≤ (cp : Int) ∧ w'.cell? ⟨b, 0, none⟩ = some (.slice a P.length cap) ∧ PrLie (.slice (some ⟨g, 0, none⟩) P.length cp) (ptsC P T P.length) w' ∧ Below w.heap.size w w' := by
  refine (points_spec P T a cap hr hl hT b w hb ha).mono ?_
  rintro e w' ⟨v, bs, rfl, hP, hb1⟩
  have hlq := ptsC_length P T (P.length + 1)
  obtain ⟨g, cp, rfl⟩ := hP.form.2 (by omega)
  have h1 := prow_cap hP
  have h2 := hP.lies.take rfl (n := P.length) (by omega) cp
  rw [ptsC_take] at h2
  exact ⟨g, cp, by rw [hlq], by omega, (hb.later hb1).1, h2, hb1⟩
set_option maxRecDepth 100000 in
set_option maxHeartbeats 1600000 in
theorem cornerPoints_spec (P : List Int) (T : ByteArray) (a : Option Addr) (cap : Nat) (hl : P.length ≤ 1048576) (hs : T.size ≤ 1048576) (w : World) (ha : IntArg w a P) :
    Calls Tryd.prog 32 #[.agg #[.slice a P.length cap, .string T]] w (CpSpec w P T) := by
  unfold CpSpec
  obtain ⟨W0, hW⟩ : ∃ W0, w.alloc (.cells #[.slice a P.length cap, .string T] 27) = W0 := ⟨_, rfl⟩
  have E0 : Hid (Below w.heap.size w W0) := by show Below w.heap.size w W0; rw [← hW]; exact balloc0 _ _
  have HB : Hid (HoBox w.heap.size a cap P T W0) := by show HoBox _ _ _ _ _ _; rw [← hW]; exact HoBox.new w _
  have C := Lib.hid (okH_spec P T a cap hl hs w.heap.size W0 HB.out (ha.later E0.out))
  have HW := Lib.hid hW
  have HA := Lib.hid (ha.later E0.out)
  clear hW ha
  cases h : okHo P T
  · obtain ⟨e1, e2⟩ := cp_bad h
    rw [e1, e2]
    rw [h] at C
    clear e1 e2 h
    go_enter Tryd.func32, Tryd.ntmps32
    go_wp2_with fail
    rw [HW.out]
    refine C.out.mono ?_
    rintro e w1 ⟨rfl, hb1⟩
    have B1 := Lib.hid (bnext E0.out hb1)
    clear hb1
    go_wp2
    go_ret2
    exact ⟨_, rfl, ⟨⟨none, 0, rfl⟩, fun k q hk => by simp at hk⟩, B1.out⟩
  · obtain ⟨e1, e2⟩ := cp_good h
    rw [e1, e2]
    rw [h] at C
    obtain ⟨h4, h12, hT, hr⟩ := okHo_size h
    have PT := Lib.hid (fun wx hb hx => points_first P T a cap hr h12 hT w.heap.size wx hb hx)
    clear e1 e2 h hr
    go_enter Tryd.func32, Tryd.ntmps32
    go_wp2_with fail
    rw [HW.out]
    refine C.out.mono ?_
    rintro e w1 ⟨rfl, hb1⟩
    have B1 := Lib.hid (bnext E0.out hb1)
    have HB1 := Lib.hid (HB.out.later hb1)
    have HA1 := Lib.hid (HA.out.later hb1)
    clear hb1
    obtain ⟨d0, d1⟩ := HB1.out
    have d0 : w1.drew.cell? ⟨w.heap.size, 0, none⟩ = some (.slice a P.length cap) := d0
    have hn0 : (0 : Int) ≤ (P.length : Int) := by omega
    go_wp2_with fail
    go_region_with (go_at_call 63; refine (PT.out w1.drew HB1.out HA1.out).mono ?_; rintro e w2 ⟨g, cp, rfl, hn1, f0, pl, hb2⟩; have B2 := Lib.hid (bnext (show Below w.heap.size w w1.drew from B1.out.drew) hb2); have PL := Lib.hid pl; clear hb2 pl)
    all_goals
      go_wp2
      go_ret2
      exact ⟨_, rfl, PL.out, B2.out⟩
attribute [local go_sem] Oper.semAt_some

/-- Where the sides that were gone along begin. -/
def ptsOf (l : List (Spot × Spot)) : List (Int × Int) := l.map fun x => (x.1.x, x.1.y)
theorem ptsOf_snoc (l : List (Spot × Spot)) (x : Spot × Spot) : ptsOf (l ++ [x]) = ptsOf l ++ [(x.1.x, x.1.y)] := by simp [ptsOf]
theorem ptsOf_legs (P : List Int) (T : ByteArray) (n : Nat) : ptsOf (legs P T n) = ptsC P T n := by simp [ptsOf, legs, ptsC]
theorem ptsOf_length (l : List (Spot × Spot)) : (ptsOf l).length = l.length := by simp [ptsOf]
theorem boxed_keep {W W' : World} {b : Nat} {t : TypeId} {v : Value} {row : Option Nat} (h : Boxed W b t v) (hg : W.grownBy W' row) (hr : some b ≠ row) : Boxed W' b t v := (hg.block b h.lt hr).trans h
/-- A row that grew by a new pair: what else lay there lies there. -/
theorem grown_two {W w2 : World} {c1 c2 : Obj} {row : Option Nat} (hg : ((W.alloc c1).alloc c2).grownBy w2 row) : W.grownBy w2 row :=
  ⟨hg.os, hg.tape, hg.output, Nat.le_trans (by simp; omega) hg.size, fun k hk hne => (hg.block k (by simp; omega) hne).trans ((Below.heap_alloc _ _ _ (by simp; omega)).trans (Below.heap_alloc _ _ _ hk))⟩
theorem PrRow.cellsAt {B : Nat} {v : Value} {Q : List (Int × Int)} {bs : List Nat} {w : World} (h : PrRow B v Q bs w) {g : Nat} (hg : v.ownBlock = some g) : B ≤ g ∧ ∃ cur, w.heap[g]? = some (.cells cur 22 (0, 0)) := by
  rcases h.1.2 with ⟨rfl, _⟩ | ⟨g', cap, cur, rfl, hB, hgg, _⟩
  · simp [Value.ownBlock] at hg
  · simp only [Value.ownBlock, Option.some.injEq] at hg
    subst hg
    exact ⟨hB, cur, hgg⟩
theorem push_others {B pb : Nat} {v u u1 : Value} {t : TypeId} {Q : List (Int × Int)} {bs : List Nat} {W w2 : World} (h : PrRow B v Q bs W) (hg : W.grownBy w2 v.ownBlock) (hb : Boxed w2 pb t u) : KeepsOthers W (w2.setCell ⟨pb, 0, none⟩ u1) := by
  refine ⟨Nat.le_trans hg.size (by simp [World.setCell]), fun k o hk ho => ?_⟩
  have h2 : w2.heap[k]? = some o := (hg.block k (Array.getElem?_eq_some_iff.1 hk).1 (fun e => by
    obtain ⟨_, cur, hc⟩ := h.cellsAt e.symm
    rw [hk] at hc; cases hc; cases ho)).trans hk
  refine (Below.heap_setCell _ _ _ k (fun e => ?_)).trans h2
  have : k = pb := e
  subst this
  have h3 : w2.heap[k]? = some (.cells #[u] t (0, 0)) := hb
  rw [h2] at h3
  cases h3
  cases ho
theorem push_kp {n Bn F B pb : Nat} {v u u1 : Value} {t : TypeId} {Q : List (Int × Int)} {bs : List Nat} {W w2 : World} (h : PrRow B v Q bs W) (hg : W.grownBy w2 v.ownBlock) (_hb : Boxed w2 pb t u) (hnB : n ≤ B) (hBn : Bn < B) (hne : pb ≠ Bn) (hn : n ≤ pb) (hF : pb < F) (hW : n ≤ W.heap.size) (hBW : Bn < W.heap.size) : KpH n Bn F W (w2.setCell ⟨pb, 0, none⟩ u1) := by
  have h1 : KpH n Bn F W w2 := by
    refine ⟨(Below.refl n W).grown hg hW (fun k hk => Nat.le_trans hnB (h.cellsAt hk).1), fun o ho _ => ?_, fun k cs hk hc => ?_⟩
    · exact (hg.block Bn hBW (fun e => by have := (h.cellsAt e.symm).1; omega)).trans ho
    · refine (hg.block k (Array.getElem?_eq_some_iff.1 hc).1 (fun e => ?_)).trans hc
      obtain ⟨_, cur, h3⟩ := h.cellsAt e.symm
      rw [hc] at h3
      simp at h3
  exact h1.t (KpH.set (p := ⟨pb, 0, none⟩) hn hne hF)
set_option maxRecDepth 100000 in
set_option maxHeartbeats 8000000 in
theorem cornerPoints_impl (P : List Int) (T : ByteArray) (a : Option Addr) (cap : Nat) (hl : P.length ≤ 1048576) (hs : T.size ≤ 1048576) (w : World) (ha : IntArg w a P) (hd : DirAt w) :
    Calls Tryd.prog 33 #[.agg #[.slice a P.length cap, .string T]] w (CpImpl w P T) := by
  unfold CpImpl
  have K := house_new w (.slice a P.length cap) T 27
  obtain ⟨W0, hW⟩ : ∃ W0, w.alloc (.cells #[.slice a P.length cap, .string T] 27) = W0 := ⟨_, rfl⟩
  have E0 : Hid (Below w.heap.size w W0) := by show Below w.heap.size w W0; rw [← hW]; exact balloc0 _ _
  rw [hW] at K
  have HA := Lib.hid (ha.later E0.out)
  have HD := Lib.hid (hd.later E0.out)
  have HW := Lib.hid hW
  obtain ⟨d0, d1⟩ := K.out _ (Below.refl _ _)
  have C := Lib.hid (validHouse_impl P T a cap hl hs W0 HA.out HD.out)
  have z0 : W0.heap.size = w.heap.size + 1 := by rw [← hW]; simp
  clear hW ha hd
  cases h : okHo P T
  · obtain ⟨e1, e2⟩ := cp_bad h
    rw [e1, e2]
    rw [h] at C
    clear e1 e2 h
    go_enter Tryd.func33, Tryd.ntmps33
    go_wp2_with fail
    rw [HW.out]
    go_wp2_with fail
    refine C.out.mono ?_
    rintro e w1 ⟨rfl, hb1⟩
    have B1 := Lib.hid (bnext E0.out hb1)
    clear hb1
    go_wp2
    go_ret2
    first | exact ⟨_, rfl, ⟨[], PrRow.nil _ _⟩, B1.out⟩ | exact ⟨_, [], rfl, PrRow.nil _ _, B1.out⟩
  obtain ⟨e1, e2⟩ := cp_good h
  rw [e1, e2]
  rw [h] at C
  obtain ⟨h4, h12, hT, hr⟩ := okHo_size h
  have hok : okHo' P T := ⟨hr, okHo_walk h, h12, hT⟩
  have HI := Lib.hid (fun wx => walk_in (.slice a P.length cap) T wx)
  have HL := Lib.hid (ptsOf_legs P T P.length)
  clear e1 e2 h
  refine (callsIn_wide (n := 6)).1 ?_
  refine callsIn_of_wp_marks Tryd.func33 rfl trivial ?_ rfl
  simp only [Tryd.ntmps33, List.size_toArray, List.length_cons, List.length_nil, Nat.reduceAdd, Nat.reduceSub, Array.replicate_succ, Array.replicate_zero, List.push_toArray, List.append_toArray, List.nil_append, List.cons_append]
  gi_wp2_with fail
  rw [HW.out]
  gi_wp2_with fail
  refine ⟨trivial, (callsIn_wide.2 C.out).mono ?_⟩
  rintro e w1 ⟨rfl, hb1⟩
  have hB1 := bnext E0.out hb1
  have hI1 := HA.out.later hb1
  have hD1 := HD.out.later hb1
  have zw := hb1.size
  clear d0 d1
  obtain ⟨d0, d1⟩ := K.out _ hb1
  have q0 : (w1.alloc (.cells #[.slice none 0 0] 43)).cell? ⟨w.heap.size, 0, none⟩ = some (.slice a P.length cap) := (World.cell?_alloc_lt _ _ _ (World.block_lt_of_cell? w1 _ d0)).trans d0
  have q1 : (w1.alloc (.cells #[.slice none 0 0] 43)).cell? ⟨w.heap.size, 1, none⟩ = some (.string T) := (World.cell?_alloc_lt _ _ _ (World.block_lt_of_cell? w1 _ d1)).trans d1
  gi_wp2_with (refine ⟨trivial, ?_⟩; gi_at_call 64; refine (callsIn_wide.2 (callsIn_wide.1 (HI.out _))).mono ?_; rintro e w' ⟨rfl, rfl⟩)
  obtain ⟨W2, hW2⟩ : ∃ W2, ((w1.alloc (.cells #[.slice none 0 0] 43)).alloc (.cells #[.slice a P.length cap, .string T] 27)) = W2 := ⟨_, rfl⟩
  have z2 : W2.heap.size = w1.heap.size + 2 := by rw [← hW2]; simp
  have hB2 : Below w1.heap.size w1 W2 := by rw [← hW2]; exact balloc (balloc0 _ _) _
  have hP2 : Boxed W2 w1.heap.size 43 (.slice none 0 0) := by rw [← hW2]; exact (Boxed.new w1 43 (.slice none 0 0)).alloc _
  have hH2 : HoR w1.heap.size (w1.heap.size + 1) a cap P T W2 := by
    refine ⟨(IntDeep.of hI1).below hB2 (Nat.le_refl _), hD1.below hB2 hD1.lt, hD1.lt, ?_⟩
    rw [← hW2]
    have := heap_alloc_new (w1.alloc (.cells #[.slice none 0 0] 43)) (.cells #[.slice a P.length cap, .string T] 27)
    simpa using this
  obtain ⟨i0, hi, hz0, hz1, hz2⟩ := info_parts infoInts
  rw [hW2]
  clear hW2 q0 q1 d0 d1 hb1
  refine range_all rfl (by omega) (gf := 86) (lb := #[.pointer (some ⟨w1.heap.size + 1, 0, none⟩)]) rfl trivial (enters_of Tryd.func86 (by kernel_rfl) rfl)
    (walk_goes _ (by omega) w1.heap.size (w1.heap.size + 1) P T a cap hok (W2.heap.size + 2) W2 (by omega) (by omega) hH2) KpH.t (KpH.put (by omega)) (Below.refl _ _) (fun _ => rfl)
    (fun pre W => (∃ v bs, Boxed W w1.heap.size 43 v ∧ PrRow (W2.heap.size + 3) v (ptsOf pre) bs W) ∧ Below w1.heap.size w1 W)
    (fun s W W' row hs hg hr => by
      obtain ⟨⟨v, bs, h1, h2⟩, h3⟩ := hs
      exact ⟨⟨v, bs, boxed_keep h1 hg (fun e => by rcases hr _ e.symm with h | ⟨h, _⟩ <;> omega), h2.keep hg (fun r e => by rcases hr r e with h | ⟨_, h⟩; exact .inl (by omega); exact .inr h)⟩, below_row h3 h3.size hg (fun r e => by rcases hr r e with h | ⟨h, _⟩ <;> omega)⟩)
    ⟨⟨_, [], hP2, PrRow.nil _ _⟩, hB2⟩
    (fun pre x a' W => (∃ tb, a' = { tmps := #[.agg #[.slice a P.length cap, .string T], .pointer (some ⟨w.heap.size, 0, none⟩), .slice none 0 0, .int .i64 0, .pointer (some ⟨w1.heap.size, 0, none⟩), .pointer (some ⟨tb, 0, none⟩), .agg #[.slice a P.length cap, .string T], .bool true, .bool false, .agg #[.slice a P.length cap, .string T], .func (.func 86) #[] #[.pointer (some ⟨w1.heap.size + 1, 0, none⟩)], plc x.1, plc x.2, undef, undef, undef, undef, undef, undef, undef, undef, undef], defers := [] } ∧ FrAt tb x.1 W) ∧ (∃ v bs, Boxed W w1.heap.size 43 v ∧ PrRow (W2.heap.size + 3) v (ptsOf pre) bs W) ∧ Below w1.heap.size w1 W)
    (fun pre x a' W l o o' hl ho hc h => by
      obtain ⟨⟨tb, h1, h2⟩, ⟨v, bs, h3, h4⟩, h5⟩ := h
      exact ⟨⟨tb, h1, h2.put o' ho hc⟩, ⟨v, bs, boxed_keep h3 (grownBy_putObj' W l o') (fun e => by cases e; omega), h4.keep (grownBy_putObj' W l o') (fun r e => by cases e; exact .inr ⟨o, ho, hc⟩)⟩, h5.trans ⟨rfl, rfl, rfl, by simp, fun k hk => World.putObj_heap_other (by omega)⟩⟩)
    ?assign ?body ?done
  case assign =>
    rintro l pre ⟨⟨x, y, d⟩, ⟨x', y', d'⟩⟩ W hpx hsz ⟨⟨v, bs, hv, hrow⟩, hB⟩
    simp only [encL, plc]
    gi_wp2
    refine ⟨?_, ?_, ⟨_, rfl, heap_alloc_new _ _⟩, ⟨v, bs, hv.alloc _, hrow.alloc _⟩, balloc hB _⟩
    · exact ⟨by simp, fun k o hk _ => (Below.heap_alloc _ _ _ (Array.getElem?_eq_some_iff.1 hk).1).trans hk⟩
    · exact KpH.below (balloc0 _ _) hB.size (by omega) (Nat.le_refl _)
  case body =>
    rintro l pre x a' W hpx hsz ⟨⟨tb, rfl, hT⟩, ⟨v, bs, hv, hrow⟩, hB⟩
    obtain ⟨k, hk, rfl, rfl⟩ := legs_pre hpx
    have hlen : (ptsOf (legs P T k)).length = k := by rw [ptsOf_length, legs_length]
    obtain ⟨⟨c0, c1⟩, _, _⟩ := hT.cells
    have d0 := hv.cell
    have f0 := hv.frozen
    obtain ⟨Q, hQ⟩ : ∃ Q, ptsOf (legs P T k) = Q := ⟨_, rfl⟩
    have hQ2 := Lib.hid (ptsOf_snoc (legs P T k) (spot P T k, spot P T (k + 1)))
    rw [hQ] at hrow hlen hQ2
    clear hQ
    obtain ⟨x, hx⟩ : ∃ x, (spot P T k).x = x := ⟨_, rfl⟩
    obtain ⟨y, hy⟩ : ∃ y, (spot P T k).y = y := ⟨_, rfl⟩
    simp only [hx, hy] at c0 c1 hQ2
    clear hx hy
    gi_wp2_with (gi_at_builtin; refine wpListIn_append_own _ rfl _ _ 43 rfl (W2.heap.size + 3) 22 i0 (.slice none 0 0) 1 24 Tryd.underlying43 hi hz0 hz1 hz2 rfl (by decide) v Q.length (slVals bs) rfl ((hrow.1.alloc _).alloc _) ⟨W.heap.size + 1, 0, none⟩ 1 1 [.slice (some ⟨W.heap.size, 0, none⟩) 2 2] rfl rfl (by have := cell_one_new (W.alloc (.cells #[.int .i64 x, .int .i64 y] 2)) (.slice (some ⟨W.heap.size, 0, none⟩) 2 2) 22; simpa using this) (by simp [Value.oneCell']) (by unfold maxLen; omega) (by omega) (by simp; omega) ?_; intro v' w2 hown' hgrow _; have hG := grown_two hgrow; have hP2' := push_pair hrow (by omega) hown' hgrow; obtain ⟨g', cap', rfl⟩ := ownsRow_succ hown'; have hb2 := boxed_keep hv hG (fun e => by have := (hrow.cellsAt e.symm).1; omega); have hc1 := hb2.cell; have hf1 := hb2.frozen)
    refine ⟨push_others hrow hG hb2, push_kp hrow hG hb2 (by omega) (by omega) (by omega) (Nat.le_refl _) (by omega) hB.size (by omega), ⟨_, hb2.set _, bs ++ [W.heap.size], ?_⟩, ?_⟩
    · rw [hQ2.out]
      rw [z2, hlen] at hP2'
      exact hP2'.keep (grown_set w2 w1.heap.size 0 _) (fun r e => by cases e; exact .inl (by omega))
    · exact ((hB.grown hG hB.size (fun r e => by have := (hrow.cellsAt e).1; omega)).setCell (p := ⟨w1.heap.size, 0, none⟩) (Nat.le_refl _) _)
  case done =>
    rintro D W hD ⟨⟨v, bs, hv, hrow⟩, hB⟩ hK
    rw [HL.out] at hrow
    have d0 := hv.cell
    gi_wp2
    refine ⟨by simp, .inl ⟨_, _, rfl, run_takeDeferred hK, ?_⟩⟩
    refine ⟨.tuple #[v, .int .i64 0], by simp [results, Tryd.results33, go_sem], v, bs, rfl, (hrow.keep (grownBy_putObj' W D _) (fun r e => by cases e; exact .inr ⟨_, hK, rfl⟩)).mono (by omega), ?_⟩
    exact (hB1.trans (hB.mono (by omega))).trans ⟨rfl, rfl, rfl, by simp, fun k hk => World.putObj_heap_other (by omega)⟩
end Go.Proofs.YtikjielgnlgnjaaDoor
