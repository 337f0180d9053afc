/-
  Blocks of arches: their boxes, and what the laws ask of them before and behind the call: size, copies, equality, marks.
-/
import Derived.Test.YtlglijalhacmhaaBkP
import Derived.Test.YtlglijalhacmhaaHoLP
import Derived.WalkSmall
import Derived.Deep.QuietTactic
import Derived.BigQuiet
namespace Go.Proofs.Ytlglijalhacmhaa
open Go.ChangeShapes Go.WideShapes Go.ChangeAt Go.RowKit Go.Joins


/-- Blocks in a box. -/
def BkBox (n : Nat) (X : Bk) (a b c : Option Addr) (ca cb cc : Nat) (w : World) : Prop := w.cell? ⟨n, 0, none⟩ = some (.slice a X.A.length ca) ∧ w.cell? ⟨n, 1, none⟩ = some (.slice b X.L.length cb) ∧ w.cell? ⟨n, 2, none⟩ = some (.slice c X.H.length cc)
theorem BkBox.new (w : World) (X : Bk) (a b c : Option Addr) (ca cb cc : Nat) (t : TypeId) : BkBox w.heap.size X a b c ca cb cc (w.alloc (.cells #[.slice a X.A.length ca, .slice b X.L.length cb, .slice c X.H.length cc] t)) := by
  refine ⟨?_, ?_, ?_⟩ <;> (rw [cell_of_row _ _ _ _ t (0, 0) (heap_alloc_new w _)]; rfl)
theorem BkBox.lt {n : Nat} {X : Bk} {a b c : Option Addr} {ca cb cc : Nat} {w : World} (h : BkBox n X a b c ca cb cc w) : n < w.heap.size := World.block_lt_of_cell? w _ h.1
theorem BkBox.base {n B : Nat} {X : Bk} {a b c : Option Addr} {ca cb cc : Nat} {w w' : World} (h : BkBox n X a b c ca cb cc w) (hb : Below B w w') (hB : n < B) : BkBox n X a b c ca cb cc w' :=
  ⟨(hb.cell (p := ⟨n, 0, none⟩) hB).trans h.1, (hb.cell (p := ⟨n, 1, none⟩) hB).trans h.2.1, (hb.cell (p := ⟨n, 2, none⟩) hB).trans h.2.2⟩
theorem BkBox.later {n : Nat} {X : Bk} {a b c : Option Addr} {ca cb cc : Nat} {w w' : World} (h : BkBox n X a b c ca cb cc w) (hb : Below w.heap.size w w') : BkBox n X a b c ca cb cc w' := h.base hb h.lt
theorem BkBox.drew {n : Nat} {X : Bk} {a b c : Option Addr} {ca cb cc : Nat} {w : World} (h : BkBox n X a b c ca cb cc w) : BkBox n X a b c ca cb cc w.drew := h
theorem BkBox.only {n g : Nat} {X : Bk} {a b c : Option Addr} {ca cb cc : Nat} {w w' : World} (h : BkBox n X a b c ca cb cc w) (ho : Only g w w') (hne : n ≠ g) : BkBox n X a b c ca cb cc w' := by
  have hb := ho.block n h.lt (fun e => hne (by cases e; rfl))
  exact ⟨(World.cell?_of_block (a := ⟨n, 0, none⟩) hb).trans h.1, (World.cell?_of_block (a := ⟨n, 1, none⟩) hb).trans h.2.1, (World.cell?_of_block (a := ⟨n, 2, none⟩) hb).trans h.2.2⟩
/-- The three rows of blocks. -/
def BkArg (w : World) (a b c : Option Addr) (X : Bk) : Prop := IntArg w a X.A ∧ IntArg w b X.L ∧ IntArg w c X.H
theorem BkArg.later {w w' : World} {a b c : Option Addr} {X : Bk} (h : BkArg w a b c X) (hb : Below w.heap.size w w') : BkArg w' a b c X := ⟨h.1.later hb, h.2.1.later hb, h.2.2.later hb⟩
theorem BkArg.drew {w : World} {a b c : Option Addr} {X : Bk} (h : BkArg w a b c X) : BkArg w.drew a b c X := h
/-- .. of the call's own. -/
def BkOwn (B : Nat) (X : Bk) (g h m : Nat) (w : World) : Prop := IntOwn B X.A g w ∧ IntOwn B X.L h w ∧ IntOwn B X.H m w ∧ g < h ∧ h < m
theorem BkOwn.arg {B : Nat} {X : Bk} {g h m : Nat} {w : World} (o : BkOwn B X g h m w) : BkArg w (some ⟨g, 0, none⟩) (some ⟨h, 0, none⟩) (some ⟨m, 0, none⟩) X := ⟨o.1.arg, o.2.1.arg, o.2.2.1.arg⟩
theorem BkOwn.later {B : Nat} {X : Bk} {g h m : Nat} {w w' : World} (o : BkOwn B X g h m w) (hb : Below w.heap.size w w') : BkOwn B X g h m w' := ⟨o.1.later hb, o.2.1.later hb, o.2.2.1.later hb, o.2.2.2⟩
theorem BkOwn.set {B : Nat} {X : Bk} {g h m b o : Nat} {v : Value} {w : World} (q : BkOwn B X g h m w) (hb : b < g) : BkOwn B X g h m (w.setCell ⟨b, o, none⟩ v) :=
  ⟨q.1.only ((Only.refl b w).set o v) (by omega), q.2.1.only ((Only.refl b w).set o v) (by have := q.2.2.2; omega), q.2.2.1.only ((Only.refl b w).set o v) (by have := q.2.2.2; omega), q.2.2.2⟩
theorem IntOwn.base' {B B' : Nat} {P : List Int} {g : Nat} {w : World} (h : IntOwn B P g w) (hB : B' ≤ B) : IntOwn B' P g w := ⟨Nat.le_trans hB h.1, h.2⟩
/-- All three are no longer than a bound. -/
def BkLen (X : Bk) (n : Nat) : Prop := X.A.length ≤ n ∧ X.L.length ≤ n ∧ X.H.length ≤ n

set_option maxHeartbeats 1600000 in
theorem sz_bk (X : Bk) (a b c : Option Addr) (ca cb cc : Nat) (left : Int) (h0 : 0 ≤ left) (h1 : left ≤ 1048576) (hl : BkLen X 9223372036854775807) (w : World) :
    Calls Try.prog 15 #[.agg #[.slice a X.A.length ca, .slice b X.L.length cb, .slice c X.H.length cc], .int .i64 left] w fun e w' => ∃ r : Int, e = .returned (.int .i64 r) ∧ -1 ≤ r ∧ r ≤ left ∧ (0 ≤ r → BkLen X 1048576) ∧ Below w.heap.size w w' := by
  obtain ⟨l1, l2, l3⟩ := hl
  have Q := Lib.hid (fun left h0 h1 wx => sz_ints X.A a ca left h0 h1 l1 wx)
  have Q2 := Lib.hid (fun left h0 h1 wx => sz_ints X.L b cb left h0 h1 l2 wx)
  have Q3 := Lib.hid (fun left h0 h1 wx => sz_ints X.H c cc left h0 h1 l3 wx)
  have KB := Lib.hid (BkBox.new w X a b c ca cb cc 24)
  obtain ⟨d0, d1, d2⟩ := BkBox.new w X a b c ca cb cc 24
  go_enter Try.func15, Try.ntmps15
  go_wp2_with fail
  refine (Q.out left h0 h1 _).mono ?_
  rintro e w1 ⟨q, rfl, hq0, hq1, hq2, rfl⟩
  have HQ := Lib.hid hq2
  clear hq2
  by_cases hq : q < 0
  · go_wp2
    go_ret
    exact ⟨-1, rfl, by omega, by omega, fun h => by omega, balloc0 _ _⟩
  go_wp2_with fail
  refine (Q2.out q (by omega) (by omega) _).mono ?_
  rintro e w1 ⟨q', rfl, hq0', hq1', hq2', rfl⟩
  have HQ2 := Lib.hid hq2'
  clear hq2'
  by_cases hq' : q' < 0
  · go_wp2
    go_ret
    exact ⟨-1, rfl, by omega, by omega, fun h => by omega, balloc0 _ _⟩
  go_wp2_with fail
  refine (Q3.out q' (by omega) (by omega) _).mono ?_
  rintro e w1 ⟨r, rfl, hr0, hr1, hr2, rfl⟩
  have HQ3 := Lib.hid hr2
  clear hr2
  by_cases hr : r < 0
  · go_wp2
    go_ret
    exact ⟨-1, rfl, by omega, by omega, fun h => by omega, balloc0 _ _⟩
  · go_wp2
    go_ret
    exact ⟨r, rfl, by omega, by omega, fun h => ⟨HQ.out (by omega), HQ2.out (by omega), HQ3.out (by omega)⟩, balloc0 _ _⟩
set_option maxRecDepth 100000 in
set_option maxHeartbeats 1600000 in
theorem eq_bk (X : Bk) (a b c : Option Addr) (ca cb cc : Nat) (a' b' c' : Option Addr) (ca' cb' cc' : Nat) (hl : BkLen X 1048577) (w : World) (ha : BkArg w a b c X) (ha' : BkArg w a' b' c' X) :
    Calls Try.prog 19 #[.agg #[.slice a X.A.length ca, .slice b X.L.length cb, .slice c X.H.length cc], .agg #[.slice a' X.A.length ca', .slice b' X.L.length cb', .slice c' X.H.length cc']] w fun e w' => e = .returned (.bool true) ∧ Below w.heap.size w w' := by
  have Q1 := Lib.hid (fun wx (hx : Below w.heap.size w wx) => eq_ints X.A a a' ca ca' hl.1 wx (ha.1.later hx) (ha'.1.later hx))
  have Q2 := Lib.hid (fun wx (hx : Below w.heap.size w wx) => eq_ints X.L b b' cb cb' hl.2.1 wx (ha.2.1.later hx) (ha'.2.1.later hx))
  have Q3 := Lib.hid (fun wx (hx : Below w.heap.size w wx) => eq_ints X.H c c' cc cc' hl.2.2 wx (ha.2.2.later hx) (ha'.2.2.later hx))
  clear ha ha' hl
  have k0 := BkBox.new w X a b c ca cb cc 27
  obtain ⟨U, hU⟩ : ∃ U, World.alloc w (.cells #[.slice a X.A.length ca, .slice b X.L.length cb, .slice c X.H.length cc] 27) = U := ⟨_, rfl⟩
  rw [hU] at k0
  have k1 := BkBox.new U X a' b' c' ca' cb' cc' 27
  have k0 := k0.later (balloc0 U (.cells #[.slice a' X.A.length ca', .slice b' X.L.length cb', .slice c' X.H.length cc'] 27))
  obtain ⟨U1, hU1⟩ : ∃ U1, World.alloc U (.cells #[.slice a' X.A.length ca', .slice b' X.L.length cb', .slice c' X.H.length cc'] 27) = U1 := ⟨_, rfl⟩
  rw [hU1] at k0 k1
  have E1 : Hid (Below w.heap.size w U1) := by
    show Below w.heap.size w U1
    rw [← hU1, ← hU]; exact balloc (balloc0 _ _) _
  have hsz : U.heap.size = w.heap.size + 1 := by rw [← hU]; simp
  rw [hsz] at k1
  have K0 := Lib.hid k0
  have K1 := Lib.hid k1
  have HU := Lib.hid hU
  have HU1 := Lib.hid hU1
  clear hU hU1 hsz k0 k1
  go_enter Try.func19, Try.ntmps19
  go_wp2_with fail
  rw [HU.out, HU1.out]
  obtain ⟨x0, x1, x2⟩ := K0.out
  obtain ⟨y0, y1, y2⟩ := K1.out
  go_wp2_with fail
  refine (Q1.out _ E1.out).mono ?_
  rintro e w1 ⟨rfl, hb1⟩
  have B1 := Lib.hid (bnext E1.out hb1)
  have K0 := Lib.hid (K0.out.later hb1)
  have K1 := Lib.hid (K1.out.later hb1)
  clear hb1 x0 x1 x2 y0 y1 y2
  obtain ⟨x0, x1, x2⟩ := K0.out
  obtain ⟨y0, y1, y2⟩ := K1.out
  go_wp2_with fail
  refine (Q2.out _ B1.out).mono ?_
  rintro e w2 ⟨rfl, hb2⟩
  have B2 := Lib.hid (bnext B1.out hb2)
  have K0 := Lib.hid (K0.out.later hb2)
  have K1 := Lib.hid (K1.out.later hb2)
  clear hb2 x0 x1 x2 y0 y1 y2
  obtain ⟨x0, x1, x2⟩ := K0.out
  obtain ⟨y0, y1, y2⟩ := K1.out
  go_wp2_with fail
  refine (Q3.out _ B2.out).mono ?_
  rintro e w3 ⟨rfl, hb3⟩
  have B3 := Lib.hid (bnext B2.out hb3)
  clear hb3 x0 x1 x2 y0 y1 y2
  go_wp2
  go_ret
  exact ⟨rfl, B3.out⟩
theorem block_read {w : World} {n : Nat} {x y z : Value} {t : TypeId} (h : w.heap[n]? = some (.cells #[x, y, z] t (0, 0))) : w.cell? ⟨n, 0, none⟩ = some x ∧ w.cell? ⟨n, 1, none⟩ = some y ∧ w.cell? ⟨n, 2, none⟩ = some z ∧ w.frozen? ⟨n, 0, none⟩ = false ∧ w.frozen? ⟨n, 1, none⟩ = false ∧ w.frozen? ⟨n, 2, none⟩ = false :=
  ⟨(cell_of_block h 0).trans rfl, (cell_of_block h 1).trans rfl, (cell_of_block h 2).trans rfl, unfrozen_of_block h 0, unfrozen_of_block h 1, unfrozen_of_block h 2⟩
set_option maxRecDepth 100000 in
set_option maxHeartbeats 3200000 in
theorem to_bk (X : Bk) (a b c : Option Addr) (ca cb cc : Nat) (hl : BkLen X 1048576) (w : World) (ha : BkArg w a b c X) :
    Calls Try.prog 17 #[.agg #[.slice a X.A.length ca, .slice b X.L.length cb, .slice c X.H.length cc]] w fun e w' => ∃ g h m, e = .returned (.agg #[.slice (some ⟨g, 0, none⟩) X.A.length X.A.length, .slice (some ⟨h, 0, none⟩) X.L.length X.L.length, .slice (some ⟨m, 0, none⟩) X.H.length X.H.length]) ∧ BkOwn w.heap.size X g h m w' ∧ Below w.heap.size w w' := by
  have Q1 := Lib.hid (fun wx (hx : Below w.heap.size w wx) => to_ints X.A a ca hl.1 wx (ha.1.later hx))
  have Q2 := Lib.hid (fun wx (hx : Below w.heap.size w wx) => to_ints X.L b cb hl.2.1 wx (ha.2.1.later hx))
  have Q3 := Lib.hid (fun wx (hx : Below w.heap.size w wx) => to_ints X.H c cc hl.2.2 wx (ha.2.2.later hx))
  clear ha hl
  obtain ⟨W3, hW⟩ : ∃ W3, ((w.alloc (.cells #[.slice a X.A.length ca, .slice b X.L.length cb, .slice c X.H.length cc] 24)).alloc (.cells #[.slice none 0 0, .slice none 0 0, .slice none 0 0] 27)).alloc (.cells #[.slice none 0 0, .slice none 0 0, .slice none 0 0] 27) = W3 := ⟨_, rfl⟩
  have E3 : Hid (Below w.heap.size w W3) := by
    show Below w.heap.size w W3
    rw [← hW]; exact balloc (balloc (balloc0 _ _) _) _
  have P0 : W3.heap[w.heap.size]? = some (.cells #[.slice a X.A.length ca, .slice b X.L.length cb, .slice c X.H.length cc] 24 (0, 0)) := by
    rw [← hW, Below.heap_alloc _ _ _ (by simp; omega), Below.heap_alloc _ _ _ (by simp)]
    exact heap_alloc_new w _
  have R0 : W3.heap[w.heap.size + 1]? = some (.cells #[.slice none 0 0, .slice none 0 0, .slice none 0 0] 27 (0, 0)) := by
    rw [← hW, Below.heap_alloc _ _ _ (by simp)]
    have := heap_alloc_new (w.alloc (.cells #[.slice a X.A.length ca, .slice b X.L.length cb, .slice c X.H.length cc] 24)) (.cells #[.slice none 0 0, .slice none 0 0, .slice none 0 0] 27)
    simpa using this
  have O0 : W3.heap[w.heap.size + 1 + 1]? = some (.cells #[.slice none 0 0, .slice none 0 0, .slice none 0 0] 27 (0, 0)) := by
    rw [← hW]
    have := heap_alloc_new ((w.alloc (.cells #[.slice a X.A.length ca, .slice b X.L.length cb, .slice c X.H.length cc] 24)).alloc (.cells #[.slice none 0 0, .slice none 0 0, .slice none 0 0] 27)) (.cells #[.slice none 0 0, .slice none 0 0, .slice none 0 0] 27)
    simpa using this
  have z3 : W3.heap.size = w.heap.size + 3 := by rw [← hW]; simp
  have HW := Lib.hid hW
  clear hW
  go_enter Try.func17, Try.ntmps17
  go_wp2_with fail
  rw [HW.out]
  obtain ⟨p0, p1, p2, _, _, _⟩ := block_read P0
  go_wp2_with fail
  refine (Q1.out _ E3.out).mono ?_
  rintro e w1 ⟨g, rfl, o0, hb⟩
  have P0 := (hb.block _ (by omega)).trans P0
  have R0 := (hb.block _ (by omega)).trans R0
  have O0 := (hb.block _ (by omega)).trans O0
  have zw1 : w.heap.size + 3 ≤ w1.heap.size := by have := hb.size; omega
  have l0 : w.heap.size + 3 ≤ g := by have := o0.1; omega
  have u0 : g < w1.heap.size := o0.2.2.2
  have Bw1 := Lib.hid (bnext E3.out hb)
  have Bw1 : Hid (Below w.heap.size w (w1.setCell ⟨w.heap.size + 1 + 1, 0, none⟩ (.slice (some ⟨g, 0, none⟩) X.A.length X.A.length))) := Bw1.out.setCell (p := ⟨w.heap.size + 1 + 1, 0, none⟩) (by show _ ≤ w.heap.size + 1 + 1; omega) _
  try clear p0 p1 p2
  obtain ⟨c0, c1, c2, f0, f1, f2⟩ := block_read O0
  obtain ⟨p0, p1, p2, _, _, _⟩ := block_read P0
  obtain ⟨r0, r1, r2, f3, f4, f5⟩ := block_read R0
  have O0 : (w1.setCell ⟨w.heap.size + 1 + 1, 0, none⟩ (.slice (some ⟨g, 0, none⟩) X.A.length X.A.length)).heap[w.heap.size + 1 + 1]? = some (.cells #[.slice (some ⟨g, 0, none⟩) X.A.length X.A.length, .slice none 0 0, .slice none 0 0] 27 (0, 0)) := heap_setCell_same _ _ _ _ _ _ O0
  have P0 : (w1.setCell ⟨w.heap.size + 1 + 1, 0, none⟩ (.slice (some ⟨g, 0, none⟩) X.A.length X.A.length)).heap[w.heap.size]? = _ := (heap_setCell_other _ _ _ _ (by show w.heap.size ≠ w.heap.size + 1 + 1; omega)).trans P0
  have R0 : (w1.setCell ⟨w.heap.size + 1 + 1, 0, none⟩ (.slice (some ⟨g, 0, none⟩) X.A.length X.A.length)).heap[w.heap.size + 1]? = _ := (heap_setCell_other _ _ _ _ (by show w.heap.size + 1 ≠ w.heap.size + 1 + 1; omega)).trans R0
  have o0 : IntOwn _ X.A g (w1.setCell ⟨w.heap.size + 1 + 1, 0, none⟩ (.slice (some ⟨g, 0, none⟩) X.A.length X.A.length)) := o0.set (by omega)
  clear hb
  go_wp2_with fail
  clear c0 c1 c2 f0 f1 f2 f3 f4 f5 p0 p1 p2 r0 r1 r2
  obtain ⟨S0, hS⟩ : ∃ S, (w1.setCell ⟨w.heap.size + 1 + 1, 0, none⟩ (.slice (some ⟨g, 0, none⟩) X.A.length X.A.length)) = S := ⟨_, rfl⟩
  have zS0 : S0.heap.size = w1.heap.size := by rw [← hS]; simp
  rw [hS]
  rw [hS] at Bw1 O0 P0 R0 o0
  clear hS
  have u0 := o0.2.2.2
  refine (Q2.out _ Bw1.out).mono ?_
  rintro e w2 ⟨h, rfl, o1, hb⟩
  have P0 := (hb.block _ (by omega)).trans P0
  have R0 := (hb.block _ (by omega)).trans R0
  have O0 := (hb.block _ (by omega)).trans O0
  have zw2 : w.heap.size + 3 ≤ w2.heap.size := by have := hb.size; omega
  have o0 := o0.later hb
  have l1 : w.heap.size + 3 ≤ h := by have := o1.1; omega
  have d01 : g < h := by have h1 := o1.1; have h2 := u0; omega
  have u1 : h < w2.heap.size := o1.2.2.2
  have u0 := o0.2.2.2
  have Bw2 := Lib.hid (bnext Bw1.out hb)
  have Bw2 : Hid (Below w.heap.size w (w2.setCell ⟨w.heap.size + 1 + 1, 1, none⟩ (.slice (some ⟨h, 0, none⟩) X.L.length X.L.length))) := Bw2.out.setCell (p := ⟨w.heap.size + 1 + 1, 1, none⟩) (by show _ ≤ w.heap.size + 1 + 1; omega) _
  try clear p0 p1 p2
  obtain ⟨c0, c1, c2, f0, f1, f2⟩ := block_read O0
  obtain ⟨p0, p1, p2, _, _, _⟩ := block_read P0
  obtain ⟨r0, r1, r2, f3, f4, f5⟩ := block_read R0
  have O0 : (w2.setCell ⟨w.heap.size + 1 + 1, 1, none⟩ (.slice (some ⟨h, 0, none⟩) X.L.length X.L.length)).heap[w.heap.size + 1 + 1]? = some (.cells #[.slice (some ⟨g, 0, none⟩) X.A.length X.A.length, .slice (some ⟨h, 0, none⟩) X.L.length X.L.length, .slice none 0 0] 27 (0, 0)) := heap_setCell_same _ _ _ _ _ _ O0
  have P0 : (w2.setCell ⟨w.heap.size + 1 + 1, 1, none⟩ (.slice (some ⟨h, 0, none⟩) X.L.length X.L.length)).heap[w.heap.size]? = _ := (heap_setCell_other _ _ _ _ (by show w.heap.size ≠ w.heap.size + 1 + 1; omega)).trans P0
  have R0 : (w2.setCell ⟨w.heap.size + 1 + 1, 1, none⟩ (.slice (some ⟨h, 0, none⟩) X.L.length X.L.length)).heap[w.heap.size + 1]? = _ := (heap_setCell_other _ _ _ _ (by show w.heap.size + 1 ≠ w.heap.size + 1 + 1; omega)).trans R0
  have o0 : IntOwn _ X.A g (w2.setCell ⟨w.heap.size + 1 + 1, 1, none⟩ (.slice (some ⟨h, 0, none⟩) X.L.length X.L.length)) := o0.set (by omega)
  have o1 : IntOwn _ X.L h (w2.setCell ⟨w.heap.size + 1 + 1, 1, none⟩ (.slice (some ⟨h, 0, none⟩) X.L.length X.L.length)) := o1.set (by omega)
  clear hb
  go_wp2_with fail
  clear c0 c1 c2 f0 f1 f2 f3 f4 f5 p0 p1 p2 r0 r1 r2
  obtain ⟨S1, hS⟩ : ∃ S, (w2.setCell ⟨w.heap.size + 1 + 1, 1, none⟩ (.slice (some ⟨h, 0, none⟩) X.L.length X.L.length)) = S := ⟨_, rfl⟩
  have zS1 : S1.heap.size = w2.heap.size := by rw [← hS]; simp
  rw [hS]
  rw [hS] at Bw2 O0 P0 R0 o0 o1
  clear hS
  have u0 := o0.2.2.2
  have u1 := o1.2.2.2
  refine (Q3.out _ Bw2.out).mono ?_
  rintro e w3 ⟨m, rfl, o2, hb⟩
  have P0 := (hb.block _ (by omega)).trans P0
  have R0 := (hb.block _ (by omega)).trans R0
  have O0 := (hb.block _ (by omega)).trans O0
  have zw3 : w.heap.size + 3 ≤ w3.heap.size := by have := hb.size; omega
  have o0 := o0.later hb
  have o1 := o1.later hb
  have l2 : w.heap.size + 3 ≤ m := by have := o2.1; omega
  have d02 : g < m := by have h1 := o2.1; have h2 := u0; omega
  have d12 : h < m := by have h1 := o2.1; have h2 := u1; omega
  have u2 : m < w3.heap.size := o2.2.2.2
  have u0 := o0.2.2.2
  have u1 := o1.2.2.2
  have Bw3 := Lib.hid (bnext Bw2.out hb)
  have Bw3 : Hid (Below w.heap.size w (w3.setCell ⟨w.heap.size + 1 + 1, 2, none⟩ (.slice (some ⟨m, 0, none⟩) X.H.length X.H.length))) := Bw3.out.setCell (p := ⟨w.heap.size + 1 + 1, 2, none⟩) (by show _ ≤ w.heap.size + 1 + 1; omega) _
  try clear p0 p1 p2
  obtain ⟨c0, c1, c2, f0, f1, f2⟩ := block_read O0
  obtain ⟨p0, p1, p2, _, _, _⟩ := block_read P0
  obtain ⟨r0, r1, r2, f3, f4, f5⟩ := block_read R0
  have O0 : (w3.setCell ⟨w.heap.size + 1 + 1, 2, none⟩ (.slice (some ⟨m, 0, none⟩) X.H.length X.H.length)).heap[w.heap.size + 1 + 1]? = some (.cells #[.slice (some ⟨g, 0, none⟩) X.A.length X.A.length, .slice (some ⟨h, 0, none⟩) X.L.length X.L.length, .slice (some ⟨m, 0, none⟩) X.H.length X.H.length] 27 (0, 0)) := heap_setCell_same _ _ _ _ _ _ O0
  have P0 : (w3.setCell ⟨w.heap.size + 1 + 1, 2, none⟩ (.slice (some ⟨m, 0, none⟩) X.H.length X.H.length)).heap[w.heap.size]? = _ := (heap_setCell_other _ _ _ _ (by show w.heap.size ≠ w.heap.size + 1 + 1; omega)).trans P0
  have R0 : (w3.setCell ⟨w.heap.size + 1 + 1, 2, none⟩ (.slice (some ⟨m, 0, none⟩) X.H.length X.H.length)).heap[w.heap.size + 1]? = _ := (heap_setCell_other _ _ _ _ (by show w.heap.size + 1 ≠ w.heap.size + 1 + 1; omega)).trans R0
  have o0 : IntOwn _ X.A g (w3.setCell ⟨w.heap.size + 1 + 1, 2, none⟩ (.slice (some ⟨m, 0, none⟩) X.H.length X.H.length)) := o0.set (by omega)
  have o1 : IntOwn _ X.L h (w3.setCell ⟨w.heap.size + 1 + 1, 2, none⟩ (.slice (some ⟨m, 0, none⟩) X.H.length X.H.length)) := o1.set (by omega)
  have o2 : IntOwn _ X.H m (w3.setCell ⟨w.heap.size + 1 + 1, 2, none⟩ (.slice (some ⟨m, 0, none⟩) X.H.length X.H.length)) := o2.set (by omega)
  clear hb
  have u0 := o0.2.2.2
  have u1 := o1.2.2.2
  have u2 := o2.2.2.2
  have FO : Hid (BkOwn w.heap.size X g h m (w3.setCell ⟨w.heap.size + 1 + 1, 2, none⟩ (.slice (some ⟨m, 0, none⟩) X.H.length X.H.length))) := ⟨o0.base' (by omega), o1.base' (by omega), o2.base' (by omega), by omega, by omega⟩
  clear o0 o1 o2
  go_wp2_with fail
  refine bodyPost_ret (v := .agg #[.slice (some ⟨g, 0, none⟩) X.A.length X.A.length, .slice (some ⟨h, 0, none⟩) X.L.length X.L.length, .slice (some ⟨m, 0, none⟩) X.H.length X.H.length]) (by simp [results, Try.results17, go_sem, r0, r1, r2]) rfl ⟨g, h, m, rfl, ?_, ?_⟩
  · exact ((FO.out.set (by omega)).set (by omega)).set (by omega)
  · exact ((Bw3.out.setCell (p := ⟨w.heap.size + 1, 0, none⟩) (Nat.le_add_right _ _) _).setCell (p := ⟨w.heap.size + 1, 1, none⟩) (Nat.le_add_right _ _) _).setCell (p := ⟨w.heap.size + 1, 2, none⟩) (Nat.le_add_right _ _) _
set_option maxRecDepth 100000 in
set_option maxHeartbeats 1600000 in
theorem mark_bk (X : Bk) (hl : BkLen X 1048577) (K : Nat) (hK2 : K ≤ 10000000) (B g h m : Nat) (ca cb cc : Nat) (w : World) (q : BkOwn B X g h m w) :
    Calls Try.prog 23 #[.agg #[.slice (some ⟨g, 0, none⟩) X.A.length ca, .slice (some ⟨h, 0, none⟩) X.L.length cb, .slice (some ⟨m, 0, none⟩) X.H.length cc], .int .i64 K] w fun e w' => e = .returned (.int .i64 ((K + X.A.length + X.L.length + X.H.length : Nat) : Int)) ∧ ∃ u v, Only g w u ∧ Only h u v ∧ Only m v w' := by
  obtain ⟨q1, q2, q3, hgh, hhm⟩ := q
  have gl := q1.2.2.2
  have hl' := q2.2.2.2
  have ml := q3.2.2.2
  have C1 := Lib.hid (fun wx hq => mark_ints X.A hl.1 K (by omega) B g ca wx hq)
  have C2 := Lib.hid (fun wx hq => mark_ints X.L hl.2.1 (K + X.A.length) (by have := hl.1; omega) B h cb wx hq)
  have C3 := Lib.hid (fun wx hq => mark_ints X.H hl.2.2 (K + X.A.length + X.L.length) (by have := hl.1; have := hl.2.1; omega) B m cc wx hq)
  have k0 := BkBox.new w X (some ⟨g, 0, none⟩) (some ⟨h, 0, none⟩) (some ⟨m, 0, none⟩) ca cb cc 27
  have b0 := balloc0 w (.cells #[.slice (some ⟨g, 0, none⟩) X.A.length ca, .slice (some ⟨h, 0, none⟩) X.L.length cb, .slice (some ⟨m, 0, none⟩) X.H.length cc] 27)
  have q1 := q1.later b0
  have q2 := q2.later b0
  have q3 := q3.later b0
  have hz : (w.alloc (.cells #[.slice (some ⟨g, 0, none⟩) X.A.length ca, .slice (some ⟨h, 0, none⟩) X.L.length cb, .slice (some ⟨m, 0, none⟩) X.H.length cc] 27)).heap.size = w.heap.size + 1 := by simp
  obtain ⟨U, hU⟩ : ∃ U, w.alloc (.cells #[.slice (some ⟨g, 0, none⟩) X.A.length ca, .slice (some ⟨h, 0, none⟩) X.L.length cb, .slice (some ⟨m, 0, none⟩) X.H.length cc] 27) = U := ⟨_, rfl⟩
  rw [hU] at k0 b0 q1 q2 q3 hz
  have HU := Lib.hid hU
  clear hU hl
  go_enter Try.func23, Try.ntmps23
  go_wp2_with fail
  rw [HU.out]
  obtain ⟨p0, p1, p2⟩ := k0
  go_wp2_with fail
  refine (C1.out _ q1).mono ?_
  rintro e w1 ⟨rfl, O1, _⟩
  have k1 := BkBox.only (n := w.heap.size) (X := X) ⟨p0, p1, p2⟩ O1 (by omega)
  have q2 := q2.only O1 (by omega)
  have q3 := q3.only O1 (by omega)
  have z1 := O1.size
  obtain ⟨K1, hK1⟩ : ∃ K1, K + X.A.length = K1 := ⟨_, rfl⟩
  rw [hK1] at C2 C3 ⊢
  clear p0 p1 p2
  have O1 := Lib.hid O1
  have HK1 := Lib.hid hK1
  clear hK1
  obtain ⟨p0, p1, p2⟩ := k1
  go_wp2_with fail
  refine (C2.out _ q2).mono ?_
  rintro e w2 ⟨rfl, O2, _⟩
  have k2 := BkBox.only (n := w.heap.size) (X := X) ⟨p0, p1, p2⟩ O2 (by omega)
  have q3 := q3.only O2 (by omega)
  obtain ⟨K2, hK2⟩ : ∃ K2, K1 + X.L.length = K2 := ⟨_, rfl⟩
  rw [hK2] at C3 ⊢
  clear p0 p1 p2
  have O2 := Lib.hid O2
  have HK2 := Lib.hid hK2
  clear hK2
  obtain ⟨p0, p1, p2⟩ := k2
  go_wp2_with fail
  refine (C3.out _ q3).mono ?_
  rintro e w3 ⟨rfl, O3, _⟩
  have O3 := Lib.hid O3
  clear p0 p1 p2 q3
  go_wp2
  go_ret
  exact ⟨ret_int (by have := HK1.out; have := HK2.out; omega), w1, w2, ⟨O1.out.os.trans b0.os, O1.out.tape.trans b0.tape, O1.out.output.trans b0.output, Nat.le_trans b0.size O1.out.size, fun i hi hne => (O1.out.block i (Nat.lt_of_lt_of_le hi b0.size) hne).trans (b0.block i hi)⟩, O2.out, O3.out⟩
end Go.Proofs.Ytlglijalhacmhaa
