/-
  The program's walk around a building: one step, one turn, the iterator over all sides.
-/
import Derived.RangeFuncNested
import Derived.RangeFuncBound
import Derived.RangeFuncCalls
import Derived.RangeFuncLeaves
import Derived.Shelf.Abstract
import Derived.Shelf.RegionOpen
import Derived.Stop.RegionWithIn
import Derived.WalkKit
import Derived.OwnWalkIn
import Derived.TacticsInMore
import Derived.LoopNIn
import Derived.LoopIn
import Derived.Test.YtikjielgnlgnjaaDoorRg
import Derived.Test.YtikjielgnlgnjaaDoorHoL
namespace Go.Proofs.YtikjielgnlgnjaaDoor
open Go.ChangeShapes Go.WideShapes Go.ChangeAt Go.RowKit Go.Joins Go.Shelf

attribute [local go_sem] Oper.semAt_some

/-- Directions lie in the program's table. -/
def DirAt (w : World) : Prop := ∀ d, d < 4 → w.cell? ⟨0, 2 * d, none⟩ = some (.int .i64 (wayX d)) ∧ w.cell? ⟨0, 2 * d + 1, none⟩ = some (.int .i64 (wayY d))
theorem DirAt.below {n : Nat} {w w' : World} (h : DirAt w) (hb : Below n w w') (hn : 0 < n) : DirAt w' := fun d hd => ⟨(hb.cell (p := ⟨0, 2 * d, none⟩) hn).trans (h d hd).1, (hb.cell (p := ⟨0, 2 * d + 1, none⟩) hn).trans (h d hd).2⟩
theorem DirAt.lt {w : World} (h : DirAt w) : 0 < w.heap.size := World.block_lt_of_cell? w _ (h 0 (by omega)).1
theorem DirAt.later {w w' : World} (h : DirAt w) (hb : Below w.heap.size w w') : DirAt w' := h.below hb h.lt

set_option maxRecDepth 100000 in
set_option maxHeartbeats 1600000 in
theorem ahead_impl (x y len : Int) (d : Nat) (hd : d < 4) (hx : -3000 ≤ x ∧ x ≤ 3000) (hy : -3000 ≤ y ∧ y ≤ 3000) (hl : 0 ≤ len ∧ len ≤ 200) (w : World) :
    Calls Tryd.prog 87 #[.agg #[.int .i64 x, .int .i64 y], .agg #[.int .i64 (wayX d), .int .i64 (wayY d)], .int .i64 len] w fun e w' => e = .returned (.agg #[.int .i64 (x + wayX d * len), .int .i64 (y + wayY d * len)]) ∧ Below w.heap.size w w' := by
  have hc : d = 0 ∨ d = 1 ∨ d = 2 ∨ d = 3 := by omega
  rcases hc with rfl | rfl | rfl | rfl
  all_goals
    simp only [wayX, wayY, Nat.reduceEqDiff, if_true, if_false]
    go_enter Tryd.func87, Tryd.ntmps87
    go_wp2
    refine bodyPost_ret (v := .agg #[.int .i64 _, .int .i64 _]) (by simp [results, Tryd.results87, go_sem]; exact ⟨rfl, rfl⟩) rfl ⟨?_, balloc (balloc (balloc0 _ _) _) _⟩
    simp <;> omega
theorem leftTurns_impl (t : Int) (w : World) : Calls Tryd.prog 88 #[.int .u8 t] w fun e w' => e = .returned (.int .i64 (if t = 82 then 3 else 1)) ∧ w = w' := by
  by_cases h : t = 82
  · subst h
    go_enter Tryd.func88, Tryd.ntmps88
    go_wp2
    go_ret
    exact ⟨rfl, rfl⟩
  · rw [if_neg h]
    go_enter Tryd.func88, Tryd.ntmps88
    go_wp2
    go_ret
    exact ⟨rfl, rfl⟩
/-- A value that goes around a building. -/
theorem walk_in (v : Value) (T : ByteArray) (w : World) : CallsIn Fence.wide 1 Tryd.prog 64 #[.agg #[v, .string T]] w fun e w' => e = .returned (.func (.func 86) #[] #[.pointer (some ⟨w.heap.size, 0, none⟩)]) ∧ w' = w.alloc (.cells #[v, .string T] 27) := by
  refine callsIn_wide.2 ?_
  go_enter Tryd.func64, Tryd.ntmps64
  go_wp2
  go_ret
  exact ⟨rfl, rfl⟩

/-- Block b holds what it held. -/
def KpBh (b : Nat) (W W' : World) : Prop := ∀ o : Obj, W.heap[b]? = some o → o.isCells = true → W'.heap[b]? = some o
theorem KpBh.refl (b : Nat) (W : World) : KpBh b W W := fun _ h _ => h
theorem KpBh.t {b : Nat} {A B C : World} (h : KpBh b A B) (k : KpBh b B C) : KpBh b A C := fun o h0 h1 => k o (h o h0 h1) h1
theorem KpBh.put {b : Nat} {W : World} {l : Nat} {o : Obj} (o' : Obj) (h : W.heap[l]? = some o) (ho : o.isCells = false) : KpBh b W (W.putObj l o') := fun x hx hc => by
  have hne : b ≠ l := fun e => by subst e; rw [h] at hx; cases hx; rw [ho] at hc; cases hc
  exact (World.putObj_heap_other hne).trans hx
theorem KpBh.below {b n : Nat} {W W' : World} (h : Below n W W') (hn : b < n) : KpBh b W W' := fun _ ho _ => (h.block b hn).trans ho
theorem KpBh.alloc {b : Nat} (W : World) (x : Obj) : KpBh b W (W.alloc x) := fun _ ho _ => (Below.heap_alloc _ _ _ (Array.getElem?_eq_some_iff.1 ho).1).trans ho
theorem KpBh.set {b : Nat} {W : World} {p : Addr} {v : Value} (hne : p.block ≠ b) : KpBh b W (W.setCell p v) := fun _ ho _ => (Below.heap_setCell _ _ _ b (fun e => hne e.symm)).trans ho
/-- Places from block c on stay. -/
def KpP (c : Nat) (W W' : World) : Prop := ∀ (k : Nat) (cs : Array Value), c ≤ k → W.heap[k]? = some (.cells cs 72 (0, 0)) → W'.heap[k]? = some (.cells cs 72 (0, 0))
/-- What a round keeps: what lies below n, the plan's box, places from block c on. -/
def KpH (n b c : Nat) (W W' : World) : Prop := Below n W W' ∧ KpBh b W W' ∧ KpP c W W'
theorem KpH.t {n b c : Nat} {A B C : World} (h : KpH n b c A B) (k : KpH n b c B C) : KpH n b c A C := ⟨h.1.trans k.1, h.2.1.t k.2.1, fun i cs hi h0 => k.2.2 i cs hi (h.2.2 i cs hi h0)⟩
theorem KpH.put {n b c m : Nat} (hn : n ≤ m) (W : World) (l : Nat) (o o' : Obj) (hl : m ≤ l) (h : W.heap[l]? = some o) (ho : o.isCells = false) (_ : o.isWalk = false) : KpH n b c W (W.putObj l o') :=
  ⟨⟨rfl, rfl, rfl, by simp, fun k hk => World.putObj_heap_other (by omega)⟩, KpBh.put o' h ho, fun i _ _ h0 => (World.putObj_heap_other (fun e => by subst e; rw [h] at h0; cases h0; cases ho)).trans h0⟩
theorem KpH.below {n b c m : Nat} {W W' : World} (h : Below m W W') (hn : n ≤ m) (hb : b < m) (hm : W.heap.size ≤ m) : KpH n b c W W' := ⟨h.mono hn, KpBh.below h hb, fun i _ _ h0 => (h.block i (Nat.lt_of_lt_of_le (Array.getElem?_eq_some_iff.1 h0).1 hm)).trans h0⟩
theorem KpH.set {n b c : Nat} {W : World} {p : Addr} {v : Value} (hn : n ≤ p.block) (hb : p.block ≠ b) (hc : p.block < c) : KpH n b c W (W.setCell p v) :=
  ⟨(Below.refl n W).setCell hn v, KpBh.set hb, fun i _ hi h0 => (Below.heap_setCell _ _ _ i (by omega)).trans h0⟩
/-- Numbers that lie low. -/
def IntDeep (n : Nat) (a : Option Addr) (P : List Int) (w : World) : Prop := P = [] ∨ ∃ b o, a = some ⟨b, o, none⟩ ∧ b < n ∧ IntAt w b o P
theorem IntDeep.of {a : Option Addr} {P : List Int} {w : World} (h : IntArg w a P) : IntDeep w.heap.size a P w := by
  rcases h with h | ⟨b, o, h1, h2⟩
  · exact .inl h
  · rcases P with _ | ⟨z, P⟩
    · exact .inl rfl
    · exact .inr ⟨b, o, h1, World.block_lt_of_cell? w _ (h2 0 z rfl), h2⟩
theorem IntDeep.below {n m : Nat} {a : Option Addr} {P : List Int} {w w' : World} (h : IntDeep n a P w) (hb : Below m w w') (hn : n ≤ m) : IntDeep n a P w' := by
  rcases h with h | ⟨b, o, h1, h2, h3⟩
  · exact .inl h
  · exact .inr ⟨b, o, h1, h2, fun k z hk => (hb.cell (p := ⟨b, o + k, none⟩) (by show b < m; omega)).trans (h3 k z hk)⟩
theorem IntDeep.arg {n : Nat} {a : Option Addr} {P : List Int} {w : World} (h : IntDeep n a P w) : IntArg w a P := by
  rcases h with h | ⟨b, o, h1, _, h3⟩
  · exact .inl h
  · exact .inr ⟨b, o, h1, h3⟩
/-- What the iterator reads. -/
structure HoR (n b : Nat) (a : Option Addr) (cap : Nat) (P : List Int) (T : ByteArray) (W : World) : Prop where
  low : IntDeep n a P W
  dir : DirAt W
  dlt : 0 < n
  box : W.heap[b]? = some (.cells #[.slice a P.length cap, .string T] 27 (0, 0))
theorem HoR.keep {n b c : Nat} {a : Option Addr} {cap : Nat} {P : List Int} {T : ByteArray} {W W' : World} (h : HoR n b a cap P T W) (hk : KpH n b c W W') : HoR n b a cap P T W' :=
  ⟨h.low.below hk.1 (Nat.le_refl _), h.dir.below hk.1 h.dlt, h.dlt, hk.2.1 _ h.box rfl⟩
theorem HoR.below {n m b : Nat} {a : Option Addr} {cap : Nat} {P : List Int} {T : ByteArray} {W W' : World} (h : HoR n b a cap P T W) (hk : Below m W W') (hn : n ≤ m) (hb : b < m) : HoR n b a cap P T W' :=
  ⟨h.low.below hk hn, h.dir.below hk (Nat.lt_of_lt_of_le h.dlt hn), h.dlt, (hk.block b hb).trans h.box⟩
theorem HoR.set {n b : Nat} {a : Option Addr} {cap : Nat} {P : List Int} {T : ByteArray} {W : World} (h : HoR n b a cap P T W) {p : Addr} (v : Value) (hn : n ≤ p.block) (hb : p.block ≠ b) : HoR n b a cap P T (W.setCell p v) :=
  ⟨h.low.below ((Below.refl n W).setCell hn v) (Nat.le_refl _), h.dir.below ((Below.refl n W).setCell hn v) h.dlt, h.dlt, (Below.heap_setCell _ _ _ b (fun e => hb e.symm)).trans h.box⟩

/-- One may go around it. -/
def okHo' (P : List Int) (T : ByteArray) : Prop := runsB P = true ∧ lrB T = true ∧ P.length ≤ 12 ∧ T.size = P.length
/-- From where to where the first m sides go. -/
def legs (P : List Int) (T : ByteArray) (m : Nat) : List (Spot × Spot) := (List.range m).map fun k => (spot P T k, spot P T (k + 1))
theorem legs_succ (P : List Int) (T : ByteArray) (m : Nat) : legs P T (m + 1) = legs P T m ++ [(spot P T m, spot P T (m + 1))] := by simp [legs, List.range_succ]
theorem legs_length (P : List Int) (T : ByteArray) (m : Nat) : (legs P T m).length = m := by simp [legs]
theorem legs_at {P : List Int} {T : ByteArray} {m k : Nat} (h : k < m) : (legs P T m)[k]? = some (spot P T k, spot P T (k + 1)) := by simp [legs, h]
theorem legs_prefix (P : List Int) (T : ByteArray) {m n : Nat} (h : m ≤ n) : legs P T m <+: legs P T n := by
  induction n with
  | zero => have : m = 0 := by omega
            subst this; exact List.prefix_refl _
  | succ n ih =>
    by_cases e : m = n + 1
    · subst e; exact List.prefix_refl _
    · rw [legs_succ]
      exact (ih (by omega)).trans (List.prefix_append _ _)
/-- Sides that were gone along, and one more: they are the first ones. -/
theorem legs_pre {P : List Int} {T : ByteArray} {n : Nat} {pre : List (Spot × Spot)} {x : Spot × Spot} (h : pre ++ [x] <+: legs P T n) : ∃ k, k < n ∧ pre = legs P T k ∧ x = (spot P T k, spot P T (k + 1)) := by
  have hl := h.length_le
  rw [legs_length, List.length_append] at hl
  simp at hl
  have h2 : pre ++ [x] = legs P T (pre.length + 1) := by
    have h3 := legs_prefix P T (show pre.length + 1 ≤ n by omega)
    refine List.IsPrefix.eq_of_length ?_ (by simp [legs_length])
    exact List.prefix_of_prefix_length_le h h3 (by simp [legs_length])
  rw [legs_succ] at h2
  obtain ⟨e1, e2⟩ := List.append_inj' h2 rfl
  exact ⟨pre.length, by omega, e1, by simpa using e2⟩
def plc (s : Spot) : Value := .agg #[.int .i64 s.x, .int .i64 s.y]
def encL (x : Spot × Spot) : Array Value := #[plc x.1, plc x.2]
/-- The iterator's variable. -/
def FrAt (c : Nat) (s : Spot) (W : World) : Prop := W.heap[c]? = some (.cells #[.int .i64 s.x, .int .i64 s.y] 72 (0, 0))
theorem FrAt.cells {c : Nat} {s : Spot} {W : World} (h : FrAt c s W) : (W.cell? ⟨c, 0, none⟩ = some (.int .i64 s.x) ∧ W.cell? ⟨c, 1, none⟩ = some (.int .i64 s.y)) ∧ W.frozen? ⟨c, 0, none⟩ = false ∧ W.frozen? ⟨c, 1, none⟩ = false :=
  ⟨⟨(cell_of_block h 0).trans rfl, (cell_of_block h 1).trans rfl⟩, unfrozen_of_block h 0, unfrozen_of_block h 1⟩
theorem FrAt.below {c n : Nat} {s : Spot} {W W' : World} (h : FrAt c s W) (hb : Below n W W') (hn : c < n) : FrAt c s W' := (hb.block c hn).trans h
theorem FrAt.lt {c : Nat} {s : Spot} {W : World} (h : FrAt c s W) : c < W.heap.size := (Array.getElem?_eq_some_iff.1 h).1
theorem FrAt.set {c : Nat} {s : Spot} {W : World} (h : FrAt c s W) (x y : Int) (d : Nat) : FrAt c ⟨x, y, d⟩ ((W.setCell ⟨c, 0, none⟩ (.int .i64 x)).setCell ⟨c, 1, none⟩ (.int .i64 y)) := by
  have h1 := heap_setCell_same W c 0 _ _ (.int .i64 x) h
  have h2 := heap_setCell_same _ c 1 _ _ (.int .i64 y) h1
  exact h2
theorem grown_set (W : World) (c o : Nat) (v : Value) : W.grownBy (W.setCell ⟨c, o, none⟩ v) (some c) :=
  ⟨rfl, rfl, rfl, by simp [World.setCell], fun k _ hne => Below.heap_setCell _ _ _ k (fun e => hne (by rw [e]))⟩
theorem grownH {w w' : World} (h : Below w.heap.size w w') : w.grownBy w' none := ⟨h.os, h.tape, h.output, h.size, fun k hk _ => h.block k hk⟩
theorem AbidesX.later {β : Type} {B : Nat} {J : β → World → Prop} (h : AbidesX B J) {s : β} {W W' : World} (hs : J s W) (hb : Below W.heap.size W W') : J s W' := h s W W' none hs (grownH hb) (fun r e => by cases e)
theorem AbidesX.set {β : Type} {B : Nat} {J : β → World → Prop} (h : AbidesX B J) {s : β} {W : World} (hs : J s W) (o : Nat) (v : Value) : J s (W.setCell ⟨B, o, none⟩ v) := h s W _ (some B) hs (grown_set W B o v) (fun r e => by cases e; rfl)
theorem boxH' {W : World} {b : Nat} {v : Value} {T : ByteArray} {t : TypeId} (h : W.heap[b]? = some (.cells #[v, .string T] t (0, 0))) : W.cell? ⟨b, 0, none⟩ = some v ∧ W.cell? ⟨b, 1, none⟩ = some (.string T) := ⟨(cell_of_block h 0).trans rfl, (cell_of_block h 1).trans rfl⟩
/-- A block that was laid ahead of a call holds what it held. -/
theorem alloc_facts {w w1 : World} {x y : Value} {t : TypeId} (hb : Below (w.alloc (.cells #[x, y] t)).heap.size (w.alloc (.cells #[x, y] t)) w1) : (w1.cell? ⟨w.heap.size, 0, none⟩ = some x ∧ w1.cell? ⟨w.heap.size, 1, none⟩ = some y) ∧ w1.frozen? ⟨w.heap.size, 0, none⟩ = false ∧ w1.frozen? ⟨w.heap.size, 1, none⟩ = false := by
  have h : w1.heap[w.heap.size]? = some (.cells #[x, y] t (0, 0)) := (hb.block _ (by simp)).trans (heap_alloc_new w _)
  exact ⟨⟨(cell_of_block h 0).trans rfl, (cell_of_block h 1).trans rfl⟩, unfrozen_of_block h 0, unfrozen_of_block h 1⟩
theorem undrew {n : Nat} {w w' : World} (h : Below n w.drew w') : Below n w w' := ⟨h.os, h.tape, h.output, h.size, h.block⟩
/-- A place that is laid ahead of a call and written behind it. -/
theorem place_late {wr w1 : World} (hb : Below (wr.alloc (.cells #[.int .i64 0, .int .i64 0] 72)).drew.heap.size (wr.alloc (.cells #[.int .i64 0, .int .i64 0] 72)).drew w1) (x y : Int) (d : Nat) :
    Below wr.heap.size wr ((w1.setCell ⟨wr.heap.size, 0, none⟩ (.int .i64 x)).setCell ⟨wr.heap.size, 1, none⟩ (.int .i64 y)) ∧ FrAt wr.heap.size ⟨x, y, d⟩ ((w1.setCell ⟨wr.heap.size, 0, none⟩ (.int .i64 x)).setCell ⟨wr.heap.size, 1, none⟩ (.int .i64 y)) := by
  have h1 : Below (wr.heap.size + 1) (wr.alloc (.cells #[.int .i64 0, .int .i64 0] 72)) w1 := by
    have := hb
    rw [show (wr.alloc (.cells #[.int .i64 0, .int .i64 0] 72)).drew.heap.size = wr.heap.size + 1 from World.size_alloc _ _] at this
    exact undrew this
  refine ⟨?_, ?_⟩
  · exact ((((balloc0 wr _).trans (h1.mono (Nat.le_succ _))).setCell (p := ⟨wr.heap.size, 0, none⟩) (Nat.le_refl _) _).setCell (p := ⟨wr.heap.size, 1, none⟩) (Nat.le_refl _) _)
  · exact FrAt.set (s := ⟨0, 0, 0⟩) ((h1.block _ (Nat.lt_succ_self _)).trans (heap_alloc_new wr _)) x y d
set_option maxRecDepth 100000 in
set_option maxHeartbeats 12800000 in
theorem walk1_in (m : Nat) (hm : 2 ≤ m) (n Bn : Nat) (P : List Int) (T : ByteArray) (a : Option Addr) (cap : Nat) (hr : runsB P = true) (ht : lrB T = true) (hl : P.length ≤ 12) (hT : T.size = P.length)
    (l : Nat) (J : List (Spot × Spot) → World → Prop) (W : World) (hn : n ≤ W.heap.size) (hBn : Bn < W.heap.size) (hJ : AbidesX W.heap.size J)
    (hY : ∀ pre x W1, pre ++ [x] <+: legs P T P.length → W.heap.size < W1.heap.size → J pre W1 → YieldAt Fence.wide (m - 1) Tryd.prog l (encL x) W1 fun e W' => e = .returned (.bool true) ∧ J (pre ++ [x]) W' ∧ KpH n Bn W.heap.size W1 W')
    (hH : HoR n Bn a cap P T W) (h0 : J [] W) :
    CallsIn Fence.wide m Tryd.prog 86 #[.func (.yield l) #[] #[], .pointer (some ⟨Bn, 0, none⟩)] W fun e W' => (∃ v, e = .returned v) ∧ J (legs P T P.length) W' := by
  have J0 : Hid (J [] (W.alloc (.cells #[.int .i64 0, .int .i64 0] 72))) := hJ.later h0 (balloc0 _ _)
  have H0 : Hid (HoR n Bn a cap P T (W.alloc (.cells #[.int .i64 0, .int .i64 0] 72))) := hH.below (balloc0 _ _) hn hBn
  have F0 : Hid (FrAt W.heap.size ⟨0, 0, 0⟩ (W.alloc (.cells #[.int .i64 0, .int .i64 0] 72))) := heap_alloc_new _ _
  obtain ⟨b0, b1⟩ := boxH' H0.out.box
  have HJ := Lib.hid hJ
  have HY := Lib.hid hY
  have HR := Lib.hid hr
  have HT := Lib.hid ht
  clear hH h0 hJ hY hr ht
  refine callsIn_of_wp Tryd.func86 rfl trivial ?_ rfl
  simp only [Tryd.ntmps86, List.size_toArray, List.length_cons, List.length_nil, Nat.reduceAdd, Nat.reduceSub, Array.replicate_succ, Array.replicate_zero, List.push_toArray, List.append_toArray, List.nil_append, List.cons_append]
  gi_wp2
  gi_loopw [4, 12] (fun d i wr => ∃ (k : Nat) (s : Spot), k ≤ P.length ∧ d = .int .i64 (s.d : Int) ∧ i = .int .i64 (k : Int) ∧ Hid (spot P T k = s) ∧ Hid (FrAt W.heap.size s wr) ∧ Hid (HoR n Bn a cap P T wr) ∧ Hid (J (legs P T k) wr)) (fun _ i _ => P.length - (intOf i).toNat)
  case atStart => exact ⟨0, ⟨0, 0, 0⟩, Nat.zero_le _, rfl, rfl, rfl, F0.out, H0.out, J0.out⟩
  case round =>
    obtain ⟨k, ⟨x, y, d⟩, hk, rfl, rfl, hs, hF, hH, hj⟩ := hrel
    by_cases hlt : k < P.length
    · have hlt' : (k : Int) < (P.length : Int) := by omega
      have hk0 : (0 : Int) ≤ (k : Int) := by omega
      have hkT : k < T.size := by omega
      have hkT' : (k : Int) < (T.size : Int) := by omega
      obtain ⟨bb, o, z, rfl, hz, hat⟩ := hH.out.low.arg.at hlt
      have c0 := hat k z hz
      have hzb := runsB_at HR.out hz
      have hsb := spot_le HR.out T k
      rw [hs.out] at hsb
      have hdb := spot_dir P T k
      rw [hs.out] at hdb
      simp only at hsb hdb
      obtain ⟨⟨f0, f1⟩, f2, f3⟩ := hF.out.cells
      have HN : Hid (spot P T (k + 1) = (⟨x, y, d⟩ : Spot).to z (T[k]'hkT)) := by show _ = _; rw [spot_succ hz hkT, hs.out]
      have hlr := lrB_at HT.out hkT
      have HP : Hid (legs P T k ++ [(⟨x, y, d⟩, spot P T (k + 1))] <+: legs P T P.length) := by
        show _ <+: _
        have := legs_prefix P T (show k + 1 ≤ P.length by omega)
        rw [legs_succ, hs.out] at this
        exact this
      have hlt1 : W.heap.size < wr.heap.size := hF.out.lt
      have hlt2 : 0 < wr.heap.size := by omega
      have AH := Lib.hid (fun wx => ahead_impl x y z d hdb (by omega) (by omega) (by omega) wx)
      clear hat hz
      have g0 := (hH.out.dir d hdb).1
      have g1 := (hH.out.dir d hdb).2
      rw [Nat.mul_comm] at g0 g1
      have hd0 : (0 : Int) ≤ (d : Int) := by omega
      have hd4 : (d : Int) < 4 := by omega
      gi_wp2_with fail
      obtain ⟨K0, hK0⟩ : ∃ K0 : Act → World → Prop, K0 = fun a' V => ∃ (tb : Nat) (t13 t14 t15 t16 t17 t18 t19 t20 t21 t22 t23 t24 t25 t26 t27 t28 t29 t30 t31 t32 t33 t34 t35 t36 t37 : Value), a' = { tmps := #[.func (.yield l) #[] #[], .pointer (some ⟨Bn, 0, none⟩), undef, .pointer (some ⟨W.heap.size, 0, none⟩), .int .i64 (d : Int), .int .i64 (k : Int), .int .i64 z, .pointer (some ⟨tb, 0, none⟩), .agg #[.int .i64 0, .int .i64 0], .pointer (some ⟨Bn, 0, none⟩), .slice (some ⟨bb, o, none⟩) P.length cap, .int .i64 (P.length : Int), .int .i64 (k : Int), t13, t14, t15, t16, t17, t18, t19, t20, t21, t22, t23, t24, t25, t26, t27, t28, t29, t30, t31, t32, t33, t34, t35, t36, t37], defers := [] } ∧ Below wr.heap.size wr V ∧ wr.heap.size ≤ tb ∧ FrAt tb ⟨x + wayX d * z, y + wayY d * z, 0⟩ V := ⟨_, rfl⟩
      have HK := Lib.hid hK0
      clear hK0
      refine wpIn_mono (Q := Exit.then K0 (fun _ _ _ => False)) ?_ ?_
      · gi_region_with ((first | refine ⟨trivial, fun _ => by omega, ?_⟩ | refine ⟨trivial, ?_⟩); gi_at_call 87; refine (callsIn_wide.2 (AH.out _)).mono ?_; rintro e w1 ⟨rfl, hb1⟩; have B1 := Lib.hid hb1; try (have hq := alloc_facts (w := wr.drew) hb1; obtain ⟨⟨q0, q1⟩, q2, q3⟩ := hq; change w1.cell? ⟨wr.heap.size, 0, none⟩ = _ at q0; change w1.cell? ⟨wr.heap.size, 1, none⟩ = _ at q1; change w1.frozen? ⟨wr.heap.size, 0, none⟩ = _ at q2; change w1.frozen? ⟨wr.heap.size, 1, none⟩ = _ at q3); clear hb1)
        all_goals (show K0 _ _; rw [HK.out])
        all_goals first
          | exact ⟨_, _, _, _, _, _, _, _, _, _, _, _, _, _, _, _, _, _, _, _, _, _, _, _, _, _, rfl, (place_late B1.out _ _ 0).1, Nat.le_refl _, (place_late B1.out _ _ 0).2⟩
          | exact ⟨_, _, _, _, _, _, _, _, _, _, _, _, _, _, _, _, _, _, _, _, _, _, _, _, _, _, rfl, balloc (undrew B1.out) _, (undrew B1.out).size, heap_alloc_new w1 _⟩
      · rintro e a' V hp
        cases e with
        | normal =>
          have hp := (show K0 a' V from hp)
          rw [HK.out] at hp
          obtain ⟨tb, t13, t14, t15, t16, t17, t18, t19, t20, t21, t22, t23, t24, t25, t26, t27, t28, t29, t30, t31, t32, t33, t34, t35, t36, t37, rfl, hbV, htb, hTo⟩ := hp
          have HV := Lib.hid (hH.out.below hbV (by have := hlt1; omega) (by have := hlt1; omega))
          have FV := Lib.hid (hF.out.below hbV hlt1)
          have TV := Lib.hid hTo
          have JV := Lib.hid (HJ.out.later hj.out hbV)
          have sV : wr.heap.size ≤ V.heap.size := hbV.size
          clear hbV hTo
          obtain ⟨fn, tm, asg, bdy, hy, hRd⟩ := HY.out _ (⟨x, y, d⟩, spot P T (k + 1)) V HP.out (by omega) JV.out
          have HS : Hid (encL (⟨x, y, d⟩, spot P T (k + 1)) = #[.agg #[.int .i64 x, .int .i64 y], .agg #[.int .i64 (x + wayX d * z), .int .i64 (y + wayY d * z)]]) := by show _ = _; rw [HN.out]; rfl
          rw [HS.out] at hy
          have HRd := Lib.hid hRd
          clear hRd
          obtain ⟨⟨e0, e1⟩, _, _⟩ := FV.out.cells
          obtain ⟨⟨h0, h1⟩, _, _⟩ := TV.out.cells
          obtain ⟨q, LT, hq, hq0, hq3⟩ : ∃ q : Int, Hid (∀ wx, Calls Tryd.prog 88 #[.int .u8 ((T[k]'hkT).toNat : Int)] wx fun e w' => e = .returned (.int .i64 q) ∧ wx = w') ∧ Hid (((turnTo d (T[k]'hkT) : Nat) : Int) = ((d : Int) + q).tmod 4) ∧ 1 ≤ q ∧ q ≤ 3 := by
            rcases hlr with h | h
            · refine ⟨1, fun wx => ?_, ?_, by omega, by omega⟩
              · have := leftTurns_impl ((T[k]'hkT).toNat : Int) wx
                rwa [h] at this ⊢
              · show _ = _
                rw [h, Int.tmod_eq_emod_of_nonneg (by omega)]
                unfold turnTo
                rw [if_pos rfl]
                omega
            · refine ⟨3, fun wx => ?_, ?_, by omega, by omega⟩
              · have := leftTurns_impl ((T[k]'hkT).toNat : Int) wx
                rwa [h] at this ⊢
              · show _ = _
                rw [h, Int.tmod_eq_emod_of_nonneg (by omega)]
                unfold turnTo
                rw [if_neg (by decide)]
                omega
          gi_wp2_with fail
          refine ⟨fun _ => by omega, HRd.out.mono ?_⟩
          rintro e W3 ⟨rfl, hj3, hk3⟩
          have H3 := Lib.hid (HV.out.keep hk3)
          have F3 : Hid (FrAt W.heap.size ⟨x, y, d⟩ W3) := hk3.2.2 _ _ (Nat.le_refl _) FV.out
          have T3 : Hid (FrAt tb ⟨x + wayX d * z, y + wayY d * z, 0⟩ W3) := hk3.2.2 _ _ (by omega) TV.out
          have J3 : Hid (J (legs P T (k + 1)) W3) := by show J _ _; rw [legs_succ, hs.out]; exact hj3
          clear hj3 hk3 e0 e1 h0 h1
          obtain ⟨⟨e0, e1⟩, e2, e3⟩ := F3.out.cells
          obtain ⟨⟨h0, h1⟩, _, _⟩ := T3.out.cells
          obtain ⟨k0, k1⟩ := boxH' H3.out.box
          gi_wp2_with fail
          have hw : IntKind.i64.wrap ((d : Int) + q) = (d : Int) + q := by simp [IntKind.wrap, IntKind.signed, IntKind.bits]; omega
          obtain ⟨K1, hK1⟩ : ∃ K1 : Act → World → Prop, K1 = fun a' V => ∃ (t13 t14 t15 t16 t17 t18 t19 t20 t21 t22 t23 t24 t25 t26 t27 t28 t29 t30 t31 t32 t33 t34 t35 t36 t37 : Value), a' = { tmps := #[.func (.yield l) #[] #[], .pointer (some ⟨Bn, 0, none⟩), undef, .pointer (some ⟨W.heap.size, 0, none⟩), .int .i64 ((turnTo d (T[k]'hkT) : Nat) : Int), .int .i64 (k : Int), .int .i64 z, .pointer (some ⟨tb, 0, none⟩), .agg #[.int .i64 0, .int .i64 0], .pointer (some ⟨Bn, 0, none⟩), .slice (some ⟨bb, o, none⟩) P.length cap, .int .i64 (P.length : Int), .int .i64 (k : Int), t13, t14, t15, t16, t17, t18, t19, t20, t21, t22, t23, t24, t25, t26, t27, t28, t29, t30, t31, t32, t33, t34, t35, t36, t37], defers := [] } ∧ V = ((W3.drew.setCell ⟨W.heap.size, 0, none⟩ (.int .i64 (x + wayX d * z))).setCell ⟨W.heap.size, 1, none⟩ (.int .i64 (y + wayY d * z))) := ⟨_, rfl⟩
          have HK1 := Lib.hid hK1
          clear hK1
          refine wpIn_mono (Q := Exit.then K1 (fun _ _ _ => False)) ?_ ?_
          · gi_region_with ((first | refine ⟨trivial, fun _ => by omega, ?_⟩ | refine ⟨trivial, ?_⟩); gi_at_call 88; refine (callsIn_wide.2 (LT.out _)).mono ?_; rintro e w1 ⟨rfl, rfl⟩)
            all_goals (show K1 _ _; rw [HK1.out, hq.out])
            all_goals exact ⟨_, _, _, _, _, _, _, _, _, _, _, _, _, _, _, _, _, _, _, _, _, _, _, _, _, rfl, rfl⟩
          · rintro e a5 V5 hp
            cases e with
            | normal =>
              have hp := (show K1 a5 V5 from hp)
              rw [HK1.out] at hp
              obtain ⟨r13, r14, r15, r16, r17, r18, r19, r20, r21, r22, r23, r24, r25, r26, r27, r28, r29, r30, r31, r32, r33, r34, r35, r36, r37, rfl, rfl⟩ := hp
              have F5 : Hid (FrAt W.heap.size (spot P T (k + 1)) ((W3.drew.setCell ⟨W.heap.size, 0, none⟩ (.int .i64 (x + wayX d * z))).setCell ⟨W.heap.size, 1, none⟩ (.int .i64 (y + wayY d * z)))) := by
                show FrAt _ _ _
                rw [HN.out]
                exact FrAt.set (W := W3.drew) (s := ⟨x, y, d⟩) F3.out _ _ _
              have H5 : Hid (HoR n Bn (some ⟨bb, o, none⟩) cap P T ((W3.drew.setCell ⟨W.heap.size, 0, none⟩ (.int .i64 (x + wayX d * z))).setCell ⟨W.heap.size, 1, none⟩ (.int .i64 (y + wayY d * z)))) :=
                (HoR.set (W := W3.drew) ⟨H3.out.low, H3.out.dir, H3.out.dlt, H3.out.box⟩ (p := ⟨W.heap.size, 0, none⟩) _ hn (by show W.heap.size ≠ Bn; omega)).set (p := ⟨W.heap.size, 1, none⟩) _ hn (by show W.heap.size ≠ Bn; omega)
              have J5 : Hid (J (legs P T (k + 1)) ((W3.drew.setCell ⟨W.heap.size, 0, none⟩ (.int .i64 (x + wayX d * z))).setCell ⟨W.heap.size, 1, none⟩ (.int .i64 (y + wayY d * z)))) :=
                HJ.out.set (HJ.out.set (HJ.out.later J3.out (Below.refl _ W3).drew) 0 _) 1 _
              have hE : Hid (((turnTo d (T[k]'hkT) : Nat) : Int) = ((spot P T (k + 1)).d : Int)) := by show _ = _; rw [HN.out]; rfl
              obtain ⟨V6, hV6⟩ : ∃ V6, ((W3.drew.setCell ⟨W.heap.size, 0, none⟩ (.int .i64 (x + wayX d * z))).setCell ⟨W.heap.size, 1, none⟩ (.int .i64 (y + wayY d * z))) = V6 := ⟨_, rfl⟩
              rw [hV6] at F5 H5 J5 ⊢
              rw [hE.out]
              clear hV6
              gi_wp2
              go_roundw
              case rel => exact ⟨k + 1, spot P T (k + 1), by omega, rfl, by go_num, rfl, F5.out, H5.out, J5.out⟩
              case measure => simp [intOf]; omega
            | ret => exact hp.elim
            | exit id => exact hp.elim
            | goto t => exact hp.elim
            | panic c => exact hp.elim
            | outgrown => exact hp.elim
        | ret => exact hp.elim
        | exit id => exact hp.elim
        | goto t => exact hp.elim
        | panic c => exact hp.elim
        | outgrown => exact hp.elim
    · have hge : ¬ (k : Int) < (P.length : Int) := by omega
      have hkn : k = P.length := by omega
      have JE : Hid (J (legs P T P.length) wr) := by rw [← hkn]; exact hj
      gi_wp2
      go_end0
      first | exact ⟨⟨_, rfl⟩, JE.out⟩ | exact ⟨_, rfl, JE.out⟩
/-- The iterator over all sides. -/
theorem walk_goes (m : Nat) (hm : 2 ≤ m) (n Bn : Nat) (P : List Int) (T : ByteArray) (a : Option Addr) (cap : Nat) (hok : okHo' P T) (F : Nat) (w : World) (hn : n ≤ w.heap.size) (hBn : Bn < w.heap.size) (hH : HoR n Bn a cap P T w) :
    GoesAll Fence.wide m Tryd.prog 86 #[.pointer (some ⟨Bn, 0, none⟩)] encL (KpH n Bn F) (legs P T P.length) F w := by
  intro l J W hW hs hJ hY h0
  subst hs
  have hz := hW.size
  exact walk1_in m hm n Bn P T a cap hok.1 hok.2.1 hok.2.2.1 hok.2.2.2 l J W (by omega) (by omega) hJ hY (hH.below hW hn hBn) h0
end Go.Proofs.YtikjielgnlgnjaaDoor
