/-
  Ranges over the ends of pieces: the iterator's contract, and how long a course is, by the program.
-/
import Derived.RangeFuncNested
import Derived.RangeFuncBound
import Derived.RangeFuncCalls
import Derived.RangeFuncLeaves
import Derived.Shelf.Abstract
import Derived.Shelf.RegionOpen
import Derived.WalkKit
import Derived.OwnWalkIn
import Derived.TacticsInMore
import Derived.LoopNIn
import Derived.LoopIn
import Derived.Test.YtikjielgnlgnjaaDoorWa
import Derived.Test.YtikjielgnlgnjaaDoorPerpI
namespace Go.Proofs.YtikjielgnlgnjaaDoor
open Go.ChangeShapes Go.WideShapes Go.ChangeAt Go.RowKit Go.Joins Go.Shelf

attribute [local go_sem] Oper.semAt_some

/-- A place. -/
abbrev Plc := { x : Int // 0 ≤ x ∧ x ≤ 1000 }
def mkP (n : Nat) : Plc := ⟨if n ≤ 1000 then (n : Int) else 0, by split <;> omega⟩
theorem mkP_val {n : Nat} (h : n ≤ 1000) : (mkP n).1 = (n : Int) := by simp [mkP, h]
/-- Where the first m pieces of a text end. -/
def endP (s : ByteArray) (m : Nat) : List Plc := (List.range m).map fun i => mkP (qto s (i + 1))
theorem endP_succ (s : ByteArray) (m : Nat) : endP s (m + 1) = endP s m ++ [mkP (qto s (m + 1))] := by simp [endP, List.range_succ]
theorem endP_length (s : ByteArray) (m : Nat) : (endP s m).length = m := by simp [endP]
theorem endP_prefix (s : ByteArray) {m n : Nat} (h : m ≤ n) : endP s m <+: endP s n := by
  induction n with
  | zero => have : m = 0 := by omega
            subst this; exact List.prefix_refl _
  | succ n ih =>
    by_cases e : m = n + 1
    · subst e; exact List.prefix_refl _
    · rw [endP_succ]
      exact (ih (by omega)).trans (List.prefix_append _ _)
def encP (x : Plc) : Array Value := #[.int .i64 x.1]
/-- Block b holds what it held. -/
def KpB (b : Nat) (W W' : World) : Prop := ∀ o : Obj, W.heap[b]? = some o → o.isCells = true → W'.heap[b]? = some o
theorem KpB.refl (b : Nat) (W : World) : KpB b W W := fun _ h _ => h
theorem KpB.t {b : Nat} {A B C : World} (h : KpB b A B) (k : KpB b B C) : KpB b A C := fun o h0 h1 => k o (h o h0 h1) h1
theorem KpB.b {b n : Nat} (W : World) (l : Nat) (o o' : Obj) (_ : n ≤ l) (h : W.heap[l]? = some o) (ho : o.isCells = false) (_ : o.isWalk = false) : KpB b W (W.putObj l o') := fun x hx hc => by
  have hne : b ≠ l := fun e => by subst e; rw [h] at hx; cases hx; rw [ho] at hc; cases hc
  exact (World.putObj_heap_other hne).trans hx
theorem KpB.below {b n : Nat} {W W' : World} (h : Below n W W') (hn : b < n) : KpB b W W' := fun _ ho _ => (h.block b hn).trans ho
theorem KpB.set {b c i : Nat} {W : World} {v : Value} (hne : c ≠ b) : KpB b W (W.setCell ⟨c, i, none⟩ v) := fun _ ho _ => (Below.heap_setCell _ _ _ b (fun e => hne (by simpa using e.symm))).trans ho
theorem KpB.cell {b : Nat} {W W' : World} {v : Value} {t : TypeId} (h : KpB b W W') (hb : Boxed W b t v) : Boxed W' b t v := h _ hb rfl

set_option maxRecDepth 100000 in
set_option maxHeartbeats 4000000 in
theorem ends1_in (n : Nat) (hn : 1 ≤ n) (l Bn : Nat) (s : ByteArray) (hs : s.size ≤ 250) (J Jx : List Plc → World → Prop)
    (hY : ∀ pre x W, J pre W → pre.length < s.size → YieldAt Fence.wide (n - 1) Tryd.prog l (encP x) W fun e W' =>
      (e = .returned (.bool true) ∧ J (pre ++ [x]) W' ∧ KpB Bn W W') ∨ (e = .returned (.bool false) ∧ Jx (pre ++ [x]) W'))
    (W : World) (hBn : Boxed W Bn 9 (.string s)) (h0 : J [] W) :
    CallsIn Fence.wide n Tryd.prog 108 #[.func (.yield l) #[] #[], .pointer (some ⟨Bn, 0, none⟩)] W fun e W' => (∃ v, e = .returned v) ∧
      ((∃ ys, ys = endP s s.size ∧ J ys W') ∨ (∃ pre, pre <+: endP s s.size ∧ Jx pre W')) := by
  have c0 := hBn.cell
  refine callsIn_of_wp Tryd.func108 rfl trivial ?_ rfl
  simp only [Tryd.ntmps108, List.size_toArray, List.length_cons, List.length_nil, Nat.reduceAdd, Nat.reduceSub, Array.replicate_succ, Array.replicate_zero, List.push_toArray, List.append_toArray, List.nil_append, List.cons_append]
  gi_wp2
  gi_loopw [3, 9] (fun t i wr => ∃ (k E : Nat), k ≤ s.size ∧ t = .int .i64 (E : Int) ∧ i = .int .i64 (k : Int) ∧ Hid (qto s k = E) ∧ Hid (Boxed wr Bn 9 (.string s)) ∧ Hid (J (endP s k) wr)) (fun _ i _ => s.size - (intOf i).toNat)
  case atStart => exact ⟨0, 0, Nat.zero_le _, rfl, rfl, qto_zero s, hBn, h0⟩
  case round =>
    obtain ⟨k, E, hk, rfl, rfl, hE, hBx, hJ⟩ := hrel
    have hle : E ≤ 4 * k := by rw [← hE.out]; exact qto_le s k
    have c1 := hBx.out.cell
    by_cases hlt : k < s.size
    · have hlt' : (k : Int) < (s.size : Int) := by omega
      have hk0 : (0 : Int) ≤ (k : Int) := by omega
      have HS : Hid (qto s (k + 1) = E + qtr (s[k]'hlt)) := by show _ = _; rw [qto_succ hlt, hE.out]
      have C := Lib.hid (quartersI ((s[k]'hlt).toNat : Int))
      rw [← qtr_eq] at C
      have hq := qtr_le (s[k]'hlt)
      obtain ⟨q, hqe⟩ : ∃ q, qtr (s[k]'hlt) = q := ⟨_, rfl⟩
      rw [hqe] at HS hq C
      clear hqe
      have HX : Hid ((mkP (qto s (k + 1))).1 = (E : Int) + (q : Int)) := by show _ = _; rw [HS.out, mkP_val (by omega)]; simp
      have HN : Hid (endP s (k + 1) = endP s k ++ [mkP (qto s (k + 1))]) := endP_succ s k
      obtain ⟨fn, tmps, assign, body, hy, hR⟩ := hY (endP s k) (mkP (qto s (k + 1))) wr hJ.out (by rw [endP_length]; exact hlt)
      rw [show encP (mkP (qto s (k + 1))) = #[.int .i64 ((E : Int) + (q : Int))] by rw [encP, HX.out]] at hy
      have HRd := Lib.hid hR
      clear hR
      gi_wp2_with (refine ⟨trivial, ?_⟩; gi_at_call 109; refine (callsIn_wide.2 (C.out _)).mono ?_; rintro e w1 ⟨z, rfl, rfl⟩)
      refine HRd.out.mono ?_
      rintro e W3 (⟨rfl, hJ3, hk3⟩ | ⟨rfl, hJx3⟩)
      · have B3 := Lib.hid (hk3.cell hBx.out)
        have J3 := Lib.hid hJ3
        clear hJ3 hk3
        gi_wp2
        go_roundw
        case rel => exact ⟨k + 1, E + q, by omega, by simp, by go_num, HS.out, B3.out, by rw [HN.out]; exact J3.out⟩
        case measure => simp [intOf]; omega
      · have J3 := Lib.hid hJx3
        clear hJx3
        gi_wp2
        refine bodyPost_ret (results_none rfl _ _ _) rfl ?_
        refine ⟨⟨_, rfl⟩, .inr ⟨endP s k ++ [mkP (qto s (k + 1))], ?_, J3.out⟩⟩
        rw [← HN.out]
        exact endP_prefix s (by omega)
    · have hge : ¬ (k : Int) < (s.size : Int) := by omega
      have hkn : k = s.size := by omega
      have HJ : Hid (J (endP s s.size) wr) := by rw [← hkn]; exact hJ
      gi_wp2
      go_end0
      first | exact ⟨⟨_, rfl⟩, .inl HJ.out⟩ | exact ⟨⟨_, rfl⟩, .inl ⟨_, rfl, HJ.out⟩⟩
/-- A value that goes through the ends of pieces. -/
theorem ends_in (s : ByteArray) (w : World) : CallsIn Fence.wide 1 Tryd.prog 89 #[.string s] w fun e w' => e = .returned (.func (.func 108) #[] #[.pointer (some ⟨w.heap.size, 0, none⟩)]) ∧ w' = w.alloc (.cells #[.string s] 9) := by
  refine callsIn_wide.2 ?_
  go_enter Tryd.func89, Tryd.ntmps89
  go_wp2
  go_ret
  exact ⟨rfl, rfl⟩
theorem ends_stops (n : Nat) (hn : 1 ≤ n) (Bn : Nat) (s : ByteArray) (hs : s.size ≤ 250) (w : World) (hB : Boxed w Bn 9 (.string s)) :
    SeqStopsK Fence.wide n Tryd.prog 108 #[.pointer (some ⟨Bn, 0, none⟩)] encP (KpB Bn) (fun ys => ys = endP s s.size) (fun pre => pre <+: endP s s.size) s.size w := fun l J Jx W hW _ _ hY h0 =>
  ends1_in n hn l Bn s hs J Jx hY W ((hW.block Bn hB.lt).trans hB) h0

/-- The last place. -/
def lastP (l : List Plc) : Int := (l.getLast?.map (·.1)).getD 0
theorem lastP_snoc (l : List Plc) (x : Plc) : lastP (l ++ [x]) = x.1 := by simp [lastP]
theorem lastP_all {s : ByteArray} (hs : s.size ≤ 250) : lastP (endP s s.size) = (qall s : Int) := by
  rw [← qto_all (Nat.le_refl s.size)]
  cases h : s.size with
  | zero => rw [qto_zero]; rfl
  | succ m =>
    rw [endP_succ, lastP_snoc, mkP_val]
    have := qto_le s (m + 1)
    omega
set_option maxRecDepth 100000 in
set_option maxHeartbeats 2000000 in
theorem len_impl (s : ByteArray) (hs : s.size ≤ 250) (w : World) : Calls Tryd.prog 66 #[.string s] w fun e w' => e = .returned (.int .i64 (qall s : Int)) ∧ Below w.heap.size w w' := by
  have HL := Lib.hid (lastP_all hs)
  have HI := Lib.hid (fun wx => ends_in s wx)
  refine (callsIn_wide (n := 4)).1 ?_
  refine callsIn_of_wp_marks Tryd.func66 rfl trivial ?_ rfl
  simp only [Tryd.ntmps66, List.size_toArray, List.length_cons, List.length_nil, Nat.reduceAdd, Nat.reduceSub, Array.replicate_succ, Array.replicate_zero, List.push_toArray, List.append_toArray, List.nil_append, List.cons_append]
  gi_wp2_with (refine ⟨trivial, ?_⟩; gi_at_call 89; refine (callsIn_wide.2 (callsIn_wide.1 (HI.out _))).mono ?_; rintro e w' ⟨rfl, rfl⟩)
  have bL := (Boxed.new w 2 (.int .i64 0)).alloc (.cells #[.string s] 9)
  have bS := Boxed.new (w.alloc (.cells #[.int .i64 0] 2)) 9 (.string s)
  have hB0 : Below w.heap.size w ((w.alloc (.cells #[.int .i64 0] 2)).alloc (.cells #[.string s] 9)) := ((Below.refl _ w).alloc (Nat.le_refl _) _).alloc (by simp) _
  rw [World.size_alloc] at bS
  refine wpIn_rangeFunc_ownF rfl (by omega) (gf := 108) (lb := #[.pointer (some ⟨w.heap.size + 1, 0, none⟩)]) rfl trivial (enters_of Tryd.func108 (by kernel_rfl) rfl)
    (ends_stops _ (by omega) (w.heap.size + 1) s hs _ bS) KpB.t KpB.b (Below.refl _ _) (fun _ => rfl)
    (fun pre W => Boxed W w.heap.size 2 (.int .i64 (lastP pre)) ∧ Below w.heap.size w W)
    (fun _ _ _ => False)
    (OwnFrom.and (Own.from (boxed_own _ _ (fun pre : List Plc => Value.int .i64 (lastP pre))) _) (ownFrom_below (Nat.le_refl _) (by simp; omega)))
    (fun _ _ _ _ _ hs _ _ => hs)
    ⟨bL, hB0⟩
    (fun x => { tmps := #[.string s, undef, .int .i64 0, .pointer (some ⟨w.heap.size, 0, none⟩), .int .i64 x.1, .string s, .func (.func 108) #[] #[.pointer (some ⟨w.heap.size + 1, 0, none⟩)], .int .i64 x.1, undef, undef], defers := [] }) ?assign ?body ?done ?stop
  case assign =>
    intro l x W K hK
    simp only [encP]
    gi_wp2
    exact hK
  case body =>
    rintro l pre x W ⟨hc, hB⟩ _
    have c0 := hc.cell
    have f0 := hc.frozen
    gi_wp2
    exact ⟨KeepsOthers.setCell _ _ _, KpB.set (by omega), by rw [lastP_snoc]; exact hc.set _, hB.setCell (p := ⟨w.heap.size, 0, none⟩) (Nat.le_refl _) _⟩
  case done =>
    rintro D ys W hD rfl ⟨hc, hB⟩ hK
    rw [HL.out] at hc
    have c0 := hc.cell
    gi_wp2
    refine ⟨by simp, .inl ⟨_, _, rfl, run_takeDeferred hK, ?_⟩⟩
    exact ⟨_, results_tmp rfl _ _ _, rfl, hB.trans (belowK_b (w := w) (Nat.le_refl _) W D _ _ (by simp at hD; omega) hK rfl rfl)⟩
  case stop =>
    rintro D c pre W _ _ h _
    exact h.elim
end Go.Proofs.YtikjielgnlgnjaaDoor
