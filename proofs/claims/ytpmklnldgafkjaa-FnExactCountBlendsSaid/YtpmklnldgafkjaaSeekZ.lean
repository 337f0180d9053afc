/-
  CheapestBlend and CountBlends: the model's answers.
-/
import Derived.Test.YtpmklnldgafkjaaSeekY
import Derived.Test.YtpmklnldgafkjaaPartsS
namespace Go.Proofs.Ytpmklnldgafkjaa
open Go.ChangeShapes Go.WideShapes Go.ChangeAt Go.RowKit Go.Joins

/-- What the search hands back. -/
def AllOut (w : World) (L : List Cl) (a : Option Addr) (cap : Nat) (t : Int) (x : Li) (bx : Nat) (e : Ending) (w' : World) : Prop :=
  e = .returned (.tuple #[.pointer (some ⟨w.heap.size + 1, 0, none⟩), .int .i64 (codeT L t x)]) ∧ Below w.heap.size w w' ∧ (codeT L t x = 0 → SeekE w L a cap bx (w.heap.size + 1) [] (keptK L t x) w')
theorem AllOut.bad {w w' : World} {L : List Cl} {a : Option Addr} {cap : Nat} {t : Int} {x : Li} {bx : Nat} {q : Int} (h : codeT L t x = q) (hq : ¬ q = 0) (hb : Below w.heap.size w w') : AllOut w L a cap t x bx (.returned (.tuple #[.pointer (some ⟨w.heap.size + 1, 0, none⟩), .int .i64 q])) w' := by
  unfold AllOut
  rw [h]
  exact And.intro rfl (And.intro hb (fun h0 => absurd h0 hq))
theorem seek_start (w : World) (L : List Cl) (a : Option Addr) (cap bx : Nat) :
    Seek w L a cap bx (w.heap.size + 1) [] [] w.heap.size 0 (.slice none 0 0) (-1) ((w.alloc (.cells #[] 2)).alloc (.cells #[.slice a L.length cap, .pointer (some ⟨bx, 0, none⟩), .slice (some ⟨w.heap.size, 0, none⟩) 0 0, .slice none 0 0, .int .i64 (-1), .int .i64 0] 98)) := by
  have h1 := heap_alloc_new (w.alloc (.cells #[] 2)) (.cells #[.slice a L.length cap, .pointer (some ⟨bx, 0, none⟩), .slice (some ⟨w.heap.size, 0, none⟩) 0 0, .slice none 0 0, .int .i64 (-1), .int .i64 0] 98)
  rw [show (w.alloc (.cells #[] 2)).heap.size = w.heap.size + 1 by simp] at h1
  exact ⟨h1, (nums_start w).1.alloc _, balloc (balloc0 _ _) _, by omega, rfl, rfl⟩

set_option maxRecDepth 100000 in
set_option maxHeartbeats 3200000 in
theorem all_spec (L : List Cl) (a : Option Addr) (cap : Nat) (hl : L.length ≤ 1048576) (t : Int) (x : Li) (bx : Nat) (w : World) (ha : ClArg w a L) (hr : w.rangeAt bx 0 x.vals) :
    Calls Try.prog 83 #[.slice a L.length cap, .int .i64 t, .pointer (some ⟨bx, 0, none⟩)] w fun e w' => AllOut w L a cap t x bx e w' := by
  have S := Lib.hid (seek_start w L a cap bx)
  have B0 : Hid (Below w.heap.size w ((w.alloc (.cells #[] 2)).alloc (.cells #[.slice a L.length cap, .pointer (some ⟨bx, 0, none⟩), .slice (some ⟨w.heap.size, 0, none⟩) 0 0, .slice none 0 0, .int .i64 (-1), .int .i64 0] 98))) := balloc (balloc0 _ _) _
  obtain ⟨W0, hW0⟩ : ∃ W0, ((w.alloc (.cells #[] 2)).alloc (.cells #[.slice a L.length cap, .pointer (some ⟨bx, 0, none⟩), .slice (some ⟨w.heap.size, 0, none⟩) 0 0, .slice none 0 0, .int .i64 (-1), .int .i64 0] 98)) = W0 := ⟨_, rfl⟩
  rw [hW0] at S B0
  have HW := Lib.hid hW0
  have C := Lib.hid (okC_spec L a cap hl W0 (ha.later B0.out))
  have HA := Lib.hid ha
  have HR := Lib.hid hr
  have CL := Lib.hid (fun wx (h : Below w.heap.size w wx) => lim_spec x bx wx (range_below hr h))
  clear ha hr hW0
  cases h1 : okCls L
  · have HO : Hid (codeT L t x = 1) := by show codeT L t x = 1; simp [codeT, h1]
    rw [h1] at C
    clear h1
    go_enter Try.func83, Try.ntmps83
    go_wp2_with fail
    rw [HW.out]
    refine C.out.mono ?_
    rintro e w1 ⟨rfl, hb1⟩
    go_wp2
    refine bodyPost_ret (v := .tuple #[.pointer (some ⟨w.heap.size + 1, 0, none⟩), .int .i64 1]) (by simp [results, Try.results83, go_sem]) rfl (AllOut.bad HO.out (by omega) (B0.out.trans (hb1.mono B0.out.size)))
  rw [h1] at C
  cases h2 : x.ok
  · have HO : Hid (codeT L t x = 2) := by show codeT L t x = 2; simp [codeT, h1, h2]
    rw [h2] at CL
    clear h1 h2
    go_enter Try.func83, Try.ntmps83
    go_wp2_with fail
    rw [HW.out]
    refine C.out.mono ?_
    rintro e w1 ⟨rfl, hb1⟩
    have B1 := Lib.hid (B0.out.trans (hb1.mono B0.out.size))
    clear hb1
    go_wp2_with fail
    refine (CL.out _ B1.out).mono ?_
    rintro e w2 ⟨rfl, n2, rfl⟩
    go_wp2
    refine bodyPost_ret (v := .tuple #[.pointer (some ⟨w.heap.size + 1, 0, none⟩), .int .i64 2]) (by simp [results, Try.results83, go_sem]) rfl (AllOut.bad HO.out (by omega) (below_drewN B1.out n2))
  rw [h2] at CL
  have CI := Lib.hid (in_any t 1 12)
  cases h3 : inB t 1 12
  · have HO : Hid (codeT L t x = 2) := by show codeT L t x = 2; simp [codeT, h1, h3]
    rw [h3] at CI
    clear h1 h2 h3
    go_enter Try.func83, Try.ntmps83
    go_wp2_with fail
    rw [HW.out]
    refine C.out.mono ?_
    rintro e w1 ⟨rfl, hb1⟩
    have B1 := Lib.hid (B0.out.trans (hb1.mono B0.out.size))
    clear hb1
    go_wp2_with fail
    refine (CL.out _ B1.out).mono ?_
    rintro e w2 ⟨rfl, n2, rfl⟩
    go_wp2_with fail
    refine (CI.out _).mono ?_
    rintro e w3 ⟨rfl, rfl⟩
    go_wp2
    refine bodyPost_ret (v := .tuple #[.pointer (some ⟨w.heap.size + 1, 0, none⟩), .int .i64 2]) (by simp [results, Try.results83, go_sem]) rfl (AllOut.bad HO.out (by omega) (below_drewN B1.out n2))
  rw [h3] at CI
  obtain ⟨t0, t1⟩ := inB_true.1 h3
  have HO : Hid (codeT L t x = 0) := by show codeT L t x = 0; simp [codeT, h1, h2, h3]
  obtain ⟨T, rfl⟩ : ∃ T : Nat, t = (T : Int) := ⟨t.toNat, by omega⟩
  have HKp : Hid (keptK L (T : Int) x = kp (okK L x) [] L.length T) := by show keptK L (T : Int) x = _; simp [keptK]
  have W := Lib.hid (seek_walk w L a cap bx (w.heap.size + 1) x T (by omega) (by omega) h1 h2 HA.out HR.out L.length T [] [])
  have H6 := (okCls_all h1).1
  have HF := Lib.hid (combs_few (m := L.length) (r := T) H6 (by omega))
  clear h1 h2 h3
  go_enter Try.func83, Try.ntmps83
  go_wp2_with fail
  rw [HW.out]
  refine C.out.mono ?_
  rintro e w1 ⟨rfl, hb1⟩
  have B1 := Lib.hid (B0.out.trans (hb1.mono B0.out.size))
  have S1 := Lib.hid (S.out.later hb1)
  clear hb1
  go_wp2_with fail
  refine (CL.out _ B1.out).mono ?_
  rintro e w2 ⟨rfl, n2, rfl⟩
  go_wp2_with fail
  refine (CI.out _).mono ?_
  rintro e w3 ⟨rfl, rfl⟩
  go_wp2_with fail
  refine (W.out _ (by simp) rfl (by simp [sumP, sumTo]) (by simp [sumP, sumTo]) (by have := HF.out; simp; omega) ⟨_, _, _, _, S1.out.drewN n2⟩).mono ?_
  rintro e w4 ⟨rfl, hE⟩
  have H4 := Lib.hid hE
  have B4 : Hid (Below w.heap.size w w4) := by obtain ⟨g, cp, vb, ls, h⟩ := hE; exact h.bel
  clear hE
  go_wp2
  refine bodyPost_ret (v := .tuple #[.pointer (some ⟨w.heap.size + 1, 0, none⟩), .int .i64 0]) (by simp [results, Try.results83, go_sem]) rfl ?_
  unfold AllOut
  rw [HO.out, HKp.out]
  exact And.intro rfl (And.intro B4.out (fun _ => H4.out))
end Go.Proofs.Ytpmklnldgafkjaa
