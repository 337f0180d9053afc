/-
  The numbers of pieces of a wall: the model.
-/
import Derived.Test.YtbhjdhkabhafmaaDoorWaK
import Derived.Test.YtbhjdhkabhafmaaDoorWaW
import Derived.Test.YtbhjdhkabhafmaaDoorWaV
import Derived.Test.YtbhjdhkabhafmaaDoorShelfB
import Derived.Deep.RegionWith
namespace Go.Proofs.YtbhjdhkabhafmaaDoor
open Go.ChangeShapes Go.WideShapes Go.ChangeAt Go.RowKit Go.Joins

/-- Of the first i letters of a course, how many are of kind k. -/
def inC (s : ByteArray) (i k : Nat) : Nat := (s.data.toList.take i).count (letN k)
theorem inC_zero (s : ByteArray) (k : Nat) : inC s 0 k = 0 := by simp [inC]
theorem inC_all (s : ByteArray) (k : Nat) : inC s s.size k = s.data.toList.count (letN k) := by
  have : s.data.toList.take s.size = s.data.toList := List.take_of_length_le (by simp)
  rw [inC, this]
theorem inC_succ {s : ByteArray} {i : Nat} (h : i < s.size) (k : Nat) : inC s (i + 1) k = inC s i k + if letN k = s[i]'h then 1 else 0 := by
  have e : s.data.toList[i]? = some (s[i]'h) := by
    have : i < s.data.toList.length := by simpa using h
    rw [List.getElem?_eq_getElem this]
    rfl
  unfold inC
  rw [List.take_add_one, e, List.count_append]
  by_cases hc : letN k = s[i]'h
  · rw [if_pos hc, hc]; simp
  · rw [if_neg hc]; simp [Ne.symm hc]
theorem inC_le (s : ByteArray) (i k : Nat) : inC s i k ≤ i := by
  have h := List.count_le_length (a := letN k) (l := s.data.toList.take i)
  have := List.length_take_le i s.data.toList
  unfold inC
  omega
/-- Between two rounds of the model's innermost loop. -/
def modF (L : List ByteArray) (a : Nat) (s : ByteArray) (i : Nat) (c : UInt8) (j : Nat) (k : Nat) : Int := (cntTo L a k + inC s i k + (if k < j ∧ letN k = c then 1 else 0) : Nat)
theorem make5 (w : World) : (Instr.makeSlice 25 (.int .i64 5) (.int .i64 5)).run Tryd.prog w = .ok (.slice (some ⟨w.heap.size, 0, none⟩) 5 5) (w.alloc (.cells #[.int .i64 0, .int .i64 0, .int .i64 0, .int .i64 0, .int .i64 0] 2)) := by
  have := run_make_row' (P := Tryd.prog) 25 2 (.int .i64 0) 8 Tryd.underlying25 (by kernel_rfl) rfl .i64 .i64 5 (by omega) (by omega) w
  have hm : madeCells #[(.int .i64 0 : Value)] 5 = #[.int .i64 0, .int .i64 0, .int .i64 0, .int .i64 0, .int .i64 0] := by kernel_rfl
  rw [hm] at this
  exact this
theorem five_new (w : World) (t : TypeId) : Five (w.alloc (.cells #[.int .i64 0, .int .i64 0, .int .i64 0, .int .i64 0, .int .i64 0] t)) w.heap.size (fun _ => 0) := fun k hk => by
  have hb : (w.alloc (.cells #[.int .i64 0, .int .i64 0, .int .i64 0, .int .i64 0, .int .i64 0] t)).heap[w.heap.size]? = some (.cells #[.int .i64 0, .int .i64 0, .int .i64 0, .int .i64 0, .int .i64 0] t (0, 0)) := heap_alloc_new w _
  refine ⟨?_, by simp only [World.frozen?, hb]; simp⟩
  rw [cell_of_row _ _ _ _ t (0, 0) hb]
  rcases (show k = 0 ∨ k = 1 ∨ k = 2 ∨ k = 3 ∨ k = 4 by omega) with rfl | rfl | rfl | rfl | rfl <;> rfl
theorem five_laid (w : World) (a b c d e : Int) (t : TypeId) : Five (w.alloc (.cells #[.int .i64 a, .int .i64 b, .int .i64 c, .int .i64 d, .int .i64 e] t)) w.heap.size (fun k => [a, b, c, d, e].getD k 0) := fun k hk => by
  have hb : (w.alloc (.cells #[.int .i64 a, .int .i64 b, .int .i64 c, .int .i64 d, .int .i64 e] t)).heap[w.heap.size]? = some (.cells #[.int .i64 a, .int .i64 b, .int .i64 c, .int .i64 d, .int .i64 e] t (0, 0)) := heap_alloc_new w _
  refine ⟨?_, by simp only [World.frozen?, hb]; simp⟩
  rw [cell_of_row _ _ _ _ t (0, 0) hb]
  rcases (show k = 0 ∨ k = 1 ∨ k = 2 ∨ k = 3 ∨ k = 4 by omega) with rfl | rfl | rfl | rfl | rfl <;> rfl
theorem index_let (k : Nat) (h : k < 5) (w : World) : (Instr.index 9 (.string ⟨#[83, 72, 84, 66, 67]⟩) (.int .i64 (k : Int))).run Tryd.prog w = .ok (.int .u8 ((letN k).toNat : Int)) w := by
  rcases (show k = 0 ∨ k = 1 ∨ k = 2 ∨ k = 3 ∨ k = 4 by omega) with rfl | rfl | rfl | rfl | rfl <;> kernel_rfl
theorem index_byte (s : ByteArray) (i : Nat) (h : i < s.size) (w : World) : (Instr.index 9 (.string s) (.int .i64 (i : Int))).run Tryd.prog w = .ok (.int .u8 ((s[i]'h).toNat : Int)) w := by
  have h1 : (i : Int) < (s.size : Int) := by omega
  simp [go_sem, h1]
theorem order_spec (w : World) : Calls Tryd.prog 77 #[] w fun e w' => e = .returned (.string ⟨#[83, 72, 84, 66, 67]⟩) ∧ w = w' := by
  go_enter Tryd.func77, Tryd.ntmps77
  go_wp2
  go_ret
  exact ⟨rfl, rfl⟩
/-- The five numbers in a block of the call's own. -/
def CntAns (L : List ByteArray) (w : World) (e : Ending) (w' : World) : Prop := ∃ g c2, e = .returned (.tuple #[.slice (some ⟨g, 0, none⟩) 5 c2, .int .i64 0]) ∧ w.heap.size ≤ g ∧ g < w'.heap.size ∧ Five w' g (fun k => (cntTo L L.length k : Int)) ∧ Below w.heap.size w w'
set_option maxRecDepth 100000 in
set_option maxHeartbeats 6400000 in
theorem count_spec (L : List ByteArray) (a : Option Addr) (cap : Nat) (hw : okW L = true) (hl : L.length ≤ 1048576) (hs : StrLe 1048576 L) (w : World) (ha : StrArg w a L) :
    Calls Tryd.prog 47 #[.slice a L.length cap] w fun e w' => CntAns L w e w' := by
  have C := Lib.hid (fun wx h => wall_spec L a cap hl hs wx h)
  rw [hw] at C
  obtain ⟨l1, l2, hok⟩ := okW_facts hw
  have HS : Hid (StrLe 60 L) := fun k s hk => (okCr_facts (hok k s hk)).2.1
  have HA := Lib.hid ha
  clear ha hs hok hw hl
  go_enter Tryd.func47, Tryd.ntmps47
  go_wp2_with fail
  refine (C.out _ HA.out).mono ?_
  rintro e w1 ⟨rfl, hb1⟩
  have B1 := Lib.hid hb1
  clear hb1
  go_wp2_with fail
  refine (order_spec _).mono ?_
  rintro e w2 ⟨rfl, rfl⟩
  have HMK := Lib.hid (make5 w1)
  have HF0 := Lib.hid (five_new w1 2)
  have HB0 := Lib.hid (balloc B1.out (.cells #[.int .i64 0, .int .i64 0, .int .i64 0, .int .i64 0, .int .i64 0] 2))
  have HL0 : Hid (w1.heap.size < (w1.alloc (.cells #[.int .i64 0, .int .i64 0, .int .i64 0, .int .i64 0, .int .i64 0] 2)).heap.size) := by show _ < _; simp
  have hz : w.heap.size ≤ w1.heap.size := B1.out.size
  obtain ⟨g, hg⟩ : ∃ g, w1.heap.size = g := ⟨_, rfl⟩
  rw [hg] at HMK HF0 HL0 hz
  go_wp2
  rw [HMK.out]
  obtain ⟨w2, hw2⟩ : ∃ w2, w1.alloc (.cells #[.int .i64 0, .int .i64 0, .int .i64 0, .int .i64 0, .int .i64 0] 2) = w2 := ⟨_, rfl⟩
  rw [hw2] at HF0 HB0 HL0 ⊢
  clear HMK hw2 hg
  go_wp2
  go_loopw [6] (fun u wr => ∃ k : Nat, k ≤ L.length ∧ u = .int .i64 (k : Int) ∧ Hid (Five wr g (fun m => (cntTo L k m : Int))) ∧ Hid (g < wr.heap.size) ∧ Hid (Below w.heap.size w wr)) (fun u _ => L.length - (intOf u).toNat)
  case atStart => exact ⟨0, Nat.zero_le _, rfl, five_congr HF0.out (fun k _ => by simp [cntTo_zero]), HL0.out, HB0.out⟩
  case round =>
    clear HF0 HB0 HL0
    obtain ⟨k, hk, rfl, hF, hG, hB⟩ := hrel
    by_cases hlt : k < L.length
    · have hlt' : (k : Int) < (L.length : Int) := by omega
      have hk0 : (0 : Int) ≤ (k : Int) := by omega
      obtain ⟨b, o, s, rfl, hc, hat⟩ := HA.out.at hlt
      have hsz := HS.out k s hc
      have c0 := hat.later hB.out k s hc
      have HAT := Lib.hid hat
      have HC := Lib.hid hc
      clear hc hat
      go_wp2
      go_loopw [7] (fun u wq => ∃ i : Nat, i ≤ s.size ∧ u = .int .i64 (i : Int) ∧ Hid (Five wq g (modF L k s i 0 0)) ∧ Hid (g < wq.heap.size) ∧ Hid (Below w.heap.size w wq)) (fun u _ => s.size - (intOf u).toNat)
      case atStart => exact ⟨0, Nat.zero_le _, rfl, five_congr hF.out (fun m _ => by simp [modF, inC_zero]), hG.out, hB.out⟩
      case round =>
        clear hF hG hB c0
        obtain ⟨i, hi, rfl, hF, hG, hB⟩ := hrel
        have c0 := HAT.out.later hB.out k s HC.out
        by_cases hit : i < s.size
        · have hit' : (i : Int) < (s.size : Int) := by omega
          have hi0 : (0 : Int) ≤ (i : Int) := by omega
          have HCC : Hid (∀ m, inC s (i + 1) m = inC s i m + if letN m = s[i]'hit then 1 else 0) := fun m => inC_succ hit m
          go_wp2
          go_loopw [8] (fun u wq => ∃ j : Nat, j ≤ 5 ∧ u = .int .i64 (j : Int) ∧ Hid (Five wq g (modF L k s i (s[i]'hit) j)) ∧ Hid (g < wq.heap.size) ∧ Hid (Below w.heap.size w wq)) (fun u _ => 5 - (intOf u).toNat)
          case atStart => exact ⟨0, by omega, rfl, five_congr hF.out (fun m _ => by simp [modF]), hG.out, hB.out⟩
          case round =>
            clear hF hG hB c0
            obtain ⟨j, hj, rfl, hF, hG, hB⟩ := hrel
            have c0 := HAT.out.later hB.out k s HC.out
            by_cases hjt : j < 5
            · have hjt' : (j : Int) < 5 := by omega
              have hj0 : (0 : Int) ≤ (j : Int) := by omega
              obtain ⟨cj, fj⟩ := hF.out j hjt
              have ev : modF L k s i (s[i]'hit) j j = ((cntTo L k j + inC s i j : Nat) : Int) := by simp [modF]
              rw [ev] at cj
              have hle : cntTo L k j + inC s i j ≤ 60 * 40 + 60 := by
                have h1 := cntTo_le HS.out j k
                have h2 := inC_le s i j
                omega
              obtain ⟨N, hN⟩ : ∃ N, cntTo L k j + inC s i j = N := ⟨_, rfl⟩
              rw [hN] at cj hle
              have HN := Lib.hid hN
              have HX := index_let j hjt
              have HY : ∀ wx, (Instr.index 9 (.string s) (.int .i64 (i : Int))).run Tryd.prog wx = .ok (.int .u8 ((s[i]'hit).toNat : Int)) wx := index_byte s i hit
              clear hN ev
              by_cases hcc : letN j = s[i]'hit
              · have HG : Hid (∀ q, Five ((wr.drewN q).setCell ⟨g, j, none⟩ (.int .i64 ((N : Int) + 1))) g (modF L k s i (s[i]'hit) (j + 1))) := fun q => by
                  have hFq : Five (wr.drewN q) g (modF L k s i (s[i]'hit) j) := hF.out
                  refine five_congr (hFq.put hjt _) fun m hm => ?_
                  by_cases e : m = j
                  · subst e
                    simp only [if_pos, modF]
                    rw [if_pos ⟨by omega, hcc⟩, HN.out]
                    omega
                  · simp only [if_neg e, modF]
                    by_cases e2 : m < j ∧ letN m = s[i]'hit
                    · rw [if_pos e2, if_pos ⟨by omega, e2.2⟩]
                    · rw [if_neg e2, if_neg (fun h => e2 ⟨by omega, h.2⟩)]
                have HD : Hid (∀ q, Below w.heap.size w ((wr.drewN q).setCell ⟨g, j, none⟩ (.int .i64 ((N : Int) + 1)))) := fun q => (below_drewN hB.out q).setCell (p := ⟨g, j, none⟩) hz _
                have hwrap : IntKind.i64.wrap ((N : Int) + 1) = (N : Int) + 1 := IntWalk.i64_in _ (by omega)
                have hwrap2 : IntKind.i64.wrap ((j : Int) + 1) = (j : Int) + 1 := IntWalk.i64_in _ (by omega)
                have HGS : Hid (∀ q, g < ((wr.drewN q).setCell ⟨g, j, none⟩ (.int .i64 ((N : Int) + 1))).heap.size) := fun q => by simpa [World.setCell] using hG.out
                have hcd : ((letN j).toNat : Int) = ((s[i]'hit).toNat : Int) := by rw [hcc]
                clear hcc
                go_wp2
                go_quiet (fail "none")
                go_wp2
                go_roundw
                case rel => exact ⟨j + 1, by omega, by go_num, HG.out _, HGS.out _, HD.out _⟩
                case measure => simp [intOf]; omega
              · have HG : Hid (∀ q, Five (wr.drewN q) g (modF L k s i (s[i]'hit) (j + 1))) := fun q => by
                  have hFq : Five (wr.drewN q) g (modF L k s i (s[i]'hit) j) := hF.out
                  refine five_congr hFq fun m hm => ?_
                  simp only [modF]
                  by_cases e2 : m < j ∧ letN m = s[i]'hit
                  · rw [if_pos e2, if_pos ⟨by omega, e2.2⟩]
                  · rw [if_neg e2, if_neg (fun h => e2 ⟨by rcases Nat.lt_or_ge m j with h3 | h3; exact h3; exact absurd (by rw [show m = j by omega] at h; exact h.2) hcc, h.2⟩)]
                have hwrap2 : IntKind.i64.wrap ((j : Int) + 1) = (j : Int) + 1 := IntWalk.i64_in _ (by omega)
                have hcd : ¬ ((letN j).toNat : Int) = ((s[i]'hit).toNat : Int) := fun h => hcc (UInt8.toNat_inj.1 (by omega))
                have HD : Hid (∀ q, Below w.heap.size w (wr.drewN q)) := fun q => below_drewN hB.out q
                clear hcc cj
                go_wp2
                go_quiet (fail "none")
                all_goals go_wp2
                all_goals
                  go_roundw
                  case rel => exact ⟨j + 1, by omega, by go_num, HG.out _, hG.out, HD.out _⟩
                  case measure => simp [intOf]; omega
            · have hge : ¬ (j : Int) < 5 := by omega
              obtain rfl : j = 5 := by omega
              go_wp2
              go_roundw
              case rel => exact ⟨i + 1, by omega, by go_num, five_congr hF.out (fun m hm => by simp only [modF, HCC.out m]; by_cases e : letN m = s[i]'hit <;> simp [e, hm] <;> omega), hG.out, hB.out⟩
              case measure => simp [intOf]; omega
        · have hge : ¬ (i : Int) < (s.size : Int) := by omega
          have hin : i = s.size := by omega
          subst hin
          go_wp2
          go_roundw
          case rel => exact ⟨k + 1, by omega, by go_num, five_congr hF.out (fun m _ => by simp only [modF, cntTo_succ HC.out m, inC_all]; simp), hG.out, hB.out⟩
          case measure => simp [intOf]; omega
    · have hge : ¬ (k : Int) < (L.length : Int) := by omega
      have hin : k = L.length := by omega
      subst hin
      go_wp2
      go_ret2
      exact ⟨g, 5, rfl, hz, hG.out, hF.out, hB.out⟩
theorem count_bad (L : List ByteArray) (a : Option Addr) (cap : Nat) (hw : okW L = false) (hl : L.length ≤ 1048576) (hs : StrLe 1048576 L) (w : World) (ha : StrArg w a L) :
    Calls Tryd.prog 47 #[.slice a L.length cap] w fun e w' => e = .returned (.tuple #[.slice none 0 0, .int .i64 1]) ∧ Below w.heap.size w w' := by
  have C := Lib.hid (fun wx h => wall_spec L a cap hl hs wx h)
  rw [hw] at C
  have HA := Lib.hid ha
  clear ha hs hw hl
  go_enter Tryd.func47, Tryd.ntmps47
  go_wp2_with fail
  refine (C.out _ HA.out).mono ?_
  rintro e w1 ⟨rfl, hb1⟩
  have B1 := Lib.hid hb1
  clear hb1
  go_wp2
  go_ret2
  exact ⟨rfl, B1.out⟩
theorem countI_bad (L : List ByteArray) (a : Option Addr) (cap : Nat) (hw : okW L = false) (hl : L.length ≤ 1048576) (hs : StrLe 1048576 L) (w : World) (ha : StrArg w a L) :
    Calls Tryd.prog 48 #[.slice a L.length cap] w fun e w' => e = .returned (.tuple #[.slice none 0 0, .int .i64 1]) ∧ Below w.heap.size w w' := by
  have C := Lib.hid (fun wx h => validWall_impl L a cap hl hs wx h)
  rw [hw] at C
  have HA := Lib.hid ha
  clear ha hs hw hl
  go_enter Tryd.func48, Tryd.ntmps48
  go_wp2_with fail
  refine (C.out _ HA.out).mono ?_
  rintro e w1 ⟨rfl, hb1⟩
  have B1 := Lib.hid hb1
  clear hb1
  go_wp2
  go_ret2
  exact ⟨rfl, B1.out⟩
set_option maxRecDepth 100000 in
set_option maxHeartbeats 6400000 in
theorem countI (L : List ByteArray) (a : Option Addr) (cap : Nat) (hw : okW L = true) (hl : L.length ≤ 1048576) (hs : StrLe 1048576 L) (w : World) (ha : StrArg w a L) :
    Calls Tryd.prog 48 #[.slice a L.length cap] w fun e w' => CntAns L w e w' := by
  have C := Lib.hid (fun wx h => validWall_impl L a cap hl hs wx h)
  rw [hw] at C
  obtain ⟨l1, l2, hok⟩ := okW_facts hw
  have HS : StrLe 60 L := fun k s hk => (okCr_facts (hok k s hk)).2.1
  have Q := Lib.hid (fun wx h => countEach_impl L a cap l2 HS wx h)
  have HA := Lib.hid ha
  clear ha hs hok hw hl HS
  go_enter Tryd.func48, Tryd.ntmps48
  go_wp2_with fail
  refine (C.out _ HA.out).mono ?_
  rintro e w1 ⟨rfl, hb1⟩
  have B1 := Lib.hid hb1
  clear hb1
  go_wp2_with fail
  refine (Q.out _ (HA.out.later B1.out)).mono ?_
  rintro e w2 ⟨rfl, hb2⟩
  have B2 := Lib.hid (bnext B1.out hb2)
  clear hb2
  obtain ⟨n0, h0⟩ : ∃ n, cntTo L L.length 0 = n := ⟨_, rfl⟩
  obtain ⟨n1, h1⟩ : ∃ n, cntTo L L.length 1 = n := ⟨_, rfl⟩
  obtain ⟨n2, h2⟩ : ∃ n, cntTo L L.length 2 = n := ⟨_, rfl⟩
  obtain ⟨n3, h3⟩ : ∃ n, cntTo L L.length 3 = n := ⟨_, rfl⟩
  obtain ⟨n4, h4⟩ : ∃ n, cntTo L L.length 4 = n := ⟨_, rfl⟩
  rw [h0, h1, h2, h3, h4]
  have F5 := Lib.hid (five_laid w2 (n0 : Int) n1 n2 n3 n4 66)
  have B5 := Lib.hid (balloc B2.out (.cells #[.int .i64 (n0 : Int), .int .i64 (n1 : Int), .int .i64 (n2 : Int), .int .i64 (n3 : Int), .int .i64 (n4 : Int)] 66))
  have hz : w.heap.size ≤ w2.heap.size := B2.out.size
  have HF : Hid (∀ k, k < 5 → ([(n0 : Int), n1, n2, n3, n4].getD k 0) = (cntTo L L.length k : Int)) := fun k hk => by
    rcases (show k = 0 ∨ k = 1 ∨ k = 2 ∨ k = 3 ∨ k = 4 by omega) with rfl | rfl | rfl | rfl | rfl <;> simp <;> omega
  clear h0 h1 h2 h3 h4
  go_wp2
  go_ret2
  exact ⟨_, 5, rfl, hz, by simp, five_congr F5.out HF.out, B5.out⟩
/-- The numbers and the code of a wall. -/
def cntL (L : List ByteArray) : List Int := if okW L = true then [(cntTo L L.length 0 : Int), cntTo L L.length 1, cntTo L L.length 2, cntTo L L.length 3, cntTo L L.length 4] else []
def cntC (L : List ByteArray) : Int := if okW L = true then 0 else 1
theorem cntL_length (L : List ByteArray) : (cntL L).length ≤ 5 := by unfold cntL; split <;> simp
def CoAns (L : List ByteArray) (w : World) (e : Ending) (w' : World) : Prop := ∃ a cap, e = .returned (.tuple #[.slice a (cntL L).length cap, .int .i64 (cntC L)]) ∧ IntRes w.heap.size (cntL L) a w' ∧ Below w.heap.size w w'
theorem CoAns.of {L : List ByteArray} (h : okW L = true) {w w' : World} {e : Ending} (k : CntAns L w e w') : CoAns L w e w' := by
  obtain ⟨g, c2, rfl, h1, h2, h3, h4⟩ := k
  have e1 : cntL L = [(cntTo L L.length 0 : Int), cntTo L L.length 1, cntTo L L.length 2, cntTo L L.length 3, cntTo L L.length 4] := by simp [cntL, h]
  have e2 : cntC L = 0 := by simp [cntC, h]
  unfold CoAns
  rw [e1, e2]
  refine ⟨some ⟨g, 0, none⟩, c2, rfl, .inr ⟨g, rfl, h1, fun k z hk => ?_, fun j hj => ?_, h2⟩, h4⟩
  · have hl := (List.getElem?_eq_some_iff.1 hk).1
    have hk5 : k < 5 := hl
    have c0 := (h3 k hk5).1
    rw [Nat.zero_add, c0]
    rcases (show k = 0 ∨ k = 1 ∨ k = 2 ∨ k = 3 ∨ k = 4 by omega) with rfl | rfl | rfl | rfl | rfl <;> (cases hk; rfl)
  · have hk5 : j < 5 := hj
    obtain ⟨c0, f0⟩ := h3 j hk5
    rw [Nat.zero_add]
    exact ⟨by rw [c0]; rfl, f0⟩
theorem CoAns.bad {L : List ByteArray} (h : okW L = false) {w w' : World} {e : Ending} (k : e = .returned (.tuple #[.slice none 0 0, .int .i64 1]) ∧ Below w.heap.size w w') : CoAns L w e w' := by
  have e1 : cntL L = [] := by simp [cntL, h]
  have e2 : cntC L = 1 := by simp [cntC, h]
  unfold CoAns
  rw [e1, e2]
  exact ⟨none, 0, k.1, .inl rfl, k.2⟩
theorem countPieces_spec (L : List ByteArray) (a : Option Addr) (cap : Nat) (hl : L.length ≤ 1048576) (hs : StrLe 1048576 L) (w : World) (ha : StrArg w a L) :
    Calls Tryd.prog 47 #[.slice a L.length cap] w (CoAns L w) := by
  cases h : okW L
  · exact (count_bad L a cap h hl hs w ha).mono fun _ _ k => CoAns.bad h k
  · exact (count_spec L a cap h hl hs w ha).mono fun _ _ k => CoAns.of h k
theorem countPieces_impl (L : List ByteArray) (a : Option Addr) (cap : Nat) (hl : L.length ≤ 1048576) (hs : StrLe 1048576 L) (w : World) (ha : StrArg w a L) :
    Calls Tryd.prog 48 #[.slice a L.length cap] w (CoAns L w) := by
  cases h : okW L
  · exact (countI_bad L a cap h hl hs w ha).mono fun _ _ k => CoAns.bad h k
  · exact (countI L a cap h hl hs w ha).mono fun _ _ k => CoAns.of h k
end Go.Proofs.YtbhjdhkabhafmaaDoor
