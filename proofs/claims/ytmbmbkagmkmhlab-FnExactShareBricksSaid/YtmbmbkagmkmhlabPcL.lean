/-
  What the laws ask of rows of Piece: their size, copies, equality.
-/
import Derived.Test.YtmbmbkagmkmhlabPc
import Derived.Deep.RegionWith
namespace Go.Proofs.Ytmbmbkagmkmhlab
open Go.ChangeShapes Go.WideShapes Go.ChangeAt Go.RowKit Go.Joins

theorem sz_pcs (m : Nat) (a : Option Addr) (cap : Nat) (left : Int) (h0 : 0 ≤ left) (h1 : left ≤ 1048576) (hl : m ≤ 9223372036854775807) (w : World) :
    Calls Try.prog 12 #[.slice a m cap, .int .i64 left] w fun e w' => ∃ r : Int, e = .returned (.int .i64 r) ∧ -1 ≤ r ∧ r ≤ left ∧ (0 ≤ r → m ≤ 1048576) ∧ w = w' := by
  by_cases hm : left - (m : Int) < 0
  · go_enter Try.func12, Try.ntmps12
    go_wp2
    go_ret
    exact ⟨-1, rfl, by omega, by omega, fun h => by omega, rfl⟩
  · go_enter Try.func12, Try.ntmps12
    go_wp2
    go_ret
    exact ⟨left - m, rfl, by omega, by omega, fun h => by omega, rfl⟩

theorem to_pc (c : Pc) (w : World) : Calls Try.prog 19 #[.agg #[.int .i64 c.le, .int .i64 c.he, .int .i64 c.ha]] w fun e w' => e = .returned (.agg #[.int .i64 c.le, .int .i64 c.he, .int .i64 c.ha]) ∧ Below w.heap.size w w' := by
  go_enter Try.func19, Try.ntmps19
  go_wp2
  refine bodyPost_ret (v := .agg #[.int .i64 c.le, .int .i64 c.he, .int .i64 c.ha]) (by simp [results, Try.results19, go_sem]) rfl ⟨rfl, ?_⟩
  first | exact (((Below.refl _ _).alloc (Nat.le_refl _) _).alloc (by simp) _).alloc (by simp; omega) _ | exact ((Below.refl _ _).alloc (Nat.le_refl _) _).alloc (by simp) _ | exact (Below.refl _ _).alloc (Nat.le_refl _) _

theorem make_pcs (m : Nat) (hn : m ≤ 1048576) (w : World) : ∃ C : Array Value, C.size = m * 3 ∧ (Instr.makeSlice 25 (.int .i64 (m : Int)) (.int .i64 (m : Int))).run Try.prog w = .ok (.slice (some ⟨w.heap.size, 0, none⟩) m m) (w.alloc (.cells C 37)) := by
  obtain ⟨i, hi, hzz⟩ := Option.map_eq_some_iff.1 infoPc
  simp only [Prod.mk.injEq] at hzz
  obtain ⟨hz, hs, hb⟩ := hzz
  have hr := run_make (P := Try.prog) w 25 37 i _ Try.underlying25 hi hz .i64 .i64 m m (by omega) (Int.le_refl _) (by rw [hb]; omega) (by omega)
  refine ⟨_, ?_, hr⟩
  rw [size_madeCells, hs, Int.toNat_natCast]

set_option maxRecDepth 100000 in
set_option maxHeartbeats 1600000 in
theorem to_pcs (L : List Pc) (a : Option Addr) (cap : Nat) (hl : L.length ≤ 1048576) (w : World) (ha : PcArg w a L) :
    Calls Try.prog 14 #[.slice a L.length cap] w fun e w' => ∃ g, e = .returned (.slice (some ⟨g, 0, none⟩) L.length L.length) ∧ PcOwn w.heap.size L g w' ∧ Below w.heap.size w w' := by
  have HA := Lib.hid ha
  clear ha
  obtain ⟨C, hC, hmk⟩ := make_pcs L.length hl w
  go_enter Try.func14, Try.ntmps14
  go_wp2
  go_loopw [4] (fun i wr => ∃ (k : Nat), k ≤ L.length ∧ i = .int .i64 k ∧ Hid (∀ j c, j < k → L[j]? = some c → wr.rangeAt w.heap.size (j * 3) c.vals) ∧ Hid (wr.there w.heap.size 0 (L.length * 3)) ∧ Hid (Below w.heap.size w wr) ∧ w.heap.size < wr.heap.size) (fun i _ => L.length - (intOf i).toNat)
  case atStart => exact ⟨0, Nat.zero_le _, rfl, fun j c hj => by omega, there_new w C _ _ hC, balloc0 _ _, by simp⟩
  case round =>
    obtain ⟨k, hk, rfl, hM, hT, hB, hsz⟩ := hrel
    by_cases hlt : k < L.length
    · have hlt' : (k : Int) < (L.length : Int) := by omega
      have hk0 : (0 : Int) ≤ (k : Int) := by omega
      obtain ⟨b, o, c, rfl, hc, hat⟩ := (HA.out.later hB.out).at hlt
      obtain ⟨c0, c1, c2⟩ := hat.cells hc
      have HC := Lib.hid hc
      clear hc hat
      go_wp2_with fail
      refine (to_pc c _).mono ?_
      rintro e w1 ⟨rfl, hb1⟩
      have B1 := Lib.hid (bnext hB.out hb1)
      have M1 : Hid (∀ (j : Nat) (c : Pc), j < k → L[j]? = some c → w1.rangeAt w.heap.size (j * 3) c.vals) := fun j c hj hc => range_below (hM.out j c hj hc) hb1
      have T1 := Lib.hid (there_below hT.out hb1)
      have hone : (#[Value.int .i64 c.le, .int .i64 c.he, .int .i64 c.ha] : Array Value).all (·.oneCell') = true := by simp [Value.oneCell']
      have s1 : w.heap.size < w1.heap.size := by have := hb1.size; omega
      have hT2 := World.there_setCells T1.out w.heap.size (k * 3) c.vals
      have hS2 := World.rangeAt_setCells_same w1 w.heap.size (k * 3) c.vals (there_part T1.out hlt)
      have hA2 : ∀ (j : Nat) (d : Pc), j < k → L[j]? = some d → (w1.setCells w.heap.size (k * 3) c.vals).rangeAt w.heap.size (j * 3) d.vals := fun j d hj hd => World.rangeAt_setCells_apart (M1.out j d hj hd) _ _ _ (.inr (.inl (by show j * 3 + 3 ≤ k * 3; omega)))
      have hB2 := below_setCells w.heap.size (Nat.le_refl _) c.vals (k * 3) w1 B1.out
      obtain ⟨w2, hw2⟩ : ∃ w2, w1.setCells w.heap.size (k * 3) c.vals = w2 := ⟨_, rfl⟩
      rw [hw2] at hT2 hS2 hA2 hB2
      have s2 : w.heap.size < w2.heap.size := by rw [← hw2, size_setCells]; exact s1
      have hws : w1.setCells w.heap.size (k * 3) (#[Value.int .i64 c.le, .int .i64 c.he, .int .i64 c.ha] : Array Value).toList = w2 := hw2
      have TP := Lib.hid (there_part T1.out hlt)
      have HW := Lib.hid hws
      have S2 := Lib.hid hS2
      have A2 := Lib.hid hA2
      have T2 := Lib.hid hT2
      have B2 := Lib.hid hB2
      clear hb1 hT2 hS2 hA2 hB2 hw2 hws
      go_wp2_with (refine wpList_store_mid rfl 37 (.tmp 21) (.tmp 20) rfl w.heap.size (k * 3) #[.int .i64 c.le, .int .i64 c.he, .int .i64 c.ha] rfl rfl TP.out sizePc hone ?_; rw [HW.out])
      go_roundw
      case rel =>
        refine ⟨k + 1, by omega, by go_num, fun j d hj hd => ?_, T2.out, B2.out, s2⟩
        by_cases e : j = k
        · subst e
          rw [HC.out] at hd
          cases hd
          exact S2.out
        · exact A2.out j d (by omega) hd
      case measure => simp [intOf]; omega
    · have hge : ¬ (k : Int) < (L.length : Int) := by omega
      have hkn : k = L.length := by omega
      subst hkn
      go_wp2
      go_ret
      exact ⟨_, rfl, ⟨Nat.le_refl _, fun j c hj => by rw [Nat.zero_add]; exact hM.out j c (List.getElem?_eq_some_iff.1 hj).1 hj, hT.out, hsz⟩, hB.out⟩

theorem eq_pc (c : Pc) (w : World) : Calls Try.prog 43 #[.agg #[.int .i64 c.le, .int .i64 c.he, .int .i64 c.ha], .agg #[.int .i64 c.le, .int .i64 c.he, .int .i64 c.ha]] w fun e w' => e = .returned (.bool true) ∧ Below w.heap.size w w' := by
  go_enter Try.func43, Try.ntmps43
  go_wp2
  go_ret
  exact ⟨rfl, balloc (balloc0 _ _) _⟩

set_option maxRecDepth 100000 in
set_option maxHeartbeats 1600000 in
theorem eq_pcs (L : List Pc) (a a' : Option Addr) (cap cap' : Nat) (hl : L.length ≤ 1048577) (w : World) (ha : PcArg w a L) (ha' : PcArg w a' L) :
    Calls Try.prog 16 #[.slice a L.length cap, .slice a' L.length cap'] w fun e w' => e = .returned (.bool true) ∧ Below w.heap.size w w' := by
  have HA := Lib.hid ha
  have HA' := Lib.hid ha'
  clear ha ha'
  go_enter Try.func16, Try.ntmps16
  go_wp2
  go_loopw [5] (fun i wr => ∃ k : Nat, k ≤ L.length ∧ i = .int .i64 k ∧ Hid (Below w.heap.size w wr)) (fun i _ => L.length - (intOf i).toNat)
  case atStart => exact ⟨0, Nat.zero_le _, rfl, Below.refl _ _⟩
  case round =>
    obtain ⟨k, hk, rfl, hB⟩ := hrel
    by_cases hlt : k < L.length
    · have hlt' : (k : Int) < (L.length : Int) := by omega
      have hk0 : (0 : Int) ≤ (k : Int) := by omega
      obtain ⟨b, o, c, rfl, hc, hat⟩ := (HA.out.later hB.out).at hlt
      obtain ⟨b', o', c', rfl, hc', hat'⟩ := (HA'.out.later hB.out).at hlt
      rw [hc] at hc'
      cases hc'
      obtain ⟨c0, c1, c2⟩ := hat.cells hc
      obtain ⟨d0, d1, d2⟩ := hat'.cells hc
      clear hc hat hat'
      go_wp2_with fail
      go_region_with (go_at_call 43; refine (eq_pc c _).mono ?_; rintro e w1 ⟨rfl, hb1⟩; have B1 := Lib.hid hb1; clear hb1)
      all_goals
        go_wp2
        go_roundw
        case rel => exact ⟨k + 1, by omega, by go_num, bnext hB.out.drew B1.out⟩
        case measure => simp [intOf]; omega
    · have hge : ¬ (k : Int) < (L.length : Int) := by omega
      go_wp2
      go_ret
      exact ⟨rfl, hB.out⟩
end Go.Proofs.Ytmbmbkagmkmhlab
