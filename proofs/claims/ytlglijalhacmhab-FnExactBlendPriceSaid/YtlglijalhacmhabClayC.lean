/-
  The laws' copies of clays, and their equality.
-/
import Derived.Test.YtlglijalhacmhabClay
import Derived.Test.YtlglijalhacmhabClayT
import Derived.Test.YtlglijalhacmhabRow
import Derived.Deep.RegionWith
import Derived.Deep.OwnRows
namespace Go.Proofs.Ytlglijalhacmhab
open Go.ChangeShapes Go.WideShapes Go.ChangeAt Go.RowKit Go.Joins

/-- A row of the call's own that holds these clays: it may be written. -/
def ClOwn (B : Nat) (L : List Cl) (g : Nat) (w : World) : Prop := B ≤ g ∧ ClAt w g 0 L ∧ w.there g 0 (L.length * 5) ∧ g < w.heap.size

theorem infoClay : (Try.prog.info? 77).map (fun i => (i.zero, i.size, i.bytes)) = some (some (.agg #[.string ⟨#[]⟩, .int .i64 0, .int .i64 0, .int .i64 0, .int .i64 0]), 5, 48) := by kernel_rfl
theorem make_clays (n : Nat) (hn : n ≤ 1048576) (w : World) : ∃ C : Array Value, C.size = n * 5 ∧ (Instr.makeSlice 29 (.int .i64 (n : Int)) (.int .i64 (n : Int))).run Try.prog w = .ok (.slice (some ⟨w.heap.size, 0, none⟩) n n) (w.alloc (.cells C 77)) := by
  obtain ⟨i, hi, hzz⟩ := Option.map_eq_some_iff.1 infoClay
  simp only [Prod.mk.injEq] at hzz
  obtain ⟨hz, hs, hb⟩ := hzz
  have hr := run_make (P := Try.prog) w 29 77 i _ Try.underlying29 hi hz .i64 .i64 n n (by omega) (Int.le_refl _) (by rw [hb]; omega) (by omega)
  refine ⟨_, ?_, hr⟩
  rw [size_madeCells, hs, Int.toNat_natCast]

theorem sizeClay : (Try.prog.info? 77).map (·.size) = some 5 := by kernel_rfl
set_option maxRecDepth 100000 in
set_option maxHeartbeats 1600000 in
theorem to_clays (L : List Cl) (a : Option Addr) (cap : Nat) (hl : L.length ≤ 1048576) (w : World) (ha : ClArg w a L) :
    Calls Try.prog 13 #[.slice a L.length cap] w fun e w' => ∃ g, e = .returned (.slice (some ⟨g, 0, none⟩) L.length L.length) ∧ ClOwn w.heap.size L g w' ∧ Below w.heap.size w w' := by
  have HA := Lib.hid ha
  clear ha
  obtain ⟨C, hC, hmk⟩ := make_clays L.length hl w
  go_enter Try.func13, Try.ntmps13
  go_wp2
  go_loopw [4] (fun i wr => ∃ (k : Nat), k ≤ L.length ∧ i = .int .i64 k ∧ Hid (∀ j c, j < k → L[j]? = some c → wr.rangeAt w.heap.size (j * 5) c.vals) ∧ Hid (wr.there w.heap.size 0 (L.length * 5)) ∧ Hid (Below w.heap.size w wr) ∧ w.heap.size < wr.heap.size) (fun i _ => L.length - (intOf i).toNat)
  case atStart => exact ⟨0, Nat.zero_le _, rfl, fun j c hj => by omega, there_new w C _ _ hC, balloc0 _ _, by simp⟩
  case round =>
    obtain ⟨k, hk, rfl, hM, hT, hB, hsz⟩ := hrel
    by_cases hlt : k < L.length
    · have hlt' : (k : Int) < (L.length : Int) := by omega
      have hk0 : (0 : Int) ≤ (k : Int) := by omega
      obtain ⟨b, o, c, rfl, hc, hat⟩ := (HA.out.later hB.out).at hlt
      obtain ⟨c0, c1, c2, c3, c4⟩ := hat.cells hc
      have HC := Lib.hid hc
      clear hc hat
      go_wp2_with fail
      refine (to_clay c _).mono ?_
      rintro e w1 ⟨rfl, hb1⟩
      have B1 := Lib.hid (bnext hB.out hb1)
      have M1 : Hid (∀ (j : Nat) (c : Cl), j < k → L[j]? = some c → w1.rangeAt w.heap.size (j * 5) c.vals) := fun j c hj hc => range_below (hM.out j c hj hc) hb1
      have T1 := Lib.hid (there_below hT.out hb1)
      have hone : (#[Value.string c.name, .int .i64 c.sh, .int .i64 c.li, .int .i64 c.sa, .int .i64 c.pr] : Array Value).all (·.oneCell') = true := by simp [Value.oneCell']
      have s1 : w.heap.size < w1.heap.size := by have := hb1.size; omega
      have hT2 := World.there_setCells T1.out w.heap.size (k * 5) c.vals
      have hS2 := World.rangeAt_setCells_same w1 w.heap.size (k * 5) c.vals (there_part T1.out hlt)
      have hA2 : ∀ (j : Nat) (d : Cl), j < k → L[j]? = some d → (w1.setCells w.heap.size (k * 5) c.vals).rangeAt w.heap.size (j * 5) d.vals := fun j d hj hd => World.rangeAt_setCells_apart (M1.out j d hj hd) _ _ _ (.inr (.inl (by show j * 5 + 5 ≤ k * 5; omega)))
      have hB2 := below_setCells w.heap.size (Nat.le_refl _) c.vals (k * 5) w1 B1.out
      obtain ⟨w2, hw2⟩ : ∃ w2, w1.setCells w.heap.size (k * 5) c.vals = w2 := ⟨_, rfl⟩
      rw [hw2] at hT2 hS2 hA2 hB2
      have s2 : w.heap.size < w2.heap.size := by rw [← hw2, size_setCells]; exact s1
      have hws : w1.setCells w.heap.size (k * 5) (#[Value.string c.name, .int .i64 c.sh, .int .i64 c.li, .int .i64 c.sa, .int .i64 c.pr] : Array Value).toList = w2 := hw2
      have TP := Lib.hid (there_part T1.out hlt)
      have HW := Lib.hid hws
      have S2 := Lib.hid hS2
      have A2 := Lib.hid hA2
      have T2 := Lib.hid hT2
      have B2 := Lib.hid hB2
      clear hb1 hT2 hS2 hA2 hB2 hw2 hws
      go_wp2_with (refine wpList_store_mid rfl 77 (.tmp 21) (.tmp 20) rfl w.heap.size (k * 5) #[.string c.name, .int .i64 c.sh, .int .i64 c.li, .int .i64 c.sa, .int .i64 c.pr] rfl rfl TP.out sizeClay hone ?_; rw [HW.out])
      go_roundw
      case rel =>
        refine ⟨k + 1, by omega, by go_num, fun j d hj hd => ?_, T2.out, B2.out, s2⟩
        by_cases e : j = k
        · subst e
          rw [HC.out] at hd
          cases hd
          exact S2.out
        · exact A2.out j d (by omega) hd
      case measure => simp [intOf]; omega
    · have hge : ¬ (k : Int) < (L.length : Int) := by omega
      have hkn : k = L.length := by omega
      subst hkn
      go_wp2
      go_ret
      exact ⟨_, rfl, ⟨Nat.le_refl _, fun j c hj => by rw [Nat.zero_add]; exact hM.out j c (List.getElem?_eq_some_iff.1 hj).1 hj, hT.out, hsz⟩, hB.out⟩
end Go.Proofs.Ytlglijalhacmhab
