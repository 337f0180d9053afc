/-
  What the laws ask of bonds before and behind the call: their size, copies, equality.
-/
import Derived.Test.YtplggghhhgmebaaDoorCo
import Derived.Test.YtplggghhhgmebaaDoorRow
import Derived.Deep.RegionWith
import Derived.Deep.OwnRows
import Derived.WalkSmall
import Derived.Deep.QuietTactic
import Derived.BigQuiet
namespace Go.Proofs.YtplggghhhgmebaaDoor
open Go.ChangeShapes Go.WideShapes Go.ChangeAt Go.RowKit Go.Joins

theorem sz_course (c : Co) (left : Int) (h0 : 0 ≤ left) (h1 : left ≤ 1048576) (hs : c.lead.size ≤ 9223372036854775807 ∧ c.cyc.size ≤ 9223372036854775807) (w : World) : Calls Tryd.prog 20 #[.agg #[.string c.lead, .string c.cyc], .int .i64 left] w fun e w' => ∃ r : Int, e = .returned (.int .i64 r) ∧ -1 ≤ r ∧ r ≤ left ∧ (0 ≤ r → c.lead.size ≤ 1048576 ∧ c.cyc.size ≤ 1048576) ∧ Below w.heap.size w w' := by
  obtain ⟨hs1, hs2⟩ := hs
  by_cases h : left - (c.lead.size : Int) < 0
  · go_enter Tryd.func20, Tryd.ntmps20
    go_wp2
    go_ret
    exact ⟨-1, rfl, by omega, by omega, fun h => by omega, balloc0 _ _⟩
  by_cases h' : left - (c.lead.size : Int) - (c.cyc.size : Int) < 0
  · go_enter Tryd.func20, Tryd.ntmps20
    go_wp2
    go_ret
    exact ⟨-1, rfl, by omega, by omega, fun h => by omega, balloc0 _ _⟩
  · go_enter Tryd.func20, Tryd.ntmps20
    go_wp2
    go_ret
    exact ⟨left - c.lead.size - c.cyc.size, rfl, by omega, by omega, fun _ => by omega, balloc0 _ _⟩

set_option maxHeartbeats 1600000 in
theorem sz_courses (L : List Co) (a : Option Addr) (cap : Nat) (left : Int) (h0 : 0 ≤ left) (h1 : left ≤ 1048576) (hl : L.length ≤ 9223372036854775807) (hs : CosLe 9223372036854775807 L) (w : World) (ha : CoArg w a L) :
    Calls Tryd.prog 12 #[.slice a L.length cap, .int .i64 left] w fun e w' => ∃ r : Int, e = .returned (.int .i64 r) ∧ -1 ≤ r ∧ r ≤ left ∧ (0 ≤ r → L.length ≤ 1048576 ∧ CosLe 1048576 L) ∧ Below w.heap.size w w' := by
  by_cases hm : left - (L.length : Int) < 0
  · go_enter Tryd.func12, Tryd.ntmps12
    go_wp2
    go_ret
    exact ⟨-1, rfl, by omega, by omega, fun h => by omega, Below.refl _ _⟩
  have HA := Lib.hid ha
  have HS := Lib.hid hs
  clear ha hs
  go_enter Tryd.func12, Tryd.ntmps12
  go_wp2
  go_loopw [1, 5] (fun u i wr => ∃ (k : Nat) (r : Int), k ≤ L.length ∧ u = .int .i64 r ∧ i = .int .i64 k ∧ 0 ≤ r ∧ r ≤ left ∧ Hid (∀ (j : Nat) (c : Co), j < k → L[j]? = some c → c.lead.size ≤ 1048576 ∧ c.cyc.size ≤ 1048576) ∧ Hid (Below w.heap.size w wr)) (fun _ i _ => L.length - (intOf i).toNat)
  case atStart => exact ⟨0, _, Nat.zero_le _, rfl, rfl, by omega, by omega, fun j c hj => by omega, Below.refl _ _⟩
  case round =>
    obtain ⟨k, r, hk, rfl, rfl, hr0, hr1, hM, hB⟩ := hrel
    by_cases hlt : k < L.length
    · have hlt' : (k : Int) < (L.length : Int) := by omega
      have hk0 : (0 : Int) ≤ (k : Int) := by omega
      obtain ⟨b, o, c, rfl, hc, hat⟩ := (HA.out.later hB.out).at hlt
      obtain ⟨c0, c1⟩ := hat.cells hc
      have C := Lib.hid (sz_course c r hr0 (by omega) (HS.out k c hc))
      have HC := Lib.hid hc
      clear hc hat
      go_wp2_with fail
      refine (C.out _).mono ?_
      rintro e w1 ⟨q, rfl, hq0, hq1, hq2, hb1⟩
      have B1 := Lib.hid (bnext hB.out hb1)
      have HQ := Lib.hid hq2
      clear hb1 hq2
      by_cases hq : q < 0
      · go_wp2
        go_ret
        exact ⟨-1, rfl, by omega, by omega, fun h => by omega, B1.out⟩
      · go_wp2
        go_roundw
        case rel =>
          refine ⟨k + 1, q, by omega, rfl, by go_num, by omega, by omega, fun j d hj hd => ?_, B1.out⟩
          by_cases e : j = k
          · subst e
            rw [HC.out] at hd
            cases hd
            exact HQ.out (by omega)
          · exact hM.out j d (by omega) hd
        case measure => simp [intOf]; omega
    · have hge : ¬ (k : Int) < (L.length : Int) := by omega
      have hkn : k = L.length := by omega
      subst hkn
      go_wp2
      go_ret
      exact ⟨r, rfl, by omega, by omega, fun _ => ⟨by omega, fun j c hj => hM.out j c (List.getElem?_eq_some_iff.1 hj).1 hj⟩, hB.out⟩

set_option maxHeartbeats 1600000 in
theorem sz_bond (nm : ByteArray) (L : List Co) (a : Option Addr) (cap : Nat) (left : Int) (h0 : 0 ≤ left) (h1 : left ≤ 1048576) (hn : nm.size ≤ 9223372036854775807) (hl : L.length ≤ 9223372036854775807) (hs : CosLe 9223372036854775807 L) (w : World) (ha : CoArg w a L) :
    Calls Tryd.prog 5 #[.agg #[.string nm, .slice a L.length cap], .int .i64 left] w fun e w' => ∃ r : Int, e = .returned (.int .i64 r) ∧ -1 ≤ r ∧ r ≤ left ∧ (0 ≤ r → nm.size ≤ 1048576 ∧ L.length ≤ 1048576 ∧ CosLe 1048576 L) ∧ Below w.heap.size w w' := by
  by_cases hm : left - (nm.size : Int) < 0
  · clear ha hs
    go_enter Tryd.func5, Tryd.ntmps5
    go_wp2
    go_ret
    exact ⟨-1, rfl, by omega, by omega, fun h => by omega, balloc0 _ _⟩
  have C := Lib.hid (fun wx (hx : Below w.heap.size w wx) => sz_courses L a cap (left - (nm.size : Int)) (by omega) (by omega) hl hs wx (ha.later hx))
  clear ha hs
  go_enter Tryd.func5, Tryd.ntmps5
  go_wp2_with fail
  refine (C.out _ (balloc0 _ _)).mono ?_
  rintro e w1 ⟨q, rfl, hq0, hq1, hq2, hb1⟩
  have B1 := Lib.hid (bnext (balloc0 _ _) hb1)
  have HQ := Lib.hid hq2
  clear hb1 hq2
  by_cases hq : q < 0
  · go_wp2
    go_ret
    exact ⟨-1, rfl, by omega, by omega, fun h => by omega, B1.out⟩
  · go_wp2
    go_ret
    exact ⟨q, rfl, by omega, by omega, fun h => ⟨by omega, HQ.out h⟩, B1.out⟩

theorem boxB (w : World) (nm : ByteArray) (v : Value) (t : TypeId) : (w.alloc (.cells #[.string nm, v] t)).cell? ⟨w.heap.size, 0, none⟩ = some (.string nm) ∧ (w.alloc (.cells #[.string nm, v] t)).cell? ⟨w.heap.size, 1, none⟩ = some v := by
  refine ⟨?_, ?_⟩ <;> (rw [cell_of_row _ _ _ _ t (0, 0) (heap_alloc_new w _)]; rfl)
theorem to_course (c : Co) (w : World) : Calls Tryd.prog 26 #[.agg #[.string c.lead, .string c.cyc]] w fun e w' => e = .returned (.agg #[.string c.lead, .string c.cyc]) ∧ Below w.heap.size w w' := by
  go_enter Tryd.func26, Tryd.ntmps26
  go_wp2
  refine bodyPost_ret (v := .agg #[.string c.lead, .string c.cyc]) (by simp [results, Tryd.results26, go_sem]) rfl ⟨rfl, ?_⟩
  exact (((Below.refl _ _).alloc (Nat.le_refl _) _).alloc (by simp) _).alloc (by simp; omega) _

/-- A row of the call's own that holds these courses: it may be written. -/
def CoOwn (B : Nat) (L : List Co) (g : Nat) (w : World) : Prop := B ≤ g ∧ CoAt w g 0 L ∧ w.there g 0 (L.length * 2) ∧ g < w.heap.size
theorem CoOwn.arg {B : Nat} {L : List Co} {g : Nat} {w : World} (h : CoOwn B L g w) : CoArg w (some ⟨g, 0, none⟩) L := .inr ⟨g, 0, rfl, h.2.1⟩

theorem CoOwn.only {B : Nat} {L : List Co} {g b : Nat} {w w' : World} (h : CoOwn B L g w) (ho : Only b w w') (hne : g ≠ b) : CoOwn B L g w' :=
  ⟨h.1, fun k c hk => ho.range hne (h.2.1 k c hk), ho.there hne h.2.2.1, Nat.lt_of_lt_of_le h.2.2.2 ho.size⟩
theorem CoOwn.set {B : Nat} {L : List Co} {g b o : Nat} {v : Value} {w : World} (h : CoOwn B L g w) (hne : g ≠ b) : CoOwn B L g (w.setCell ⟨b, o, none⟩ v) := h.only ((Only.refl b w).set o v) hne
theorem CoOwn.later {B : Nat} {L : List Co} {g : Nat} {w w' : World} (h : CoOwn B L g w) (hb : Below w.heap.size w w') : CoOwn B L g w' := ⟨h.1, h.2.1.later hb, there_below h.2.2.1 hb, Nat.lt_of_lt_of_le h.2.2.2 hb.size⟩
theorem infoCourse : (Tryd.prog.info? 53).map (fun i => (i.zero, i.size, i.bytes)) = some (some (.agg #[.string ⟨#[]⟩, .string ⟨#[]⟩]), 2, 32) := by kernel_rfl
theorem make_courses (n : Nat) (hn : n ≤ 1048576) (w : World) : ∃ C : Array Value, C.size = n * 2 ∧ (Instr.makeSlice 28 (.int .i64 (n : Int)) (.int .i64 (n : Int))).run Tryd.prog w = .ok (.slice (some ⟨w.heap.size, 0, none⟩) n n) (w.alloc (.cells C 53)) := by
  obtain ⟨i, hi, hzz⟩ := Option.map_eq_some_iff.1 infoCourse
  simp only [Prod.mk.injEq] at hzz
  obtain ⟨hz, hs, hb⟩ := hzz
  have hr := run_make (P := Tryd.prog) w 28 53 i _ Tryd.underlying28 hi hz .i64 .i64 n n (by omega) (Int.le_refl _) (by rw [hb]; omega) (by omega)
  refine ⟨_, ?_, hr⟩
  rw [size_madeCells, hs, Int.toNat_natCast]
theorem sizeCourse : (Tryd.prog.info? 53).map (·.size) = some 2 := by kernel_rfl


set_option maxRecDepth 100000 in
set_option maxHeartbeats 1600000 in
theorem to_courses (L : List Co) (a : Option Addr) (cap : Nat) (hl : L.length ≤ 1048576) (w : World) (ha : CoArg w a L) :
    Calls Tryd.prog 15 #[.slice a L.length cap] w fun e w' => ∃ g, e = .returned (.slice (some ⟨g, 0, none⟩) L.length L.length) ∧ CoOwn w.heap.size L g w' ∧ Below w.heap.size w w' := by
  have HA := Lib.hid ha
  clear ha
  obtain ⟨C, hC, hmk⟩ := make_courses L.length hl w
  go_enter Tryd.func15, Tryd.ntmps15
  go_wp2
  go_loopw [4] (fun i wr => ∃ (k : Nat), k ≤ L.length ∧ i = .int .i64 k ∧ Hid (∀ j c, j < k → L[j]? = some c → wr.rangeAt w.heap.size (j * 2) c.vals) ∧ Hid (wr.there w.heap.size 0 (L.length * 2)) ∧ Hid (Below w.heap.size w wr) ∧ w.heap.size < wr.heap.size) (fun i _ => L.length - (intOf i).toNat)
  case atStart => exact ⟨0, Nat.zero_le _, rfl, fun j c hj => by omega, there_new w C _ _ hC, balloc0 _ _, by simp⟩
  case round =>
    obtain ⟨k, hk, rfl, hM, hT, hB, hsz⟩ := hrel
    by_cases hlt : k < L.length
    · have hlt' : (k : Int) < (L.length : Int) := by omega
      have hk0 : (0 : Int) ≤ (k : Int) := by omega
      obtain ⟨b, o, c, rfl, hc, hat⟩ := (HA.out.later hB.out).at hlt
      obtain ⟨c0, c1⟩ := hat.cells hc
      have HC := Lib.hid hc
      clear hc hat
      go_wp2_with fail
      refine (to_course c _).mono ?_
      rintro e w1 ⟨rfl, hb1⟩
      have B1 := Lib.hid (bnext hB.out hb1)
      have M1 : Hid (∀ (j : Nat) (c : Co), j < k → L[j]? = some c → w1.rangeAt w.heap.size (j * 2) c.vals) := fun j c hj hc => range_below (hM.out j c hj hc) hb1
      have T1 := Lib.hid (there_below hT.out hb1)
      have hone : (#[Value.string c.lead, .string c.cyc] : Array Value).all (·.oneCell') = true := by simp [Value.oneCell']
      have s1 : w.heap.size < w1.heap.size := by have := hb1.size; omega
      have hT2 := World.there_setCells T1.out w.heap.size (k * 2) c.vals
      have hS2 := World.rangeAt_setCells_same w1 w.heap.size (k * 2) c.vals (there_part T1.out hlt)
      have hA2 : ∀ (j : Nat) (d : Co), j < k → L[j]? = some d → (w1.setCells w.heap.size (k * 2) c.vals).rangeAt w.heap.size (j * 2) d.vals := fun j d hj hd => World.rangeAt_setCells_apart (M1.out j d hj hd) _ _ _ (.inr (.inl (by show j * 2 + 2 ≤ k * 2; omega)))
      have hB2 := below_setCells w.heap.size (Nat.le_refl _) c.vals (k * 2) w1 B1.out
      obtain ⟨w2, hw2⟩ : ∃ w2, w1.setCells w.heap.size (k * 2) c.vals = w2 := ⟨_, rfl⟩
      rw [hw2] at hT2 hS2 hA2 hB2
      have s2 : w.heap.size < w2.heap.size := by rw [← hw2, size_setCells]; exact s1
      have hws : w1.setCells w.heap.size (k * 2) (#[Value.string c.lead, .string c.cyc] : Array Value).toList = w2 := hw2
      have TP := Lib.hid (there_part T1.out hlt)
      have HW := Lib.hid hws
      have S2 := Lib.hid hS2
      have A2 := Lib.hid hA2
      have T2 := Lib.hid hT2
      have B2 := Lib.hid hB2
      clear hb1 hT2 hS2 hA2 hB2 hw2 hws
      go_wp2_with (refine wpList_store_mid rfl 53 (.tmp 21) (.tmp 20) rfl w.heap.size (k * 2) #[.string c.lead, .string c.cyc] rfl rfl TP.out sizeCourse hone ?_; rw [HW.out])
      go_roundw
      case rel =>
        refine ⟨k + 1, by omega, by go_num, fun j d hj hd => ?_, T2.out, B2.out, s2⟩
        by_cases e : j = k
        · subst e
          rw [HC.out] at hd
          cases hd
          exact S2.out
        · exact A2.out j d (by omega) hd
      case measure => simp [intOf]; omega
    · have hge : ¬ (k : Int) < (L.length : Int) := by omega
      have hkn : k = L.length := by omega
      subst hkn
      go_wp2
      go_ret
      exact ⟨_, rfl, ⟨Nat.le_refl _, fun j c hj => by rw [Nat.zero_add]; exact hM.out j c (List.getElem?_eq_some_iff.1 hj).1 hj, hT.out, hsz⟩, hB.out⟩

theorem to_bond (nm : ByteArray) (L : List Co) (a : Option Addr) (cap : Nat) (hl : L.length ≤ 1048576) (w : World) (ha : CoArg w a L) :
    Calls Tryd.prog 7 #[.agg #[.string nm, .slice a L.length cap]] w fun e w' => ∃ g, e = .returned (.agg #[.string nm, .slice (some ⟨g, 0, none⟩) L.length L.length]) ∧ CoOwn w.heap.size L g w' ∧ Below w.heap.size w w' := by
  have C := Lib.hid (fun wx (hx : Below w.heap.size w wx) => to_courses L a cap hl wx (ha.later hx))
  clear ha
  go_enter Tryd.func7, Tryd.ntmps7
  go_wp2_with fail
  refine (C.out _ (balloc (balloc (balloc0 _ _) _) _)).mono ?_
  rintro e w1 ⟨g, rfl, o1, hb1⟩
  have z1 : w.heap.size + 1 + 1 < w1.heap.size := by have := hb1.size; simp at this; omega
  have R1 : w1.heap[w.heap.size + 1]? = some (.cells #[.string ⟨#[]⟩, .slice none 0 0] 30 (0, 0)) := by
    rw [hb1.block _ (by simp), Below.heap_alloc _ _ _ (by simp)]
    have := heap_alloc_new (w.alloc (.cells #[.string nm, .slice a L.length cap] 24)) (.cells #[.string ⟨#[]⟩, .slice none 0 0] 30)
    simpa using this
  have O1 : w1.heap[w.heap.size + 1 + 1]? = some (.cells #[.string nm, .slice none 0 0] 30 (0, 0)) := by
    rw [hb1.block _ (by simp)]
    have := heap_alloc_new ((w.alloc (.cells #[.string nm, .slice a L.length cap] 24)).alloc (.cells #[.string ⟨#[]⟩, .slice none 0 0] 30)) (.cells #[.string nm, .slice none 0 0] 30)
    simpa using this
  have B1 : Hid (Below w.heap.size w w1) := bnext (balloc (balloc (balloc0 _ _) _) _) hb1
  have O2 : Hid (CoOwn w.heap.size L g w1) := ⟨by have := o1.1; simp at this; omega, o1.2⟩
  have r0 : w1.cell? ⟨w.heap.size + 1, 0, none⟩ = some (.string ⟨#[]⟩) := (cell_of_block R1 0).trans rfl
  have r1 : w1.cell? ⟨w.heap.size + 1, 1, none⟩ = some (.slice none 0 0) := (cell_of_block R1 1).trans rfl
  have q0 : w1.frozen? ⟨w.heap.size + 1, 0, none⟩ = false := unfrozen_of_block R1 0
  have q1 : w1.frozen? ⟨w.heap.size + 1, 1, none⟩ = false := unfrozen_of_block R1 1
  have p0 : w1.cell? ⟨w.heap.size + 1 + 1, 0, none⟩ = some (.string nm) := (cell_of_block O1 0).trans rfl
  have p1 : w1.cell? ⟨w.heap.size + 1 + 1, 1, none⟩ = some (.slice none 0 0) := (cell_of_block O1 1).trans rfl
  have s1 : w1.frozen? ⟨w.heap.size + 1 + 1, 1, none⟩ = false := unfrozen_of_block O1 1
  have G : Hid (g ≠ w.heap.size + 1 ∧ g ≠ w.heap.size + 1 + 1) := by have := o1.1; simp at this; exact ⟨by omega, by omega⟩
  clear hb1 R1 O1 o1
  go_wp2_with fail
  refine bodyPost_ret (v := .agg #[.string nm, .slice (some ⟨g, 0, none⟩) L.length L.length]) (by simp [results, Tryd.results7, go_sem, r0, r1]) rfl ⟨g, rfl, ?_, ?_⟩
  · exact ((O2.out.set G.out.2).set G.out.1).set G.out.1
  · exact ((B1.out.setCell (p := ⟨w.heap.size + 1 + 1, 1, none⟩) (by show _ ≤ w.heap.size + 1 + 1; omega) _).setCell (p := ⟨w.heap.size + 1, 0, none⟩) (Nat.le_add_right _ _) _).setCell (p := ⟨w.heap.size + 1, 1, none⟩) (Nat.le_add_right _ _) _

theorem eq_course (c : Co) (w : World) : Calls Tryd.prog 32 #[.agg #[.string c.lead, .string c.cyc], .agg #[.string c.lead, .string c.cyc]] w fun e w' => e = .returned (.bool true) ∧ Below w.heap.size w w' := by
  go_enter Tryd.func32, Tryd.ntmps32
  go_wp2
  go_ret
  exact ⟨rfl, balloc (balloc0 _ _) _⟩

set_option maxRecDepth 100000 in
set_option maxHeartbeats 1600000 in
theorem eq_courses (L : List Co) (a a' : Option Addr) (cap cap' : Nat) (hl : L.length ≤ 1048577) (w : World) (ha : CoArg w a L) (ha' : CoArg w a' L) :
    Calls Tryd.prog 19 #[.slice a L.length cap, .slice a' L.length cap'] w fun e w' => e = .returned (.bool true) ∧ Below w.heap.size w w' := by
  have HA := Lib.hid ha
  have HA' := Lib.hid ha'
  clear ha ha'
  go_enter Tryd.func19, Tryd.ntmps19
  go_wp2
  go_loopw [5] (fun i wr => ∃ k : Nat, k ≤ L.length ∧ i = .int .i64 k ∧ Hid (Below w.heap.size w wr)) (fun i _ => L.length - (intOf i).toNat)
  case atStart => exact ⟨0, Nat.zero_le _, rfl, Below.refl _ _⟩
  case round =>
    obtain ⟨k, hk, rfl, hB⟩ := hrel
    by_cases hlt : k < L.length
    · have hlt' : (k : Int) < (L.length : Int) := by omega
      have hk0 : (0 : Int) ≤ (k : Int) := by omega
      obtain ⟨b, o, c, rfl, hc, hat⟩ := (HA.out.later hB.out).at hlt
      obtain ⟨b', o', c', rfl, hc', hat'⟩ := (HA'.out.later hB.out).at hlt
      rw [hc] at hc'
      cases hc'
      obtain ⟨c0, c1⟩ := hat.cells hc
      obtain ⟨d0, d1⟩ := hat'.cells hc
      clear hc hat hat'
      go_wp2_with fail
      go_region_with (go_at_call 32; refine (eq_course c _).mono ?_; rintro e w1 ⟨rfl, hb1⟩; have B1 := Lib.hid hb1; clear hb1)
      all_goals
        go_wp2
        go_roundw
        case rel => exact ⟨k + 1, by omega, by go_num, bnext hB.out.drew B1.out⟩
        case measure => simp [intOf]; omega
    · have hge : ¬ (k : Int) < (L.length : Int) := by omega
      go_wp2
      go_ret
      exact ⟨rfl, hB.out⟩

set_option maxRecDepth 100000 in
set_option maxHeartbeats 1600000 in
theorem eq_bond (nm : ByteArray) (L : List Co) (a a' : Option Addr) (cap cap' : Nat) (hl : L.length ≤ 1048577) (w : World) (ha : CoArg w a L) (ha' : CoArg w a' L) :
    Calls Tryd.prog 9 #[.agg #[.string nm, .slice a L.length cap], .agg #[.string nm, .slice a' L.length cap']] w fun e w' => e = .returned (.bool true) ∧ Below w.heap.size w w' := by
  have C := Lib.hid (fun wx (hx : Below w.heap.size w wx) => eq_courses L a a' cap cap' hl wx (ha.later hx) (ha'.later hx))
  clear ha ha'
  go_enter Tryd.func9, Tryd.ntmps9
  go_wp2_with fail
  refine (C.out _ (balloc (balloc0 _ _) _)).mono ?_
  rintro e w1 ⟨rfl, hb1⟩
  have B1 := Lib.hid (bnext (balloc (balloc0 _ _) _) hb1)
  clear hb1
  go_wp2
  go_ret
  exact ⟨rfl, B1.out⟩
end Go.Proofs.YtplggghhhgmebaaDoor
