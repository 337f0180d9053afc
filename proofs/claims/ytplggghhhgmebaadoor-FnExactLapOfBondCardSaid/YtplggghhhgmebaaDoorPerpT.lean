/-
  Perpends, laps and headers: the model's answers.
-/
import Derived.Test.YtplggghhhgmebaaDoorPerpS
import Derived.Test.YtplggghhhgmebaaDoorPerpV
namespace Go.Proofs.YtplggghhhgmebaaDoor
open Go.ChangeShapes Go.WideShapes Go.ChangeAt Go.RowKit Go.Joins

/-- A bond lies at b. -/
def BdAt (w : World) (b : Nat) (nm : ByteArray) (L : List Co) (a : Option Addr) (cap : Nat) : Prop := w.cell? ⟨b, 0, none⟩ = some (.string nm) ∧ w.cell? ⟨b, 1, none⟩ = some (.slice a L.length cap) ∧ CoArg w a L
theorem BdAt.later {w w' : World} {b : Nat} {nm : ByteArray} {L : List Co} {a : Option Addr} {cap : Nat} (h : BdAt w b nm L a cap) (hb : Below w.heap.size w w') : BdAt w' b nm L a cap :=
  ⟨(hb.cell (p := ⟨b, 0, none⟩) (World.block_lt_of_cell? w _ h.1)).trans h.1, (hb.cell (p := ⟨b, 1, none⟩) (World.block_lt_of_cell? w _ h.2.1)).trans h.2.1, h.2.2.later hb⟩
theorem bd_new (w : World) (nm : ByteArray) (L : List Co) (a : Option Addr) (cap : Nat) (t : TypeId) (ha : CoArg w a L) : BdAt (w.alloc (.cells #[.string nm, .slice a L.length cap] t)) w.heap.size nm L a cap :=
  ⟨(box2 w nm _ t).1, (box2 w nm _ t).2, ha.later (balloc0 _ _)⟩

set_option maxHeartbeats 1600000 in
theorem code_spec (nm : ByteArray) (L : List Co) (a : Option Addr) (cap : Nat) (hl : L.length ≤ 1048576) (hs : CosLe 1048576 L) (b : Nat) (course til : Int) (w : World) (h : BdAt w b nm L a cap) :
    Calls Tryd.prog 13 #[.pointer (some ⟨b, 0, none⟩), .int .i64 course, .int .i64 til] w fun e w' => e = .returned (.int .i64 (bCode nm L course til)) ∧ Below w.heap.size w w' := by
  have C := Lib.hid (bondOk_spec nm L a cap hl hs b 0 w h.1 h.2.1 h.2.2)
  clear h
  cases hk : okBond nm L
  · rw [hk] at C
    go_enter Tryd.func13, Tryd.ntmps13
    go_wp2_with fail
    refine C.out.mono ?_
    rintro e w1 ⟨rfl, hb1⟩
    go_wp2_with fail
    go_ret
    exact ⟨ret_int (by simp [bCode, hk]), hb1⟩
  · rw [hk] at C
    cases h1 : inB course 0 1000 <;> cases h2 : inB til 1 200
    all_goals
      go_enter Tryd.func13, Tryd.ntmps13
      go_wp2_with fail
      refine C.out.mono ?_
      rintro e w1 ⟨rfl, hb1⟩
      go_wp2_with (go_at_call 22; refine (in_any _ _ _ _).mono ?_; rintro e w' ⟨rfl, rfl⟩)
      go_ret
      exact ⟨ret_int (by simp [bCode, hk, h1, h2]), hb1⟩

theorem crs_in {w : World} {a : Option Addr} {L : List Co} (ha : CoArg w a L) (h : 1 ≤ L.length) (k : Nat) : ∃ b o, a = some ⟨b, o, none⟩ ∧ w.cell? ⟨b, o + (k % L.length) * 2, none⟩ = some (.string (crs L k).lead) ∧ w.cell? ⟨b, o + (k % L.length) * 2 + 1, none⟩ = some (.string (crs L k).cyc) := by
  obtain ⟨b, o, c, h1, h2, h3⟩ := ha.at (Nat.mod_lt k h)
  have := crs_at h k
  rw [h2] at this
  cases this
  exact ⟨b, o, h1, (h3.cells h2).1, (h3.cells h2).2⟩

set_option maxHeartbeats 1600000 in
theorem at_spec (nm : ByteArray) (L : List Co) (a : Option Addr) (cap : Nat) (h1 : 1 ≤ L.length) (h8 : L.length ≤ 8) (b : Nat) (k : Nat) (hk : k ≤ 2000) (w : World) (h : BdAt w b nm L a cap) :
    Calls Tryd.prog 25 #[.pointer (some ⟨b, 0, none⟩), .int .i64 (k : Int)] w fun e w' => e = .returned (.agg #[.string (crs L k).lead, .string (crs L k).cyc]) ∧ Below w.heap.size w w' := by
  obtain ⟨c0, c1, ha⟩ := h
  obtain ⟨b', o, rfl, e0, e1⟩ := crs_in ha h1 k
  obtain ⟨x, hx⟩ : ∃ x, (crs L k).lead = x := ⟨_, rfl⟩
  obtain ⟨y, hy⟩ : ∃ y, (crs L k).cyc = y := ⟨_, rfl⟩
  rw [hx] at e0 ⊢
  rw [hy] at e1 ⊢
  have hm : k % L.length < L.length := Nat.mod_lt k h1
  have em : ((k : Int) % (L.length : Int)) = ((k % L.length : Nat) : Int) := (Int.natCast_emod _ _).symm
  obtain ⟨j, hj⟩ : ∃ j, k % L.length = j := ⟨_, rfl⟩
  rw [hj] at e0 e1 hm em
  have hz : ¬ (L.length : Int) = 0 := by omega
  have hj' : (j : Int) < (L.length : Int) := by omega
  have hj0 : (0 : Int) ≤ (j : Int) := by omega
  clear hj hx hy ha
  have A0 : ∀ p v, w.cell? p = some v → (w.alloc (.cells #[.string ⟨#[]⟩, .string ⟨#[]⟩] 53)).cell? p = some v := fun p v h => (World.cell?_alloc_lt _ _ _ (World.block_lt_of_cell? w _ h)).trans h
  have c0 := A0 _ _ c0
  have c1 := A0 _ _ c1
  have e0 := A0 _ _ e0
  have e1 := A0 _ _ e1
  obtain ⟨r0, r1⟩ := box2c w ⟨#[]⟩ ⟨#[]⟩ 53
  have q0 : (w.alloc (.cells #[.string ⟨#[]⟩, .string ⟨#[]⟩] 53)).frozen? ⟨w.heap.size, 0, none⟩ = false := unfrozen_of_block (heap_alloc_new w _) 0
  have q1 : (w.alloc (.cells #[.string ⟨#[]⟩, .string ⟨#[]⟩] 53)).frozen? ⟨w.heap.size, 1, none⟩ = false := unfrozen_of_block (heap_alloc_new w _) 1
  clear A0
  go_enter Tryd.func25, Tryd.ntmps25
  go_wp2
  go_region
  go_wp2
  refine bodyPost_ret (v := .agg #[.string x, .string y]) (by simp [results, Tryd.results25, go_sem]) rfl ⟨rfl, ?_⟩
  exact (balloc0 _ _).drew

theorem size_spec (n : Int) (h0 : -100000 ≤ n) (h1 : n ≤ 100000) (w : World) : Calls Tryd.prog 35 #[.int .i64 n] w fun e w' => e = .returned (.int .i64 (n.natAbs : Int)) ∧ w = w' := by
  by_cases h : n < 0
  · go_enter Tryd.func35, Tryd.ntmps35
    go_wp2
    go_ret
    exact ⟨ret_int (by omega), rfl⟩
  · go_enter Tryd.func35, Tryd.ntmps35
    go_wp2
    go_ret
    exact ⟨ret_int (by omega), rfl⟩

/-- Places within bounds. -/
def Near (A : List Int) : Prop := ∀ (k : Nat) (z : Int), A[k]? = some z → 0 ≤ z ∧ z ≤ 1000
theorem map_take_succ {B : List Int} {k : Nat} {y : Int} (h : B[k]? = some y) (f : Int → Int) : (B.take (k + 1)).map f = (B.take k).map f ++ [f y] := by
  rw [List.take_add_one, h]
  simp
set_option maxRecDepth 100000 in
set_option maxHeartbeats 3200000 in
theorem lap_spec (A B : List Int) (g h cp cp' : Nat) (hA : A.length ≤ 1000) (hB : B.length ≤ 1000) (nA : Near A) (nB : Near B) (w : World) (ia : IntAt w g 0 A) (ib : IntAt w h 0 B) :
    Calls Tryd.prog 23 #[.slice (some ⟨g, 0, none⟩) A.length cp, .slice (some ⟨h, 0, none⟩) B.length cp'] w fun e w' => e = .returned (.int .i64 (lapOf (distL A B))) ∧ Below w.heap.size w w' := by
  have HA := Lib.hid ia
  have HB := Lib.hid ib
  have NA := Lib.hid nA
  have NB := Lib.hid nB
  clear ia ib nA nB
  go_enter Tryd.func23, Tryd.ntmps23
  go_wp2
  go_loopw [5, 6] (fun b i wr => ∃ (n : Nat) (r : Int), n ≤ A.length ∧ b = .int .i64 r ∧ i = .int .i64 n ∧ Hid (r = lapOf (distTo A B n)) ∧ Hid (Below w.heap.size w wr)) (fun _ i _ => A.length - (intOf i).toNat)
  case atStart => exact ⟨0, -1, Nat.zero_le _, rfl, rfl, rfl, Below.refl _ _⟩
  case round =>
    obtain ⟨n, r, hn, rfl, rfl, hR, hwr⟩ := hrel
    by_cases hlt : n < A.length
    · have hlt' : (n : Int) < (A.length : Int) := by omega
      have hn0 : (0 : Int) ≤ (n : Int) := by omega
      obtain ⟨x, hx⟩ : ∃ x, A[n]? = some x := ⟨_, List.getElem?_eq_getElem hlt⟩
      have cx := (HA.out.later hwr.out) n x hx
      rw [Nat.zero_add] at cx
      obtain ⟨x0, x1⟩ := NA.out n x hx
      have HX : Hid (distTo A B (n + 1) = distTo A B n ++ B.map fun y => ((x - y).natAbs : Int)) := distTo_step hx
      have HXX := Lib.hid hx
      clear hx cx
      go_wp2
      go_loopw [5, 7] (fun b i wr => ∃ (m : Nat) (r : Int), m ≤ B.length ∧ b = .int .i64 r ∧ i = .int .i64 m ∧ Hid (r = lapOf (distTo A B n ++ (B.take m).map fun y => ((x - y).natAbs : Int))) ∧ Hid (Below w.heap.size w wr)) (fun _ i _ => B.length - (intOf i).toNat)
      case atStart => exact ⟨0, r, Nat.zero_le _, rfl, rfl, by show r = _; rw [hR.out]; simp, hwr.out⟩
      case round =>
        obtain ⟨m, q, hm, rfl, rfl, hQ, hwq⟩ := hrel
        by_cases hmt : m < B.length
        · have hmt' : (m : Int) < (B.length : Int) := by omega
          have hm0 : (0 : Int) ≤ (m : Int) := by omega
          obtain ⟨y, hy⟩ : ∃ y, B[m]? = some y := ⟨_, List.getElem?_eq_getElem hmt⟩
          have cy := (HB.out.later hwq.out) m y hy
          have cx := (HA.out.later hwq.out) n x HXX.out
          rw [Nat.zero_add] at cx
          rw [Nat.zero_add] at cy
          obtain ⟨y0, y1⟩ := NB.out m y hy
          have C := Lib.hid (size_spec (x - y) (by omega) (by omega))
          have hwrap : IntKind.i64.wrap (x - y) = x - y := IntWalk.i64_in _ (by omega)
          have HY : Hid (lapOf (distTo A B n ++ (B.take (m + 1)).map fun y => ((x - y).natAbs : Int)) = minStep q ((x - y).natAbs : Int)) := by
            show lapOf _ = _
            rw [map_take_succ hy, ← List.append_assoc, lapOf_snoc, hQ.out]
          obtain ⟨d, hd⟩ : ∃ d : Int, ((x - y).natAbs : Int) = d := ⟨_, rfl⟩
          rw [hd] at C HY
          clear hy hd
          by_cases hq : q < 0
          · have HM : Hid (minStep q d = d) := by show minStep q d = d; simp [minStep, hq]
            go_wp2_with fail
            go_region_with (go_at_call 35; refine (C.out _).mono ?_; rintro e w1 ⟨rfl, rfl⟩)
            all_goals
              go_wp2
              go_roundw
              case rel => exact ⟨m + 1, d, by omega, rfl, by go_num, by show d = _; rw [HY.out, HM.out], hwq.out.drew⟩
              case measure => simp [intOf]; omega
          · by_cases hdq : d < q
            · have HM : Hid (minStep q d = d) := by show minStep q d = d; simp [minStep, hdq]
              go_wp2_with fail
              go_region_with (go_at_call 35; refine (C.out _).mono ?_; rintro e w1 ⟨rfl, rfl⟩)
              all_goals
                go_wp2
                go_roundw
                case rel => exact ⟨m + 1, d, by omega, rfl, by go_num, by show d = _; rw [HY.out, HM.out], hwq.out.drew⟩
                case measure => simp [intOf]; omega
            · have HM : Hid (minStep q d = q) := by show minStep q d = q; simp [minStep, hq, hdq]
              go_wp2_with fail
              go_region_with (go_at_call 35; refine (C.out _).mono ?_; rintro e w1 ⟨rfl, rfl⟩)
              all_goals
                go_wp2
                go_roundw
                case rel => exact ⟨m + 1, q, by omega, rfl, by go_num, by show q = _; rw [HY.out, HM.out], hwq.out.drew⟩
                case measure => simp [intOf]; omega
        · have hge : ¬ (m : Int) < (B.length : Int) := by omega
          have hmn : m = B.length := by omega
          subst hmn
          go_wp2
          go_roundw
          case rel => exact ⟨n + 1, q, by omega, rfl, by go_num, by show q = lapOf (distTo A B (n + 1)); rw [HX.out, hQ.out, List.take_length], hwq.out⟩
          case measure => simp [intOf]; omega
    · have hge : ¬ (n : Int) < (A.length : Int) := by omega
      have hnn : n = A.length := by omega
      subst hnn
      go_wp2
      go_ret
      exact ⟨ret_int (by rw [hR.out, distTo_all]), hwr.out⟩
end Go.Proofs.YtplggghhhgmebaaDoor
