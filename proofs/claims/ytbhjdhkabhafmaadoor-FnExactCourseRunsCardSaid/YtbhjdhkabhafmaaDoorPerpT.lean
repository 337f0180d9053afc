/-
  Perpends, laps and headers: the model's answers.
-/
import Derived.Test.YtbhjdhkabhafmaaDoorPerpS
import Derived.Test.YtbhjdhkabhafmaaDoorPerpV
namespace Go.Proofs.YtbhjdhkabhafmaaDoor
open Go.ChangeShapes Go.WideShapes Go.ChangeAt Go.RowKit Go.Joins


/-- A bond lies at b. -/
def BdAt (w : World) (b : Nat) (nm : ByteArray) (L : List Co) (a : Option Addr) (cap : Nat) : Prop := w.cell? ⟨b, 0, none⟩ = some (.string nm) ∧ w.cell? ⟨b, 1, none⟩ = some (.slice a L.length cap) ∧ CoArg w a L
theorem BdAt.later {w w' : World} {b : Nat} {nm : ByteArray} {L : List Co} {a : Option Addr} {cap : Nat} (h : BdAt w b nm L a cap) (hb : Below w.heap.size w w') : BdAt w' b nm L a cap :=
  ⟨(hb.cell (p := ⟨b, 0, none⟩) (World.block_lt_of_cell? w _ h.1)).trans h.1, (hb.cell (p := ⟨b, 1, none⟩) (World.block_lt_of_cell? w _ h.2.1)).trans h.2.1, h.2.2.later hb⟩
theorem bd_new (w : World) (nm : ByteArray) (L : List Co) (a : Option Addr) (cap : Nat) (t : TypeId) (ha : CoArg w a L) : BdAt (w.alloc (.cells #[.string nm, .slice a L.length cap] t)) w.heap.size nm L a cap :=
  ⟨(box2 w nm _ t).1, (box2 w nm _ t).2, ha.later (balloc0 _ _)⟩

set_option maxHeartbeats 1600000 in
theorem code_spec (nm : ByteArray) (L : List Co) (a : Option Addr) (cap : Nat) (hl : L.length ≤ 1048576) (hs : CosLe 1048576 L) (b : Nat) (course til : Int) (w : World) (h : BdAt w b nm L a cap) :
    Calls Tryd.prog 64 #[.pointer (some ⟨b, 0, none⟩), .int .i64 course, .int .i64 til] w fun e w' => e = .returned (.int .i64 (bCode nm L course til)) ∧ Below w.heap.size w w' := by
  have C := Lib.hid (bondOk_spec nm L a cap hl hs b 0 w h.1 h.2.1 h.2.2)
  clear h
  cases hk : okBond nm L
  · rw [hk] at C
    go_enter Tryd.func64, Tryd.ntmps64
    go_wp2_with fail
    refine C.out.mono ?_
    rintro e w1 ⟨rfl, hb1⟩
    go_wp2_with fail
    go_ret
    exact ⟨ret_int (by simp [bCode, hk]), hb1⟩
  · rw [hk] at C
    cases h1 : inB course 0 1000 <;> cases h2 : inB til 1 200
    all_goals
      go_enter Tryd.func64, Tryd.ntmps64
      go_wp2_with fail
      refine C.out.mono ?_
      rintro e w1 ⟨rfl, hb1⟩
      go_wp2_with (go_at_call 70; refine (in_any _ _ _ _).mono ?_; rintro e w' ⟨rfl, rfl⟩)
      go_ret
      exact ⟨ret_int (by simp [bCode, hk, h1, h2]), hb1⟩

theorem crs_in {w : World} {a : Option Addr} {L : List Co} (ha : CoArg w a L) (h : 1 ≤ L.length) (k : Nat) : ∃ b o, a = some ⟨b, o, none⟩ ∧ w.cell? ⟨b, o + (k % L.length) * 2, none⟩ = some (.string (crs L k).lead) ∧ w.cell? ⟨b, o + (k % L.length) * 2 + 1, none⟩ = some (.string (crs L k).cyc) := by
  obtain ⟨b, o, c, h1, h2, h3⟩ := ha.at (Nat.mod_lt k h)
  have := crs_at h k
  rw [h2] at this
  cases this
  exact ⟨b, o, h1, (h3.cells h2).1, (h3.cells h2).2⟩

set_option maxHeartbeats 1600000 in
theorem at_spec (nm : ByteArray) (L : List Co) (a : Option Addr) (cap : Nat) (h1 : 1 ≤ L.length) (h8 : L.length ≤ 8) (b : Nat) (k : Nat) (hk : k ≤ 2000) (w : World) (h : BdAt w b nm L a cap) :
    Calls Tryd.prog 91 #[.pointer (some ⟨b, 0, none⟩), .int .i64 (k : Int)] w fun e w' => e = .returned (.agg #[.string (crs L k).lead, .string (crs L k).cyc]) ∧ Below w.heap.size w w' := by
  obtain ⟨c0, c1, ha⟩ := h
  obtain ⟨b', o, rfl, e0, e1⟩ := crs_in ha h1 k
  obtain ⟨x, hx⟩ : ∃ x, (crs L k).lead = x := ⟨_, rfl⟩
  obtain ⟨y, hy⟩ : ∃ y, (crs L k).cyc = y := ⟨_, rfl⟩
  rw [hx] at e0 ⊢
  rw [hy] at e1 ⊢
  have hm : k % L.length < L.length := Nat.mod_lt k h1
  have em : ((k : Int) % (L.length : Int)) = ((k % L.length : Nat) : Int) := (Int.natCast_emod _ _).symm
  obtain ⟨j, hj⟩ : ∃ j, k % L.length = j := ⟨_, rfl⟩
  rw [hj] at e0 e1 hm em
  have hz : ¬ (L.length : Int) = 0 := by omega
  have hj' : (j : Int) < (L.length : Int) := by omega
  have hj0 : (0 : Int) ≤ (j : Int) := by omega
  clear hj hx hy ha
  have A0 : ∀ p v, w.cell? p = some v → (w.alloc (.cells #[.string ⟨#[]⟩, .string ⟨#[]⟩] 98)).cell? p = some v := fun p v h => (World.cell?_alloc_lt _ _ _ (World.block_lt_of_cell? w _ h)).trans h
  have c0 := A0 _ _ c0
  have c1 := A0 _ _ c1
  have e0 := A0 _ _ e0
  have e1 := A0 _ _ e1
  obtain ⟨r0, r1⟩ := box2c w ⟨#[]⟩ ⟨#[]⟩ 98
  have q0 : (w.alloc (.cells #[.string ⟨#[]⟩, .string ⟨#[]⟩] 98)).frozen? ⟨w.heap.size, 0, none⟩ = false := unfrozen_of_block (heap_alloc_new w _) 0
  have q1 : (w.alloc (.cells #[.string ⟨#[]⟩, .string ⟨#[]⟩] 98)).frozen? ⟨w.heap.size, 1, none⟩ = false := unfrozen_of_block (heap_alloc_new w _) 1
  clear A0
  go_enter Tryd.func91, Tryd.ntmps91
  go_wp2
  go_region
  go_wp2
  refine bodyPost_ret (v := .agg #[.string x, .string y]) (by simp [results, Tryd.results91, go_sem]) rfl ⟨rfl, ?_⟩
  exact (balloc0 _ _).drew

theorem size_spec (n : Int) (h0 : -100000 ≤ n) (h1 : n ≤ 100000) (w : World) : Calls Tryd.prog 99 #[.int .i64 n] w fun e w' => e = .returned (.int .i64 (n.natAbs : Int)) ∧ w = w' := by
  by_cases h : n < 0
  · go_enter Tryd.func99, Tryd.ntmps99
    go_wp2
    go_ret
    exact ⟨ret_int (by omega), rfl⟩
  · go_enter Tryd.func99, Tryd.ntmps99
    go_wp2
    go_ret
    exact ⟨ret_int (by omega), rfl⟩

/-- Places within bounds. -/
def Near (A : List Int) : Prop := ∀ (k : Nat) (z : Int), A[k]? = some z → 0 ≤ z ∧ z ≤ 1000
theorem map_take_succ {B : List Int} {k : Nat} {y : Int} (h : B[k]? = some y) (f : Int → Int) : (B.take (k + 1)).map f = (B.take k).map f ++ [f y] := by
  rw [List.take_add_one, h]
  simp
end Go.Proofs.YtbhjdhkabhafmaaDoor
