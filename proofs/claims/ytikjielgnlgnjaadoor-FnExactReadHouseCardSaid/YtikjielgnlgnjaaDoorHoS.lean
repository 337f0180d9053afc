/-
  Plans by the model: where the corners are, which plan is right.
-/
import Derived.Test.YtikjielgnlgnjaaDoorPr
namespace Go.Proofs.YtikjielgnlgnjaaDoor
open Go.ChangeShapes Go.WideShapes Go.ChangeAt Go.RowKit Go.Joins

/-- The places of the first corners. -/
def ptsC (P : List Int) (T : ByteArray) (m : Nat) : List (Int × Int) := (List.range m).map fun k => ((spot P T k).x, (spot P T k).y)
theorem ptsC_length (P : List Int) (T : ByteArray) (m : Nat) : (ptsC P T m).length = m := by simp [ptsC]
theorem ptsC_succ (P : List Int) (T : ByteArray) (m : Nat) : ptsC P T (m + 1) = ptsC P T m ++ [((spot P T m).x, (spot P T m).y)] := by simp [ptsC, List.range_succ]
theorem ptsC_at {P : List Int} {T : ByteArray} {m k : Nat} (h : k < m) : (ptsC P T m)[k]? = some ((spot P T k).x, (spot P T k).y) := by simp [ptsC, h]
/-- A plan lies in a box. -/
def HoBox (b : Nat) (a : Option Addr) (cap : Nat) (P : List Int) (T : ByteArray) (w : World) : Prop := w.cell? ⟨b, 0, none⟩ = some (.slice a P.length cap) ∧ w.cell? ⟨b, 1, none⟩ = some (.string T)
theorem HoBox.later {b : Nat} {a : Option Addr} {cap : Nat} {P : List Int} {T : ByteArray} {w w' : World} (h : HoBox b a cap P T w) (hb : Below w.heap.size w w') : HoBox b a cap P T w' :=
  ⟨(hb.cell (World.block_lt_of_cell? w _ h.1)).trans h.1, (hb.cell (World.block_lt_of_cell? w _ h.2)).trans h.2⟩
theorem u8_eqH (x : UInt8) (n : Nat) (hn : n < 256) : x = UInt8.ofNat n ↔ (x.toNat : Int) = (n : Int) := by
  constructor
  · intro h; subst h; simp [UInt8.toNat_ofNat']; omega
  · intro h
    apply UInt8.toNat_inj.1
    simp [UInt8.toNat_ofNat']
    omega
theorem turn_left {T : ByteArray} {k : Nat} {hk : k < T.size} (h : ((T[k]'hk).toNat : Int) = 76) (d : Nat) : turnTo d (T[k]'hk) = (d + 1) % 4 := by
  unfold turnTo
  rw [if_pos (show T[k]'hk = 76 from (u8_eqH _ 76 (by omega)).2 h)]
theorem turn_right {T : ByteArray} {k : Nat} {hk : k < T.size} (h : ¬ ((T[k]'hk).toNat : Int) = 76) (d : Nat) : turnTo d (T[k]'hk) = (d + 3) % 4 := by
  unfold turnTo
  rw [if_neg (fun (e : T[k]'hk = 76) => h ((u8_eqH _ 76 (by omega)).1 e))]
/-- One more corner. -/
theorem push_pair {B : Nat} {v v1 : Value} {Q : List (Int × Int)} {bs : List Nat} {wr w2 : World} {x y : Int} (h : PrRow B v Q bs wr) (hB : B ≤ wr.heap.size)
    (hown : w2.ownsRow B 22 1 v1 (Q.length + 1) (slVals bs ++ [.slice (some ⟨wr.heap.size, 0, none⟩) 2 2]))
    (hg : ((wr.alloc (.cells #[.int .i64 x, .int .i64 y] 2)).alloc (.cells #[.slice (some ⟨wr.heap.size, 0, none⟩) 2 2] 22)).grownBy w2 v.ownBlock) : PrRow B v1 (Q ++ [(x, y)]) (bs ++ [wr.heap.size]) w2 := by
  refine h.push hB rfl (below_grown (balloc (balloc0 _ _) _)) ?_ hown hg
  rw [Below.heap_alloc _ _ _ (by simp)]
  exact heap_alloc_new wr _
theorem below_push {w wr w2 : World} {v : Value} {Q : List (Int × Int)} {bs : List Nat} {c1 c2 : Obj} (h : PrRow w.heap.size v Q bs wr) (hb : Below w.heap.size w wr) (hg : ((wr.alloc c1).alloc c2).grownBy w2 v.ownBlock) : Below w.heap.size w w2 := by
  refine (balloc (balloc hb c1) c2).grown hg (by have := hb.size; simp; omega) (fun k hk => (h.1.lt k hk).1)
set_option maxRecDepth 100000 in
set_option maxHeartbeats 12800000 in
theorem points_spec (P : List Int) (T : ByteArray) (a : Option Addr) (cap : Nat) (hr : runsB P = true) (hl : P.length ≤ 12) (hT : T.size = P.length) (b : Nat) (w : World) (hb : HoBox b a cap P T w) (ha : IntArg w a P) :
    Calls Tryd.prog 63 #[.pointer (some ⟨b, 0, none⟩)] w fun e w' => ∃ v bs, e = .returned v ∧ PrRow w.heap.size v (ptsC P T (P.length + 1)) bs w' ∧ Below w.heap.size w w' := by
  have HB := Lib.hid hb
  have HA := Lib.hid ha
  have HR := Lib.hid hr
  clear hb ha hr
  obtain ⟨i0, hi, hz0, hz1, hz2⟩ := info_parts infoInts
  go_enter Tryd.func63, Tryd.ntmps63
  go_wp2
  have S0 : Hid (PrRow w.heap.size (.slice (some ⟨w.heap.size + 1, 0, none⟩) 1 1) (ptsC P T 1) [w.heap.size] ((w.alloc (.cells #[.int .i64 0, .int .i64 0] 2)).alloc (.cells #[.slice (some ⟨w.heap.size, 0, none⟩) 2 2] 22))) := by
    refine ⟨⟨rfl, .inr ⟨w.heap.size + 1, 1, #[.slice (some ⟨w.heap.size, 0, none⟩) 2 2], rfl, Nat.le_succ _, ?_, Nat.le_refl _, by decide, rfl, rfl⟩⟩, rfl, fun i j c hi hj => ?_, fun k c q hk hq => ?_⟩
    · have := heap_alloc_new (w.alloc (.cells #[.int .i64 0, .int .i64 0] 2)) (.cells #[.slice (some ⟨w.heap.size, 0, none⟩) 2 2] 22)
      simpa using this
    · rcases i with _ | i
      · rcases j with _ | j
        · rfl
        · simp at hj
      · simp at hi
    · rcases k with _ | k
      · simp at hk
        subst hk
        have : q = (0, 0) := by
          have h := ptsC_at (P := P) (T := T) (m := 1) (k := 0) (by omega)
          rw [hq] at h
          exact Option.some.inj h
        subst this
        refine ⟨Nat.le_refl _, ?_⟩
        rw [Below.heap_alloc _ _ _ (by simp)]
        exact heap_alloc_new w _
      · simp at hk
  go_loopw [3, 4, 5, 6, 7] (fun v0 x y d i wr => ∃ (v : Value) (k : Nat) (bs : List Nat) (Q : List (Int × Int)) (s : Spot), v = v0 ∧ x = .int .i64 s.x ∧ y = .int .i64 s.y ∧ d = .int .i64 (s.d : Int) ∧ i = .int .i64 (k : Int) ∧ k ≤ P.length ∧ Hid (Q.length = k + 1) ∧ Hid (Q = ptsC P T (k + 1)) ∧ Hid (spot P T k = s) ∧ Hid (PrRow w.heap.size v Q bs wr) ∧ Hid (Below w.heap.size w wr)) (fun _ _ _ _ i _ => P.length - (intOf i).toNat)
  case atStart => exact ⟨_, 0, [w.heap.size], ptsC P T 1, ⟨0, 0, 0⟩, rfl, rfl, rfl, rfl, rfl, Nat.zero_le _, ptsC_length _ _ _, rfl, rfl, S0.out, balloc (balloc0 _ _) _⟩
  case round =>
    obtain ⟨v, k, bs, Q, ⟨x, y, d⟩, rfl, rfl, rfl, rfl, rfl, hk, hQl, hQ, hs, hD, hB⟩ := hrel
    obtain ⟨f0, f1⟩ := HB.out.later hB.out
    by_cases hlt : k < P.length
    · have hlt' : (k : Int) < (P.length : Int) := by omega
      have hk0 : (0 : Int) ≤ (k : Int) := by omega
      have hkT : k < T.size := by omega
      have hkT' : (k : Int) < (T.size : Int) := by omega
      obtain ⟨bb, o, z, rfl, hz, hat⟩ := (HA.out.later hB.out).at hlt
      have c0 := hat k z hz
      have hzb := runsB_at HR.out hz
      have hsb := spot_le HR.out T k
      rw [hs.out] at hsb
      have hdb := spot_dir P T k
      rw [hs.out] at hdb
      simp only at hsb hdb
      have HN : Hid (spot P T (k + 1) = (⟨x, y, d⟩ : Spot).to z (T[k]'hkT)) := by show _ = _; rw [spot_succ hz hkT, hs.out]
      have hbase : w.heap.size ≤ wr.heap.size := hB.out.size
      have hQ1 := hQl.out
      have c3 : Hid (Q.length + 1 ≤ maxLen) := by show Q.length + 1 ≤ maxLen; unfold maxLen; omega
      have c4 : Q.length ≤ 250 := by omega
      clear hat hz hQ1
      have hd : d = 0 ∨ d = 1 ∨ d = 2 ∨ d = 3 := by omega
      rcases hd with rfl | rfl | rfl | rfl
      · by_cases ht : ((T[k]'hkT).toNat : Int) = 76
        · have HS : Hid (spot P T (k + 1) = ⟨x + z, y, 1⟩) := by
            show _ = _
            rw [HN.out]
            simp only [Spot.to, turn_left ht, wayX, wayY, Spot.mk.injEq]
            refine ⟨?_, ?_, ?_⟩ <;> simp <;> omega
          have hn00 : True := trivial
          go_wp2_with (at_builtin; go_must ((refine wpList_append_own _ rfl _ _ 43 rfl w.heap.size 22 i0 (.slice none 0 0) 1 24 Tryd.underlying43 hi hz0 hz1 hz2 rfl (by decide) v Q.length (slVals bs) rfl ((hD.out.1.alloc _).alloc _) ⟨wr.heap.size + 1, 0, none⟩ 1 1 [.slice (some ⟨wr.heap.size, 0, none⟩) 2 2] rfl rfl (by have := cell_one_new (wr.alloc (.cells #[.int .i64 (x + z), .int .i64 (y)] 2)) (.slice (some ⟨wr.heap.size, 0, none⟩) 2 2) 22; simpa using this) (by simp [Value.oneCell']) c3.out (by omega) (by simp; omega) ?_; intro v1 w2 hown1 hgrow1 _; have D2 := Lib.hid (push_pair hD.out hbase hown1 hgrow1); have B2 := Lib.hid (below_push hD.out hB.out hgrow1); obtain ⟨_, f3⟩ := HB.out.later B2.out; clear hown1 hgrow1)))
          go_roundw
          case rel => exact ⟨_, k + 1, bs ++ [wr.heap.size], Q ++ [(x + z, y)], ⟨x + z, y, 1⟩, rfl, by first | rfl | go_num, by first | rfl | go_num, by first | rfl | go_num, by go_num, by omega, by have := hQl.out; show (Q ++ [(x + z, y)]).length = k + 1 + 1; simp; omega, by show Q ++ [(x + z, y)] = ptsC P T (k + 1 + 1); rw [ptsC_succ, HS.out, hQ.out], HS.out, D2.out, B2.out⟩
          case measure => simp [intOf]; omega
        · have HS : Hid (spot P T (k + 1) = ⟨x + z, y, 3⟩) := by
            show _ = _
            rw [HN.out]
            simp only [Spot.to, turn_right ht, wayX, wayY, Spot.mk.injEq]
            refine ⟨?_, ?_, ?_⟩ <;> simp <;> omega
          have hn01 : True := trivial
          go_wp2_with (at_builtin; go_must ((refine wpList_append_own _ rfl _ _ 43 rfl w.heap.size 22 i0 (.slice none 0 0) 1 24 Tryd.underlying43 hi hz0 hz1 hz2 rfl (by decide) v Q.length (slVals bs) rfl ((hD.out.1.alloc _).alloc _) ⟨wr.heap.size + 1, 0, none⟩ 1 1 [.slice (some ⟨wr.heap.size, 0, none⟩) 2 2] rfl rfl (by have := cell_one_new (wr.alloc (.cells #[.int .i64 (x + z), .int .i64 (y)] 2)) (.slice (some ⟨wr.heap.size, 0, none⟩) 2 2) 22; simpa using this) (by simp [Value.oneCell']) c3.out (by omega) (by simp; omega) ?_; intro v1 w2 hown1 hgrow1 _; have D2 := Lib.hid (push_pair hD.out hbase hown1 hgrow1); have B2 := Lib.hid (below_push hD.out hB.out hgrow1); obtain ⟨_, f3⟩ := HB.out.later B2.out; clear hown1 hgrow1)))
          go_roundw
          case rel => exact ⟨_, k + 1, bs ++ [wr.heap.size], Q ++ [(x + z, y)], ⟨x + z, y, 3⟩, rfl, by first | rfl | go_num, by first | rfl | go_num, by first | rfl | go_num, by go_num, by omega, by have := hQl.out; show (Q ++ [(x + z, y)]).length = k + 1 + 1; simp; omega, by show Q ++ [(x + z, y)] = ptsC P T (k + 1 + 1); rw [ptsC_succ, HS.out, hQ.out], HS.out, D2.out, B2.out⟩
          case measure => simp [intOf]; omega
      · by_cases ht : ((T[k]'hkT).toNat : Int) = 76
        · have HS : Hid (spot P T (k + 1) = ⟨x, y + z, 2⟩) := by
            show _ = _
            rw [HN.out]
            simp only [Spot.to, turn_left ht, wayX, wayY, Spot.mk.injEq]
            refine ⟨?_, ?_, ?_⟩ <;> simp <;> omega
          have hn10 : True := trivial
          go_wp2_with (at_builtin; go_must ((refine wpList_append_own _ rfl _ _ 43 rfl w.heap.size 22 i0 (.slice none 0 0) 1 24 Tryd.underlying43 hi hz0 hz1 hz2 rfl (by decide) v Q.length (slVals bs) rfl ((hD.out.1.alloc _).alloc _) ⟨wr.heap.size + 1, 0, none⟩ 1 1 [.slice (some ⟨wr.heap.size, 0, none⟩) 2 2] rfl rfl (by have := cell_one_new (wr.alloc (.cells #[.int .i64 (x), .int .i64 (y + z)] 2)) (.slice (some ⟨wr.heap.size, 0, none⟩) 2 2) 22; simpa using this) (by simp [Value.oneCell']) c3.out (by omega) (by simp; omega) ?_; intro v1 w2 hown1 hgrow1 _; have D2 := Lib.hid (push_pair hD.out hbase hown1 hgrow1); have B2 := Lib.hid (below_push hD.out hB.out hgrow1); obtain ⟨_, f3⟩ := HB.out.later B2.out; clear hown1 hgrow1)))
          go_roundw
          case rel => exact ⟨_, k + 1, bs ++ [wr.heap.size], Q ++ [(x, y + z)], ⟨x, y + z, 2⟩, rfl, by first | rfl | go_num, by first | rfl | go_num, by first | rfl | go_num, by go_num, by omega, by have := hQl.out; show (Q ++ [(x, y + z)]).length = k + 1 + 1; simp; omega, by show Q ++ [(x, y + z)] = ptsC P T (k + 1 + 1); rw [ptsC_succ, HS.out, hQ.out], HS.out, D2.out, B2.out⟩
          case measure => simp [intOf]; omega
        · have HS : Hid (spot P T (k + 1) = ⟨x, y + z, 0⟩) := by
            show _ = _
            rw [HN.out]
            simp only [Spot.to, turn_right ht, wayX, wayY, Spot.mk.injEq]
            refine ⟨?_, ?_, ?_⟩ <;> simp <;> omega
          have hn11 : True := trivial
          go_wp2_with (at_builtin; go_must ((refine wpList_append_own _ rfl _ _ 43 rfl w.heap.size 22 i0 (.slice none 0 0) 1 24 Tryd.underlying43 hi hz0 hz1 hz2 rfl (by decide) v Q.length (slVals bs) rfl ((hD.out.1.alloc _).alloc _) ⟨wr.heap.size + 1, 0, none⟩ 1 1 [.slice (some ⟨wr.heap.size, 0, none⟩) 2 2] rfl rfl (by have := cell_one_new (wr.alloc (.cells #[.int .i64 (x), .int .i64 (y + z)] 2)) (.slice (some ⟨wr.heap.size, 0, none⟩) 2 2) 22; simpa using this) (by simp [Value.oneCell']) c3.out (by omega) (by simp; omega) ?_; intro v1 w2 hown1 hgrow1 _; have D2 := Lib.hid (push_pair hD.out hbase hown1 hgrow1); have B2 := Lib.hid (below_push hD.out hB.out hgrow1); obtain ⟨_, f3⟩ := HB.out.later B2.out; clear hown1 hgrow1)))
          go_roundw
          case rel => exact ⟨_, k + 1, bs ++ [wr.heap.size], Q ++ [(x, y + z)], ⟨x, y + z, 0⟩, rfl, by first | rfl | go_num, by first | rfl | go_num, by first | rfl | go_num, by go_num, by omega, by have := hQl.out; show (Q ++ [(x, y + z)]).length = k + 1 + 1; simp; omega, by show Q ++ [(x, y + z)] = ptsC P T (k + 1 + 1); rw [ptsC_succ, HS.out, hQ.out], HS.out, D2.out, B2.out⟩
          case measure => simp [intOf]; omega
      · by_cases ht : ((T[k]'hkT).toNat : Int) = 76
        · have HS : Hid (spot P T (k + 1) = ⟨x - z, y, 3⟩) := by
            show _ = _
            rw [HN.out]
            simp only [Spot.to, turn_left ht, wayX, wayY, Spot.mk.injEq]
            refine ⟨?_, ?_, ?_⟩ <;> simp <;> omega
          have hn20 : True := trivial
          go_wp2_with (at_builtin; go_must ((refine wpList_append_own _ rfl _ _ 43 rfl w.heap.size 22 i0 (.slice none 0 0) 1 24 Tryd.underlying43 hi hz0 hz1 hz2 rfl (by decide) v Q.length (slVals bs) rfl ((hD.out.1.alloc _).alloc _) ⟨wr.heap.size + 1, 0, none⟩ 1 1 [.slice (some ⟨wr.heap.size, 0, none⟩) 2 2] rfl rfl (by have := cell_one_new (wr.alloc (.cells #[.int .i64 (x - z), .int .i64 (y)] 2)) (.slice (some ⟨wr.heap.size, 0, none⟩) 2 2) 22; simpa using this) (by simp [Value.oneCell']) c3.out (by omega) (by simp; omega) ?_; intro v1 w2 hown1 hgrow1 _; have D2 := Lib.hid (push_pair hD.out hbase hown1 hgrow1); have B2 := Lib.hid (below_push hD.out hB.out hgrow1); obtain ⟨_, f3⟩ := HB.out.later B2.out; clear hown1 hgrow1)))
          go_roundw
          case rel => exact ⟨_, k + 1, bs ++ [wr.heap.size], Q ++ [(x - z, y)], ⟨x - z, y, 3⟩, rfl, by first | rfl | go_num, by first | rfl | go_num, by first | rfl | go_num, by go_num, by omega, by have := hQl.out; show (Q ++ [(x - z, y)]).length = k + 1 + 1; simp; omega, by show Q ++ [(x - z, y)] = ptsC P T (k + 1 + 1); rw [ptsC_succ, HS.out, hQ.out], HS.out, D2.out, B2.out⟩
          case measure => simp [intOf]; omega
        · have HS : Hid (spot P T (k + 1) = ⟨x - z, y, 1⟩) := by
            show _ = _
            rw [HN.out]
            simp only [Spot.to, turn_right ht, wayX, wayY, Spot.mk.injEq]
            refine ⟨?_, ?_, ?_⟩ <;> simp <;> omega
          have hn21 : True := trivial
          go_wp2_with (at_builtin; go_must ((refine wpList_append_own _ rfl _ _ 43 rfl w.heap.size 22 i0 (.slice none 0 0) 1 24 Tryd.underlying43 hi hz0 hz1 hz2 rfl (by decide) v Q.length (slVals bs) rfl ((hD.out.1.alloc _).alloc _) ⟨wr.heap.size + 1, 0, none⟩ 1 1 [.slice (some ⟨wr.heap.size, 0, none⟩) 2 2] rfl rfl (by have := cell_one_new (wr.alloc (.cells #[.int .i64 (x - z), .int .i64 (y)] 2)) (.slice (some ⟨wr.heap.size, 0, none⟩) 2 2) 22; simpa using this) (by simp [Value.oneCell']) c3.out (by omega) (by simp; omega) ?_; intro v1 w2 hown1 hgrow1 _; have D2 := Lib.hid (push_pair hD.out hbase hown1 hgrow1); have B2 := Lib.hid (below_push hD.out hB.out hgrow1); obtain ⟨_, f3⟩ := HB.out.later B2.out; clear hown1 hgrow1)))
          go_roundw
          case rel => exact ⟨_, k + 1, bs ++ [wr.heap.size], Q ++ [(x - z, y)], ⟨x - z, y, 1⟩, rfl, by first | rfl | go_num, by first | rfl | go_num, by first | rfl | go_num, by go_num, by omega, by have := hQl.out; show (Q ++ [(x - z, y)]).length = k + 1 + 1; simp; omega, by show Q ++ [(x - z, y)] = ptsC P T (k + 1 + 1); rw [ptsC_succ, HS.out, hQ.out], HS.out, D2.out, B2.out⟩
          case measure => simp [intOf]; omega
      · by_cases ht : ((T[k]'hkT).toNat : Int) = 76
        · have HS : Hid (spot P T (k + 1) = ⟨x, y - z, 0⟩) := by
            show _ = _
            rw [HN.out]
            simp only [Spot.to, turn_left ht, wayX, wayY, Spot.mk.injEq]
            refine ⟨?_, ?_, ?_⟩ <;> simp <;> omega
          have hn30 : True := trivial
          go_wp2_with (at_builtin; go_must ((refine wpList_append_own _ rfl _ _ 43 rfl w.heap.size 22 i0 (.slice none 0 0) 1 24 Tryd.underlying43 hi hz0 hz1 hz2 rfl (by decide) v Q.length (slVals bs) rfl ((hD.out.1.alloc _).alloc _) ⟨wr.heap.size + 1, 0, none⟩ 1 1 [.slice (some ⟨wr.heap.size, 0, none⟩) 2 2] rfl rfl (by have := cell_one_new (wr.alloc (.cells #[.int .i64 (x), .int .i64 (y - z)] 2)) (.slice (some ⟨wr.heap.size, 0, none⟩) 2 2) 22; simpa using this) (by simp [Value.oneCell']) c3.out (by omega) (by simp; omega) ?_; intro v1 w2 hown1 hgrow1 _; have D2 := Lib.hid (push_pair hD.out hbase hown1 hgrow1); have B2 := Lib.hid (below_push hD.out hB.out hgrow1); obtain ⟨_, f3⟩ := HB.out.later B2.out; clear hown1 hgrow1)))
          go_roundw
          case rel => exact ⟨_, k + 1, bs ++ [wr.heap.size], Q ++ [(x, y - z)], ⟨x, y - z, 0⟩, rfl, by first | rfl | go_num, by first | rfl | go_num, by first | rfl | go_num, by go_num, by omega, by have := hQl.out; show (Q ++ [(x, y - z)]).length = k + 1 + 1; simp; omega, by show Q ++ [(x, y - z)] = ptsC P T (k + 1 + 1); rw [ptsC_succ, HS.out, hQ.out], HS.out, D2.out, B2.out⟩
          case measure => simp [intOf]; omega
        · have HS : Hid (spot P T (k + 1) = ⟨x, y - z, 2⟩) := by
            show _ = _
            rw [HN.out]
            simp only [Spot.to, turn_right ht, wayX, wayY, Spot.mk.injEq]
            refine ⟨?_, ?_, ?_⟩ <;> simp <;> omega
          have hn31 : True := trivial
          go_wp2_with (at_builtin; go_must ((refine wpList_append_own _ rfl _ _ 43 rfl w.heap.size 22 i0 (.slice none 0 0) 1 24 Tryd.underlying43 hi hz0 hz1 hz2 rfl (by decide) v Q.length (slVals bs) rfl ((hD.out.1.alloc _).alloc _) ⟨wr.heap.size + 1, 0, none⟩ 1 1 [.slice (some ⟨wr.heap.size, 0, none⟩) 2 2] rfl rfl (by have := cell_one_new (wr.alloc (.cells #[.int .i64 (x), .int .i64 (y - z)] 2)) (.slice (some ⟨wr.heap.size, 0, none⟩) 2 2) 22; simpa using this) (by simp [Value.oneCell']) c3.out (by omega) (by simp; omega) ?_; intro v1 w2 hown1 hgrow1 _; have D2 := Lib.hid (push_pair hD.out hbase hown1 hgrow1); have B2 := Lib.hid (below_push hD.out hB.out hgrow1); obtain ⟨_, f3⟩ := HB.out.later B2.out; clear hown1 hgrow1)))
          go_roundw
          case rel => exact ⟨_, k + 1, bs ++ [wr.heap.size], Q ++ [(x, y - z)], ⟨x, y - z, 2⟩, rfl, by first | rfl | go_num, by first | rfl | go_num, by first | rfl | go_num, by go_num, by omega, by have := hQl.out; show (Q ++ [(x, y - z)]).length = k + 1 + 1; simp; omega, by show Q ++ [(x, y - z)] = ptsC P T (k + 1 + 1); rw [ptsC_succ, HS.out, hQ.out], HS.out, D2.out, B2.out⟩
          case measure => simp [intOf]; omega
    · have hge : ¬ (k : Int) < (P.length : Int) := by omega
      have hkn : k = P.length := by omega
      have HP : Hid (PrRow w.heap.size v (ptsC P T (P.length + 1)) bs wr) := by rw [← hkn, ← hQ.out]; exact hD
      go_wp2
      go_ret
      exact ⟨v, rfl, ⟨bs, HP.out⟩, hB.out⟩
end Go.Proofs.YtikjielgnlgnjaaDoor
