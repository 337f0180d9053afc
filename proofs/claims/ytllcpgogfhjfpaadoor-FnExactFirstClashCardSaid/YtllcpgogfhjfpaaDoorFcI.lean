/-
  FirstClash by the program: ranges over functions, one in the other, with a return out of both.
-/
import Derived.Test.YtllcpgogfhjfpaaDoorWaP
import Derived.Test.YtllcpgogfhjfpaaDoorWaV
import Derived.Test.YtllcpgogfhjfpaaDoorWaQ
import Derived.Test.YtllcpgogfhjfpaaDoorMk
import Derived.Stop.RegionWithIn
namespace Go.Proofs.YtllcpgogfhjfpaaDoor
open Go.ChangeShapes Go.WideShapes Go.ChangeAt Go.RowKit Go.Joins Go.Shelf

attribute [local go_sem] Oper.semAt_some
/-- The function's boxes: the wall, the lap, the four results. -/
def fcW (w : World) (v : Value) (lap : Int) : World := (((((w.alloc (.cells #[v] 22)).alloc (.cells #[.int .i64 lap] 2)).alloc (.cells #[.int .i64 0] 2)).alloc (.cells #[.int .i64 0] 2)).alloc (.cells #[.int .i64 0] 2)).alloc (.cells #[.int .i64 0] 2)
structure FcB (W : World) (b : Nat) (v : Value) (lap r0 r1 r2 r3 : Int) : Prop where
  x0 : Boxed W b 22 v
  x1 : Boxed W (b + 1) 2 (.int .i64 lap)
  x2 : Boxed W (b + 1 + 1) 2 (.int .i64 r0)
  x3 : Boxed W (b + 1 + 1 + 1) 2 (.int .i64 r1)
  x4 : Boxed W (b + 1 + 1 + 1 + 1) 2 (.int .i64 r2)
  x5 : Boxed W (b + 1 + 1 + 1 + 1 + 1) 2 (.int .i64 r3)
theorem boxed_below {W W' : World} {b n : Nat} {t : TypeId} {v : Value} (h : Boxed W b t v) (hb : Below n W W') (hn : b < n) : Boxed W' b t v := (hb.block b hn).trans h
theorem FcB.later {W W' : World} {b : Nat} {v : Value} {lap r0 r1 r2 r3 : Int} (h : FcB W b v lap r0 r1 r2 r3) (hs : W.heap.size = b + 6) (hb : Below W.heap.size W W') : FcB W' b v lap r0 r1 r2 r3 :=
  ⟨boxed_below h.x0 hb (by omega), boxed_below h.x1 hb (by omega), boxed_below h.x2 hb (by omega), boxed_below h.x3 hb (by omega), boxed_below h.x4 hb (by omega), boxed_below h.x5 hb (by omega)⟩
theorem FcB.new (w : World) (v : Value) (lap : Int) : FcB (fcW w v lap) w.heap.size v lap 0 0 0 0 := by
  have y0 := (((((Boxed.new w 22 v).alloc (.cells #[.int .i64 lap] 2)).alloc (.cells #[.int .i64 0] 2)).alloc (.cells #[.int .i64 0] 2)).alloc (.cells #[.int .i64 0] 2)).alloc (.cells #[.int .i64 0] 2)
  have y1 := ((((Boxed.new (w.alloc (.cells #[v] 22)) 2 (.int .i64 lap)).alloc (.cells #[.int .i64 0] 2)).alloc (.cells #[.int .i64 0] 2)).alloc (.cells #[.int .i64 0] 2)).alloc (.cells #[.int .i64 0] 2)
  have y2 := (((Boxed.new ((w.alloc (.cells #[v] 22)).alloc (.cells #[.int .i64 lap] 2)) 2 (.int .i64 0)).alloc (.cells #[.int .i64 0] 2)).alloc (.cells #[.int .i64 0] 2)).alloc (.cells #[.int .i64 0] 2)
  have y3 := ((Boxed.new (((w.alloc (.cells #[v] 22)).alloc (.cells #[.int .i64 lap] 2)).alloc (.cells #[.int .i64 0] 2)) 2 (.int .i64 0)).alloc (.cells #[.int .i64 0] 2)).alloc (.cells #[.int .i64 0] 2)
  have y4 := (Boxed.new ((((w.alloc (.cells #[v] 22)).alloc (.cells #[.int .i64 lap] 2)).alloc (.cells #[.int .i64 0] 2)).alloc (.cells #[.int .i64 0] 2)) 2 (.int .i64 0)).alloc (.cells #[.int .i64 0] 2)
  have y5 := Boxed.new (((((w.alloc (.cells #[v] 22)).alloc (.cells #[.int .i64 lap] 2)).alloc (.cells #[.int .i64 0] 2)).alloc (.cells #[.int .i64 0] 2)).alloc (.cells #[.int .i64 0] 2)) 2 (.int .i64 0)
  simp only [World.size_alloc] at y1 y2 y3 y4 y5
  exact ⟨y0, y1, y2, y3, y4, y5⟩
theorem distF_impl (x y : Int) (hx : 0 ≤ x ∧ x ≤ 1000) (hy : 0 ≤ y ∧ y ≤ 1000) (w : World) : Calls Tryd.prog 39 #[.int .i64 x, .int .i64 y] w fun e w' => e = .returned (.int .i64 ((x - y).natAbs : Int)) ∧ w = w' := by
  obtain ⟨hx0, hx1⟩ := hx
  obtain ⟨hy0, hy1⟩ := hy
  by_cases h : x < y
  · have hm : min x y = x := by omega
    have hM : max x y = y := by omega
    have h2 : ¬ y < x := by omega
    go_enter Tryd.func39, Tryd.ntmps39
    go_wp2
    go_ret
    exact ⟨ret_int (by omega), rfl⟩
  · go_enter Tryd.func39, Tryd.ntmps39
    go_wp2
    go_ret
    exact ⟨ret_int (by omega), rfl⟩
theorem FcB.own {β : Type} (b : Nat) (v : Value) (lap r0 r1 r2 r3 : Int) : Own (fun (_ : β) W => FcB W b v lap r0 r1 r2 r3) := fun s X Y row hs hg hr =>
  ⟨boxed_own b 22 (fun _ : β => v) s X Y row hs.x0 hg hr, boxed_own _ 2 (fun _ : β => .int .i64 lap) s X Y row hs.x1 hg hr, boxed_own _ 2 (fun _ : β => .int .i64 r0) s X Y row hs.x2 hg hr, boxed_own _ 2 (fun _ : β => .int .i64 r1) s X Y row hs.x3 hg hr, boxed_own _ 2 (fun _ : β => .int .i64 r2) s X Y row hs.x4 hg hr, boxed_own _ 2 (fun _ : β => .int .i64 r3) s X Y row hs.x5 hg hr⟩
theorem FcB.mark {n₀ b : Nat} {W W' : World} {v : Value} {lap r0 r1 r2 r3 : Int} (h : FcB W b v lap r0 r1 r2 r3) (t : MarkT n₀ W W') : FcB W' b v lap r0 r1 r2 r3 :=
  ⟨t.boxed h.x0, t.boxed h.x1, t.boxed h.x2, t.boxed h.x3, t.boxed h.x4, t.boxed h.x5⟩
theorem endP_vals {s : ByteArray} (hs : s.size ≤ 250) : (endP s s.size).map (·.1) = prpC s s.size := by
  unfold endP prpC
  rw [List.map_map]
  refine List.map_congr_left fun i hi => ?_
  have hi' : i < s.size := by simpa using hi
  have := qto_le s (i + 1)
  show (mkP (qto s (i + 1))).1 = _
  rw [mkP_val (by omega)]
theorem lessB_vals {s : ByteArray} (hs : s.size ≤ 250) : (endP (lessB s) (lessB s).size).map (·.1) = perpsC s := by
  rw [endP_vals (by rw [lessB_size]; omega), lessB_perps]
theorem find_prefix {α β : Type} {f : α → Option β} {P l : List α} {r : β} (hp : P <+: l) (h : P.findSome? f = some r) : l.findSome? f = some r := by
  obtain ⟨t, rfl⟩ := hp
  rw [List.findSome?_append, h]
  rfl
theorem find_snoc {α β : Type} {f : α → Option β} {P : List α} {x : α} (h : P.findSome? f = none) : (P ++ [x]).findSome? f = f x := by
  rw [List.findSome?_append, h]
  cases hx : f x <;> simp [hx]
/-- The values that a range has seen. -/
def vals (l : List Plc) : List Int := l.map (·.1)
theorem vals_snoc (l : List Plc) (x : Plc) : vals (l ++ [x]) = vals l ++ [x.1] := by simp [vals]
theorem vals_prefix {p l : List Plc} (h : p <+: l) : vals p <+: vals l := by
  obtain ⟨t, rfl⟩ := h
  exact ⟨vals t, by simp [vals]⟩
def fyf (lap x : Int) : Int → Option Int := fun y => if ((x - y).natAbs : Int) < lap then some y else none
def fxf (lap : Int) (B : List Int) : Int → Option (Int × Int) := fun x => (B.findSome? (fyf lap x)).map fun y => (x, y)
theorem fxy_is (lap : Int) (A B : List Int) : fxy lap A B = A.findSome? (fxf lap B) := rfl
theorem FcB.store {W : World} {b : Nat} {v : Value} {lap r0 r1 r2 r3 : Int} (h : FcB W b v lap r0 r1 r2 r3) (q0 q1 q2 q3 : Int) :
    FcB ((((W.setCell ⟨b + 1 + 1, 0, none⟩ (.int .i64 q0)).setCell ⟨b + 1 + 1 + 1, 0, none⟩ (.int .i64 q1)).setCell ⟨b + 1 + 1 + 1 + 1, 0, none⟩ (.int .i64 q2)).setCell ⟨b + 1 + 1 + 1 + 1 + 1, 0, none⟩ (.int .i64 q3)) b v lap q0 q1 q2 q3 :=
  ⟨(((h.x0.other (by omega) _).other (by omega) _).other (by omega) _).other (by omega) _, (((h.x1.other (by omega) _).other (by omega) _).other (by omega) _).other (by omega) _,
   (((h.x2.set _).other (by omega) _).other (by omega) _).other (by omega) _, (((h.x3.other (by omega) _).set _).other (by omega) _).other (by omega) _,
   (((h.x4.other (by omega) _).other (by omega) _).set _).other (by omega) _, (((h.x5.other (by omega) _).other (by omega) _).other (by omega) _).set _⟩
theorem FcB.drew {W : World} {b : Nat} {v : Value} {lap r0 r1 r2 r3 : Int} (h : FcB W b v lap r0 r1 r2 r3) : FcB W.drew b v lap r0 r1 r2 r3 := ⟨h.x0, h.x1, h.x2, h.x3, h.x4, h.x5⟩
theorem keeps_drew (W : World) : KeepsOthers W W.drew := ⟨Nat.le_refl _, fun _ _ h _ => h⟩
theorem four_keeps (W : World) (b : Nat) (v0 v1 v2 v3 : Value) : KeepsOthers W ((((W.setCell ⟨b + 1 + 1, 0, none⟩ v0).setCell ⟨b + 1 + 1 + 1, 0, none⟩ v1).setCell ⟨b + 1 + 1 + 1 + 1, 0, none⟩ v2).setCell ⟨b + 1 + 1 + 1 + 1 + 1, 0, none⟩ v3) :=
  (((KeepsOthers.setCell W _ _).trans (KeepsOthers.setCell _ _ _)).trans (KeepsOthers.setCell _ _ _)).trans (KeepsOthers.setCell _ _ _)
theorem four_below {n : Nat} {w W : World} {b : Nat} (h : Below n w W) (hb : n ≤ b) (v0 v1 v2 v3 : Value) : Below n w ((((W.setCell ⟨b + 1 + 1, 0, none⟩ v0).setCell ⟨b + 1 + 1 + 1, 0, none⟩ v1).setCell ⟨b + 1 + 1 + 1 + 1, 0, none⟩ v2).setCell ⟨b + 1 + 1 + 1 + 1 + 1, 0, none⟩ v3) :=
  (((h.setCell (p := ⟨b + 1 + 1, 0, none⟩) (by show n ≤ b + 1 + 1; omega) v0).setCell (p := ⟨b + 1 + 1 + 1, 0, none⟩) (by show n ≤ b + 1 + 1 + 1; omega) v1).setCell (p := ⟨b + 1 + 1 + 1 + 1, 0, none⟩) (by show n ≤ b + 1 + 1 + 1 + 1; omega) v2).setCell (p := ⟨b + 1 + 1 + 1 + 1 + 1, 0, none⟩) (by show n ≤ b + 1 + 1 + 1 + 1 + 1; omega) v3
set_option maxRecDepth 100000 in
set_option maxHeartbeats 12800000 in
theorem firstClash_bones (L : List ByteArray) (a : Option Addr) (cap : Nat) (hcap : L.length ≤ cap) (hw : okW L = true) (lap : Int) (h1 : 1 ≤ lap) (h4 : lap ≤ 4) (w : World) (ha : StrArg w a L) (hl : L.length ≤ 1048576) (hs : StrLe 1048576 L) :
    Calls Tryd.prog 13 #[.slice a L.length cap, .int .i64 lap] w fun e w' => e = fcE L lap ∧ Below w.heap.size w w' := by
  have HE1 : Hid (fcO lap L = none → fcE L lap = .returned (.tuple #[.int .i64 0, .int .i64 0, .int .i64 0, .int .i64 3])) := fun h => by
    have : fcC L lap = 0 := by unfold fcC; rw [if_pos hw, if_pos (inB_true.2 ⟨by omega, by omega⟩)]
    unfold fcE
    rw [if_pos this, h]
  have HE2 : Hid (∀ k x y, fcO lap L = some (k, x, y) → fcE L lap = .returned (.tuple #[.int .i64 k, .int .i64 x, .int .i64 y, .int .i64 0])) := fun k x y h => by
    have : fcC L lap = 0 := by unfold fcC; rw [if_pos hw, if_pos (inB_true.2 ⟨by omega, by omega⟩)]
    unfold fcE
    rw [if_pos this, h]
  obtain ⟨RE, hRE⟩ : ∃ RE, fcE L lap = RE := ⟨_, rfl⟩
  rw [hRE] at HE1 HE2
  rw [hRE]
  clear hRE
  have C := Lib.hid (fun wx h => validWall_impl L a cap hl hs wx h)
  rw [hw] at C
  have HA := Lib.hid ha
  have IN : Hid (∀ wx, Calls Tryd.prog 37 #[.int .i64 lap, .int .i64 1, .int .i64 4] wx fun e w' => e = .returned (.bool true) ∧ wx = w') := fun wx => by
    have := wa_impl lap 1 4 wx
    rw [show inB lap 1 4 = true from inB_true.2 ⟨by omega, by omega⟩] at this
    exact this
  obtain ⟨l1, l2, hall⟩ := okW_facts hw
  obtain ⟨b, o, rfl⟩ : ∃ b o, a = some ⟨b, o, none⟩ := by
    obtain ⟨b, o, _, h, _⟩ := ha.at (show 0 < L.length by omega)
    exact ⟨b, o, h⟩
  have hc1 : (1 : Int) ≤ (L.length : Int) := by omega
  have hc2 : (L.length : Int) - 1 ≤ (cap : Int) := by omega
  have hc3 : ((L.length : Int) - 1).toNat = L.length - 1 := by omega
  have hc4 : ¬ cap = 0 := by omega
  have HALL := Lib.hid hall
  have HCAP := Lib.hid hcap
  clear hw hs ha hall
  refine (callsIn_wide (n := 8)).1 ?_
  refine callsIn_of_wp_marks Tryd.func13 rfl trivial ?_ rfl
  simp only [Tryd.ntmps13, List.size_toArray, List.length_cons, List.length_nil, Nat.reduceAdd, Nat.reduceSub, Array.replicate_succ, Array.replicate_zero, List.push_toArray, List.append_toArray, List.nil_append, List.cons_append]
  have B0 := FcB.new w (.slice (some ⟨b, o, none⟩) L.length cap) lap
  have HB0 : Hid (Below w.heap.size w (fcW w (.slice (some ⟨b, o, none⟩) L.length cap) lap)) := balloc (balloc (balloc (balloc (balloc (balloc0 _ _) _) _) _) _) _
  have HS0 : Hid ((fcW w (.slice (some ⟨b, o, none⟩) L.length cap) lap).heap.size = w.heap.size + 6) := by show _ = _; simp [fcW]
  have O1 := Lib.hid (HA.out.later HB0.out)
  gi_wp2_with fail
  obtain ⟨W0, hW0⟩ : ∃ W0, fcW w (.slice (some ⟨b, o, none⟩) L.length cap) lap = W0 := ⟨_, rfl⟩
  have hW1 := hW0
  unfold fcW at hW1
  rw [hW0] at B0 HB0 HS0 O1
  rw [hW1]
  clear hW0 hW1
  refine ⟨trivial, (callsIn_wide.2 (C.out _ O1.out)).mono ?_⟩
  rintro e w1 ⟨rfl, hb1⟩
  have hs1 := hb1.size
  have K1 := B0.later HS0.out hb1
  have E1 := Lib.hid (bnext HB0.out hb1)
  clear hb1
  have c0 := K1.x0.cell
  have c1 := K1.x1.cell
  gi_wp2_with fail
  refine ⟨trivial, (callsIn_wide.2 (IN.out _)).mono ?_⟩
  rintro e w2 ⟨rfl, rfl⟩
  gi_wp2_with fail
  have HS1 : Hid (w.heap.size + 6 ≤ w1.heap.size) := by show _ ≤ _; have := hs1; have := HS0.out; omega
  refine wpIn_loop (fun a' W => ∃ (k : Nat) (ds : List Deferred) (v8 v9 v27 v28 v29 v30 v31 v32 v49 : Value), k ≤ L.length - 1 ∧ a' = { tmps := #[.slice (some ⟨b, o, none⟩) L.length cap, .int .i64 lap, .pointer (some ⟨w.heap.size, 0, none⟩), .pointer (some ⟨w.heap.size + 1, 0, none⟩), .pointer (some ⟨w.heap.size + 1 + 1, 0, none⟩), .pointer (some ⟨w.heap.size + 1 + 1 + 1, 0, none⟩), .pointer (some ⟨w.heap.size + 1 + 1 + 1 + 1, 0, none⟩), .pointer (some ⟨w.heap.size + 1 + 1 + 1 + 1 + 1, 0, none⟩), v8, v9, undef, undef, .bool false, .slice (some ⟨b, o, none⟩) L.length cap, .bool true, .bool false, .bool false, .int .i64 lap, .bool true, .bool false, .slice (some ⟨b, o, none⟩) L.length cap, .slice (some ⟨b, o, none⟩) L.length cap, .int .i64 (L.length : Int), .int .i64 ((L.length : Int) - 1), .slice (some ⟨b, o, none⟩) (L.length - 1) cap, .int .i64 ((L.length - 1 : Nat) : Int), .int .i64 (k : Int), v27, v28, v29, v30, v31, v32, undef, undef, undef, undef, undef, undef, undef, undef, undef, undef, undef, undef, undef, undef, undef, undef, v49], defers := ds } ∧ Hid (Marks w.heap.size W.heap.size ds W) ∧ Hid (FcB W w.heap.size (.slice (some ⟨b, o, none⟩) L.length cap) lap 0 0 0 0) ∧ Hid (Below w.heap.size w W) ∧ Hid (w.heap.size + 6 ≤ W.heap.size) ∧ Hid ((List.range k).findSome? (fk lap L) = none)) (fun a' _ => L.length - 1 - (intOf (a'.tmps.getD 26 undef)).toNat) ?_ ?_
  · exact ⟨0, [], undef, undef, undef, undef, undef, undef, undef, undef, undef, Nat.zero_le _, rfl, trivial, K1, E1.out, HS1.out, rfl⟩
  clear c0 c1 K1 E1 O1
  rintro a' W ⟨k, ds, v8, v9, v27, v28, v29, v30, v31, v32, v49, hk, rfl, hM, hF, hB, hZ, hN⟩
  by_cases hlt : k < L.length - 1
  · have hlt' : (k : Int) < ((L.length - 1 : Nat) : Int) := by omega
    have hk0 : (0 : Int) ≤ (k : Int) := by omega
    obtain ⟨b', o', s, hbo, hc, hat⟩ := (HA.out.later hB.out).at (show k < L.length by omega)
    obtain ⟨rfl, rfl⟩ : b = b' ∧ o = o' := by cases hbo; exact ⟨rfl, rfl⟩
    obtain ⟨t, ht⟩ : ∃ t, L[k + 1]? = some t := ⟨_, List.getElem?_eq_getElem (by omega)⟩
    have c0 := hat k s hc
    have HTX : Hid (∀ X, Below w.heap.size w X → X.cell? ⟨b, o + (k + 1), none⟩ = some (.string t)) := fun X hX => by
      obtain ⟨b2, o2, s2, hb2, hc2, hat2⟩ := (HA.out.later hX).at (show k + 1 < L.length by omega)
      cases hb2
      exact hat2 (k + 1) t ht
    have hsok := HALL.out k s hc
    have htok := HALL.out (k + 1) t ht
    obtain ⟨hs1, hs2, _, _⟩ := okCr_facts hsok
    obtain ⟨ht1, ht2, _, _⟩ := okCr_facts htok
    have PI := Lib.hid (fun wx => perpendsIn_impl s hs1 (by omega) wx)
    have PT := Lib.hid (fun wx => perpendsIn_impl t ht1 (by omega) wx)
    have HFK : Hid (fk lap L k = (fxy lap (perpsC s) (perpsC t)).map fun p => ((k : Int), p.1, p.2)) := by show _ = _; unfold fk; rw [wAt_eq hc, wAt_eq ht]
    have HVS : Hid (vals (endP (lessB s) (lessB s).size) = perpsC s) := lessB_vals (by omega)
    have HVT : Hid (vals (endP (lessB t) (lessB t).size) = perpsC t) := lessB_vals (by omega)
    have hss : (lessB s).size ≤ 250 := by rw [lessB_size]; omega
    have hst : (lessB t).size ≤ 250 := by rw [lessB_size]; omega
    have HNT := Lib.hid (perpsC_near htok)
    clear hat hc ht hsok htok hs1 hs2 ht1 ht2 hbo
    gi_wp2_with (refine ⟨trivial, ?_⟩; gi_at_call 38; refine (callsIn_wide.2 (PI.out _)).mono ?_; rintro e w' ⟨rfl, rfl⟩)
    -- RANGE
    have bK := (Boxed.new W 3 (.int .i64 (k : Int))).alloc (.cells #[.string (lessB s)] 9)
    have bS := Boxed.new (W.alloc (.cells #[.int .i64 (k : Int)] 3)) 9 (.string (lessB s))
    rw [World.size_alloc] at bS
    have zW := hB.out.size
    have hBW : Below w.heap.size W ((W.alloc (.cells #[.int .i64 (k : Int)] 3)).alloc (.cells #[.string (lessB s)] 9)) := ((Below.refl _ W).alloc zW _).alloc (by simp; omega) _
    have hKW : KeepsFrom w.heap.size W ((W.alloc (.cells #[.int .i64 (k : Int)] 3)).alloc (.cells #[.string (lessB s)] 9)) := ((KeepsOthers.alloc _ _).trans (KeepsOthers.alloc _ _)).from _
    have hF1 : FcB ((W.alloc (.cells #[.int .i64 (k : Int)] 3)).alloc (.cells #[.string (lessB s)] 9)) w.heap.size (.slice (some ⟨b, o, none⟩) L.length cap) lap 0 0 0 0 := ⟨(hF.out.x0.alloc _).alloc _, (hF.out.x1.alloc _).alloc _, (hF.out.x2.alloc _).alloc _, (hF.out.x3.alloc _).alloc _, (hF.out.x4.alloc _).alloc _, (hF.out.x5.alloc _).alloc _⟩
    have z1 : ((W.alloc (.cells #[.int .i64 (k : Int)] 3)).alloc (.cells #[.string (lessB s)] 9)).heap.size = W.heap.size + 2 := by simp
    obtain ⟨W1, hW1⟩ : ∃ W1, (W.alloc (.cells #[.int .i64 (k : Int)] 3)).alloc (.cells #[.string (lessB s)] 9) = W1 := ⟨_, rfl⟩
    rw [hW1] at bK bS hBW hKW hF1 z1 ⊢
    clear hW1 c0
    have hM1 := Lib.hid (hM.out.keeps hKW)
    have hB1 := hB.out.trans hBW
    have hZ0 := hZ.out
    clear hM hF hBW hKW
    refine wpIn_rangeFunc_ownH rfl (by omega) (gf := 90) (lb := #[.pointer (some ⟨W.heap.size + 1, 0, none⟩)]) rfl trivial (enters_of Tryd.func90 (by kernel_rfl) rfl)
      (ends_stops _ (by omega) (W.heap.size + 1) (lessB s) hss W1 bS) KpB.t KpB.b (Below.refl _ _) (fun _ => rfl)
      (fun pre X => (((fxy lap (vals pre) (perpsC t) = none ∧ FcB X w.heap.size (.slice (some ⟨b, o, none⟩) L.length cap) lap 0 0 0 0) ∧ Boxed X W.heap.size 3 (.int .i64 (k : Int))) ∧ Boxed X (W.heap.size + 1) 9 (.string (lessB s))) ∧ (Below w.heap.size w X ∧ KeepsFrom w.heap.size W1 X))
      (fun c pre X => (∃ x y, (c = .ret ∧ fxy lap (vals pre) (perpsC t) = some (x, y)) ∧ FcB X w.heap.size (.slice (some ⟨b, o, none⟩) L.length cap) lap k x y 0) ∧ (Below w.heap.size w X ∧ KeepsFrom w.heap.size W1 X))
      (OwnFrom.and (OwnFrom.and (OwnFrom.and (OwnFrom.and (ownFrom_pure _ _) (Own.from (FcB.own _ _ _ _ _ _ _) _)) (Own.from (boxed_own _ _ (fun _ => _)) _)) (Own.from (boxed_own _ _ (fun _ => _)) _)) (OwnFrom.and (ownFrom_below (Nat.le_refl _) (by omega)) (ownFrom_keepsFrom (Nat.le_refl _))))
      (fun c s' X Y row hs hg hr => by
        obtain ⟨⟨x, y, g1, g2⟩, g3, g4⟩ := hs
        exact ⟨⟨x, y, g1, Own.from (FcB.own (β := List Plc) _ _ _ _ _ _ _) _ s' X Y row g2 hg hr⟩, ownFrom_below (β := List Plc) (Nat.le_refl _) (by omega) s' X Y row g3 hg hr, ownFrom_keepsFrom (β := List Plc) (Nat.le_refl _) s' X Y row g4 hg hr⟩)
      ⟨⟨⟨⟨rfl, hF1⟩, bK⟩, bS⟩, hB1, KeepsFrom.refl _ _⟩
      (fun x a' X => ∃ Bx, W1.heap.size ≤ Bx ∧ Boxed X Bx 2 (.int .i64 x.1) ∧ a' = { tmps := #[.slice (some ⟨b, o, none⟩) L.length cap, .int .i64 lap, .pointer (some ⟨w.heap.size, 0, none⟩), .pointer (some ⟨w.heap.size + 1, 0, none⟩), .pointer (some ⟨w.heap.size + 1 + 1, 0, none⟩), .pointer (some ⟨w.heap.size + 1 + 1 + 1, 0, none⟩), .pointer (some ⟨w.heap.size + 1 + 1 + 1 + 1, 0, none⟩), .pointer (some ⟨w.heap.size + 1 + 1 + 1 + 1 + 1, 0, none⟩), .pointer (some ⟨W.heap.size, 0, none⟩), .string s, .pointer (some ⟨Bx, 0, none⟩), undef, .bool false, .slice (some ⟨b, o, none⟩) L.length cap, .bool true, .bool false, .bool false, .int .i64 lap, .bool true, .bool false, .slice (some ⟨b, o, none⟩) L.length cap, .slice (some ⟨b, o, none⟩) L.length cap, .int .i64 (L.length : Int), .int .i64 ((L.length : Int) - 1), .slice (some ⟨b, o, none⟩) (L.length - 1) cap, .int .i64 ((L.length - 1 : Nat) : Int), .int .i64 (k : Int), .bool true, .int .i64 (k : Int), .pointer (some ⟨b, o + k, none⟩), .string s, .string s, .func (.func 90) #[] #[.pointer (some ⟨W.heap.size + 1, 0, none⟩)], .int .i64 x.1, undef, undef, undef, undef, undef, undef, undef, undef, undef, undef, undef, undef, undef, undef, undef, v49], defers := [] })
      (fun x a' _ X Y row hs hg hr => by obtain ⟨Bx, e1, e2, e3⟩ := hs; exact ⟨Bx, e1, boxed_own Bx 2 (fun (_ : Unit) => Value.int .i64 x.1) () X Y row e2 hg (fun r e => (hr r e).2), e3⟩)
      ?assign ?body ?done ?stop
    case assign =>
      rintro l pre x X K ⟨⟨⟨⟨hp, hFX⟩, bKX⟩, bSX⟩, hBX, hKX⟩ hK
      simp only [encP]
      gi_wp2
      have zX := hKX.size
      exact hK _ _ ((KeepsOthers.alloc _ _).from _) (KpB.below (n := W1.heap.size) ((Below.refl _ X).alloc zX _) (by omega)) ⟨⟨⟨⟨hp, ⟨hFX.x0.alloc _, hFX.x1.alloc _, hFX.x2.alloc _, hFX.x3.alloc _, hFX.x4.alloc _, hFX.x5.alloc _⟩⟩, bKX.alloc _⟩, bSX.alloc _⟩, hBX.alloc hBX.size _, hKX.trans ((KeepsOthers.alloc _ _).from _)⟩ ⟨X.heap.size, zX, Boxed.new X 2 _, rfl⟩
    case body =>
      rintro l pre x a' X hl ⟨r, hr⟩ ⟨⟨⟨⟨hp, hFX⟩, bKX⟩, bSX⟩, hBX, hKX⟩ ⟨Bx, hBx, bX, rfl⟩ hlt2
      have cW := hFX.x0.cell
      have cK := bKX.cell
      have cT := HTX.out X hBX
      have hk1 : (k : Int) + 1 < (L.length : Int) := by omega
      have hwk : IntKind.i64.wrap ((k : Int) + 1) = (k : Int) + 1 := IntWalk.i64_in _ (by omega)
      have hLn : ¬ L = [] := fun e => by subst e; simp at hlt
      have hL0 : ¬ L.length = 0 := by omega
      gi_wp2_with ((first | refine ⟨trivial, fun _ => by omega, ?_⟩ | refine ⟨trivial, ?_⟩); gi_at_call 38; refine (show CallsIn (Fence.wide.inRound l) _ _ _ _ _ _ from callsIn_wide.2 (PT.out _)).mono ?_; rintro e w' ⟨rfl, rfl⟩)
      have bT := Boxed.new X 9 (.string (lessB t))
      have hr' : (X.alloc (.cells #[.string (lessB t)] 9)).heap[l]? = some (.loop r) := (Below.heap_alloc X _ l (Array.getElem?_eq_some_iff.1 hr).1).trans hr
      have zX := hKX.size
      have zB := hBX.size
      obtain ⟨⟨xv, hx0, hx1⟩, hxe⟩ : ∃ x' : Plc, x = x' := ⟨x, rfl⟩
      subst hxe
      simp only at bX ⊢
      have hFX2 : FcB (X.alloc (.cells #[.string (lessB t)] 9)) w.heap.size (.slice (some ⟨b, o, none⟩) L.length cap) lap 0 0 0 0 := ⟨hFX.x0.alloc _, hFX.x1.alloc _, hFX.x2.alloc _, hFX.x3.alloc _, hFX.x4.alloc _, hFX.x5.alloc _⟩
      refine wpIn_rangeFunc_ownN (l₀ := l) (r₀ := r) rfl hr' (by omega) (gf := 90) (lb := #[.pointer (some ⟨X.heap.size, 0, none⟩)]) rfl trivial (enters_of Tryd.func90 (by kernel_rfl) rfl)
        ((ends_stops _ (by omega) X.heap.size (lessB t) hst _ bT).inRound l) KpB.t KpB.b (Below.refl _ _) (fun _ => rfl)
        (fun pre' Y => ((((((vals pre').findSome? (fyf lap xv) = none ∧ FcB Y w.heap.size (.slice (some ⟨b, o, none⟩) L.length cap) lap 0 0 0 0) ∧ Boxed Y W.heap.size 3 (.int .i64 (k : Int))) ∧ Boxed Y (W.heap.size + 1) 9 (.string (lessB s))) ∧ Boxed Y Bx 2 (.int .i64 xv)) ∧ (Below w.heap.size w Y ∧ KeepsFrom w.heap.size W1 Y)) ∧ KeepsFrom W1.heap.size X Y)
        (fun c pre' Y => ((∃ y, (c = .ret ∧ (vals pre').findSome? (fyf lap xv) = some y) ∧ FcB Y w.heap.size (.slice (some ⟨b, o, none⟩) L.length cap) lap k xv y 0) ∧ (Below w.heap.size w Y ∧ KeepsFrom w.heap.size W1 Y)) ∧ KeepsFrom W1.heap.size X Y)
        (OwnFrom.and (OwnFrom.and (OwnFrom.and (OwnFrom.and (OwnFrom.and (OwnFrom.and (ownFrom_pure _ _) (Own.from (FcB.own _ _ _ _ _ _ _) _)) (Own.from (boxed_own _ _ (fun _ => _)) _)) (Own.from (boxed_own _ _ (fun _ => _)) _)) (Own.from (boxed_own _ _ (fun _ => _)) _)) (OwnFrom.and (ownFrom_below (Nat.le_refl _) (by simp; omega)) (ownFrom_keepsFrom (by simp; omega)))) (ownFrom_keepsFrom (by simp)))
        (fun c s' Y Z row hs hg hr => by
          obtain ⟨⟨⟨y, g1, g2⟩, g3, g4⟩, g5⟩ := hs
          exact ⟨⟨⟨y, g1, Own.from (FcB.own (β := List Plc) _ _ _ _ _ _ _) _ s' Y Z row g2 hg hr⟩, ownFrom_below (β := List Plc) (Nat.le_refl _) (by simp; omega) s' Y Z row g3 hg hr, ownFrom_keepsFrom (β := List Plc) (by simp; omega) s' Y Z row g4 hg hr⟩, ownFrom_keepsFrom (β := List Plc) (by simp) s' Y Z row g5 hg hr⟩)
        ⟨⟨⟨⟨⟨⟨rfl, hFX2⟩, bKX.alloc _⟩, bSX.alloc _⟩, bX.alloc _⟩, hBX.alloc zB _, hKX.trans ((KeepsOthers.alloc _ _).from _)⟩, (KeepsOthers.alloc _ _).from _⟩
        (fun y a'' _ => a'' = { tmps := #[.slice (some ⟨b, o, none⟩) L.length cap, .int .i64 lap, .pointer (some ⟨w.heap.size, 0, none⟩), .pointer (some ⟨w.heap.size + 1, 0, none⟩), .pointer (some ⟨w.heap.size + 1 + 1, 0, none⟩), .pointer (some ⟨w.heap.size + 1 + 1 + 1, 0, none⟩), .pointer (some ⟨w.heap.size + 1 + 1 + 1 + 1, 0, none⟩), .pointer (some ⟨w.heap.size + 1 + 1 + 1 + 1 + 1, 0, none⟩), .pointer (some ⟨W.heap.size, 0, none⟩), .string s, .pointer (some ⟨Bx, 0, none⟩), .int .i64 y.1, .bool false, .slice (some ⟨b, o, none⟩) L.length cap, .bool true, .bool false, .bool false, .int .i64 lap, .bool true, .bool false, .slice (some ⟨b, o, none⟩) L.length cap, .slice (some ⟨b, o, none⟩) L.length cap, .int .i64 (L.length : Int), .int .i64 ((L.length : Int) - 1), .slice (some ⟨b, o, none⟩) (L.length - 1) cap, .int .i64 ((L.length - 1 : Nat) : Int), .int .i64 (k : Int), .bool true, .int .i64 (k : Int), .pointer (some ⟨b, o + k, none⟩), .string s, .string s, .func (.func 90) #[] #[.pointer (some ⟨W.heap.size + 1, 0, none⟩)], .int .i64 xv, .slice (some ⟨b, o, none⟩) L.length cap, .int .i64 (k : Int), .int .i64 ((k : Int) + 1), .pointer (some ⟨b, o + (k + 1), none⟩), .string t, .func (.func 90) #[] #[.pointer (some ⟨X.heap.size, 0, none⟩)], .int .i64 y.1, undef, undef, undef, undef, undef, undef, undef, undef, v49], defers := [] })
        (fun _ _ _ _ _ _ hs _ _ => hs)
        ?assign2 ?body2 ?done2 ?stop2
      case assign2 =>
        rintro l2 pre' y Y K hi hK
        simp only [encP]
        gi_wp2
        exact hK _ _ (KeepsFrom.refl _ _) (KpB.refl _ _) hi rfl
      case body2 =>
        rintro l2 pre' y a'' Y _ _ ⟨⟨⟨⟨⟨⟨hq, hFY⟩, bKY⟩, bSY⟩, bXY⟩, hBY, hKY⟩, hKXY⟩ rfl hlt3
        obtain ⟨yv, hy0, hy1⟩ := y
        have DI := Lib.hid (distF_impl xv yv ⟨hx0, hx1⟩ ⟨hy0, hy1⟩)
        have d0 := bXY.cell
        have d1 := hFY.x1.cell
        have d2 := bKY.cell
        have f2 := hFY.x2.frozen
        have f3 := hFY.x3.frozen
        have f4 := hFY.x4.frozen
        have f5 := hFY.x5.frozen
        have e2 := hFY.x2.cell
        have e3 := hFY.x3.cell
        have e4 := hFY.x4.cell
        have e5 := hFY.x5.cell
        have nB2 : ¬ w.heap.size + 1 + 1 = Bx := by omega
        have nB3 : ¬ w.heap.size + 1 + 1 + 1 = Bx := by omega
        have nB4 : ¬ w.heap.size + 1 + 1 + 1 + 1 = Bx := by omega
        have nB5 : ¬ w.heap.size + 1 + 1 + 1 + 1 + 1 = Bx := by omega
        have nK2 : ¬ w.heap.size + 1 + 1 = W.heap.size := by omega
        have nK3 : ¬ w.heap.size + 1 + 1 + 1 = W.heap.size := by omega
        have nK4 : ¬ w.heap.size + 1 + 1 + 1 + 1 = W.heap.size := by omega
        have nK5 : ¬ w.heap.size + 1 + 1 + 1 + 1 + 1 = W.heap.size := by omega
        by_cases hd : ((xv - yv).natAbs : Int) < lap
        · have HYS : Hid ((vals (pre' ++ [⟨yv, hy0, hy1⟩])).findSome? (fyf lap xv) = some yv) := by show _ = _; rw [vals_snoc, find_snoc hq]; unfold fyf; rw [if_pos hd]
          obtain ⟨d, hdd⟩ : ∃ d, ((xv - yv).natAbs : Int) = d := ⟨_, rfl⟩
          rw [hdd] at DI hd
          clear hdd
          gi_wp2_with fail
          refine wpIn_mono (Q := fun e a' w' => e = .normal ∧ a' = { tmps := #[.slice (some ⟨b, o, none⟩) L.length cap, .int .i64 lap, .pointer (some ⟨w.heap.size, 0, none⟩), .pointer (some ⟨w.heap.size + 1, 0, none⟩), .pointer (some ⟨w.heap.size + 1 + 1, 0, none⟩), .pointer (some ⟨w.heap.size + 1 + 1 + 1, 0, none⟩), .pointer (some ⟨w.heap.size + 1 + 1 + 1 + 1, 0, none⟩), .pointer (some ⟨w.heap.size + 1 + 1 + 1 + 1 + 1, 0, none⟩), .pointer (some ⟨W.heap.size, 0, none⟩), .string s, .pointer (some ⟨Bx, 0, none⟩), .int .i64 yv, .bool false, .slice (some ⟨b, o, none⟩) L.length cap, .bool true, .bool false, .bool false, .int .i64 lap, .bool true, .bool false, .slice (some ⟨b, o, none⟩) L.length cap, .slice (some ⟨b, o, none⟩) L.length cap, .int .i64 (L.length : Int), .int .i64 ((L.length : Int) - 1), .slice (some ⟨b, o, none⟩) (L.length - 1) cap, .int .i64 ((L.length - 1 : Nat) : Int), .int .i64 (k : Int), .bool true, .int .i64 (k : Int), .pointer (some ⟨b, o + k, none⟩), .string s, .string s, .func (.func 90) #[] #[.pointer (some ⟨W.heap.size + 1, 0, none⟩)], .int .i64 xv, .slice (some ⟨b, o, none⟩) L.length cap, .int .i64 (k : Int), .int .i64 ((k : Int) + 1), .pointer (some ⟨b, o + (k + 1), none⟩), .string t, .func (.func 90) #[] #[.pointer (some ⟨X.heap.size, 0, none⟩)], .int .i64 yv, .int .i64 xv, .int .i64 yv, .int .i64 d, .int .i64 lap, .bool true, undef, undef, undef, v49], defers := [] } ∧ w' = Y.drew) ?_ (fun e a' w' h => ?_)
          · clear HTX HFK HVS HVT HNT HYS hp hq HE1 HE2 HA C IN PI PT hN HALL HCAP hM1 hKX hKY hKXY hBY hBX hFX hFX2 hFY
            gi_region_with ((first | refine ⟨trivial, fun _ => by omega, ?_⟩ | refine ⟨trivial, ?_⟩); gi_at_call 39; refine (show CallsIn ((Fence.wide.inRound l).inRound l2) _ _ _ _ _ _ from callsIn_wide.2 (DI.out _)).mono ?_; rintro e w3 ⟨rfl, rfl⟩)
            all_goals exact ⟨rfl, rfl, rfl⟩
          obtain ⟨rfl, rfl, rfl⟩ := h
          gi_wp2_with fail
          refine wpIn_mono (Q := fun e _ w' => e = .normal ∧ w' = ((((Y.drew.drew.setCell ⟨w.heap.size + 1 + 1, 0, none⟩ (.int .i64 (k : Int))).setCell ⟨w.heap.size + 1 + 1 + 1, 0, none⟩ (.int .i64 xv)).setCell ⟨w.heap.size + 1 + 1 + 1 + 1, 0, none⟩ (.int .i64 yv)).setCell ⟨w.heap.size + 1 + 1 + 1 + 1 + 1, 0, none⟩ (.int .i64 0))) ?_ (fun e a' w' h => ?_)
          · clear HTX HFK HVS HVT HNT HYS hp hq HE1 HE2 HA C IN PI PT hN HALL HCAP hM1 hKX hKY hKXY hBY hBX hFX hFX2 hFY
            gi_region_with fail
            all_goals exact ⟨rfl, rfl⟩
          obtain ⟨rfl, rfl⟩ := h
          gi_wp2_with fail
          have hkeep : KeepsOthers Y ((((Y.drew.drew.setCell ⟨w.heap.size + 1 + 1, 0, none⟩ (.int .i64 (k : Int))).setCell ⟨w.heap.size + 1 + 1 + 1, 0, none⟩ (.int .i64 xv)).setCell ⟨w.heap.size + 1 + 1 + 1 + 1, 0, none⟩ (.int .i64 yv)).setCell ⟨w.heap.size + 1 + 1 + 1 + 1 + 1, 0, none⟩ (.int .i64 0)) := ((keeps_drew Y).trans (keeps_drew Y.drew)).trans (four_keeps Y.drew.drew w.heap.size _ _ _ _)
          exact ⟨hkeep.from _, ⟨⟨yv, ⟨rfl, HYS.out⟩, FcB.store hFY.drew.drew (k : Int) xv yv 0⟩, four_below (W := Y.drew.drew) hBY.drew.drew (Nat.le_refl _) _ _ _ _, hKY.trans (hkeep.from _)⟩, hKXY.trans (hkeep.from _)⟩
        · have HYS : Hid ((vals (pre' ++ [⟨yv, hy0, hy1⟩])).findSome? (fyf lap xv) = none) := by show _ = _; rw [vals_snoc, find_snoc hq]; unfold fyf; rw [if_neg hd]
          obtain ⟨d, hdd⟩ : ∃ d, ((xv - yv).natAbs : Int) = d := ⟨_, rfl⟩
          rw [hdd] at DI hd
          clear hdd
          gi_wp2_with fail
          refine wpIn_mono (Q := fun e a' w' => e = .normal ∧ a' = { tmps := #[.slice (some ⟨b, o, none⟩) L.length cap, .int .i64 lap, .pointer (some ⟨w.heap.size, 0, none⟩), .pointer (some ⟨w.heap.size + 1, 0, none⟩), .pointer (some ⟨w.heap.size + 1 + 1, 0, none⟩), .pointer (some ⟨w.heap.size + 1 + 1 + 1, 0, none⟩), .pointer (some ⟨w.heap.size + 1 + 1 + 1 + 1, 0, none⟩), .pointer (some ⟨w.heap.size + 1 + 1 + 1 + 1 + 1, 0, none⟩), .pointer (some ⟨W.heap.size, 0, none⟩), .string s, .pointer (some ⟨Bx, 0, none⟩), .int .i64 yv, .bool false, .slice (some ⟨b, o, none⟩) L.length cap, .bool true, .bool false, .bool false, .int .i64 lap, .bool true, .bool false, .slice (some ⟨b, o, none⟩) L.length cap, .slice (some ⟨b, o, none⟩) L.length cap, .int .i64 (L.length : Int), .int .i64 ((L.length : Int) - 1), .slice (some ⟨b, o, none⟩) (L.length - 1) cap, .int .i64 ((L.length - 1 : Nat) : Int), .int .i64 (k : Int), .bool true, .int .i64 (k : Int), .pointer (some ⟨b, o + k, none⟩), .string s, .string s, .func (.func 90) #[] #[.pointer (some ⟨W.heap.size + 1, 0, none⟩)], .int .i64 xv, .slice (some ⟨b, o, none⟩) L.length cap, .int .i64 (k : Int), .int .i64 ((k : Int) + 1), .pointer (some ⟨b, o + (k + 1), none⟩), .string t, .func (.func 90) #[] #[.pointer (some ⟨X.heap.size, 0, none⟩)], .int .i64 yv, .int .i64 xv, .int .i64 yv, .int .i64 d, .int .i64 lap, .bool false, undef, undef, undef, v49], defers := [] } ∧ w' = Y.drew) ?_ (fun e a' w' h => ?_)
          · clear HTX HFK HVS HVT HNT HYS hp hq HE1 HE2 HA C IN PI PT hN HALL HCAP hM1 hKX hKY hKXY hBY hBX hFX hFX2 hFY
            gi_region_with ((first | refine ⟨trivial, fun _ => by omega, ?_⟩ | refine ⟨trivial, ?_⟩); gi_at_call 39; refine (show CallsIn ((Fence.wide.inRound l).inRound l2) _ _ _ _ _ _ from callsIn_wide.2 (DI.out _)).mono ?_; rintro e w3 ⟨rfl, rfl⟩)
            all_goals exact ⟨rfl, by simp [hd], rfl⟩
          obtain ⟨rfl, rfl, rfl⟩ := h
          gi_wp2_with fail
          have hkeep := keeps_drew Y
          exact ⟨hkeep.from _, fun _ h _ => h, ⟨⟨⟨⟨⟨HYS.out, hFY.drew⟩, bKY⟩, bSY⟩, bXY⟩, hBY.drew, hKY.trans (hkeep.from _)⟩, hKXY.trans (hkeep.from _)⟩
      case done2 =>
        rintro ys Y rfl ⟨⟨⟨⟨⟨⟨hq, hFY⟩, bKY⟩, bSY⟩, bXY⟩, hBY, hKY⟩, hKXY⟩
        gi_wp2
        refine ⟨hKXY, fun o' h1 h2 => ?_, ⟨⟨⟨⟨?_, hFY⟩, bKY⟩, bSY⟩, hBY, hKY⟩⟩
        · have : X.heap[W.heap.size + 1]? = some (.cells #[.string (lessB s)] 9 (0, 0)) := bSX
          rw [this] at h1
          cases h1
          exact bSY
        · rw [vals_snoc, fxy_is, find_snoc (by rw [← fxy_is]; exact hp)]
          unfold fxf
          rw [← HVT.out, hq]
          rfl
      case stop2 =>
        rintro c pre' Y hpre ⟨⟨⟨y, ⟨rfl, hy⟩, hFY⟩, hBY, hKY⟩, hKXY⟩
        gi_wp2
        refine ⟨hKXY, ⟨xv, y, ⟨rfl, ?_⟩, hFY⟩, hBY, hKY⟩
        rw [vals_snoc, fxy_is, find_snoc (by rw [← fxy_is]; exact hp)]
        unfold fxf
        rw [← HVT.out, find_prefix (vals_prefix hpre) hy]
        rfl
    case done =>
      rintro D xs X hD rfl ⟨⟨⟨⟨hp, hFX⟩, bKX⟩, bSX⟩, hBX, hKX⟩ hK
      have hDX : D < X.heap.size := (Array.getElem?_eq_some_iff.1 hK).1
      have hfk : fk lap L k = none := by rw [HFK.out, ← HVS.out, hp]; rfl
      gi_wp2
      refine ⟨⟨k + 1, { target := .collected D, args := #[] } :: ds, _, _, _, _, _, _, _, _, _, by omega, rfl, ⟨D, rfl, by omega, hDX, hK, (hM1.out.keeps hKX).mono (by omega)⟩, hFX, hBX, by show _ ≤ _; have := hKX.size; omega, ?_⟩, ?_⟩
      · show _ = _
        rw [List.range_succ, find_snoc hN.out, hfk]
      · simp [intOf]; omega
    case stop =>
      rintro D c pre X hD hpre ⟨⟨x, y, ⟨rfl, hxy⟩, hFX⟩, hBX, hKX⟩ hK
      have hDX : D < X.heap.size := (Array.getElem?_eq_some_iff.1 hK).1
      have hfk : fk lap L k = some ((k : Int), x, y) := by
        rw [HFK.out, ← HVS.out, fxy_is, find_prefix (vals_prefix hpre) (by rw [← fxy_is]; exact hxy)]
        rfl
      have hfo : fcO lap L = some ((k : Int), x, y) := by
        unfold fcO
        refine find_prefix (P := List.range (k + 1)) ?_ (by rw [List.range_succ, find_snoc hN.out, hfk])
        exact ⟨(List.range (L.length - 1)).drop (k + 1), by
          have := List.take_append_drop (k + 1) (List.range (L.length - 1))
          rw [List.take_range, Nat.min_eq_left (by omega)] at this
          exact this⟩
      gi_wp2
      refine leaves_marks w _ X.heap.size X ⟨D, rfl, by omega, hDX, hK, (hM1.out.keeps hKX).mono (by omega)⟩ (fun W' hT => ?_)
      have g := hFX.mark hT
      have g2 := g.x2.cell
      have g3 := g.x3.cell
      have g4 := g.x4.cell
      have g5 := g.x5.cell
      exact ⟨.tuple #[.int .i64 (k : Int), .int .i64 x, .int .i64 y, .int .i64 0], by simp [results, Tryd.results13, go_sem, g2, g3, g4, g5], (HE2.out _ _ _ hfo).symm, hBX.trans hT.1⟩
  · have hge : ¬ (k : Int) < ((L.length - 1 : Nat) : Int) := by omega
    have hkn : k = L.length - 1 := by omega
    have hfo : fcO lap L = none := by unfold fcO; rw [← hkn]; exact hN.out
    have f2 := hF.out.x2.frozen
    have f3 := hF.out.x3.frozen
    have f4 := hF.out.x4.frozen
    have f5 := hF.out.x5.frozen
    have e2 := hF.out.x2.cell
    have e3 := hF.out.x3.cell
    have e4 := hF.out.x4.cell
    have e5 := hF.out.x5.cell
    gi_wp2
    refine leaves_marks w _ W.heap.size _ (hM.out.keeps ((four_keeps W w.heap.size _ _ _ _).from _)) (fun W' hT => ?_)
    have g := (hF.out.store 0 0 0 3).mark hT
    have g2 := g.x2.cell
    have g3 := g.x3.cell
    have g4 := g.x4.cell
    have g5 := g.x5.cell
    exact ⟨.tuple #[.int .i64 0, .int .i64 0, .int .i64 0, .int .i64 3], by simp [results, Tryd.results13, go_sem, g2, g3, g4, g5], (HE1.out hfo).symm, (four_below hB.out (Nat.le_refl _) _ _ _ _).trans hT.1⟩
end Go.Proofs.YtllcpgogfhjfpaaDoor
