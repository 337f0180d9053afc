/-
  The first clash of a wall, as told, and the model's word.
-/
import Derived.Test.YtllcpgogfhjfpaaDoorWaC
import Derived.Test.YtllcpgogfhjfpaaDoorWaW
import Derived.Test.YtllcpgogfhjfpaaDoorPerpT
import Derived.Deep.QuietTactic
import Derived.BigQuiet
namespace Go.Proofs.YtllcpgogfhjfpaaDoor
open Go.ChangeShapes Go.WideShapes Go.ChangeAt Go.RowKit Go.Joins

/-- The first one of a list that has an answer. -/
theorem some_at {α β : Type} {f : α → Option β} : ∀ {l : List α} {k : Nat} {x : α} {r : β}, (l.take k).findSome? f = none → l[k]? = some x → f x = some r → l.findSome? f = some r
  | [], k, x, r, _, hx, _ => by simp at hx
  | y :: l, 0, x, r, _, hx, hr => by
    simp only [List.getElem?_cons_zero, Option.some.injEq] at hx
    subst hx
    simp [hr]
  | y :: l, k + 1, x, r, h0, hx, hr => by
    rw [List.take_succ_cons, List.findSome?_cons] at h0
    cases hy : f y with
    | some z => rw [hy] at h0; cases h0
    | none =>
      rw [hy] at h0
      rw [List.findSome?_cons, hy]
      exact some_at h0 (by simpa using hx) hr
theorem none_next {α β : Type} {f : α → Option β} {l : List α} {k : Nat} {x : α} (h0 : (l.take k).findSome? f = none) (hx : l[k]? = some x) (hr : f x = none) : (l.take (k + 1)).findSome? f = none := by
  rw [List.take_add_one, hx, List.findSome?_append, h0]
  simp [hr]
/-- The first place above that is too near; the first two places. -/
def fy (lap x : Int) (B : List Int) : Option Int := B.findSome? fun y => if ((x - y).natAbs : Int) < lap then some y else none
def fxy (lap : Int) (A B : List Int) : Option (Int × Int) := A.findSome? fun x => (fy lap x B).map fun y => (x, y)
def wAt (L : List ByteArray) (k : Nat) : ByteArray := L.getD k ⟨#[]⟩
theorem wAt_eq {L : List ByteArray} {k : Nat} {s : ByteArray} (h : L[k]? = some s) : wAt L k = s := by unfold wAt; rw [List.getD_eq_getElem?_getD, h]; rfl
theorem wAt_get {L : List ByteArray} {k : Nat} (h : k < L.length) : L[k]? = some (wAt L k) := by
  unfold wAt
  rw [List.getD_eq_getElem?_getD, List.getElem?_eq_getElem h]
  rfl
def fk (lap : Int) (L : List ByteArray) (k : Nat) : Option (Int × Int × Int) := (fxy lap (perpsC (wAt L k)) (perpsC (wAt L (k + 1)))).map fun p => ((k : Int), p.1, p.2)
def fcO (lap : Int) (L : List ByteArray) : Option (Int × Int × Int) := (List.range (L.length - 1)).findSome? (fk lap L)
theorem range_at {n k : Nat} (h : k < n) : (List.range n)[k]? = some k := by simp [h]
theorem perpsC_near {s : ByteArray} (h : okCr s = true) : Near (perpsC s) := fun i z hz => by
  obtain ⟨_, h2, _, _⟩ := okCr_facts h
  have hl := (List.getElem?_eq_some_iff.1 hz).1
  rw [perpsC, prpC_length] at hl
  rw [perpsC, prpC_at hl] at hz
  cases hz
  have := qto_le s (i + 1)
  omega
theorem perpsC_length (s : ByteArray) : (perpsC s).length = s.size - 1 := by rw [perpsC, prpC_length]

theorem szQ_spec (x y : Int) (hx : 0 ≤ x ∧ x ≤ 1000) (hy : 0 ≤ y ∧ y ≤ 1000) (w : World) : Calls Tryd.prog 71 #[.int .i64 (x - y)] w fun e w' => e = .returned (.int .i64 ((x - y).natAbs : Int)) ∧ w = w' := by
  by_cases h : x - y < 0
  · have e : ((x - y).natAbs : Int) = -(x - y) := by omega
    rw [e]
    obtain ⟨d, hd⟩ : ∃ d, x - y = d := ⟨_, rfl⟩
    rw [hd] at h ⊢
    have hw : IntKind.i64.wrap (-d) = -d := IntWalk.i64_in _ (by omega)
    clear e
    go_enter Tryd.func71, Tryd.ntmps71
    go_wp2
    go_ret
    exact ⟨rfl, rfl⟩
  · have e : ((x - y).natAbs : Int) = x - y := by omega
    rw [e]
    obtain ⟨d, hd⟩ : ∃ d, x - y = d := ⟨_, rfl⟩
    rw [hd] at h ⊢
    clear e
    go_enter Tryd.func71, Tryd.ntmps71
    go_wp2
    go_ret
    exact ⟨rfl, rfl⟩
/-- The answer of a search for a clash. -/
def ClAns (L : List ByteArray) (lap : Int) (w : World) (e : Ending) (w' : World) : Prop := ((∃ (k x y : Int), fcO lap L = some (k, x, y) ∧ e = .returned (.tuple #[.int .i64 k, .int .i64 x, .int .i64 y, .bool true])) ∨ (fcO lap L = none ∧ e = .returned (.tuple #[.int .i64 0, .int .i64 0, .int .i64 0, .bool false]))) ∧ Below w.heap.size w w'
theorem near_at {P : List Int} (h : Near P) {i : Nat} (hi : i < P.length) : ∃ z, P[i]? = some z ∧ 0 ≤ z ∧ z ≤ 1000 := ⟨P[i], List.getElem?_eq_getElem hi, h i _ (List.getElem?_eq_getElem hi)⟩
set_option maxRecDepth 100000 in
set_option maxHeartbeats 12800000 in
theorem clash_spec (L : List ByteArray) (a : Option Addr) (cap : Nat) (hok : okW L = true) (lap : Int) (w : World) (ha : StrArg w a L) :
    Calls Tryd.prog 35 #[.slice a L.length cap, .int .i64 lap] w (ClAns L lap w) := by
  obtain ⟨hl1, hl2, hall⟩ := okW_facts hok
  have HA := Lib.hid ha
  have HO := Lib.hid hall
  clear ha hok hall
  go_enter Tryd.func35, Tryd.ntmps35
  go_wp2
  go_loopw [8] (fun i wr => ∃ (k : Nat), k + 1 ≤ L.length ∧ i = .int .i64 k ∧ Hid (((List.range (L.length - 1)).take k).findSome? (fk lap L) = none) ∧ Hid (Below w.heap.size w wr)) (fun i _ => L.length - (intOf i).toNat)
  case atStart => exact ⟨0, by omega, rfl, rfl, Below.refl _ _⟩
  case round =>
    obtain ⟨k, hk, rfl, hF, hB⟩ := hrel
    by_cases hlt : k + 1 < L.length
    · have hlt' : (k : Int) + 1 < (L.length : Int) := by omega
      have hkl : (k : Int) < (L.length : Int) := by omega
      have hk0 : (0 : Int) ≤ (k : Int) := by omega
      have hk1 : (0 : Int) ≤ (k : Int) + 1 := by omega
      obtain ⟨b, o, s, rfl, hc, hat⟩ := (HA.out.later hB.out).at (show k < L.length by omega)
      obtain ⟨t, ht⟩ : ∃ t, L[k + 1]? = some t := ⟨_, List.getElem?_eq_getElem hlt⟩
      have HAT := Lib.hid hat
      have c0 := hat k s hc
      have oks := HO.out k s hc
      have okt := HO.out (k + 1) t ht
      obtain ⟨s1, s2, _, _⟩ := okCr_facts oks
      obtain ⟨t1, t2, _, _⟩ := okCr_facts okt
      have PS := Lib.hid (cperps_spec s s1 (by omega))
      have PT := Lib.hid (cperps_spec t t1 (by omega))
      unfold PpOut at PS PT
      have NS := Lib.hid (perpsC_near oks)
      have NT := Lib.hid (perpsC_near okt)
      have lS := perpsC_length s
      have lT := perpsC_length t
      have HK : Hid (fk lap L k = (fxy lap (perpsC s) (perpsC t)).map fun p => ((k : Int), p.1, p.2)) := by show fk lap L k = _; rw [fk, wAt_eq hc, wAt_eq ht]
      have HT := Lib.hid ht
      obtain ⟨A, hA⟩ : ∃ A, perpsC s = A := ⟨_, rfl⟩
      obtain ⟨B, hBe⟩ : ∃ B, perpsC t = B := ⟨_, rfl⟩
      rw [hA] at PS NS lS HK
      rw [hBe] at PT NT lT HK
      have hlA : A.length ≤ 60 := by omega
      have hlB : B.length ≤ 60 := by omega
      clear hat hc ht oks okt hA hBe lS lT
      go_wp2_with fail
      refine (PS.out _).mono ?_
      rintro e w1 ⟨g1, p1, rfl, o1, hb1⟩
      have B1 := Lib.hid (bnext hB.out hb1)
      have O1 := Lib.hid o1
      have c1 := (HAT.out.later hb1) (k + 1) t HT.out
      clear hb1 o1 c0
      go_wp2_with fail
      refine (PT.out _).mono ?_
      rintro e w2 ⟨g2, p2, rfl, o2, hb2⟩
      have B2 := Lib.hid (bnext B1.out hb2)
      have O1 := Lib.hid (O1.out.later hb2)
      have O2 := Lib.hid o2
      clear hb2 o2 c1
      have HFK := Lib.hid hF.out
      clear hF hB
      go_wp2
      go_loopw [11] (fun u wq => ∃ i : Nat, i ≤ A.length ∧ u = .int .i64 (i : Int) ∧ Hid ((A.take i).findSome? (fun x => (fy lap x B).map fun y => (x, y)) = none) ∧ Hid (Below w2.heap.size w2 wq)) (fun u _ => A.length - (intOf u).toNat)
      case atStart => exact ⟨0, Nat.zero_le _, rfl, rfl, Below.refl _ _⟩
      case round =>
        obtain ⟨i, hi, rfl, hE, hD⟩ := hrel
        by_cases hit : i < A.length
        · have hit' : (i : Int) < (A.length : Int) := by omega
          have hi0 : (0 : Int) ≤ (i : Int) := by omega
          obtain ⟨x, hx, x0, x1⟩ := near_at NS.out hit
          have HXA := Lib.hid hx
          clear hx
          go_wp2
          go_loopw [12] (fun u wp => ∃ j : Nat, j ≤ B.length ∧ u = .int .i64 (j : Int) ∧ Hid ((B.take j).findSome? (fun y => if ((x - y).natAbs : Int) < lap then some y else none) = none) ∧ Hid (Below w2.heap.size w2 wp)) (fun u _ => B.length - (intOf u).toNat)
          case atStart => exact ⟨0, Nat.zero_le _, rfl, rfl, hD.out⟩
          case round =>
            clear hD
            obtain ⟨j, hj, rfl, hG, hD⟩ := hrel
            by_cases hjt : j < B.length
            · have hjt' : (j : Int) < (B.length : Int) := by omega
              have hj0 : (0 : Int) ≤ (j : Int) := by omega
              obtain ⟨y, hy, y0, y1⟩ := near_at NT.out hjt
              have ca := (IntOwn.later O1.out hD.out).2.1 i x HXA.out
              have cb := (IntOwn.later O2.out hD.out).2.1 j y hy
              rw [Nat.zero_add] at ca cb
              have C := Lib.hid (szQ_spec x y ⟨x0, x1⟩ ⟨y0, y1⟩)
              have hwr : IntKind.i64.wrap (x - y) = x - y := IntWalk.i64_in _ (by omega)
              have HYB := Lib.hid hy
              clear hy
              by_cases hc : ((x - y).natAbs : Int) < lap
              · have HF : Hid (fcO lap L = some ((k : Int), x, y)) := by
                  have e1 : fy lap x B = some y := some_at hG.out HYB.out (by rw [if_pos hc])
                  have e2 : fxy lap A B = some (x, y) := some_at hE.out HXA.out (by rw [e1]; rfl)
                  exact some_at HFK.out (range_at (by omega)) (by rw [HK.out, e2]; rfl)
                obtain ⟨d, hd⟩ : ∃ d : Int, ((x - y).natAbs : Int) = d := ⟨_, rfl⟩
                rw [hd] at hc C
                clear hd
                go_wp2
                go_quiet (first | (go_at_call 71; exact Calls.quiet_of_same ((C.out _).mono fun _ _ ⟨a, b⟩ => ⟨a, b.symm⟩)))
                all_goals go_wp2
                go_quiet (fail "none")
                all_goals go_wp2
                all_goals refine bodyPost_ret (v := .tuple #[.int .i64 (k : Int), .int .i64 x, .int .i64 y, .bool true]) (by simp [results, Tryd.results35, go_sem]) rfl ⟨.inl ⟨_, _, _, HF.out, rfl⟩, bnext B2.out (below_drewN (below_drewN hD.out _) _)⟩
              · have HN : Hid ((B.take (j + 1)).findSome? (fun y => if ((x - y).natAbs : Int) < lap then some y else none) = none) := none_next hG.out HYB.out (by rw [if_neg hc])
                obtain ⟨d, hd⟩ : ∃ d : Int, ((x - y).natAbs : Int) = d := ⟨_, rfl⟩
                rw [hd] at hc C
                clear hd
                go_wp2
                go_quiet (first | (go_at_call 71; exact Calls.quiet_of_same ((C.out _).mono fun _ _ ⟨a, b⟩ => ⟨a, b.symm⟩)))
                all_goals go_wp2
                all_goals
                  go_roundw
                  case rel => exact ⟨j + 1, by omega, by go_num, HN.out, below_drewN hD.out _⟩
                  case measure => simp [intOf]; omega
            · have hge : ¬ (j : Int) < (B.length : Int) := by omega
              have HN : Hid ((A.take (i + 1)).findSome? (fun x => (fy lap x B).map fun y => (x, y)) = none) := none_next hE.out HXA.out (by
                have e1 : fy lap x B = none := by
                  have := hG.out
                  rw [List.take_of_length_le (by omega)] at this
                  exact this
                rw [e1]; rfl)
              go_wp2
              go_roundw
              case rel => exact ⟨i + 1, by omega, by go_num, HN.out, hD.out⟩
              case measure => simp [intOf]; omega
        · have hge : ¬ (i : Int) < (A.length : Int) := by omega
          have HN : Hid (((List.range (L.length - 1)).take (k + 1)).findSome? (fk lap L) = none) := none_next HFK.out (range_at (by omega)) (by
            have e1 : fxy lap A B = none := by
              have := hE.out
              rw [List.take_of_length_le (by omega)] at this
              exact this
            rw [HK.out, e1]; rfl)
          go_wp2
          go_roundw
          case rel => exact ⟨k + 1, by omega, by go_num, HN.out, bnext B2.out hD.out⟩
          case measure => simp [intOf]; omega
    · have hge : ¬ (k : Int) + 1 < (L.length : Int) := by omega
      have hkn : k = L.length - 1 := by omega
      have HN : Hid (fcO lap L = none) := by
        have := hF.out
        rw [hkn, List.take_of_length_le (by simp)] at this
        exact this
      go_wp2
      refine bodyPost_ret (v := .tuple #[.int .i64 0, .int .i64 0, .int .i64 0, .bool false]) (by simp [results, Tryd.results35, go_sem]) rfl ⟨.inr ⟨HN.out, rfl⟩, hB.out⟩
/-- The code of a wall and a lap; the four answers. -/
def fcC (L : List ByteArray) (lap : Int) : Int := if okW L = true then (if inB lap 1 4 = true then 0 else 2) else 1
def fcE (L : List ByteArray) (lap : Int) : Ending := if fcC L lap = 0 then (match fcO lap L with | some (k, x, y) => .returned (.tuple #[.int .i64 k, .int .i64 x, .int .i64 y, .int .i64 0]) | none => .returned (.tuple #[.int .i64 0, .int .i64 0, .int .i64 0, .int .i64 3])) else .returned (.tuple #[.int .i64 0, .int .i64 0, .int .i64 0, .int .i64 (fcC L lap)])
set_option maxHeartbeats 1600000 in
theorem wcode_spec (L : List ByteArray) (a : Option Addr) (cap : Nat) (hl : L.length ≤ 1048576) (hs : StrLe 1048576 L) (lap : Int) (w : World) (ha : StrArg w a L) :
    Calls Tryd.prog 34 #[.slice a L.length cap, .int .i64 lap] w fun e w' => e = .returned (.int .i64 (fcC L lap)) ∧ Below w.heap.size w w' := by
  have C := Lib.hid (wall_spec L a cap hl hs w ha)
  clear ha hs
  cases h1 : okW L <;> cases h2 : inB lap 1 4
  all_goals
    rw [h1] at C
    have HC := Lib.hid (show fcC L lap = fcC L lap from rfl)
    have I : Hid (∀ wx, Calls Tryd.prog 49 #[.int .i64 lap, .int .i64 1, .int .i64 4] wx fun e w' => e = .returned (.bool (inB lap 1 4)) ∧ wx = w') := fun wx => in_any _ _ _ wx
    rw [h2] at I
    have HE : Hid (fcC L lap = (if okW L = true then (if inB lap 1 4 = true then 0 else 2) else 1)) := rfl
    rw [h1, h2] at HE
    go_enter Tryd.func34, Tryd.ntmps34
    go_wp2_with fail
    refine C.out.mono ?_
    rintro e w1 ⟨rfl, hb1⟩
    have B1 := Lib.hid hb1
    clear hb1
    go_wp2_with (go_at_call 49; refine (I.out _).mono ?_; rintro e w' ⟨rfl, rfl⟩)
    go_ret
    exact ⟨by rw [HE.out]; rfl, B1.out⟩
set_option maxHeartbeats 1600000 in
theorem firstClash_spec (L : List ByteArray) (a : Option Addr) (cap : Nat) (hl : L.length ≤ 1048576) (hs : StrLe 1048576 L) (lap : Int) (w : World) (ha : StrArg w a L) :
    Calls Tryd.prog 11 #[.slice a L.length cap, .int .i64 lap] w fun e w' => e = fcE L lap ∧ Below w.heap.size w w' := by
  have C := Lib.hid (wcode_spec L a cap hl hs lap w ha)
  have HE : Hid (fcE L lap = fcE L lap) := rfl
  by_cases h0 : fcC L lap = 0
  · have hw : okW L = true := by
      unfold fcC at h0
      split at h0
      · assumption
      · omega
    have Q := Lib.hid (fun wx hx => clash_spec L a cap hw lap wx hx)
    have HA := Lib.hid ha
    have E1 : Hid (∀ k x y : Int, fcO lap L = some (k, x, y) → fcE L lap = .returned (.tuple #[.int .i64 k, .int .i64 x, .int .i64 y, .int .i64 0])) := fun k x y h => by unfold fcE; rw [if_pos h0, h]
    have E2 : Hid (fcO lap L = none → fcE L lap = .returned (.tuple #[.int .i64 0, .int .i64 0, .int .i64 0, .int .i64 3])) := fun h => by unfold fcE; rw [if_pos h0, h]
    rw [h0] at C
    clear ha hs h0 hw
    go_enter Tryd.func11, Tryd.ntmps11
    go_wp2_with fail
    refine C.out.mono ?_
    rintro e w1 ⟨rfl, hb1⟩
    have B1 := Lib.hid hb1
    clear hb1
    go_wp2_with fail
    refine (Q.out _ (HA.out.later B1.out)).mono ?_
    rintro e w2 ⟨⟨k, x, y, hk, rfl⟩ | ⟨hk, rfl⟩, hb2⟩
    · have B2 := Lib.hid (bnext B1.out hb2)
      have HK := Lib.hid (E1.out k x y hk)
      clear hb2 hk
      go_wp2
      refine bodyPost_ret (v := .tuple #[.int .i64 k, .int .i64 x, .int .i64 y, .int .i64 0]) (by simp [results, Tryd.results11, go_sem]) rfl ⟨HK.out.symm, B2.out⟩
    · have B2 := Lib.hid (bnext B1.out hb2)
      have HK := Lib.hid (E2.out hk)
      clear hb2 hk
      go_wp2
      refine bodyPost_ret (v := .tuple #[.int .i64 0, .int .i64 0, .int .i64 0, .int .i64 3]) (by simp [results, Tryd.results11, go_sem]) rfl ⟨HK.out.symm, B2.out⟩
  · have HK : Hid (fcE L lap = .returned (.tuple #[.int .i64 0, .int .i64 0, .int .i64 0, .int .i64 (fcC L lap)])) := by show fcE L lap = _; unfold fcE; rw [if_neg h0]
    obtain ⟨c, hc⟩ : ∃ c, fcC L lap = c := ⟨_, rfl⟩
    rw [hc] at C HK h0
    clear ha hs hc
    go_enter Tryd.func11, Tryd.ntmps11
    go_wp2_with fail
    refine C.out.mono ?_
    rintro e w1 ⟨rfl, hb1⟩
    have B1 := Lib.hid hb1
    clear hb1
    go_wp2
    refine bodyPost_ret (v := .tuple #[.int .i64 0, .int .i64 0, .int .i64 0, .int .i64 c]) (by simp [results, Tryd.results11, go_sem]) rfl ⟨HK.out.symm, B1.out⟩
/-- Whether a wall is bonded, and the code. -/
def ibE (L : List ByteArray) (lap : Int) : Ending := if fcC L lap = 0 then .returned (.tuple #[.bool (fcO lap L).isNone, .int .i64 0]) else .returned (.tuple #[.bool false, .int .i64 (fcC L lap)])
set_option maxHeartbeats 1600000 in
theorem isBonded_spec (L : List ByteArray) (a : Option Addr) (cap : Nat) (hl : L.length ≤ 1048576) (hs : StrLe 1048576 L) (lap : Int) (w : World) (ha : StrArg w a L) :
    Calls Tryd.prog 15 #[.slice a L.length cap, .int .i64 lap] w fun e w' => e = ibE L lap ∧ Below w.heap.size w w' := by
  have C := Lib.hid (wcode_spec L a cap hl hs lap w ha)
  by_cases h0 : fcC L lap = 0
  · have hw : okW L = true := by
      unfold fcC at h0
      split at h0
      · assumption
      · omega
    have Q := Lib.hid (fun wx hx => clash_spec L a cap hw lap wx hx)
    have HA := Lib.hid ha
    have E1 : Hid (∀ k x y : Int, fcO lap L = some (k, x, y) → ibE L lap = .returned (.tuple #[.bool false, .int .i64 0])) := fun k x y h => by unfold ibE; rw [if_pos h0, h]; rfl
    have E2 : Hid (fcO lap L = none → ibE L lap = .returned (.tuple #[.bool true, .int .i64 0])) := fun h => by unfold ibE; rw [if_pos h0, h]; rfl
    rw [h0] at C
    clear ha hs h0 hw
    go_enter Tryd.func15, Tryd.ntmps15
    go_wp2_with fail
    refine C.out.mono ?_
    rintro e w1 ⟨rfl, hb1⟩
    have B1 := Lib.hid hb1
    clear hb1
    go_wp2_with fail
    refine (Q.out _ (HA.out.later B1.out)).mono ?_
    rintro e w2 ⟨⟨k, x, y, hk, rfl⟩ | ⟨hk, rfl⟩, hb2⟩
    · have B2 := Lib.hid (bnext B1.out hb2)
      have HK := Lib.hid (E1.out k x y hk)
      clear hb2 hk
      go_wp2
      go_ret2
      exact ⟨HK.out.symm, B2.out⟩
    · have B2 := Lib.hid (bnext B1.out hb2)
      have HK := Lib.hid (E2.out hk)
      clear hb2 hk
      go_wp2
      go_ret2
      exact ⟨HK.out.symm, B2.out⟩
  · have HK : Hid (ibE L lap = .returned (.tuple #[.bool false, .int .i64 (fcC L lap)])) := by show ibE L lap = _; unfold ibE; rw [if_neg h0]
    obtain ⟨c, hc⟩ : ∃ c, fcC L lap = c := ⟨_, rfl⟩
    rw [hc] at C HK h0
    clear ha hs hc
    go_enter Tryd.func15, Tryd.ntmps15
    go_wp2_with fail
    refine C.out.mono ?_
    rintro e w1 ⟨rfl, hb1⟩
    have B1 := Lib.hid hb1
    clear hb1
    go_wp2
    go_ret2
    exact ⟨HK.out.symm, B1.out⟩
end Go.Proofs.YtllcpgogfhjfpaaDoor
