/-
  PerpendsOf by the program.
-/
import Derived.Test.YtplggghhhgmebaaDoorPerpJ
import Derived.Test.YtplggghhhgmebaaDoorPerpU
import Derived.Test.YtplggghhhgmebaaDoorCoI
namespace Go.Proofs.YtplggghhhgmebaaDoor
open Go.ChangeShapes Go.WideShapes Go.ChangeAt Go.RowKit Go.Joins


def bCodeL (nm : ByteArray) (L : List Co) (P : List Int) (til : Int) : Int := if okBond nm L = true then (if (P.all (fun z => inB z 0 1000) && inB til 1 200) = true then 0 else 2) else 1
theorem bCodeL_one (nm : ByteArray) (L : List Co) (k til : Int) : bCodeL nm L [k] til = bCode nm L k til := by simp [bCodeL, bCode]
theorem bCodeL_two (nm : ByteArray) (L : List Co) (j k til : Int) : bCodeL nm L [j, k] til = bCode2 nm L j k til := by
  unfold bCodeL bCode2 bCode
  cases h1 : okBond nm L <;> cases h2 : inB j 0 1000 <;> cases h3 : inB k 0 1000 <;> cases h4 : inB til 1 200 <;> simp [h2, h3]
theorem bCodeL_nil (nm : ByteArray) (L : List Co) (til : Int) : bCodeL nm L [] til = bCode nm L 0 til := by simp [bCodeL, bCode, inB]

set_option maxRecDepth 100000 in
set_option maxHeartbeats 3200000 in
theorem checkBond_impl (nm : ByteArray) (L : List Co) (a : Option Addr) (cap : Nat) (hl : L.length ≤ 1048576) (hs : CosLe 1048576 L) (P : List Int) (a' : Option Addr) (cap' : Nat) (hP : P.length ≤ 100) (til : Int) (w : World) (ha : CoArg w a L) (ha' : IntArg w a' P) :
    Calls Tryd.prog 16 #[.agg #[.string nm, .slice a L.length cap], .int .i64 til, .slice a' P.length cap'] w fun e w' => e = .returned (.int .i64 (bCodeL nm L P til)) ∧ Below w.heap.size w w' := by
  have V := Lib.hid (fun wx (hx : Below w.heap.size w wx) => validBond_impl nm L a cap hl hs wx (ha.later hx))
  have HP := Lib.hid ha'
  clear ha ha'
  cases hk : okBond nm L
  · rw [hk] at V
    go_enter Tryd.func16, Tryd.ntmps16
    go_wp2_with fail
    refine (V.out _ (balloc0 _ _)).mono ?_
    rintro e w1 ⟨rfl, hb1⟩
    have B1 := Lib.hid (bnext (balloc0 _ _) hb1)
    clear hb1
    go_wp2_with fail
    go_ret
    exact ⟨ret_int (by simp [bCodeL, hk]), B1.out⟩
  rw [hk] at V
  have HK := Lib.hid hk
  clear hk
  go_enter Tryd.func16, Tryd.ntmps16
  go_wp2_with fail
  refine (V.out _ (balloc0 _ _)).mono ?_
  rintro e w1 ⟨rfl, hb1⟩
  have B1 := Lib.hid (bnext (balloc0 _ _) hb1)
  clear hb1
  go_wp2
  go_loopw [14] (fun i wr => ∃ k : Nat, k ≤ P.length ∧ i = .int .i64 k ∧ Hid ((P.take k).all (fun z => inB z 0 1000) = true) ∧ w1 = wr) (fun i _ => P.length - (intOf i).toNat)
  case atStart => exact ⟨0, Nat.zero_le _, rfl, rfl, rfl⟩
  case round =>
    obtain ⟨k, hkl, rfl, hA, hwr⟩ := hrel
    subst hwr
    by_cases hlt : k < P.length
    · have hlt' : (k : Int) < (P.length : Int) := by omega
      have hk0 : (0 : Int) ≤ (k : Int) := by omega
      obtain ⟨b, o, z, rfl, hz, hat⟩ := (HP.out.later B1.out).at hlt
      have c0 := hat k z hz
      have HT : Hid ((P.take (k + 1)).all (fun z => inB z 0 1000) = ((P.take k).all (fun z => inB z 0 1000) && inB z 0 1000)) := by
        show (P.take (k + 1)).all _ = _
        rw [List.take_add_one, hz]; simp
      have HM : Hid (z ∈ P) := List.mem_of_getElem? hz
      clear hz hat
      cases hzb : inB z 0 1000
      · go_wp2_with (go_at_call 28; refine (wa_impl _ _ _ _).mono ?_; rintro e w' ⟨rfl, rfl⟩)
        go_ret
        refine ⟨ret_int ?_, B1.out⟩
        have : P.all (fun z => inB z 0 1000) = false := by
          rw [List.all_eq_false]
          exact ⟨z, HM.out, by simp [hzb]⟩
        simp [bCodeL, HK.out, this]
      · go_wp2_with (go_at_call 28; refine (wa_impl _ _ _ _).mono ?_; rintro e w' ⟨rfl, rfl⟩)
        go_roundw
        case rel => exact ⟨k + 1, by omega, by go_num, by show _ = true; rw [HT.out, hA.out, hzb]; rfl, by first | rfl | trivial⟩
        case measure => simp [intOf]; omega
    · have hge : ¬ (k : Int) < (P.length : Int) := by omega
      have hkn : k = P.length := by omega
      subst hkn
      have hall : P.all (fun z => inB z 0 1000) = true := by have := hA.out; rwa [List.take_length] at this
      have HH := Lib.hid hall
      clear hall
      cases ht : inB til 1 200
      all_goals
        go_wp2_with (go_at_call 28; refine (wa_impl _ _ _ _).mono ?_; rintro e w' ⟨rfl, rfl⟩)
        go_ret
        exact ⟨ret_int (by simp [bCodeL, HK.out, HH.out, ht]), B1.out⟩

/-- Perpends before a place. -/
theorem before_impl {nm : ByteArray} {L : List Co} (hok : okBond nm L = true) (a : Option Addr) (cap k u : Nat) (hk : k ≤ 2000) (hu : 1 ≤ u) (hu2 : u ≤ 200) (w : World) (ha : CoArg w a L) :
    Calls Tryd.prog 30 #[.agg #[.string nm, .slice a L.length cap], .int .i64 (k : Int), .int .i64 (u : Int)] w fun e w' => ∃ a' cap', e = .returned (.slice a' (perpsV L k u).length cap') ∧ IntRes w.heap.size (perpsV L k u) a' w' ∧ Below w.heap.size w w' := by
  obtain ⟨v, rfl⟩ : ∃ v, u = v + 1 := ⟨u - 1, by omega⟩
  have ho := crs_ok hok k
  have C := Lib.hid (fun wx (hx : Below w.heap.size w wx) => pieces_impl hok a cap k v hk (by omega) wx (ha.later hx))
  have hn : ((v + 1 : Nat) : Int) = (v : Int) + 1 := by omega
  rw [hn]
  clear ha
  go_enter Tryd.func30, Tryd.ntmps30
  go_wp2_with fail
  refine (C.out _ (balloc0 _ _)).mono ?_
  rintro e w1 ⟨m, a1, cp1, hm, rfl, hr, hb1⟩
  have B1 := Lib.hid (bnext (balloc0 _ _) hb1)
  have R1 : Hid (IntRes w.heap.size (perpsV L k (v + 1)) a1 w1) := by
    show IntRes _ _ _ _
    rw [perpsV, perpM_eq ho hm]
    rcases hr with h | ⟨g, h1, h2⟩
    · exact .inl h
    · exact .inr ⟨g, h1, Nat.le_trans (by simp) h2.1, h2.2⟩
  have HL : Hid ((perpsV L k (v + 1)).length = m) := by show _ = _; rw [perpsV, perpL_length, perpM_eq ho hm]
  clear hb1 hr hm
  go_wp2_with fail
  go_ret
  exact ⟨a1, cp1, by rw [HL.out]; rfl, R1.out, B1.out⟩

theorem one_arg (wx : World) (course : Int) : IntArg (wx.alloc (.cells #[.int .i64 course] 2)) (some ⟨wx.heap.size, 0, none⟩) [course] := .inr ⟨wx.heap.size, 0, rfl, fun k z hk => by
  match k, hk with
  | 0, hk => cases hk; rw [cell_of_row _ _ _ _ _ (0, 0) (heap_alloc_new wx _)]; rfl⟩
theorem two_arg (wx : World) (x y : Int) : IntArg (wx.alloc (.cells #[.int .i64 x, .int .i64 y] 2)) (some ⟨wx.heap.size, 0, none⟩) [x, y] := .inr ⟨wx.heap.size, 0, rfl, fun k z hk => by
  match k, hk with
  | 0, hk => cases hk; rw [cell_of_row _ _ _ _ _ (0, 0) (heap_alloc_new wx _)]; rfl
  | 1, hk => cases hk; rw [cell_of_row _ _ _ _ _ (0, 0) (heap_alloc_new wx _)]; rfl⟩
end Go.Proofs.YtplggghhhgmebaaDoor
