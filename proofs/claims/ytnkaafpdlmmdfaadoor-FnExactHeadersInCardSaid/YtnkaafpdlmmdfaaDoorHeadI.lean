/-
  HeadersIn: the model's and the program's answer.
-/
import Derived.Test.YtnkaafpdlmmdfaaDoorPerpK
namespace Go.Proofs.YtnkaafpdlmmdfaaDoor
open Go.ChangeShapes Go.WideShapes Go.ChangeAt Go.RowKit Go.Joins

theorem count_heads (c : Co) (m : Nat) : Lib.countByte (pieceL c m) 72 = headsN c m := pieceL_count c m
theorem headV_eq {nm : ByteArray} {L : List Co} {k u m : Nat} (hc : bCode nm L (k : Int) (u : Int) = 0) (hm : PerpIs (crs L k) (u + 1) m) : headV nm L (k : Int) (u : Int) = (headsN (crs L k) m : Int) := by
  obtain ⟨hok, _, _⟩ := bCode_facts hc
  unfold headV
  rw [if_pos hc]
  simp only [Int.toNat_natCast]
  rw [perpM_eq (crs_ok hok k) hm]

set_option maxRecDepth 100000 in
set_option maxHeartbeats 1600000 in
theorem headersIn_impl (nm : ByteArray) (L : List Co) (a : Option Addr) (cap : Nat) (hl : L.length ≤ 1048576) (hs : CosLe 1048576 L) (course til : Int) (w : World) (ha : CoArg w a L) :
    Calls Tryd.prog 30 #[.agg #[.string nm, .slice a L.length cap], .int .i64 course, .int .i64 til] w fun e w' => e = .returned (.tuple #[.int .i64 (headV nm L course til), .int .i64 (bCode nm L course til)]) ∧ Below w.heap.size w w' := by
  obtain ⟨d0, d1⟩ := box2 w nm (.slice a L.length cap) 29
  obtain ⟨W0, hW⟩ : ∃ W0, w.alloc (.cells #[.string nm, .slice a L.length cap] 29) = W0 := ⟨_, rfl⟩
  have E0 : Hid (Below w.heap.size w W0) := by show Below w.heap.size w W0; rw [← hW]; exact balloc0 _ _
  rw [hW] at d0 d1
  have K : Hid (∀ wx, Below W0.heap.size W0 wx → wx.cell? ⟨w.heap.size, 0, none⟩ = some (.string nm) ∧ wx.cell? ⟨w.heap.size, 1, none⟩ = some (.slice a L.length cap)) := fun wx hx =>
    ⟨(hx.cell (p := ⟨w.heap.size, 0, none⟩) (World.block_lt_of_cell? W0 _ d0)).trans d0, (hx.cell (p := ⟨w.heap.size, 1, none⟩) (World.block_lt_of_cell? W0 _ d1)).trans d1⟩
  have HW := Lib.hid hW
  have HA := Lib.hid (ha.later E0.out)
  have Z0 : W0.heap.size = w.heap.size + 1 := by rw [← hW]; simp
  have iarg := one_arg W0 course
  rw [Z0] at iarg
  have C : Hid (Calls Tryd.prog 60 #[.agg #[.string nm, .slice a L.length cap], .int .i64 til, .slice (some ⟨w.heap.size + 1, 0, none⟩) 1 1] (W0.alloc (.cells #[.int .i64 course] 2)) fun e w' => e = .returned (.int .i64 (bCodeL nm L [course] til)) ∧ Below (W0.alloc (.cells #[.int .i64 course] 2)).heap.size (W0.alloc (.cells #[.int .i64 course] 2)) w') :=
    checkBond_impl nm L a cap hl hs [course] (some ⟨w.heap.size + 1, 0, none⟩) 1 (by simp) til _ (HA.out.later (balloc0 _ _)) iarg
  rw [bCodeL_one] at C
  by_cases hc : bCode nm L course til = 0
  case neg =>
    obtain ⟨q, hq⟩ : ∃ q, bCode nm L course til = q := ⟨_, rfl⟩
    have HP : Hid (headV nm L course til = 0) := by show headV nm L course til = 0; simp [headV, hc]
    rw [hq] at C hc
    rw [HP.out, hq]
    clear hW hq ha iarg d0 d1 Z0
    go_enter Tryd.func30, Tryd.ntmps30
    go_wp2_with fail
    rw [HW.out]
    refine C.out.mono ?_
    rintro e w1 ⟨rfl, hb1⟩
    have B1 := Lib.hid (bnext E0.out (bnext (balloc0 _ _) hb1))
    clear hb1
    go_wp2_with fail
    go_ret2
    exact ⟨rfl, B1.out⟩
  obtain ⟨hok, ⟨k0, k1⟩, u0, u1⟩ := bCode_facts hc
  obtain ⟨k, rfl⟩ := Int.eq_ofNat_of_zero_le k0
  obtain ⟨u, rfl⟩ := Int.eq_ofNat_of_zero_le (show 0 ≤ til by omega)
  have P1 := Lib.hid (fun wx (hx : Below W0.heap.size W0 wx) => pieces_impl hok a cap k u (by omega) (by omega) wx (HA.out.later hx))
  have HV := Lib.hid (fun m (hm : PerpIs (crs L k) (u + 1) m) => headV_eq hc hm)
  rw [hc] at C ⊢
  obtain ⟨V, hVe⟩ : ∃ V, headV nm L (k : Int) (u : Int) = V := ⟨_, rfl⟩
  rw [hVe] at HV ⊢
  clear hW ha iarg d0 d1 hc Z0 hVe
  go_enter Tryd.func30, Tryd.ntmps30
  go_wp2_with fail
  rw [HW.out]
  refine C.out.mono ?_
  rintro e w1 ⟨rfl, hb1⟩
  have B1 := Lib.hid (bnext (balloc0 _ _) hb1)
  clear hb1
  obtain ⟨c0, c1⟩ := K.out _ B1.out
  go_wp2_with fail
  refine (P1.out _ B1.out).mono ?_
  rintro e w2 ⟨m, a2, cp, hm, rfl, _, hb2⟩
  have B2 := Lib.hid (bnext B1.out hb2)
  have HE : Hid (V = (headsN (crs L k) m : Int)) := HV.out m hm
  have CT := Lib.hid (fun wx => Tryd.strings_Count_one ⟨(pieceL (crs L k) m).toArray⟩ 72 wx)
  have hcount : Lib.countByte (⟨(pieceL (crs L k) m).toArray⟩ : ByteArray).data.toList 72 = headsN (crs L k) m := count_heads (crs L k) m
  rw [hcount] at CT
  have hle : headsN (crs L k) m ≤ m := headsN_le _ m
  have hml := perp_le (crs_ok hok k) hm
  obtain ⟨T, hT⟩ : ∃ T : ByteArray, ⟨(pieceL (crs L k) m).toArray⟩ = T := ⟨_, rfl⟩
  obtain ⟨N, hN⟩ : ∃ N, headsN (crs L k) m = N := ⟨_, rfl⟩
  rw [hT, hN] at CT
  rw [hN] at HE
  rw [hT]
  have hN2 : N ≤ 300 := by omega
  clear hb2 c0 c1 hm hcount hle hml hT hN
  go_wp2_with fail
  refine (CT.out _).mono ?_
  rintro e w3 ⟨rfl, rfl⟩
  go_wp2_with fail
  go_ret2
  exact ⟨by rw [HE.out]; rfl, bnext E0.out B2.out⟩
end Go.Proofs.YtnkaafpdlmmdfaaDoor
