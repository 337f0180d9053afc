/-
  LayCourse by the program.
-/
import Derived.Test.YtbhjdhkabhafmaaDoorWaLc
import Derived.Test.YtbhjdhkabhafmaaDoorWaI
import Derived.Test.YtbhjdhkabhafmaaDoorPerpJ
import Derived.Test.YtbhjdhkabhafmaaDoorPerpK
import Derived.Test.YtbhjdhkabhafmaaDoorCoL
namespace Go.Proofs.YtbhjdhkabhafmaaDoor
open Go.ChangeShapes Go.WideShapes Go.ChangeAt Go.RowKit Go.Joins

/-- What fills up a course, as a text. -/
def filB (k : Nat) : ByteArray := ⟨(fillL k).toArray⟩
def FilAt (w : World) : Prop := ∀ k, k < 4 → w.cell? ⟨0, k, none⟩ = some (.string (filB k))
theorem FilAt.later {w w' : World} (h : FilAt w) (hb : Below w.heap.size w w') : FilAt w' := fun k hk => (hb.cell (World.block_lt_of_cell? w _ (h k hk))).trans (h k hk)
theorem filB_size (k : Nat) : (filB k).size ≤ 1 := by have := fillL_length k; simpa [filB, ByteArray.size] using this
theorem lay_split {c : Co} (h : c.ok = true) {u m : Nat} (hm : PerpIs c (u + 1) m) : (⟨(pieceL c m).toArray⟩ : ByteArray) ++ filB (u - ends c m) = ⟨(layL c u).toArray⟩ := by
  apply ByteArray.ext
  rw [layL, lay_eq h hm]
  simp [filB]
theorem lay_split_size {c : Co} (h : c.ok = true) {u m : Nat} (hm : PerpIs c (u + 1) m) : m + (filB (u - ends c m)).size = (layL c u).length := by
  rw [layL, lay_eq h hm, List.length_append, pieceL_length]
  simp [filB, ByteArray.size]
set_option maxRecDepth 100000 in
set_option maxHeartbeats 3200000 in
theorem layCourse_impl (nm : ByteArray) (L : List Co) (a : Option Addr) (cap : Nat) (hl : L.length ≤ 1048576) (hs : CosLe 1048576 L) (course til : Int) (w : World) (ha : CoArg w a L) (hfa : FilAt w) :
    Calls Tryd.prog 31 #[.agg #[.string nm, .slice a L.length cap], .int .i64 course, .int .i64 til] w fun e w' => e = .returned (.tuple #[.string (lyB nm L course til), .int .i64 (lyC nm L course til)]) ∧ Below w.heap.size w w' := by
  obtain ⟨d0, d1⟩ := boxB w nm (.slice a L.length cap) 39
  obtain ⟨W0, hW⟩ : ∃ W0, w.alloc (.cells #[.string nm, .slice a L.length cap] 39) = W0 := ⟨_, rfl⟩
  have E0 : Hid (Below w.heap.size w W0) := by show Below w.heap.size w W0; rw [← hW]; exact balloc0 _ _
  rw [hW] at d0 d1
  have K : Hid (∀ wx, Below W0.heap.size W0 wx → wx.cell? ⟨w.heap.size, 0, none⟩ = some (.string nm) ∧ wx.cell? ⟨w.heap.size, 1, none⟩ = some (.slice a L.length cap)) := fun wx hx =>
    ⟨(hx.cell (p := ⟨w.heap.size, 0, none⟩) (World.block_lt_of_cell? W0 _ d0)).trans d0, (hx.cell (p := ⟨w.heap.size, 1, none⟩) (World.block_lt_of_cell? W0 _ d1)).trans d1⟩
  have HW := Lib.hid hW
  have HA := Lib.hid (ha.later E0.out)
  have HFA := Lib.hid (hfa.later E0.out)
  have Z0 : W0.heap.size = w.heap.size + 1 := by rw [← hW]; simp
  have iarg := one_arg W0 course
  rw [Z0] at iarg
  have C : Hid (Calls Tryd.prog 67 #[.agg #[.string nm, .slice a L.length cap], .int .i64 til, .slice (some ⟨w.heap.size + 1, 0, none⟩) 1 1] (W0.alloc (.cells #[.int .i64 course] 2)) fun e w' => e = .returned (.int .i64 (bCodeL nm L [course] til)) ∧ Below (W0.alloc (.cells #[.int .i64 course] 2)).heap.size (W0.alloc (.cells #[.int .i64 course] 2)) w') :=
    checkBond_impl nm L a cap hl hs [course] (some ⟨w.heap.size + 1, 0, none⟩) 1 (by simp) til _ (HA.out.later (balloc0 _ _)) iarg
  rw [bCodeL_one] at C
  by_cases hc : bCode nm L course til = 0
  case neg =>
    obtain ⟨e1, e2⟩ := ly_bad hc
    rw [e1, e2]
    obtain ⟨q, hq⟩ : ∃ q, bCode nm L course til = q := ⟨_, rfl⟩
    rw [hq] at C hc ⊢
    clear hW hq ha iarg d0 d1 Z0 e1 e2 hfa
    go_enter Tryd.func31, Tryd.ntmps31
    go_wp2_with fail
    rw [HW.out]
    refine C.out.mono ?_
    rintro e w1 ⟨rfl, hb1⟩
    have B1 := Lib.hid (bnext E0.out (bnext (balloc0 _ _) hb1))
    clear hb1
    go_wp2_with fail
    go_ret2
    exact ⟨rfl, B1.out⟩
  obtain ⟨hok, ⟨k0, k1⟩, u0, u1⟩ := bCode_facts hc
  have HC := Lib.hid hc
  rw [hc] at C
  obtain ⟨k, rfl⟩ := Int.eq_ofNat_of_zero_le k0
  obtain ⟨u, rfl⟩ := Int.eq_ofNat_of_zero_le (show 0 ≤ til by omega)
  have P := Lib.hid (fun wx (hx : Below W0.heap.size W0 wx) => pieces_impl hok a cap k u (by omega) (by omega) wx (HA.out.later hx))
  have HO := Lib.hid (crs_ok hok k)
  have HVN : Hid (lyL L (k : Int) (u : Int) = layL (crs L k) u) := lyL_nat L k u
  obtain ⟨c, hce⟩ : ∃ c, crs L k = c := ⟨_, rfl⟩
  rw [hce] at P HO HVN
  have iarg0 := Lib.hid iarg
  clear hW ha iarg d0 hce hfa
  go_enter Tryd.func31, Tryd.ntmps31
  go_wp2_with fail
  rw [HW.out]
  refine C.out.mono ?_
  rintro e w1 ⟨rfl, hb1⟩
  have B1 := Lib.hid (bnext (balloc0 _ _) hb1)
  clear hb1
  obtain ⟨y0, y1⟩ := K.out _ B1.out
  go_wp2_with fail
  refine (P.out _ B1.out).mono ?_
  rintro e w2 ⟨m, a2, cp2, hm, rfl, _, hb2⟩
  have B2 := Lib.hid (bnext B1.out hb2)
  have hml := perp_le HO.out hm
  have HLS := Lib.hid (lay_split HO.out hm)
  have hlsz := lay_split_size HO.out hm
  have hleft := lay_left HO.out hm
  have Q := Lib.hid (len_impl ⟨(pieceL c m).toArray⟩ (by have := pieceL_length c m; simp [ByteArray.size]; omega))
  rw [show qall ⟨(pieceL c m).toArray⟩ = ends c m by rw [qall]; exact qsum_pieceL c m] at Q
  have hwsz : (⟨(pieceL c m).toArray⟩ : ByteArray).size = m := by have := pieceL_length c m; simpa [ByteArray.size] using this
  obtain ⟨WB, hWB⟩ : ∃ WB : ByteArray, (⟨(pieceL c m).toArray⟩ : ByteArray) = WB := ⟨_, rfl⟩
  obtain ⟨E, hE⟩ : ∃ E, ends c m = E := ⟨_, rfl⟩
  rw [hWB] at HLS Q hwsz ⊢
  rw [hE] at HLS Q hlsz hleft
  obtain ⟨f, hf⟩ : ∃ f, u - E = f := ⟨_, rfl⟩
  rw [hf] at HLS hlsz hleft
  have hfe : (u : Int) - (E : Int) = (f : Int) := by omega
  have hf0 : (0 : Int) ≤ (f : Int) := by omega
  have hf4 : (f : Int) < 4 := by omega
  have HF := Lib.hid (fun wx (hx : Below W0.heap.size W0 wx) => (HFA.out.later hx) f (by omega))
  have hfs := filB_size f
  obtain ⟨FB, hFB⟩ : ∃ FB, filB f = FB := ⟨_, rfl⟩
  rw [hFB] at HLS hlsz HF hfs
  clear hb2 hm hWB hE hf hFB y0 y1
  go_wp2_with fail
  refine (Q.out _).mono ?_
  rintro e w3 ⟨rfl, hb3⟩
  have B3 := Lib.hid (bnext B2.out hb3)
  clear hb3
  have cf := HF.out _ B3.out
  have hadd : ¬ (9223372036854775807 : Int) < (WB.size : Int) + (FB.size : Int) := by omega
  have hadd2 : ¬ 9223372036854775807 < WB.size + FB.size := by omega
  by_cases h60 : (layL c u).length ≤ 60
  · obtain ⟨e1, e2⟩ := ly_good HC.out (by rw [HVN.out]; exact h60)
    have E1 := Lib.hid e1
    have E2 : Hid (lyB nm L (k : Int) (u : Int) = WB ++ FB) := by show _ = _; rw [e2, HVN.out, ← HLS.out]
    have hle : ¬ (60 : Int) < (WB.size : Int) + (FB.size : Int) := by omega
    clear e1 e2 h60 hlsz
    go_wp2_with fail
    go_ret2
    exact ⟨by rw [E1.out, E2.out]; rfl, E0.out.trans (B3.out.mono E0.out.size)⟩
  · obtain ⟨e1, e2⟩ := ly_full HC.out (by rw [HVN.out]; exact h60)
    have E1 := Lib.hid e1
    have E2 := Lib.hid e2
    have hle : (60 : Int) < (WB.size : Int) + (FB.size : Int) := by omega
    clear e1 e2 h60 hlsz
    go_wp2_with fail
    go_ret2
    exact ⟨by rw [E1.out, E2.out]; rfl, E0.out.trans (B3.out.mono E0.out.size)⟩
end Go.Proofs.YtbhjdhkabhafmaaDoor
