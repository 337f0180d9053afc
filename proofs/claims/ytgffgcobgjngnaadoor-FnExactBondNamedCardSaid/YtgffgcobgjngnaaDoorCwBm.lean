/-
  The walk of the law on BondNamed.
-/
import Derived.Test.YtgffgcobgjngnaaDoorBmS
namespace Go.Proofs.YtgffgcobgjngnaaDoor
open Go.ChangeShapes Go.WideShapes Go.ChangeAt Go.RowKit Go.Joins

set_option maxRecDepth 100000 in
set_option maxHeartbeats 6400000 in
theorem walk_FnExactBondNamed (s : ByteArray) (_hs : s.size ≤ maxLen) (w : World) (hlib : LibAt w) (m : Int) (hm : w.cell? ⟨2, 0, none⟩ = some (.int .i64 m)) : Calls Tryd.prog 3 #[.string s] w fun e w' => e = .returned (.bool true) ∧ Below w.heap.size w w' := by
  by_cases hl : (1048576 : Int) < (s.size : Int)
  · clear hm hlib
    go_enter Tryd.func3, Tryd.ntmps3
    go_wp2_with fail
    go_ret
    exact ⟨rfl, Below.refl _ _⟩
  have S := Lib.hid (bn_spec s (by omega) w)
  have I : Hid (∀ wx, Below w.heap.size w wx → Calls Tryd.prog 10 #[.string s] wx (BnOut s wx)) := fun wx h => bn_impl s (by omega) wx (hlib.later h) m ((h.cell (p := ⟨2, 0, none⟩) (World.block_lt_of_cell? w _ hm)).trans hm)
  have hL := bnL_length s
  unfold BnOut at S I
  obtain ⟨N, hN⟩ : ∃ N, bnN s = N := ⟨_, rfl⟩
  obtain ⟨L, hLL⟩ : ∃ L, bnL s = L := ⟨_, rfl⟩
  obtain ⟨b, hb⟩ : ∃ b, bnC s = b := ⟨_, rfl⟩
  rw [hN, hLL, hb] at S I
  rw [hLL] at hL
  have HL := Lib.hid hL
  clear hm hlib hN hLL hb hL
  go_enter Tryd.func3, Tryd.ntmps3
  go_wp2_with fail
  refine S.out.mono ?_
  rintro e w1 ⟨cv, rfl, o1, hb1⟩
  obtain ⟨a1, c1, hv⟩ := own_slice o1
  subst hv
  obtain ⟨n, hn⟩ : ∃ n, L.length = n := ⟨_, rfl⟩
  rw [hn] at o1
  rw [hn]
  have B1 := Lib.hid hb1
  have A1 := Lib.hid (balloc hb1 (.cells #[.string N, .slice a1 n c1] 24))
  have G1 := heap_alloc_new w1 (.cells #[.string N, .slice a1 n c1] 24)
  have O1 := Lib.hid (own_later2 o1 (balloc0 w1 (.cells #[.string N, .slice a1 n c1] 24)))
  clear hb1 o1
  go_wp2_with fail
  obtain ⟨W1, hW⟩ : ∃ W1, w1.alloc (.cells #[.string N, .slice a1 n c1] 24) = W1 := ⟨_, rfl⟩
  rw [hW] at A1 G1 O1 ⊢
  clear hW
  have hlt1 : w1.heap.size < W1.heap.size := (Array.getElem?_eq_some_iff.1 G1).1
  refine (I.out _ A1.out).mono ?_
  rintro e w2 ⟨cv, rfl, o2, hb2⟩
  obtain ⟨a2, c2, hv⟩ := own_slice o2
  subst hv
  rw [hn] at o2
  rw [hn]
  have B2 := Lib.hid (bnext A1.out hb2)
  have P1 := (hb2.block _ hlt1).trans G1
  have Q1 := Lib.hid (own_later2 O1.out hb2)
  have O2 := Lib.hid o2
  have s2 := hb2.size
  have hltb : w1.heap.size < w2.heap.size := by omega
  have P2 : (w2.alloc (.cells #[.string N, .slice a2 n c2] 24)).heap[w1.heap.size]? = some (.cells #[.string N, .slice a1 n c1] 24 (0, 0)) := by rw [Below.heap_alloc _ _ _ hltb]; exact P1
  have R2 := heap_alloc_new w2 (.cells #[.string N, .slice a2 n c2] 24)
  have A2 := Lib.hid (balloc B2.out (.cells #[.string N, .slice a2 n c2] 24))
  have Q2 := Lib.hid (own_later2 Q1.out (balloc0 w2 (.cells #[.string N, .slice a2 n c2] 24)))
  have X2 := Lib.hid (own_later2 O2.out (balloc0 w2 (.cells #[.string N, .slice a2 n c2] 24)))
  obtain ⟨W2, hW⟩ : ∃ W2, w2.alloc (.cells #[.string N, .slice a2 n c2] 24) = W2 := ⟨_, rfl⟩
  have hs2 : W2.heap.size = w2.heap.size + 1 := by rw [← hW]; simp
  rw [hW] at P2 R2 A2 Q2 X2
  have HW2 := Lib.hid hW
  have PB := Lib.hid P2
  have RB := Lib.hid R2
  have j0 : W2.cell? ⟨w1.heap.size, 0, none⟩ = some (.string N) := by rw [cell_of_row _ _ _ _ _ (0, 0) P2]; rfl
  have j1 : W2.cell? ⟨w1.heap.size, 1, none⟩ = some (.slice a1 n c1) := by rw [cell_of_row _ _ _ _ _ (0, 0) P2]; rfl
  have k0 : W2.cell? ⟨w2.heap.size, 0, none⟩ = some (.string N) := by rw [cell_of_row _ _ _ _ _ (0, 0) R2]; rfl
  have k1 : W2.cell? ⟨w2.heap.size, 1, none⟩ = some (.slice a2 n c2) := by rw [cell_of_row _ _ _ _ _ (0, 0) R2]; rfl
  have H12 : Hid (W1.heap.size ≤ w2.heap.size) := s2
  clear hb2 o2 G1 P1 P2 R2 hW s2
  have HN := Lib.hid hn
  have E1 : Hid (CoArg W2 a1 L ∧ CoArg W2 a2 L) := by
    refine ⟨?_, ?_⟩
    · rcases own_co (L := L) (by rw [hn]; exact Q2.out) with h | ⟨g, h1, h2⟩
      · exact .inl h
      · rw [h1]; exact h2.arg
    · rcases own_co (L := L) (by rw [hn]; exact X2.out) with h | ⟨g, h1, h2⟩
      · exact .inl h
      · rw [h1]; exact h2.arg
  have EQ : Hid (Calls Tryd.prog 11 #[.agg #[.string N, .slice a2 n c2], .agg #[.string N, .slice a1 n c1]] W2 fun e w' => e = .returned (.bool true) ∧ Below W2.heap.size W2 w') := by
    have h := eq_bond N L a2 a1 c2 c1 HL.out W2 E1.out.2 E1.out.1
    rw [hn] at h
    exact h
  clear hn
  have OW : Hid (L = [] ∨ ∃ g, a2 = some ⟨g, 0, none⟩ ∧ CoOwn W1.heap.size L g w2) := own_co (L := L) (by rw [HN.out]; exact O2.out)
  have OA : Hid (L = [] ∨ ∃ g, a1 = some ⟨g, 0, none⟩ ∧ CoOwn w.heap.size L g W1) := own_co (L := L) (by rw [HN.out]; exact O1.out)
  have HK : Hid (Below w2.heap.size w2 W2) := by show Below w2.heap.size w2 W2; rw [← HW2.out]; exact balloc0 _ _
  go_wp2_with (rw [HW2.out])
  refine EQ.out.mono ?_
  rintro e w3 ⟨rfl, hb3⟩
  have B3 := Lib.hid (bnext A2.out hb3)
  have s3 := hb3.size
  have P3 := (hb3.block _ (Array.getElem?_eq_some_iff.1 PB.out).1).trans PB.out
  have R3 := (hb3.block _ (Array.getElem?_eq_some_iff.1 RB.out).1).trans RB.out
  have MK := mark_any N L a2 c2 W1.heap.size w2.heap.size w3 HL.out H12.out (by omega) (by
    rcases OW.out with h | ⟨g, h1, h2⟩
    · exact .inl h
    · exact .inr ⟨g, h1, h2.1, h2.2.2.2, ((h2.later HK.out).later hb3).2.2.1⟩)
  have CA : Hid (L = [] ∨ ∃ g, a1 = some ⟨g, 0, none⟩ ∧ g < W1.heap.size ∧ CoAt w3 g 0 L) := by
    rcases OA.out with h | ⟨g, h1, h2⟩
    · exact .inl h
    · refine .inr ⟨g, h1, h2.2.2.2, ?_⟩
      have hq := own_co (L := L) (w := W2) (by rw [HN.out]; exact Q2.out)
      rcases hq with h | ⟨g', h1', h2'⟩
      · subst h; intro k c hk; simp at hk
      · rw [h1] at h1'; cases h1'; exact (h2'.later hb3).2.1
  rw [HN.out] at MK
  obtain ⟨z, hz⟩ : ∃ z : Int, ((1 + 2 * n : Nat) : Int) = z := ⟨_, rfl⟩
  have hz0 : ¬ z < 0 := by omega
  rw [hz] at MK
  have MKH := Lib.hid MK
  have P3H := Lib.hid P3
  have R3H := Lib.hid R3
  have l1 : Hid (w1.heap.size < w3.heap.size) := (Array.getElem?_eq_some_iff.1 P3).1
  have l2 : Hid (w2.heap.size < w3.heap.size) := (Array.getElem?_eq_some_iff.1 R3).1
  clear j0 j1 k0 k1
  have k0 : w3.cell? ⟨w2.heap.size, 0, none⟩ = some (.string N) := by rw [cell_of_row _ _ _ _ _ (0, 0) R3]; rfl
  have k1 : w3.cell? ⟨w2.heap.size, 1, none⟩ = some (.slice a2 n c2) := by rw [cell_of_row _ _ _ _ _ (0, 0) R3]; rfl
  clear hb3 P3 R3 MK hz s3
  go_wp2_with fail
  refine MKH.out.mono ?_
  rintro e w4 ⟨rfl, hb4, hkeep, hheld⟩
  have B4 : Hid (Below w.heap.size w w4) := B3.out.trans (hb4.mono A1.out.size)
  have HH := Lib.hid hheld
  have CA4 : Hid (CoArg w4 a1 L) := by
    rcases CA.out with h | ⟨g, h1, h2, h3⟩
    · exact .inl h
    · refine .inr ⟨g, 0, h1, h3.carry (fun p hp => ?_)⟩
      by_cases hlt : g < w3.heap.size
      · exact hkeep g p (.inl h2) hlt
      · exact absurd (World.block_lt_of_cell? w3 _ (Option.ne_none_iff_exists'.1 hp).choose_spec) hlt
  have j0 : w4.cell? ⟨w1.heap.size, 0, none⟩ = some (.string N) := by rw [hkeep _ _ (.inl hlt1) l1.out, cell_of_row _ _ _ _ _ (0, 0) P3H.out]; rfl
  have j1 : w4.cell? ⟨w1.heap.size, 1, none⟩ = some (.slice a1 n c1) := by rw [hkeep _ _ (.inl hlt1) l1.out, cell_of_row _ _ _ _ _ (0, 0) P3H.out]; rfl
  have q0 : w4.cell? ⟨w2.heap.size, 0, none⟩ = some (.string N) := by rw [hkeep _ _ (.inr (Nat.le_refl _)) l2.out]; exact k0
  have q1 : w4.cell? ⟨w2.heap.size, 1, none⟩ = some (.slice a2 n c2) := by rw [hkeep _ _ (.inr (Nat.le_refl _)) l2.out]; exact k1
  have K : Hid (∀ wx, Below w4.heap.size w4 wx → (wx.cell? ⟨w1.heap.size, 0, none⟩ = some (.string N) ∧ wx.cell? ⟨w1.heap.size, 1, none⟩ = some (.slice a1 n c1)) ∧ wx.cell? ⟨w2.heap.size, 0, none⟩ = some (.string N) ∧ wx.cell? ⟨w2.heap.size, 1, none⟩ = some (.slice a2 n c2)) := fun wx hx =>
    ⟨⟨(hx.cell (p := ⟨w1.heap.size, 0, none⟩) (World.block_lt_of_cell? w4 _ j0)).trans j0, (hx.cell (p := ⟨w1.heap.size, 1, none⟩) (World.block_lt_of_cell? w4 _ j1)).trans j1⟩, (hx.cell (p := ⟨w2.heap.size, 0, none⟩) (World.block_lt_of_cell? w4 _ q0)).trans q0, (hx.cell (p := ⟨w2.heap.size, 1, none⟩) (World.block_lt_of_cell? w4 _ q1)).trans q1⟩
  clear hb4 hkeep hheld k0 k1 j0 j1 MKH
  go_wp2_with fail
  refine (HH.out w4 (Below.refl _ _)).mono ?_
  rintro e w5 ⟨rfl, hb5⟩
  have B5 := Lib.hid (bnext B4.out hb5)
  have C5 := Lib.hid hb5
  clear hb5 q0 q1
  go_wp2_with fail
  refine (I.out _ B5.out).mono ?_
  rintro e w6 ⟨cv, rfl, o6, hb6⟩
  obtain ⟨a3, c3, hv⟩ := own_slice o6
  subst hv
  rw [HN.out] at o6
  rw [HN.out]
  have B6 := Lib.hid (balloc (bnext B5.out hb6) (.cells #[.string N, .slice a3 n c3] 24))
  have C6 := Lib.hid (balloc (bnext C5.out hb6) (.cells #[.string N, .slice a3 n c3] 24))
  have R6 := heap_alloc_new w6 (.cells #[.string N, .slice a3 n c3] 24)
  have O6 := own_later2 o6 (balloc0 w6 (.cells #[.string N, .slice a3 n c3] 24))
  obtain ⟨W6, hW⟩ : ∃ W6, w6.alloc (.cells #[.string N, .slice a3 n c3] 24) = W6 := ⟨_, rfl⟩
  rw [hW] at B6 C6 R6 O6
  have HW6 := Lib.hid hW
  obtain ⟨⟨j0, j1⟩, q0, q1⟩ := K.out _ C6.out
  have k0 : W6.cell? ⟨w6.heap.size, 0, none⟩ = some (.string N) := by rw [cell_of_row _ _ _ _ _ (0, 0) R6]; rfl
  have k1 : W6.cell? ⟨w6.heap.size, 1, none⟩ = some (.slice a3 n c3) := by rw [cell_of_row _ _ _ _ _ (0, 0) R6]; rfl
  have EQ2 : Hid (Calls Tryd.prog 11 #[.agg #[.string N, .slice a3 n c3], .agg #[.string N, .slice a1 n c1]] W6 fun e w' => e = .returned (.bool true) ∧ Below W6.heap.size W6 w') := by
    have h3 : CoArg W6 a3 L := by
      rcases own_co (L := L) (by rw [HN.out]; exact O6) with h | ⟨g, h1, h2⟩
      · exact .inl h
      · rw [h1]; exact h2.arg
    have h := eq_bond N L a3 a1 c3 c1 HL.out W6 h3 (CA4.out.later C6.out)
    rw [HN.out] at h
    exact h
  clear hb6 o6 O6 R6 hW
  go_wp2_with (rw [HW6.out])
  refine EQ2.out.mono ?_
  rintro e w7 ⟨rfl, hb7⟩
  have B7 := Lib.hid (bnext B6.out hb7)
  have C7 := Lib.hid (bnext C6.out hb7)
  clear hb7 j0 j1 q0 q1 k0 k1
  obtain ⟨⟨j0, j1⟩, q0, q1⟩ := K.out _ C7.out
  go_wp2_with fail
  refine (HH.out w7 C7.out).mono ?_
  rintro e w8 ⟨rfl, hb8⟩
  have B8 := Lib.hid (bnext B7.out hb8)
  clear hb8 j0 j1 q0 q1
  go_wp2
  go_ret
  exact ⟨rfl, B8.out⟩
end Go.Proofs.YtgffgcobgjngnaaDoor
