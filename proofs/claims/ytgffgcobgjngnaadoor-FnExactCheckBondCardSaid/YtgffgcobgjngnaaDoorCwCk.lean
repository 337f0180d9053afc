/-
  The walk of the law on CheckBond.
-/
import Derived.Test.YtgffgcobgjngnaaDoorCwRb
import Derived.Test.YtgffgcobgjngnaaDoorPrL
namespace Go.Proofs.YtgffgcobgjngnaaDoor
open Go.ChangeShapes Go.WideShapes Go.ChangeAt Go.RowKit Go.Joins

theorem ckP_length (s : ByteArray) (hs : s.size ≤ 1048576) : (ckP s).length ≤ 1048577 := by
  unfold ckP
  split
  · simp
  · have h1 := probsTo_length (wordsB s) (wordsB s).length
    have h2 := (words_length s).2
    unfold chkP
    omega
/-- A row of problems of the call's own, between B and B2, which may be written. -/
def PrOwn (B B2 : Nat) (P : List (Int × Int)) (p : Option Addr) (w : World) : Prop := P = [] ∨ ∃ g, p = some ⟨g, 0, none⟩ ∧ B ≤ g ∧ g < B2 ∧ w.there g 0 (P.length * 2)
theorem PrOwn.later {B B2 : Nat} {P : List (Int × Int)} {p : Option Addr} {w w' : World} (h : PrOwn B B2 P p w) (hb : Below w.heap.size w w') : PrOwn B B2 P p w' := by
  rcases h with h | ⟨g, h1, h2, h3, h4⟩
  · exact .inl h
  · exact .inr ⟨g, h1, h2, h3, there_below h4 hb⟩
/-- What a mark leaves: of old blocks only those from B up to B2 may have changed. -/
def KeepB (B B2 : Nat) (w w' : World) : Prop := Below B w w' ∧ ∀ b o, b < B ∨ B2 ≤ b → b < w.heap.size → w'.cell? ⟨b, o, none⟩ = w.cell? ⟨b, o, none⟩
theorem KeepB.trans {B B2 : Nat} {w w1 w2 : World} (h : KeepB B B2 w w1) (k : KeepB B B2 w1 w2) : KeepB B B2 w w2 :=
  ⟨h.1.trans k.1, fun b o hb hlt => (k.2 b o hb (Nat.lt_of_lt_of_le hlt h.1.size)).trans (h.2 b o hb hlt)⟩
/-- The courses are marked; the problems' row is as it was, for one of the two is empty. -/
theorem mark_cos (N : ByteArray) (L : List Co) (a : Option Addr) (cap : Nat) (P : List (Int × Int)) (p : Option Addr) (B B2 : Nat) (w : World) (hone : L = [] ∨ P = []) (hL : L.length ≤ 1048577) (hBB : B ≤ B2) (hB : B2 ≤ w.heap.size) (h : L = [] ∨ ∃ g, a = some ⟨g, 0, none⟩ ∧ B ≤ g ∧ g < B2 ∧ w.there g 0 (L.length * 2)) (hp : PrOwn B B2 P p w) :
    Calls Tryd.prog 12 #[.agg #[.string N, .slice a L.length cap], .int .i64 1] w fun e w' => e = .returned (.int .i64 ((1 + 2 * L.length : Nat) : Int)) ∧ KeepB B B2 w w' ∧ PrOwn B B2 P p w' ∧
      (∀ wx, Below w'.heap.size w' wx → Calls Tryd.prog 13 #[.agg #[.string N, .slice a L.length cap], .int .i64 1] wx fun e w2 => e = .returned (.int .i64 ((1 + 2 * L.length : Nat) : Int)) ∧ Below wx.heap.size wx w2) := by
  rcases hone with h0 | h0
  · subst h0
    refine (mark_none N 1 a cap w).mono ?_
    rintro e w' ⟨rfl, hb⟩
    exact ⟨rfl, ⟨hb.mono (Nat.le_trans hBB hB), fun b o _ hlt => hb.cell (p := ⟨b, o, none⟩) hlt⟩, hp.later hb, fun wx _ => held_none N 1 (by omega) a cap wx⟩
  · refine (mark_any N L a cap B B2 w hL hBB hB h).mono ?_
    rintro e w' ⟨h1, h2, h3, h4⟩
    exact ⟨h1, ⟨h2, h3⟩, .inl h0, h4⟩
/-- The problems are marked; the courses' marks are held still. -/
theorem mark_prs (N : ByteArray) (L : List Co) (a : Option Addr) (cap : Nat) (P : List (Int × Int)) (p : Option Addr) (pc : Nat) (B B2 : Nat) (w : World) (hone : L = [] ∨ P = []) (hP : P.length ≤ 1048577) (hBB : B ≤ B2) (hB : B2 ≤ w.heap.size) (K : Nat) (hK : K ≤ 10000000) (hp : PrOwn B B2 P p w)
    (hh : ∀ wx, Below w.heap.size w wx → Calls Tryd.prog 13 #[.agg #[.string N, .slice a L.length cap], .int .i64 1] wx fun e w2 => e = .returned (.int .i64 ((1 + 2 * L.length : Nat) : Int)) ∧ Below wx.heap.size wx w2) :
    Calls Tryd.prog 17 #[.slice p P.length pc, .int .i64 K] w fun e w' => e = .returned (.int .i64 ((K + 2 * P.length : Nat) : Int)) ∧ KeepB B B2 w w' ∧
      (∀ wx, Below w'.heap.size w' wx → Calls Tryd.prog 13 #[.agg #[.string N, .slice a L.length cap], .int .i64 1] wx fun e w2 => e = .returned (.int .i64 ((1 + 2 * L.length : Nat) : Int)) ∧ Below wx.heap.size wx w2) ∧
      (∀ wx, Below w'.heap.size w' wx → Calls Tryd.prog 18 #[.slice p P.length pc, .int .i64 K] wx fun e w2 => e = .returned (.int .i64 ((K + 2 * P.length : Nat) : Int)) ∧ Below wx.heap.size wx w2) := by
  by_cases h0 : P = []
  · subst h0
    refine (mark_prob_none K p pc w).mono ?_
    rintro e w' ⟨rfl, hb⟩
    exact ⟨rfl, ⟨hb.mono (Nat.le_trans hBB hB), fun b o _ hlt => hb.cell (p := ⟨b, o, none⟩) hlt⟩, fun wx hx => hh wx (hb.trans (hx.mono hb.size)), fun wx _ => held_problems 0 (by omega) K (by omega) p pc wx (.inl rfl)⟩
  · have hL : L = [] := hone.resolve_right h0
    subst hL
    rcases hp with h | ⟨g, rfl, hg1, hg2, hT⟩
    · exact absurd h h0
    refine (mark_problems P.length hP K (by omega) g pc w hT).mono ?_
    rintro e w' ⟨rfl, ho, hm⟩
    refine ⟨rfl, ⟨⟨ho.os, ho.tape, ho.output, ho.size, fun k hk => ho.block k (by omega) (fun e => by cases e; omega)⟩, fun b o hb hlt => ?_⟩, fun wx _ => held_none N 1 (by omega) a cap wx, fun wx hx => ?_⟩
    · exact World.cell?_of_block (w := w) (a := ⟨b, o, none⟩) (ho.block b hlt (fun e => by cases e; omega))
    · refine held_problems P.length hP K (by omega) (some ⟨g, 0, none⟩) pc wx (.inr ⟨g, rfl, fun j hj => ⟨?_, ?_⟩⟩)
      · exact (hx.cell (p := ⟨g, j * 2, none⟩) (World.block_lt_of_cell? w' _ (hm j hj).1)).trans (hm j hj).1
      · exact (hx.cell (p := ⟨g, j * 2 + 1, none⟩) (World.block_lt_of_cell? w' _ (hm j hj).2)).trans (hm j hj).2
/-- What lies in rows below B is there still. -/
theorem keep_co {B B2 : Nat} {L : List Co} {a : Option Addr} {w w' : World} (h : L = [] ∨ ∃ g, a = some ⟨g, 0, none⟩ ∧ g < B ∧ CoAt w g 0 L) (k : KeepB B B2 w w') : L = [] ∨ ∃ g, a = some ⟨g, 0, none⟩ ∧ g < B ∧ CoAt w' g 0 L := by
  rcases h with h | ⟨g, h1, h2, h3⟩
  · exact .inl h
  · refine .inr ⟨g, h1, h2, h3.carry (fun p hp => ?_)⟩
    exact k.2 g p (.inl h2) (World.block_lt_of_cell? w _ (Option.ne_none_iff_exists'.1 hp).choose_spec)
def PrLow (B : Nat) (P : List (Int × Int)) (p : Option Addr) (w : World) : Prop := P = [] ∨ ∃ g, p = some ⟨g, 0, none⟩ ∧ g < B ∧ ∀ k q, P[k]? = some q → w.cell? ⟨g, k * 2, none⟩ = some (.int .i64 q.1) ∧ w.cell? ⟨g, k * 2 + 1, none⟩ = some (.int .i64 q.2)
theorem keep_pr {B B2 : Nat} {P : List (Int × Int)} {p : Option Addr} {w w' : World} (h : PrLow B P p w) (k : KeepB B B2 w w') : PrLow B P p w' := by
  rcases h with h | ⟨g, h1, h2, h3⟩
  · exact .inl h
  · refine .inr ⟨g, h1, h2, fun j q hq => ⟨?_, ?_⟩⟩
    · exact (k.2 g _ (.inl h2) (World.block_lt_of_cell? w _ (h3 j q hq).1)).trans (h3 j q hq).1
    · exact (k.2 g _ (.inl h2) (World.block_lt_of_cell? w _ (h3 j q hq).2)).trans (h3 j q hq).2
theorem PrLow.later {B : Nat} {P : List (Int × Int)} {p : Option Addr} {w w' : World} (h : PrLow B P p w) (hb : Below w.heap.size w w') : PrLow B P p w' := by
  rcases h with h | ⟨g, h1, h2, h3⟩
  · exact .inl h
  · exact .inr ⟨g, h1, h2, fun j q hq => ⟨(hb.cell (World.block_lt_of_cell? w _ (h3 j q hq).1)).trans (h3 j q hq).1, (hb.cell (World.block_lt_of_cell? w _ (h3 j q hq).2)).trans (h3 j q hq).2⟩⟩
theorem PrLow.arg {B : Nat} {P : List (Int × Int)} {p : Option Addr} {w : World} (h : PrLow B P p w) : PrArg w p P := by
  rcases h with h | ⟨g, h1, _, h3⟩
  · exact .inl h
  · exact .inr ⟨g, h1, h3⟩

set_option maxRecDepth 100000 in
set_option maxHeartbeats 6400000 in
theorem walk_FnExactCheckBond (s : ByteArray) (_hs : s.size ≤ maxLen) (w : World) (m : Int) (hm : w.cell? ⟨2, 0, none⟩ = some (.int .i64 m)) : Calls Tryd.prog 4 #[.string s] w fun e w' => e = .returned (.bool true) ∧ Below w.heap.size w w' := by
  by_cases hl : (1048576 : Int) < (s.size : Int)
  · clear hm
    go_enter Tryd.func4, Tryd.ntmps4
    go_wp2_with fail
    go_ret
    exact ⟨rfl, Below.refl _ _⟩
  have S := Lib.hid (checkText_spec s (by omega) w)
  have I : Hid (∀ wx, Below w.heap.size w wx → Calls Tryd.prog 15 #[.string s] wx (ChkOut s wx)) := fun wx h => checkText_impl s (by omega) m wx ((h.cell (p := ⟨2, 0, none⟩) (World.block_lt_of_cell? w _ hm)).trans hm)
  have hL := ckL_length s (by omega)
  have hP := ckP_length s (by omega)
  have hone := Lib.hid (ck_one s)
  unfold ChkOut at S I
  obtain ⟨N, hN⟩ : ∃ N, ckN s = N := ⟨_, rfl⟩
  obtain ⟨L, hLL⟩ : ∃ L, ckL s = L := ⟨_, rfl⟩
  obtain ⟨P, hPP⟩ : ∃ P, ckP s = P := ⟨_, rfl⟩
  obtain ⟨b, hb⟩ : ∃ b, ckC s = b := ⟨_, rfl⟩
  rw [hN, hLL, hPP, hb] at S I
  rw [hLL, hPP] at hone
  rw [hLL] at hL
  rw [hPP] at hP
  have HL := Lib.hid hL
  have HP := Lib.hid hP
  clear hm hN hLL hPP hb hL hP
  go_enter Tryd.func4, Tryd.ntmps4
  go_wp2_with fail
  refine S.out.mono ?_
  rintro e w1 ⟨cv, pv, rfl, o1, x1, hb1⟩
  obtain ⟨a1, c1, hv⟩ := own_slice o1
  subst hv
  obtain ⟨p1, d1, hv⟩ := own_slice x1
  subst hv
  obtain ⟨n, hn⟩ : ∃ n, L.length = n := ⟨_, rfl⟩
  obtain ⟨n', hn'⟩ : ∃ n', P.length = n' := ⟨_, rfl⟩
  rw [hn] at o1
  rw [hn'] at x1
  rw [hn, hn']
  have B1 := Lib.hid hb1
  have A1 := Lib.hid (balloc hb1 (.cells #[.string N, .slice a1 n c1] 24))
  have G1 := heap_alloc_new w1 (.cells #[.string N, .slice a1 n c1] 24)
  have O1 := Lib.hid (own_later2 o1 (balloc0 w1 (.cells #[.string N, .slice a1 n c1] 24)))
  have Y1 := Lib.hid (own_later2 x1 (balloc0 w1 (.cells #[.string N, .slice a1 n c1] 24)))
  clear hb1 o1 x1
  go_wp2_with fail
  obtain ⟨W1, hW⟩ : ∃ W1, w1.alloc (.cells #[.string N, .slice a1 n c1] 24) = W1 := ⟨_, rfl⟩
  rw [hW] at A1 G1 O1 Y1 ⊢
  clear hW
  have hlt1 : w1.heap.size < W1.heap.size := (Array.getElem?_eq_some_iff.1 G1).1
  refine (I.out _ A1.out).mono ?_
  rintro e w2 ⟨cv, pv, rfl, o2, x2, hb2⟩
  obtain ⟨a2, c2, hv⟩ := own_slice o2
  subst hv
  obtain ⟨p2, d2, hv⟩ := own_slice x2
  subst hv
  rw [hn] at o2
  rw [hn'] at x2
  rw [hn, hn']
  have B2 := Lib.hid (bnext A1.out hb2)
  have P1 := (hb2.block _ hlt1).trans G1
  have Q1 := Lib.hid (own_later2 O1.out hb2)
  have Z1 := Lib.hid (own_later2 Y1.out hb2)
  have O2 := Lib.hid o2
  have Y2 := Lib.hid x2
  have s2 := hb2.size
  have hltb : w1.heap.size < w2.heap.size := by omega
  have P2 : (w2.alloc (.cells #[.string N, .slice a2 n c2] 24)).heap[w1.heap.size]? = some (.cells #[.string N, .slice a1 n c1] 24 (0, 0)) := by rw [Below.heap_alloc _ _ _ hltb]; exact P1
  have R2 := heap_alloc_new w2 (.cells #[.string N, .slice a2 n c2] 24)
  have A2 := Lib.hid (balloc B2.out (.cells #[.string N, .slice a2 n c2] 24))
  have Q2 := Lib.hid (own_later2 Q1.out (balloc0 w2 (.cells #[.string N, .slice a2 n c2] 24)))
  have X2 := Lib.hid (own_later2 O2.out (balloc0 w2 (.cells #[.string N, .slice a2 n c2] 24)))
  have Z2 := Lib.hid (own_later2 Z1.out (balloc0 w2 (.cells #[.string N, .slice a2 n c2] 24)))
  have V2 := Lib.hid (own_later2 Y2.out (balloc0 w2 (.cells #[.string N, .slice a2 n c2] 24)))
  obtain ⟨W2, hW⟩ : ∃ W2, w2.alloc (.cells #[.string N, .slice a2 n c2] 24) = W2 := ⟨_, rfl⟩
  have hs2 : W2.heap.size = w2.heap.size + 1 := by rw [← hW]; simp
  rw [hW] at P2 R2 A2 Q2 X2 Z2 V2
  have HW2 := Lib.hid hW
  have PB := Lib.hid P2
  have RB := Lib.hid R2
  have j0 : W2.cell? ⟨w1.heap.size, 0, none⟩ = some (.string N) := by rw [cell_of_row _ _ _ _ _ (0, 0) P2]; rfl
  have j1 : W2.cell? ⟨w1.heap.size, 1, none⟩ = some (.slice a1 n c1) := by rw [cell_of_row _ _ _ _ _ (0, 0) P2]; rfl
  have k0 : W2.cell? ⟨w2.heap.size, 0, none⟩ = some (.string N) := by rw [cell_of_row _ _ _ _ _ (0, 0) R2]; rfl
  have k1 : W2.cell? ⟨w2.heap.size, 1, none⟩ = some (.slice a2 n c2) := by rw [cell_of_row _ _ _ _ _ (0, 0) R2]; rfl
  have H12 : Hid (W1.heap.size ≤ w2.heap.size) := s2
  clear hb2 o2 x2 G1 P1 P2 R2 hW s2
  have HN := Lib.hid hn
  have HN' := Lib.hid hn'
  have E1 : Hid (CoArg W2 a1 L ∧ CoArg W2 a2 L) := by
    refine ⟨?_, ?_⟩
    · rcases own_co (L := L) (by rw [hn]; exact Q2.out) with h | ⟨g, h1, h2⟩
      · exact .inl h
      · rw [h1]; exact h2.arg
    · rcases own_co (L := L) (by rw [hn]; exact X2.out) with h | ⟨g, h1, h2⟩
      · exact .inl h
      · rw [h1]; exact h2.arg
  have LO1 : Hid (PrLow W1.heap.size P p1 W2) := by
    rcases own_pr (P := P) (by rw [hn']; exact Z2.out) with h | ⟨g, h1, _, _, _, h5⟩
    · exact .inl h
    · rcases own_pr (P := P) (by rw [hn']; exact Y1.out) with h | ⟨g', h1', _, h3', _, _⟩
      · exact .inl h
      · rw [h1] at h1'; cases h1'; exact .inr ⟨g, h1, h3', h5⟩
  have OW2 : Hid (PrOwn W1.heap.size w2.heap.size P p2 W2) := by
    rcases own_pr (P := P) (by rw [hn']; exact V2.out) with h | ⟨g, h1, h2, _, h4, _⟩
    · exact .inl h
    · rcases own_pr (P := P) (by rw [hn']; exact Y2.out) with h | ⟨g', h1', _, h3', _, _⟩
      · exact .inl h
      · rw [h1] at h1'; cases h1'; exact .inr ⟨g, h1, h2, h3', h4⟩
  have AR2 : Hid (PrArg W2 p2 P) := by
    rcases own_pr (P := P) (by rw [hn']; exact V2.out) with h | ⟨g, h1, _, _, _, h5⟩
    · exact .inl h
    · exact .inr ⟨g, h1, h5⟩
  have EQ : Hid (Calls Tryd.prog 11 #[.agg #[.string N, .slice a2 n c2], .agg #[.string N, .slice a1 n c1]] W2 fun e w' => e = .returned (.bool true) ∧ Below W2.heap.size W2 w') := by
    have h := eq_bond N L a2 a1 c2 c1 HL.out W2 E1.out.2 E1.out.1
    rw [hn] at h
    exact h
  have EP : Hid (∀ (a : Option Addr) (c : Nat) wx, PrArg wx a P → PrArg wx p1 P → Calls Tryd.prog 16 #[.slice a n' c, .slice p1 n' d1] wx fun e w' => e = .returned (.bool true) ∧ Below wx.heap.size wx w') := by
    intro a c wx h1 h2
    have h := eq_problems P a p1 c d1 HP.out wx h1 h2
    rw [hn'] at h
    exact h
  clear hn hn'
  have OW : Hid (L = [] ∨ ∃ g, a2 = some ⟨g, 0, none⟩ ∧ CoOwn W1.heap.size L g w2) := own_co (L := L) (by rw [HN.out]; exact O2.out)
  have OA : Hid (L = [] ∨ ∃ g, a1 = some ⟨g, 0, none⟩ ∧ CoOwn w.heap.size L g W1) := own_co (L := L) (by rw [HN.out]; exact O1.out)
  have HK : Hid (Below w2.heap.size w2 W2) := by show Below w2.heap.size w2 W2; rw [← HW2.out]; exact balloc0 _ _
  go_wp2_with (rw [HW2.out])
  refine EQ.out.mono ?_
  rintro e w3 ⟨rfl, hb3⟩
  have B3 := Lib.hid (bnext A2.out hb3)
  have D3 := Lib.hid hb3
  have P3 := (hb3.block _ (Array.getElem?_eq_some_iff.1 PB.out).1).trans PB.out
  have R3 := (hb3.block _ (Array.getElem?_eq_some_iff.1 RB.out).1).trans RB.out
  have P3H := Lib.hid P3
  have R3H := Lib.hid R3
  clear j0 j1 k0 k1 hb3 P3 R3
  go_wp2_with fail
  refine (EP.out p2 d2 w3 (AR2.out.later D3.out) (LO1.out.later D3.out).arg).mono ?_
  rintro e w4 ⟨rfl, hb4⟩
  have B4 := Lib.hid (bnext B3.out hb4)
  have D4 := Lib.hid (bnext D3.out hb4)
  have P4 := (hb4.block _ (Array.getElem?_eq_some_iff.1 P3H.out).1).trans P3H.out
  have R4 := (hb4.block _ (Array.getElem?_eq_some_iff.1 R3H.out).1).trans R3H.out
  have s4 := D4.out.size
  have MK := mark_cos N L a2 c2 P p2 W1.heap.size w2.heap.size w4 hone.out HL.out H12.out (by omega) (by
    rcases OW.out with h | ⟨g, h1, h2⟩
    · exact .inl h
    · exact .inr ⟨g, h1, h2.1, h2.2.2.2, ((h2.later HK.out).later D4.out).2.2.1⟩) (OW2.out.later D4.out)
  have CA : Hid (L = [] ∨ ∃ g, a1 = some ⟨g, 0, none⟩ ∧ g < W1.heap.size ∧ CoAt w4 g 0 L) := by
    rcases OA.out with h | ⟨g, h1, h2⟩
    · exact .inl h
    · refine .inr ⟨g, h1, h2.2.2.2, ?_⟩
      have hq := own_co (L := L) (w := W2) (by rw [HN.out]; exact Q2.out)
      rcases hq with h | ⟨g', h1', h2'⟩
      · subst h; intro k c hk; simp at hk
      · rw [h1] at h1'; cases h1'; exact (h2'.later D4.out).2.1
  have LO4 := Lib.hid (LO1.out.later D4.out)
  rw [HN.out] at MK
  obtain ⟨z, hz⟩ : ∃ z : Int, ((1 + 2 * n : Nat) : Int) = z := ⟨_, rfl⟩
  have hz0 : ¬ z < 0 := by omega
  have HZ := Lib.hid hz
  rw [hz] at MK
  have MKH := Lib.hid MK
  have P4H := Lib.hid P4
  have R4H := Lib.hid R4
  have l1 : Hid (w1.heap.size < w4.heap.size) := (Array.getElem?_eq_some_iff.1 P4).1
  have l2 : Hid (w2.heap.size < w4.heap.size) := (Array.getElem?_eq_some_iff.1 R4).1
  have k0 : w4.cell? ⟨w2.heap.size, 0, none⟩ = some (.string N) := by rw [cell_of_row _ _ _ _ _ (0, 0) R4]; rfl
  have k1 : w4.cell? ⟨w2.heap.size, 1, none⟩ = some (.slice a2 n c2) := by rw [cell_of_row _ _ _ _ _ (0, 0) R4]; rfl
  have HS4 : Hid (w2.heap.size ≤ w4.heap.size) := Nat.le_of_lt l2.out
  clear hb4 P4 R4 MK hz s4
  go_wp2_with fail
  refine MKH.out.mono ?_
  rintro e w5 ⟨rfl, kb5, po5, hh5⟩
  have K5 := Lib.hid kb5
  have HH5 := Lib.hid hh5
  have s5 := kb5.1.size
  have MP := mark_prs N L a2 c2 P p2 d2 W1.heap.size w2.heap.size w5 hone.out HP.out H12.out (Nat.le_trans HS4.out s5) (1 + 2 * n) (by have := HN.out; have := HL.out; omega) po5 (by rw [HN.out, HZ.out]; exact HH5.out)
  rw [HN.out, HN'.out, HZ.out] at MP
  obtain ⟨y, hy⟩ : ∃ y : Int, ((1 + 2 * n + 2 * n' : Nat) : Int) = y := ⟨_, rfl⟩
  have hy0 : ¬ y < 0 := by omega
  rw [hy] at MP
  have MPH := Lib.hid MP
  clear kb5 po5 hh5 hy MP k0 k1 s5
  go_wp2_with fail
  refine MPH.out.mono ?_
  rintro e w6 ⟨rfl, kb6, hh6, hp6⟩
  have K6 := Lib.hid (K5.out.trans kb6)
  have HH := Lib.hid hh6
  have HQ := Lib.hid hp6
  have B6 : Hid (Below w.heap.size w w6) := B4.out.trans (K6.out.1.mono A1.out.size)
  have CA6 : Hid (CoArg w6 a1 L) := by
    rcases keep_co CA.out K6.out with h | ⟨g, h1, _, h3⟩
    · exact .inl h
    · exact .inr ⟨g, 0, h1, h3⟩
  have LO6 := Lib.hid (keep_pr LO4.out K6.out)
  have j0 : w6.cell? ⟨w1.heap.size, 0, none⟩ = some (.string N) := by rw [K6.out.2 _ _ (.inl hlt1) l1.out, cell_of_row _ _ _ _ _ (0, 0) P4H.out]; rfl
  have j1 : w6.cell? ⟨w1.heap.size, 1, none⟩ = some (.slice a1 n c1) := by rw [K6.out.2 _ _ (.inl hlt1) l1.out, cell_of_row _ _ _ _ _ (0, 0) P4H.out]; rfl
  have q0 : w6.cell? ⟨w2.heap.size, 0, none⟩ = some (.string N) := by rw [K6.out.2 _ _ (.inr (Nat.le_refl _)) l2.out, cell_of_row _ _ _ _ _ (0, 0) R4H.out]; rfl
  have q1 : w6.cell? ⟨w2.heap.size, 1, none⟩ = some (.slice a2 n c2) := by rw [K6.out.2 _ _ (.inr (Nat.le_refl _)) l2.out, cell_of_row _ _ _ _ _ (0, 0) R4H.out]; rfl
  have K : Hid (∀ wx, Below w6.heap.size w6 wx → (wx.cell? ⟨w1.heap.size, 0, none⟩ = some (.string N) ∧ wx.cell? ⟨w1.heap.size, 1, none⟩ = some (.slice a1 n c1)) ∧ wx.cell? ⟨w2.heap.size, 0, none⟩ = some (.string N) ∧ wx.cell? ⟨w2.heap.size, 1, none⟩ = some (.slice a2 n c2)) := fun wx hx =>
    ⟨⟨(hx.cell (p := ⟨w1.heap.size, 0, none⟩) (World.block_lt_of_cell? w6 _ j0)).trans j0, (hx.cell (p := ⟨w1.heap.size, 1, none⟩) (World.block_lt_of_cell? w6 _ j1)).trans j1⟩, (hx.cell (p := ⟨w2.heap.size, 0, none⟩) (World.block_lt_of_cell? w6 _ q0)).trans q0, (hx.cell (p := ⟨w2.heap.size, 1, none⟩) (World.block_lt_of_cell? w6 _ q1)).trans q1⟩
  clear kb6 hh6 hp6 j0 j1 MKH MPH
  go_wp2_with fail
  refine (HH.out w6 (Below.refl _ _)).mono ?_
  rintro e w7 ⟨rfl, hb7⟩
  have B7 := Lib.hid (bnext B6.out hb7)
  have C7 := Lib.hid hb7
  clear hb7 q0 q1
  go_wp2_with fail
  refine (HQ.out w7 C7.out).mono ?_
  rintro e w8 ⟨rfl, hb8⟩
  have B8 := Lib.hid (bnext B7.out hb8)
  have C8 := Lib.hid (bnext C7.out hb8)
  clear hb8
  go_wp2_with fail
  refine (I.out _ B8.out).mono ?_
  rintro e w9 ⟨cv, pv, rfl, o9, x9, hb9⟩
  obtain ⟨a3, c3, hv⟩ := own_slice o9
  subst hv
  obtain ⟨p3, d3, hv⟩ := own_slice x9
  subst hv
  rw [HN.out] at o9
  rw [HN'.out] at x9
  rw [HN.out, HN'.out]
  have B9 := Lib.hid (balloc (bnext B8.out hb9) (.cells #[.string N, .slice a3 n c3] 24))
  have C9 := Lib.hid (balloc (bnext C8.out hb9) (.cells #[.string N, .slice a3 n c3] 24))
  have R9 := heap_alloc_new w9 (.cells #[.string N, .slice a3 n c3] 24)
  have O9 := own_later2 o9 (balloc0 w9 (.cells #[.string N, .slice a3 n c3] 24))
  have X9 := own_later2 x9 (balloc0 w9 (.cells #[.string N, .slice a3 n c3] 24))
  obtain ⟨W9, hW⟩ : ∃ W9, w9.alloc (.cells #[.string N, .slice a3 n c3] 24) = W9 := ⟨_, rfl⟩
  rw [hW] at B9 C9 R9 O9 X9
  have HW9 := Lib.hid hW
  obtain ⟨⟨j0, j1⟩, q0, q1⟩ := K.out _ C9.out
  have k0 : W9.cell? ⟨w9.heap.size, 0, none⟩ = some (.string N) := by rw [cell_of_row _ _ _ _ _ (0, 0) R9]; rfl
  have k1 : W9.cell? ⟨w9.heap.size, 1, none⟩ = some (.slice a3 n c3) := by rw [cell_of_row _ _ _ _ _ (0, 0) R9]; rfl
  have EQ2 : Hid (Calls Tryd.prog 11 #[.agg #[.string N, .slice a3 n c3], .agg #[.string N, .slice a1 n c1]] W9 fun e w' => e = .returned (.bool true) ∧ Below W9.heap.size W9 w') := by
    have h3 : CoArg W9 a3 L := by
      rcases own_co (L := L) (by rw [HN.out]; exact O9) with h | ⟨g, h1, h2⟩
      · exact .inl h
      · rw [h1]; exact h2.arg
    have h := eq_bond N L a3 a1 c3 c1 HL.out W9 h3 (CA6.out.later C9.out)
    rw [HN.out] at h
    exact h
  have AR9 : Hid (PrArg W9 p3 P) := by
    rcases own_pr (P := P) (by rw [HN'.out]; exact X9) with h | ⟨g, h1, _, _, _, h5⟩
    · exact .inl h
    · exact .inr ⟨g, h1, h5⟩
  clear hb9 o9 x9 O9 X9 R9 hW
  go_wp2_with (rw [HW9.out])
  refine EQ2.out.mono ?_
  rintro e w10 ⟨rfl, hb10⟩
  have B10 := Lib.hid (bnext B9.out hb10)
  have C10 := Lib.hid (bnext C9.out hb10)
  have AR10 := Lib.hid (AR9.out.later hb10)
  clear hb10 j0 j1 q0 q1 k0 k1
  go_wp2_with fail
  refine (EP.out p3 d3 w10 AR10.out (LO6.out.later C10.out).arg).mono ?_
  rintro e w11 ⟨rfl, hb11⟩
  have B11 := Lib.hid (bnext B10.out hb11)
  have C11 := Lib.hid (bnext C10.out hb11)
  clear hb11
  obtain ⟨⟨j0, j1⟩, q0, q1⟩ := K.out _ C11.out
  go_wp2_with fail
  refine (HH.out w11 C11.out).mono ?_
  rintro e w12 ⟨rfl, hb12⟩
  have B12 := Lib.hid (bnext B11.out hb12)
  have C12 := Lib.hid (bnext C11.out hb12)
  clear hb12 j0 j1 q0 q1
  go_wp2_with fail
  refine (HQ.out w12 C12.out).mono ?_
  rintro e w13 ⟨rfl, hb13⟩
  have B13 := Lib.hid (bnext B12.out hb13)
  clear hb13
  go_wp2
  go_ret
  exact ⟨rfl, B13.out⟩
end Go.Proofs.YtgffgcobgjngnaaDoor
