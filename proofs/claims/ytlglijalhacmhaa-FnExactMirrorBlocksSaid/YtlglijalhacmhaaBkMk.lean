/-
  Marks in blocks that a call hands back, and whether they are there still.
-/
import Derived.Test.YtlglijalhacmhaaBkMi
namespace Go.Proofs.Ytlglijalhacmhaa
open Go.ChangeShapes Go.WideShapes Go.ChangeAt Go.RowKit Go.Joins

set_option maxRecDepth 100000 in
set_option maxHeartbeats 1600000 in
theorem mark_bk2 (X : Bk) (hl : BkLen X 1048577) (K : Nat) (hK2 : K ≤ 10000000) (B g h m : Nat) (ca cb cc : Nat) (w : World) (q : BkOwn B X g h m w) :
    Calls Try.prog 23 #[.agg #[.slice (some ⟨g, 0, none⟩) X.A.length ca, .slice (some ⟨h, 0, none⟩) X.L.length cb, .slice (some ⟨m, 0, none⟩) X.H.length cc], .int .i64 K] w fun e w' => e = .returned (.int .i64 ((K + X.A.length + X.L.length + X.H.length : Nat) : Int)) ∧ ∃ u v, Only g w u ∧ Only h u v ∧ Only m v w' ∧ IntOwn B (marksL K X.A.length) g w' ∧ IntOwn B (marksL (K + X.A.length) X.L.length) h w' ∧ IntOwn B (marksL (K + X.A.length + X.L.length) X.H.length) m w' := by
  obtain ⟨q1, q2, q3, hgh, hhm⟩ := q
  have gl := q1.2.2.2
  have hl' := q2.2.2.2
  have ml := q3.2.2.2
  have C1 := Lib.hid (fun wx hq => mark_ints X.A hl.1 K (by omega) B g ca wx hq)
  have C2 := Lib.hid (fun wx hq => mark_ints X.L hl.2.1 (K + X.A.length) (by have := hl.1; omega) B h cb wx hq)
  have C3 := Lib.hid (fun wx hq => mark_ints X.H hl.2.2 (K + X.A.length + X.L.length) (by have := hl.1; have := hl.2.1; omega) B m cc wx hq)
  have k0 := BkBox.new w X (some ⟨g, 0, none⟩) (some ⟨h, 0, none⟩) (some ⟨m, 0, none⟩) ca cb cc 27
  have b0 := balloc0 w (.cells #[.slice (some ⟨g, 0, none⟩) X.A.length ca, .slice (some ⟨h, 0, none⟩) X.L.length cb, .slice (some ⟨m, 0, none⟩) X.H.length cc] 27)
  have q1 := q1.later b0
  have q2 := q2.later b0
  have q3 := q3.later b0
  have hz : (w.alloc (.cells #[.slice (some ⟨g, 0, none⟩) X.A.length ca, .slice (some ⟨h, 0, none⟩) X.L.length cb, .slice (some ⟨m, 0, none⟩) X.H.length cc] 27)).heap.size = w.heap.size + 1 := by simp
  obtain ⟨U, hU⟩ : ∃ U, w.alloc (.cells #[.slice (some ⟨g, 0, none⟩) X.A.length ca, .slice (some ⟨h, 0, none⟩) X.L.length cb, .slice (some ⟨m, 0, none⟩) X.H.length cc] 27) = U := ⟨_, rfl⟩
  rw [hU] at k0 b0 q1 q2 q3 hz
  have HU := Lib.hid hU
  clear hU hl
  go_enter Try.func23, Try.ntmps23
  go_wp2_with fail
  rw [HU.out]
  obtain ⟨p0, p1, p2⟩ := k0
  go_wp2_with fail
  refine (C1.out _ q1).mono ?_
  rintro e w1 ⟨rfl, O1, y1⟩
  have k1 := BkBox.only (n := w.heap.size) (X := X) ⟨p0, p1, p2⟩ O1 (by omega)
  have q2 := q2.only O1 (by omega)
  have q3 := q3.only O1 (by omega)
  have z1 := O1.size
  obtain ⟨K1, hK1⟩ : ∃ K1, K + X.A.length = K1 := ⟨_, rfl⟩
  rw [hK1] at C2 C3 ⊢
  clear p0 p1 p2
  have O1 := Lib.hid O1
  have HK1 := Lib.hid hK1
  clear hK1
  obtain ⟨p0, p1, p2⟩ := k1
  go_wp2_with fail
  refine (C2.out _ q2).mono ?_
  rintro e w2 ⟨rfl, O2, y2⟩
  have y1 := y1.only O2 (by omega)
  have k2 := BkBox.only (n := w.heap.size) (X := X) ⟨p0, p1, p2⟩ O2 (by omega)
  have q3 := q3.only O2 (by omega)
  obtain ⟨K2, hK2⟩ : ∃ K2, K1 + X.L.length = K2 := ⟨_, rfl⟩
  rw [hK2] at C3 ⊢
  clear p0 p1 p2
  have O2 := Lib.hid O2
  have HK2 := Lib.hid hK2
  clear hK2
  obtain ⟨p0, p1, p2⟩ := k2
  go_wp2_with fail
  refine (C3.out _ q3).mono ?_
  rintro e w3 ⟨rfl, O3, y3⟩
  have Y1 := Lib.hid (y1.only O3 (by omega))
  have Y2 := Lib.hid (y2.only O3 (by omega))
  have Y3 := Lib.hid y3
  clear y1 y2 y3
  have O3 := Lib.hid O3
  clear p0 p1 p2 q3
  go_wp2
  go_ret
  exact ⟨ret_int (by have := HK1.out; have := HK2.out; omega), w1, w2, ⟨O1.out.os.trans b0.os, O1.out.tape.trans b0.tape, O1.out.output.trans b0.output, Nat.le_trans b0.size O1.out.size, fun i hi hne => (O1.out.block i (Nat.lt_of_lt_of_le hi b0.size) hne).trans (b0.block i hi)⟩, O2.out, O3.out, Y1.out, by rw [HK1.out]; exact Y2.out, by rw [HK1.out, HK2.out]; exact Y3.out⟩

/-- Each of the three rows holds its marks. -/
def BkMarks (B K : Nat) (X : Bk) (a b c : Option Addr) (w : World) : Prop := IntRes B (marksL K X.A.length) a w ∧ IntRes B (marksL (K + X.A.length) X.L.length) b w ∧ IntRes B (marksL (K + X.A.length + X.L.length) X.H.length) c w
theorem BkMarks.later {B K : Nat} {X : Bk} {a b c : Option Addr} {w w' : World} (h : BkMarks B K X a b c w) (hb : Below w.heap.size w w') : BkMarks B K X a b c w' := ⟨h.1.later hb, h.2.1.later hb, h.2.2.later hb⟩
theorem BkRes.later {B : Nat} {X : Bk} {a b c : Option Addr} {w w' : World} (h : BkRes B X a b c w) (hb : Below w.heap.size w w') : BkRes B X a b c w' := by
  rcases h with h | ⟨g, q, m, h1, h2, h3, h4⟩
  · exact .inl h
  · exact .inr ⟨g, q, m, h1, h2, h3, h4.later hb⟩
theorem BkRes.arg {B : Nat} {X : Bk} {a b c : Option Addr} {w : World} (h : BkRes B X a b c w) : BkArg w a b c X := by
  rcases h with h | ⟨g, q, m, rfl, rfl, rfl, h4⟩
  · subst h; exact ⟨.inl rfl, .inl rfl, .inl rfl⟩
  · exact h4.arg
theorem BkOwn.only {B : Nat} {X : Bk} {g h m x : Nat} {w w' : World} (q : BkOwn B X g h m w) (ho : Only x w w') (hx : x < B) : BkOwn B X g h m w' := by
  have h1 := q.1.1
  have h2 := q.2.2.2
  exact ⟨q.1.only ho (by omega), q.2.1.only ho (by omega), q.2.2.1.only ho (by omega), h2⟩
theorem BkRes.only {B : Nat} {X : Bk} {a b c : Option Addr} {x : Nat} {w w' : World} (h : BkRes B X a b c w) (ho : Only x w w') (hx : x < B) : BkRes B X a b c w' := by
  rcases h with h | ⟨g, q, m, h1, h2, h3, h4⟩
  · exact .inl h
  · exact .inr ⟨g, q, m, h1, h2, h3, h4.only ho hx⟩
theorem BkArg.only {a b c : Option Addr} {X : Bk} {x : Nat} {w w' : World} (h : BkArg w a b c X) (ho : Only x w w') (h1 : ∀ g o, ¬ X.A = [] → a = some ⟨g, o, none⟩ → g ≠ x) (h2 : ∀ g o, ¬ X.L = [] → b = some ⟨g, o, none⟩ → g ≠ x) (h3 : ∀ g o, ¬ X.H = [] → c = some ⟨g, o, none⟩ → g ≠ x) : BkArg w' a b c X := ⟨h.1.only ho h1, h.2.1.only ho h2, h.2.2.only ho h3⟩
theorem BkArg.base {a b c : Option Addr} {X : Bk} {B : Nat} {w w' : World} (h : BkArg w a b c X) (ho : Below B w w') (h1 : ∀ g o, ¬ X.A = [] → a = some ⟨g, o, none⟩ → g < B) (h2 : ∀ g o, ¬ X.L = [] → b = some ⟨g, o, none⟩ → g < B) (h3 : ∀ g o, ¬ X.H = [] → c = some ⟨g, o, none⟩ → g < B) : BkArg w' a b c X := ⟨h.1.base ho h1, h.2.1.base ho h2, h.2.2.base ho h3⟩
set_option maxHeartbeats 1600000 in
theorem mark_bkres (X : Bk) (hl : BkLen X 1048577) (K : Nat) (hK2 : K ≤ 10000000) (B : Nat) (a b c : Option Addr) (ca cb cc : Nat) (w : World) (hB : B ≤ w.heap.size) (q : BkRes B X a b c w) :
    Calls Try.prog 23 #[.agg #[.slice a X.A.length ca, .slice b X.L.length cb, .slice c X.H.length cc], .int .i64 K] w fun e w' => e = .returned (.int .i64 ((K + X.A.length + X.L.length + X.H.length : Nat) : Int)) ∧ Below B w w' ∧ (∀ n X' a' b' c' x y z, n < w.heap.size → (¬ X = ⟨[], [], []⟩ → ∀ g h m, a = some ⟨g, 0, none⟩ → b = some ⟨h, 0, none⟩ → c = some ⟨m, 0, none⟩ → n ≠ g ∧ n ≠ h ∧ n ≠ m) → BkBox n X' a' b' c' x y z w → BkBox n X' a' b' c' x y z w') ∧ BkMarks B K X a b c w' := by
  by_cases hX : X = ⟨[], [], []⟩
  · subst hX
    have C1 := Lib.hid (fun wx => mark_nil a ca K wx)
    have C2 := Lib.hid (fun wx => mark_nil b cb K wx)
    have C3 := Lib.hid (fun wx => mark_nil c cc K wx)
    have k0 := BkBox.new w ⟨[], [], []⟩ a b c ca cb cc 27
    have b0 := Lib.hid (balloc0 w (.cells #[.slice a 0 ca, .slice b 0 cb, .slice c 0 cc] 27))
    obtain ⟨p0, p1, p2⟩ := k0
    simp only [List.length_nil] at p0 p1 p2 ⊢
    go_enter Try.func23, Try.ntmps23
    go_wp2_with fail
    refine (C1.out _).mono ?_
    rintro e w1 ⟨rfl, rfl⟩
    go_wp2_with fail
    refine (C2.out _).mono ?_
    rintro e w1 ⟨rfl, rfl⟩
    go_wp2_with fail
    refine (C3.out _).mono ?_
    rintro e w1 ⟨rfl, rfl⟩
    go_wp2
    go_ret
    exact ⟨by simp, b0.out.mono hB, fun n X' a' b' c' x y z hn _ hbx => hbx.later b0.out, .inl rfl, .inl rfl, .inl rfl⟩
  · rcases q with q | ⟨g, h, m, rfl, rfl, rfl, q⟩
    · exact absurd q hX
    refine (mark_bk2 X hl K hK2 B g h m ca cb cc w q).mono ?_
    rintro e w' ⟨h0, u, v, o1, o2, o3, y1, y2, y3⟩
    have e1 := q.1.1
    have e2 := q.2.2.2
    have s1 := o1.size
    have s2 := o2.size
    refine ⟨h0, ((o1.base e1 hB).trans (o2.base (by omega) (by omega))).trans (o3.base (by omega) (by omega)), fun n X' a' b' c' x y z hn hne hbx => ?_, .inr ⟨g, rfl, y1⟩, .inr ⟨h, rfl, y2⟩, .inr ⟨m, rfl, y3⟩⟩
    obtain ⟨n1, n2, n3⟩ := hne hX g h m rfl rfl rfl
    exact ((hbx.only o1 n1).only o2 n2).only o3 n3
set_option maxHeartbeats 1600000 in
theorem held_bkres (X : Bk) (hl : BkLen X 1048577) (K : Nat) (hK2 : K ≤ 10000000) (B : Nat) (a b c : Option Addr) (ca cb cc : Nat) (w : World) (q : BkMarks B K X a b c w) :
    Calls Try.prog 44 #[.agg #[.slice a X.A.length ca, .slice b X.L.length cb, .slice c X.H.length cc], .int .i64 K] w fun e w' => e = .returned (.int .i64 ((K + X.A.length + X.L.length + X.H.length : Nat) : Int)) ∧ Below w.heap.size w w' := by
  have l1 := hl.1
  have l2 := hl.2.1
  have l3 := hl.2.2
  have C1 := Lib.hid (fun wx (hx : Below w.heap.size w wx) => held_res X.A.length l1 K (by omega) ca a wx B (q.1.later hx))
  have C2 := Lib.hid (fun wx (hx : Below w.heap.size w wx) => held_res X.L.length l2 (K + X.A.length) (by omega) cb b wx B (q.2.1.later hx))
  have C3 := Lib.hid (fun wx (hx : Below w.heap.size w wx) => held_res X.H.length l3 (K + X.A.length + X.L.length) (by omega) cc c wx B (q.2.2.later hx))
  have k0 := BkBox.new w X a b c ca cb cc 27
  have b0 := balloc0 w (.cells #[.slice a X.A.length ca, .slice b X.L.length cb, .slice c X.H.length cc] 27)
  obtain ⟨U, hU⟩ : ∃ U, w.alloc (.cells #[.slice a X.A.length ca, .slice b X.L.length cb, .slice c X.H.length cc] 27) = U := ⟨_, rfl⟩
  rw [hU] at k0 b0
  have b0 : Hid (Below w.heap.size w U) := b0
  have KB := Lib.hid k0
  have HU := Lib.hid hU
  obtain ⟨K1, hK1⟩ : ∃ K1, K + X.A.length = K1 := ⟨_, rfl⟩
  obtain ⟨K2, hK2'⟩ : ∃ K2, K1 + X.L.length = K2 := ⟨_, rfl⟩
  obtain ⟨K3, hK3⟩ : ∃ K3, K2 + X.H.length = K3 := ⟨_, rfl⟩
  have n1 : ¬ (K1 : Int) < 0 := by omega
  have n2 : ¬ (K2 : Int) < 0 := by omega
  have n3 : ¬ (K3 : Int) < 0 := by omega
  rw [hK1] at C1 C2 C3 ⊢
  rw [hK2'] at C2 C3 ⊢
  rw [hK3] at C3 ⊢
  clear hK1 hK2' hK3 hU k0 hl q
  go_enter Try.func44, Try.ntmps44
  obtain ⟨p0, p1, p2⟩ := KB.out
  go_wp2_with fail
  rw [HU.out]
  try go_wp2_with fail
  refine (C1.out _ b0.out).mono ?_
  rintro e w1 ⟨rfl, hb1⟩
  have B1 := Lib.hid (bnext b0.out hb1)
  have KB := Lib.hid (KB.out.later hb1)
  clear hb1 p0 p1 p2
  obtain ⟨p0, p1, p2⟩ := KB.out
  go_wp2_with fail
  refine (C2.out _ B1.out).mono ?_
  rintro e w2 ⟨rfl, hb2⟩
  have B2 := Lib.hid (bnext B1.out hb2)
  have KB := Lib.hid (KB.out.later hb2)
  clear hb2 p0 p1 p2
  obtain ⟨p0, p1, p2⟩ := KB.out
  go_wp2_with fail
  refine (C3.out _ B2.out).mono ?_
  rintro e w3 ⟨rfl, hb3⟩
  have B3 := Lib.hid (bnext B2.out hb3)
  clear hb3 p0 p1 p2
  go_wp2
  go_ret
  exact ⟨rfl, B3.out⟩
end Go.Proofs.Ytlglijalhacmhaa
