/-
  The laws' letters in rows of texts as results: written, looked for, kept apart.
-/
import Derived.Test.YtplggghhhgmebaaSt
import Derived.Test.YtplggghhhgmebaaMark
import Derived.Test.YtplggghhhgmebaaCoM
import Derived.Deep.RegionWith
namespace Go.Proofs.Ytplggghhhgmebaa
open Go.ChangeShapes Go.WideShapes Go.ChangeAt Go.RowKit Go.Joins

def marksS (K n : Nat) : List ByteArray := (List.range n).map fun j => markB (K + j)
theorem marksS_length (K n : Nat) : (marksS K n).length = n := by simp [marksS]
theorem marksS_at {K n k : Nat} (h : k < n) : (marksS K n)[k]? = some (markB (K + k)) := by simp [marksS, h]
set_option maxRecDepth 100000 in
set_option maxHeartbeats 1600000 in
theorem mark_strs (n : Nat) (hn : n ≤ 1048577) (K : Nat) (h1 : 1 ≤ K) (hK2 : K ≤ 100000000) (g cap : Nat) (w : World) (h : w.there g 0 n) :
    Calls Try.prog 44 #[.slice (some ⟨g, 0, none⟩) n cap, .int .i64 K] w fun e w' => e = .returned (.int .i64 ((K + n : Nat) : Int)) ∧ Only g w w' ∧ StrAt w' g 0 (marksS K n) ∧ w'.there g 0 n := by
  have HT := Lib.hid h
  clear h
  go_enter Try.func44, Try.ntmps44
  go_wp2
  go_loopw [1, 5] (fun u i wr => ∃ (k : Nat), k ≤ n ∧ u = .int .i64 ((K + k : Nat) : Int) ∧ i = .int .i64 k ∧ Hid (∀ j, j < k → wr.cell? ⟨g, j, none⟩ = some (.string (markB (K + j)))) ∧ Hid (wr.there g 0 n) ∧ Hid (Only g w wr)) (fun _ i _ => n - (intOf i).toNat)
  case atStart => exact ⟨0, Nat.zero_le _, rfl, rfl, fun j hj => by omega, HT.out, Only.refl _ _⟩
  case round =>
    obtain ⟨k, hk, rfl, rfl, hR, hT, hb⟩ := hrel
    by_cases hlt : k < n
    · have hlt' : (k : Int) < (n : Int) := by omega
      have hk0 : (0 : Int) ≤ (k : Int) := by omega
      have C := Lib.hid (mark_text (K + k) (by omega) (by omega))
      obtain ⟨mk, hmk⟩ : ∃ mk, markB (K + k) = mk := ⟨_, rfl⟩
      rw [hmk] at C
      have HM := Lib.hid hmk
      clear hmk
      go_wp2_with fail
      refine (C.out _).mono ?_
      rintro e w1 ⟨rfl, hb1⟩
      have T1 := Lib.hid (there_below hT.out hb1)
      have R1 : Hid (∀ j, j < k → w1.cell? ⟨g, j, none⟩ = some (.string (markB (K + j)))) := fun j hj => (hb1.cell (World.block_lt_of_cell? _ _ (hR.out j hj))).trans (hR.out j hj)
      have B1 := Lib.hid (hb.out.below hb1)
      obtain ⟨u0, a0, f0⟩ := there_at T1.out (k := k) (by omega)
      clear hb1
      go_wp2
      go_roundw
      case rel =>
        refine ⟨k + 1, by omega, by go_num, by go_num, fun j hj => ?_, there_set1c T1.out k (.string mk), B1.out.set k (.string mk)⟩
        by_cases ej : j = k
        · subst ej
          rw [HM.out]
          exact World.cell?_setCell_same _ _ _ a0
        · rw [World.cell?_setCell_other _ _ _ _ (fun e => ej (by cases e; rfl))]
          exact R1.out j (by omega)
      case measure => simp [intOf]; omega
    · have hge : ¬ (k : Int) < (n : Int) := by omega
      have hkn : k = n := by omega
      subst hkn
      go_wp2
      go_ret
      exact ⟨rfl, hb.out, fun j s hj => by
        have hl := (List.getElem?_eq_some_iff.1 hj).1
        rw [marksS_length] at hl
        rw [marksS_at hl] at hj
        cases hj
        rw [Nat.zero_add]
        exact hR.out j hl, hT.out⟩
set_option maxRecDepth 100000 in
set_option maxHeartbeats 1600000 in
theorem held_strs (n : Nat) (hn : n ≤ 1048577) (K : Nat) (h1 : 1 ≤ K) (hK2 : K ≤ 100000000) (g cap : Nat) (w : World) (h : StrAt w g 0 (marksS K n)) :
    Calls Try.prog 45 #[.slice (some ⟨g, 0, none⟩) n cap, .int .i64 K] w fun e w' => e = .returned (.int .i64 ((K + n : Nat) : Int)) ∧ Below w.heap.size w w' := by
  have H := Lib.hid h
  clear h
  go_enter Try.func45, Try.ntmps45
  go_wp2
  go_loopw [1, 5] (fun u i wr => ∃ (k : Nat), k ≤ n ∧ u = .int .i64 ((K + k : Nat) : Int) ∧ i = .int .i64 k ∧ Hid (Below w.heap.size w wr)) (fun _ i _ => n - (intOf i).toNat)
  case atStart => exact ⟨0, Nat.zero_le _, rfl, rfl, Below.refl _ _⟩
  case round =>
    obtain ⟨k, hk, rfl, rfl, hb⟩ := hrel
    by_cases hlt : k < n
    · have hlt' : (k : Int) < (n : Int) := by omega
      have hk0 : (0 : Int) ≤ (k : Int) := by omega
      have C := Lib.hid (mark_text (K + k) (by omega) (by omega))
      have HX := Lib.hid ((H.out.later hb.out) k _ (marksS_at hlt))
      obtain ⟨mk, hmk⟩ : ∃ mk, markB (K + k) = mk := ⟨_, rfl⟩
      rw [hmk] at C HX
      have c0 := HX.out
      rw [Nat.zero_add] at c0
      have c0d : wr.drew.cell? ⟨g, k, none⟩ = some (.string mk) := c0
      clear hmk
      go_wp2_with fail
      go_region_with (go_at_call 78; refine (C.out _).mono ?_; rintro e w1 ⟨rfl, hb1⟩; have B1 := Lib.hid hb1; have c1 : w1.cell? ⟨g, k, none⟩ = some (.string mk) := (hb1.cell (World.block_lt_of_cell? _ _ c0d)).trans c0d; clear hb1)
      all_goals
        go_wp2
        go_roundw
        case rel => exact ⟨k + 1, by omega, by go_num, by go_num, bnext hb.out.drew B1.out⟩
        case measure => simp [intOf]; omega
    · have hge : ¬ (k : Int) < (n : Int) := by omega
      have hkn : k = n := by omega
      subst hkn
      go_wp2
      go_ret
      exact ⟨rfl, hb.out⟩
/-- A row of texts that was handed back. -/
def StrRes (B : Nat) (Q : List ByteArray) (a : Option Addr) (w : World) : Prop := Q = [] ∨ ∃ g, a = some ⟨g, 0, none⟩ ∧ StrOwn B Q g w
theorem StrRes.later {B : Nat} {Q : List ByteArray} {a : Option Addr} {w w' : World} (h : StrRes B Q a w) (hb : Below w.heap.size w w') : StrRes B Q a w' := by
  rcases h with h | ⟨g, h1, h2⟩
  · exact .inl h
  · exact .inr ⟨g, h1, h2.later hb⟩
theorem StrRes.arg {B : Nat} {Q : List ByteArray} {a : Option Addr} {w : World} (h : StrRes B Q a w) : StrArg w a Q := by
  rcases h with h | ⟨g, h1, h2⟩
  · exact .inl h
  · rw [h1]; exact h2.arg
theorem StrOwn.only {B b : Nat} {Q : List ByteArray} {g : Nat} {w w' : World} (h2 : StrOwn B Q g w) (hb : Only b w w') (hgb : g ≠ b) : StrOwn B Q g w' := by
  refine ⟨h2.1, fun k z hk => ?_, hb.there hgb h2.2.2.1, Nat.lt_of_lt_of_le h2.2.2.2 hb.size⟩
  have h3 := h2.2.1 k z hk
  rw [World.cell?_of_block (w := w) (a := ⟨g, 0 + k, none⟩) (hb.block g h2.2.2.2 (fun e => hgb (by cases e; rfl)))]
  exact h3
theorem StrRes.only {B b : Nat} {Q : List ByteArray} {a : Option Addr} {w w' : World} (h : StrRes B Q a w) (hb : Only b w w') (hne : b < B) : StrRes B Q a w' := by
  rcases h with h | ⟨g, h1, h2⟩
  · exact .inl h
  · exact .inr ⟨g, h1, h2.only hb (by have := h2.1; omega)⟩
/-- A row of texts that lies low. -/
def LowStr (B : Nat) (a : Option Addr) (P : List ByteArray) (w : World) : Prop := P = [] ∨ ∃ g, a = some ⟨g, 0, none⟩ ∧ g < B ∧ StrAt w g 0 P
theorem LowStr.of {B : Nat} {a : Option Addr} {P : List ByteArray} {w : World} (h : StrRes B P a w) : LowStr w.heap.size a P w := by
  rcases h with h | ⟨g, h1, h2⟩
  · exact .inl h
  · exact .inr ⟨g, h1, h2.2.2.2, h2.2.1⟩
theorem LowStr.arg {B : Nat} {a : Option Addr} {P : List ByteArray} {w : World} (h : LowStr B a P w) : StrArg w a P := by
  rcases h with h | ⟨g, h1, _, h2⟩
  · exact .inl h
  · exact .inr ⟨g, 0, h1, h2⟩
theorem LowStr.below {B n : Nat} {a : Option Addr} {P : List ByteArray} {w w' : World} (h : LowStr B a P w) (hb : Below n w w') (hn : B ≤ n) : LowStr B a P w' := by
  rcases h with h | ⟨g, h1, h2, h3⟩
  · exact .inl h
  · exact .inr ⟨g, h1, h2, fun k z hk => (hb.cell (p := ⟨g, 0 + k, none⟩) (by show g < n; omega)).trans (h3 k z hk)⟩
theorem LowStr.later {B : Nat} {a : Option Addr} {P : List ByteArray} {w w' : World} (h : LowStr B a P w) (hb : Below w.heap.size w w') : LowStr B a P w' := by
  rcases h with h | ⟨g, h1, h2, h3⟩
  · exact .inl h
  · exact .inr ⟨g, h1, h2, h3.later hb⟩
theorem LowStr.only {B g : Nat} {a : Option Addr} {P : List ByteArray} {w w' : World} (h : LowStr B a P w) (ho : Only g w w') (hg : B ≤ g) : LowStr B a P w' := by
  rcases h with h | ⟨g1, h1, h2, h3⟩
  · exact .inl h
  · exact .inr ⟨g1, h1, h2, fun k z hk => by
      have h4 := h3 k z hk
      rw [World.cell?_of_block (w := w) (a := ⟨g1, 0 + k, none⟩) (ho.block g1 (World.block_lt_of_cell? w _ h4) (fun e => by cases e; omega))]
      exact h4⟩
theorem mark_snil (a : Option Addr) (cap : Nat) (K : Nat) (w : World) : Calls Try.prog 44 #[.slice a 0 cap, .int .i64 K] w fun e w' => e = .returned (.int .i64 (K : Int)) ∧ w = w' := by
  go_enter Try.func44, Try.ntmps44
  go_wp2
  go_loop [1, 5] (fun u i => u = .int .i64 (K : Int) ∧ i = .int .i64 0) (fun _ _ => 0)
  case atStart => exact ⟨rfl, rfl⟩
  case round =>
    obtain ⟨rfl, rfl⟩ := hrel
    go_wp2
    go_ret
    exact ⟨rfl, rfl⟩
theorem held_snil (a : Option Addr) (cap : Nat) (K : Nat) (w : World) : Calls Try.prog 45 #[.slice a 0 cap, .int .i64 K] w fun e w' => e = .returned (.int .i64 (K : Int)) ∧ w = w' := by
  go_enter Try.func45, Try.ntmps45
  go_wp2
  go_loop [1, 5] (fun u i => u = .int .i64 (K : Int) ∧ i = .int .i64 0) (fun _ _ => 0)
  case atStart => exact ⟨rfl, rfl⟩
  case round =>
    obtain ⟨rfl, rfl⟩ := hrel
    go_wp2
    go_ret
    exact ⟨rfl, rfl⟩
theorem mark_sres (Q : List ByteArray) (hn : Q.length ≤ 1048577) (K : Nat) (h1 : 1 ≤ K) (hK2 : K ≤ 100000000) (B cap : Nat) (a : Option Addr) (w : World) (hB : B ≤ w.heap.size) (h : StrRes B Q a w) :
    Calls Try.prog 44 #[.slice a Q.length cap, .int .i64 K] w fun e w' => e = .returned (.int .i64 ((K + Q.length : Nat) : Int)) ∧ Below B w w' ∧ StrRes B (marksS K Q.length) a w' := by
  rcases h with h | ⟨g, h1', h2⟩
  · subst h
    refine (mark_snil a cap K w).mono ?_
    rintro e w' ⟨h1, h2⟩
    subst h2
    exact ⟨h1, Below.refl _ _, .inl rfl⟩
  · subst h1'
    refine (mark_strs Q.length hn K h1 hK2 g cap w h2.2.2.1).mono ?_
    rintro e w' ⟨h3, h4, h5, h6⟩
    exact ⟨h3, h4.base h2.1 hB, .inr ⟨g, rfl, h2.1, h5, by rw [marksS_length]; exact h6, Nat.lt_of_lt_of_le h2.2.2.2 h4.size⟩⟩
theorem held_sres (n : Nat) (hn : n ≤ 1048577) (K : Nat) (h1 : 1 ≤ K) (hK2 : K ≤ 100000000) (cap : Nat) (a : Option Addr) (w : World) (B : Nat) (h : StrRes B (marksS K n) a w) :
    Calls Try.prog 45 #[.slice a n cap, .int .i64 K] w fun e w' => e = .returned (.int .i64 ((K + n : Nat) : Int)) ∧ Below w.heap.size w w' := by
  rcases h with h | ⟨g, h1', h2⟩
  · have hn0 : n = 0 := by have := congrArg List.length h; simpa [marksS_length] using this
    subst hn0
    refine (held_snil a cap K w).mono ?_
    rintro e w' ⟨h1, h2⟩
    subst h2
    exact ⟨h1, Below.refl _ _⟩
  · subst h1'
    exact held_strs n hn K h1 hK2 g cap w h2.2.1
end Go.Proofs.Ytplggghhhgmebaa
