/-
  Marks that the laws write into rows of numbers, and look for again.
-/
import Derived.Test.YtpmklnldgafkjaaPartsA
namespace Go.Proofs.Ytpmklnldgafkjaa
open Go.ChangeShapes Go.WideShapes Go.ChangeAt Go.RowKit Go.Joins

/-- The marks from K on. -/
def marksL (K n : Nat) : List Int := (List.range n).map fun j => ((K + j : Nat) : Int)
theorem marksL_length (K n : Nat) : (marksL K n).length = n := by simp [marksL]
theorem marksL_at {K n k : Nat} (h : k < n) : (marksL K n)[k]? = some ((K + k : Nat) : Int) := by simp [marksL, h]

set_option maxRecDepth 100000 in
set_option maxHeartbeats 1600000 in
theorem mark_ints (P : List Int) (hn : P.length ≤ 1048577) (K : Nat) (hK2 : K ≤ 100000000) (B g cap : Nat) (w : World) (h : IntOwn B P g w) :
    Calls Try.prog 44 #[.slice (some ⟨g, 0, none⟩) P.length cap, .int .i64 K] w fun e w' => e = .returned (.int .i64 ((K + P.length : Nat) : Int)) ∧ Only g w w' ∧ IntOwn B (marksL K P.length) g w' := by
  have HG := Lib.hid h.1
  have HT := Lib.hid h.2.2.1
  have HZ := Lib.hid h.2.2.2
  clear h
  go_enter Try.func44, Try.ntmps44
  go_wp2
  go_loopw [1, 5] (fun u i wr => ∃ (k : Nat), k ≤ P.length ∧ u = .int .i64 ((K + k : Nat) : Int) ∧ i = .int .i64 k ∧ Hid (∀ j, j < k → wr.cell? ⟨g, j, none⟩ = some (.int .i64 ((K + j : Nat) : Int))) ∧ Hid (wr.there g 0 P.length) ∧ Hid (Only g w wr)) (fun _ i _ => P.length - (intOf i).toNat)
  case atStart => exact ⟨0, Nat.zero_le _, rfl, rfl, fun j hj => by omega, HT.out, Only.refl _ _⟩
  case round =>
    obtain ⟨k, hk, rfl, rfl, hR, hT, hb⟩ := hrel
    by_cases hlt : k < P.length
    · have hlt' : (k : Int) < (P.length : Int) := by omega
      have hk0 : (0 : Int) ≤ (k : Int) := by omega
      obtain ⟨u, v0, v1⟩ := there_at hT.out hlt
      have IS := Lib.hid (int_store hT.out hlt (.int .i64 ((K + k : Nat) : Int)))
      have BS : Hid (Only g w (wr.setCell ⟨g, k, none⟩ (.int .i64 ((K + k : Nat) : Int)))) := hb.out.set _ _
      go_wp2
      go_roundw
      case rel =>
        refine ⟨k + 1, by omega, by go_num, by go_num, fun j hj => ?_, ?_, ?_⟩
        · by_cases e : j = k
          · subst e
            simpa using IS.out.2.1
          · have := IS.out.2.2 ⟨g, j, none⟩ (fun h => e (by cases h; rfl))
            simp at this ⊢
            rw [this]
            simpa using hR.out j (by omega)
        · refine Lib.hid ?_
          simpa using IS.out.1
        · refine Lib.hid ?_
          simpa using BS.out
      case measure => simp [intOf]; omega
    · have hge : ¬ (k : Int) < (P.length : Int) := by omega
      have hkn : k = P.length := by omega
      subst hkn
      go_wp2
      go_ret
      refine ⟨rfl, hb.out, HG.out, fun j z hj => ?_, ?_, Nat.lt_of_lt_of_le HZ.out hb.out.size⟩
      · have hl := (List.getElem?_eq_some_iff.1 hj).1
        rw [marksL_length] at hl
        rw [marksL_at hl] at hj
        cases hj
        rw [Nat.zero_add]
        exact hR.out j hl
      · rw [marksL_length]
        exact hT.out

set_option maxRecDepth 100000 in
set_option maxHeartbeats 1600000 in
theorem held_ints (n : Nat) (hn : n ≤ 1048577) (K : Nat) (hK2 : K ≤ 100000000) (g cap : Nat) (w : World) (h : IntAt w g 0 (marksL K n)) :
    Calls Try.prog 45 #[.slice (some ⟨g, 0, none⟩) n cap, .int .i64 K] w fun e w' => e = .returned (.int .i64 ((K + n : Nat) : Int)) ∧ Below w.heap.size w w' := by
  have H := Lib.hid h
  clear h
  go_enter Try.func45, Try.ntmps45
  go_wp2
  go_loopw [1, 5] (fun u i wr => ∃ (k : Nat), k ≤ n ∧ u = .int .i64 ((K + k : Nat) : Int) ∧ i = .int .i64 k ∧ Hid (Below w.heap.size w wr)) (fun _ i _ => n - (intOf i).toNat)
  case atStart => exact ⟨0, Nat.zero_le _, rfl, rfl, Below.refl _ _⟩
  case round =>
    obtain ⟨k, hk, rfl, rfl, hb⟩ := hrel
    by_cases hlt : k < n
    · have hlt' : (k : Int) < (n : Int) := by omega
      have hk0 : (0 : Int) ≤ (k : Int) := by omega
      have c0 := (H.out.later hb.out) k _ (marksL_at hlt)
      rw [Nat.zero_add] at c0
      go_wp2
      go_roundw
      case rel => exact ⟨k + 1, by omega, by go_num, by go_num, hb.out⟩
      case measure => simp [intOf]; omega
    · have hge : ¬ (k : Int) < (n : Int) := by omega
      have hkn : k = n := by omega
      subst hkn
      go_wp2
      go_ret
      exact ⟨rfl, hb.out⟩

set_option maxRecDepth 100000 in
theorem mark_nil (a : Option Addr) (cap K : Nat) (w : World) :
    Calls Try.prog 44 #[.slice a 0 cap, .int .i64 K] w fun e w' => e = .returned (.int .i64 (K : Int)) ∧ w = w' := by
  go_enter Try.func44, Try.ntmps44
  go_wp2
  go_loopw [1, 5] (fun u i wr => u = .int .i64 (K : Int) ∧ i = .int .i64 0 ∧ w = wr) (fun _ _ _ => 0)
  case atStart => exact ⟨rfl, rfl, rfl⟩
  case round =>
    obtain ⟨rfl, rfl, rfl⟩ := hrel
    go_wp2
    go_ret
    exact ⟨rfl, rfl⟩
set_option maxRecDepth 100000 in
theorem held_nil (a : Option Addr) (cap K : Nat) (w : World) :
    Calls Try.prog 45 #[.slice a 0 cap, .int .i64 K] w fun e w' => e = .returned (.int .i64 (K : Int)) ∧ w = w' := by
  go_enter Try.func45, Try.ntmps45
  go_wp2
  go_loopw [1, 5] (fun u i wr => u = .int .i64 (K : Int) ∧ i = .int .i64 0 ∧ w = wr) (fun _ _ _ => 0)
  case atStart => exact ⟨rfl, rfl, rfl⟩
  case round =>
    obtain ⟨rfl, rfl, rfl⟩ := hrel
    go_wp2
    go_ret
    exact ⟨rfl, rfl⟩

/-- A slice of numbers that is handed back: nothing is in it, or it is a row of the call's own. -/
def IntRes (B : Nat) (Q : List Int) (a : Option Addr) (w : World) : Prop := Q = [] ∨ ∃ g, a = some ⟨g, 0, none⟩ ∧ IntOwn B Q g w
theorem IntRes.later {B : Nat} {Q : List Int} {a : Option Addr} {w w' : World} (h : IntRes B Q a w) (hb : Below w.heap.size w w') : IntRes B Q a w' := by
  rcases h with h | ⟨g, h1, h2⟩
  · exact .inl h
  · exact .inr ⟨g, h1, h2.later hb⟩
theorem IntRes.arg {B : Nat} {Q : List Int} {a : Option Addr} {w : World} (h : IntRes B Q a w) : IntArg w a Q := by
  rcases h with h | ⟨g, h1, h2⟩
  · exact .inl h
  · rw [h1]; exact h2.arg
/-- It is not the row that was written. -/
theorem IntRes.only {B b : Nat} {Q : List Int} {a : Option Addr} {w w' : World} (h : IntRes B Q a w) (hb : Only b w w') (hne : b < B) : IntRes B Q a w' := by
  rcases h with h | ⟨g, h1, h2⟩
  · exact .inl h
  · have hgb : g ≠ b := by have := h2.1; omega
    refine .inr ⟨g, h1, h2.1, fun k z hk => ?_, hb.there hgb h2.2.2.1, Nat.lt_of_lt_of_le h2.2.2.2 hb.size⟩
    have h3 := h2.2.1 k z hk
    rw [World.cell?_of_block (w := w) (a := ⟨g, 0 + k, none⟩) (hb.block g h2.2.2.2 (fun e => hgb (by cases e; rfl)))]
    exact h3
theorem mark_res (Q : List Int) (hn : Q.length ≤ 1048577) (K : Nat) (hK2 : K ≤ 100000000) (B cap : Nat) (a : Option Addr) (w : World) (hB : B ≤ w.heap.size) (h : IntRes B Q a w) :
    Calls Try.prog 44 #[.slice a Q.length cap, .int .i64 K] w fun e w' => e = .returned (.int .i64 ((K + Q.length : Nat) : Int)) ∧ Below B w w' ∧ IntRes B (marksL K Q.length) a w' := by
  rcases h with h | ⟨g, h1, h2⟩
  · subst h
    refine (mark_nil a cap K w).mono ?_
    rintro e w' ⟨h1, h2⟩
    subst h2
    exact ⟨h1, Below.refl _ _, .inl rfl⟩
  · subst h1
    refine (mark_ints Q hn K hK2 B g cap w h2).mono ?_
    rintro e w' ⟨h3, h4, h5⟩
    exact ⟨h3, h4.base h2.1 hB, .inr ⟨g, rfl, h5⟩⟩
theorem held_res (n : Nat) (hn : n ≤ 1048577) (K : Nat) (hK2 : K ≤ 100000000) (cap : Nat) (a : Option Addr) (w : World) (B : Nat) (h : IntRes B (marksL K n) a w) :
    Calls Try.prog 45 #[.slice a n cap, .int .i64 K] w fun e w' => e = .returned (.int .i64 ((K + n : Nat) : Int)) ∧ Below w.heap.size w w' := by
  rcases h with h | ⟨g, h1, h2⟩
  · have hn0 : n = 0 := by have := congrArg List.length h; simpa [marksL_length] using this
    subst hn0
    refine (held_nil a cap K w).mono ?_
    rintro e w' ⟨h1, h2⟩
    subst h2
    exact ⟨h1, Below.refl _ _⟩
  · subst h1
    exact held_ints n hn K hK2 g cap w h2.2.1
end Go.Proofs.Ytpmklnldgafkjaa
