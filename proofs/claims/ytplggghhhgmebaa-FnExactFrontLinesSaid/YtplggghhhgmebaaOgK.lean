/-
  The marks that the laws write into rows of Opening.
-/
import Derived.Test.YtplggghhhgmebaaOg
import Derived.Test.YtplggghhhgmebaaSetM
import Derived.Deep.RegionWith
namespace Go.Proofs.Ytplggghhhgmebaa
open Go.ChangeShapes Go.WideShapes Go.ChangeAt Go.RowKit Go.Joins

/-- The marks from K on. -/
def mog (K k : Nat) : Og := ⟨(K : Int) + 4 * (k : Int), (K : Int) + 4 * (k : Int) + 1, (K : Int) + 4 * (k : Int) + 1 + 1, (K : Int) + 4 * (k : Int) + 1 + 1 + 1⟩
def mogL (K m : Nat) : List Og := (List.range m).map (mog K)
theorem mogL_length (K m : Nat) : (mogL K m).length = m := by simp [mogL]
theorem mogL_at {K m k : Nat} (h : k < m) : (mogL K m)[k]? = some (mog K k) := by simp [mogL, h]
theorem cells_ogset (w : World) (g o : Nat) (v0 v1 v2 v3 : Value) : (((w.setCell ⟨g, o, none⟩ v0).setCell ⟨g, o + 1, none⟩ v1).setCell ⟨g, o + 2, none⟩ v2).setCell ⟨g, o + 3, none⟩ v3 = w.setCells g o [v0, v1, v2, v3] := by
  simp only [World.setCells]

set_option maxRecDepth 100000 in
set_option maxHeartbeats 3200000 in
theorem mark_ogs (m : Nat) (hn : m ≤ 1048577) (K : Nat) (hK2 : K ≤ 100000000) (g cap : Nat) (w : World) (h : w.there g 0 (m * 4)) :
    Calls Try.prog 62 #[.slice (some ⟨g, 0, none⟩) m cap, .int .i64 K] w fun e w' => e = .returned (.int .i64 ((K + 4 * m : Nat) : Int)) ∧ Only g w w' ∧ OgAt w' g 0 (mogL K m) ∧ w'.there g 0 (m * 4) := by
  have HT := Lib.hid h
  clear h
  go_enter Try.func62, Try.ntmps62
  go_wp2
  go_loopw [1, 5] (fun u i wr => ∃ (k : Nat), k ≤ m ∧ u = .int .i64 ((K : Int) + 4 * (k : Int)) ∧ i = .int .i64 k ∧ Hid (∀ j, j < k → wr.rangeAt g (j * 4) (mog K j).vals) ∧ Hid (wr.there g 0 (m * 4)) ∧ Hid (Only g w wr)) (fun _ i _ => m - (intOf i).toNat)
  case atStart => exact ⟨0, Nat.zero_le _, by simp, rfl, fun j hj => by omega, HT.out, Only.refl _ _⟩
  case round =>
    obtain ⟨k, hk, rfl, rfl, hR, hT, hb⟩ := hrel
    by_cases hlt : k < m
    · have hlt' : (k : Int) < (m : Int) := by omega
      have hk0 : (0 : Int) ≤ (k : Int) := by omega
      obtain ⟨u0, a0, f0⟩ := there_at hT.out (k := k * 4) (by omega)
      obtain ⟨u1, a1, f1⟩ := there_at hT.out (k := k * 4 + 1) (by omega)
      obtain ⟨u2, a2, f2⟩ := there_at hT.out (k := k * 4 + 2) (by omega)
      obtain ⟨u3, a3, f3⟩ := there_at hT.out (k := k * 4 + 3) (by omega)
      go_wp2
      go_roundw
      case rel =>
        have hv : (mog K k).vals = [.int .i64 ((K : Int) + 4 * (k : Int)), .int .i64 ((K : Int) + 4 * (k : Int) + 1), .int .i64 ((K : Int) + 4 * (k : Int) + 1 + 1), .int .i64 ((K : Int) + 4 * (k : Int) + 1 + 1 + 1)] := rfl
        refine ⟨k + 1, by omega, by go_num, by go_num, fun j hj => ?_, ?_, ?_⟩
        · rw [cells_ogset]
          by_cases e : j = k
          · subst e
            rw [hv]
            exact World.rangeAt_setCells_same wr g (j * 4) _ (there_part hT.out hlt)
          · refine World.rangeAt_setCells_apart (hR.out j (by omega)) _ _ _ (.inr ?_)
            have h5 : (mog K j).vals.length = 4 := rfl
            rw [h5]
            left
            omega
        · exact there_setM (there_setM (there_setM (there_setM hT.out _ _) _ _) _ _) _ _
        · exact (((hb.out.set _ _).set _ _).set _ _).set _ _
      case measure => simp [intOf]; omega
    · have hge : ¬ (k : Int) < (m : Int) := by omega
      have hkn : k = m := by omega
      subst hkn
      go_wp2
      go_ret
      refine ⟨by simp, hb.out, fun j c hj => ?_, hT.out⟩
      have hl := (List.getElem?_eq_some_iff.1 hj).1
      rw [mogL_length] at hl
      rw [mogL_at hl] at hj
      cases hj
      rw [Nat.zero_add]
      exact hR.out j hl

set_option maxRecDepth 100000 in
set_option maxHeartbeats 3200000 in
theorem held_ogs (m : Nat) (hn : m ≤ 1048577) (K : Nat) (hK2 : K ≤ 100000000) (g cap : Nat) (w : World) (h : OgAt w g 0 (mogL K m)) :
    Calls Try.prog 63 #[.slice (some ⟨g, 0, none⟩) m cap, .int .i64 K] w fun e w' => e = .returned (.int .i64 ((K + 4 * m : Nat) : Int)) ∧ Below w.heap.size w w' := by
  have H := Lib.hid h
  clear h
  go_enter Try.func63, Try.ntmps63
  go_wp2
  go_loopw [1, 5] (fun u i wr => ∃ (k : Nat), k ≤ m ∧ u = .int .i64 ((K : Int) + 4 * (k : Int)) ∧ i = .int .i64 k ∧ Hid (Below w.heap.size w wr)) (fun _ i _ => m - (intOf i).toNat)
  case atStart => exact ⟨0, Nat.zero_le _, by simp, rfl, Below.refl _ _⟩
  case round =>
    obtain ⟨k, hk, rfl, rfl, hb⟩ := hrel
    by_cases hlt : k < m
    · have hlt' : (k : Int) < (m : Int) := by omega
      have hk0 : (0 : Int) ≤ (k : Int) := by omega
      have hcs := (H.out.later hb.out).cells (mogL_at hlt)
      simp only [mog, Nat.zero_add] at hcs
      obtain ⟨c0, c1, c2, c3⟩ := hcs
      go_wp2
      go_roundw
      case rel => exact ⟨k + 1, by omega, by go_num, by go_num, hb.out⟩
      case measure => simp [intOf]; omega
    · have hge : ¬ (k : Int) < (m : Int) := by omega
      have hkn : k = m := by omega
      subst hkn
      go_wp2
      go_ret
      exact ⟨by simp, hb.out⟩
set_option maxRecDepth 100000 in
theorem markOg_nil (a : Option Addr) (cap K : Nat) (w : World) :
    Calls Try.prog 62 #[.slice a 0 cap, .int .i64 K] w fun e w' => e = .returned (.int .i64 (K : Int)) ∧ w = w' := by
  go_enter Try.func62, Try.ntmps62
  go_wp2
  go_loopw [1, 5] (fun u i wr => u = .int .i64 (K : Int) ∧ i = .int .i64 0 ∧ w = wr) (fun _ _ _ => 0)
  case atStart => exact ⟨rfl, rfl, rfl⟩
  case round =>
    obtain ⟨rfl, rfl, rfl⟩ := hrel
    go_wp2
    go_ret
    exact ⟨rfl, rfl⟩
set_option maxRecDepth 100000 in
theorem heldOg_nil (a : Option Addr) (cap K : Nat) (w : World) :
    Calls Try.prog 63 #[.slice a 0 cap, .int .i64 K] w fun e w' => e = .returned (.int .i64 (K : Int)) ∧ w = w' := by
  go_enter Try.func63, Try.ntmps63
  go_wp2
  go_loopw [1, 5] (fun u i wr => u = .int .i64 (K : Int) ∧ i = .int .i64 0 ∧ w = wr) (fun _ _ _ => 0)
  case atStart => exact ⟨rfl, rfl, rfl⟩
  case round =>
    obtain ⟨rfl, rfl, rfl⟩ := hrel
    go_wp2
    go_ret
    exact ⟨rfl, rfl⟩
theorem markOg_res (M : List Og) (hn : M.length ≤ 1048577) (K : Nat) (hK2 : K ≤ 100000000) (B cap : Nat) (a : Option Addr) (w : World) (hB : B ≤ w.heap.size) (h : OgRes B M a w) :
    Calls Try.prog 62 #[.slice a M.length cap, .int .i64 K] w fun e w' => e = .returned (.int .i64 ((K + 4 * M.length : Nat) : Int)) ∧ Below B w w' ∧ OgRes B (mogL K M.length) a w' := by
  rcases h with h | ⟨g, h2, h3⟩
  · subst h
    refine (markOg_nil a cap K w).mono ?_
    rintro e w' ⟨h1, h2⟩
    subst h2
    exact ⟨h1, Below.refl _ _, .inl rfl⟩
  · subst h2
    refine (mark_ogs M.length hn K hK2 g cap w h3.2.2.1).mono ?_
    rintro e w' ⟨h4, h5, h6, h7⟩
    exact ⟨h4, h5.base h3.1 hB, .inr ⟨g, rfl, h3.1, h6, by rw [mogL_length]; exact h7, Nat.lt_of_lt_of_le h3.2.2.2 h5.size⟩⟩
theorem heldOg_res (m : Nat) (hn : m ≤ 1048577) (K : Nat) (hK2 : K ≤ 100000000) (cap : Nat) (a : Option Addr) (w : World) (B : Nat) (h : OgRes B (mogL K m) a w) :
    Calls Try.prog 63 #[.slice a m cap, .int .i64 K] w fun e w' => e = .returned (.int .i64 ((K + 4 * m : Nat) : Int)) ∧ Below w.heap.size w w' := by
  rcases h with h | ⟨g, h2, h3⟩
  · have hn0 : m = 0 := by have := congrArg List.length h; simpa [mogL_length] using this
    subst hn0
    refine (heldOg_nil a cap K w).mono ?_
    rintro e w' ⟨h1, h2⟩
    subst h2
    exact ⟨h1, Below.refl _ _⟩
  · subst h2
    exact held_ogs m hn K hK2 g cap w h3.2.1
/-- A row that lies low: no later block is its. -/
def LowOg (B : Nat) (L : List Og) (a : Option Addr) (w : World) : Prop := L = [] ∨ ∃ b o, a = some ⟨b, o, none⟩ ∧ b < B ∧ OgAt w b o L
theorem LowOg.of {L : List Og} {a : Option Addr} {B : Nat} {w : World} (h : OgRes B L a w) : LowOg w.heap.size L a w := by
  rcases h with h | ⟨g, h1, h2⟩
  · exact .inl h
  · exact .inr ⟨g, 0, h1, h2.2.2.2, h2.2.1⟩
theorem LowOg.arg {B : Nat} {L : List Og} {a : Option Addr} {w : World} (h : LowOg B L a w) : OgArg w a L := by
  rcases h with h | ⟨g, o, h1, _, h2⟩
  · exact .inl h
  · exact .inr ⟨g, o, h1, h2⟩
theorem LowOg.later {B : Nat} {L : List Og} {a : Option Addr} {w w' : World} (h : LowOg B L a w) (hb : Below w.heap.size w w') : LowOg B L a w' := by
  rcases h with h | ⟨g, o, h1, h3, h2⟩
  · exact .inl h
  · exact .inr ⟨g, o, h1, h3, h2.later hb⟩
theorem LowOg.below {B m : Nat} {L : List Og} {a : Option Addr} {w w' : World} (h : LowOg B L a w) (hb : Below m w w') (hm : B ≤ m) : LowOg B L a w' := by
  rcases h with h | ⟨g, o, h1, h3, h2⟩
  · exact .inl h
  · exact .inr ⟨g, o, h1, h3, h2.below hb (by omega)⟩
theorem LowOg.only {B g0 : Nat} {L : List Og} {a : Option Addr} {w w' : World} (h : LowOg B L a w) (ho : Only g0 w w') (hg : B ≤ g0) : LowOg B L a w' := by
  rcases h with h | ⟨g, o, h1, h3, h2⟩
  · exact .inl h
  · exact .inr ⟨g, o, h1, h3, fun k c hk => ho.range (by omega) (h2 k c hk)⟩
end Go.Proofs.Ytplggghhhgmebaa
