/-
  The marks that the laws write into rows of Piece.
-/
import Derived.Test.YtmbmbkagmkmhlabPc
import Derived.Test.YtmbmbkagmkmhlabSetM
import Derived.Deep.RegionWith
namespace Go.Proofs.Ytmbmbkagmkmhlab
open Go.ChangeShapes Go.WideShapes Go.ChangeAt Go.RowKit Go.Joins


/-- The marks from K on. -/
def mpc (K k : Nat) : Pc := ⟨(K : Int) + 3 * (k : Int), (K : Int) + 3 * (k : Int) + 1, (K : Int) + 3 * (k : Int) + 1 + 1⟩
def mpcL (K m : Nat) : List Pc := (List.range m).map (mpc K)
theorem mpcL_length (K m : Nat) : (mpcL K m).length = m := by simp [mpcL]
theorem mpcL_at {K m k : Nat} (h : k < m) : (mpcL K m)[k]? = some (mpc K k) := by simp [mpcL, h]
theorem cells_pcset (w : World) (g o : Nat) (v0 v1 v2 : Value) : ((w.setCell ⟨g, o, none⟩ v0).setCell ⟨g, o + 1, none⟩ v1).setCell ⟨g, o + 2, none⟩ v2 = w.setCells g o [v0, v1, v2] := by
  simp only [World.setCells]

set_option maxRecDepth 100000 in
set_option maxHeartbeats 3200000 in
theorem mark_pcs (m : Nat) (hn : m ≤ 1048577) (K : Nat) (hK2 : K ≤ 100000000) (g cap : Nat) (w : World) (h : w.there g 0 (m * 3)) :
    Calls Try.prog 38 #[.slice (some ⟨g, 0, none⟩) m cap, .int .i64 K] w fun e w' => e = .returned (.int .i64 ((K + 3 * m : Nat) : Int)) ∧ Only g w w' ∧ PcAt w' g 0 (mpcL K m) ∧ w'.there g 0 (m * 3) := by
  have HT := Lib.hid h
  clear h
  go_enter Try.func38, Try.ntmps38
  go_wp2
  go_loopw [1, 5] (fun u i wr => ∃ (k : Nat), k ≤ m ∧ u = .int .i64 ((K : Int) + 3 * (k : Int)) ∧ i = .int .i64 k ∧ Hid (∀ j, j < k → wr.rangeAt g (j * 3) (mpc K j).vals) ∧ Hid (wr.there g 0 (m * 3)) ∧ Hid (Only g w wr)) (fun _ i _ => m - (intOf i).toNat)
  case atStart => exact ⟨0, Nat.zero_le _, by simp, rfl, fun j hj => by omega, HT.out, Only.refl _ _⟩
  case round =>
    obtain ⟨k, hk, rfl, rfl, hR, hT, hb⟩ := hrel
    by_cases hlt : k < m
    · have hlt' : (k : Int) < (m : Int) := by omega
      have hk0 : (0 : Int) ≤ (k : Int) := by omega
      obtain ⟨u0, a0, f0⟩ := there_at hT.out (k := k * 3) (by omega)
      obtain ⟨u1, a1, f1⟩ := there_at hT.out (k := k * 3 + 1) (by omega)
      obtain ⟨u2, a2, f2⟩ := there_at hT.out (k := k * 3 + 2) (by omega)
      go_wp2
      go_roundw
      case rel =>
        have hv : (mpc K k).vals = [.int .i64 ((K : Int) + 3 * (k : Int)), .int .i64 ((K : Int) + 3 * (k : Int) + 1), .int .i64 ((K : Int) + 3 * (k : Int) + 1 + 1)] := rfl
        refine ⟨k + 1, by omega, by go_num, by go_num, fun j hj => ?_, ?_, ?_⟩
        · rw [cells_pcset]
          by_cases e : j = k
          · subst e
            rw [hv]
            exact World.rangeAt_setCells_same wr g (j * 3) _ (there_part hT.out hlt)
          · refine World.rangeAt_setCells_apart (hR.out j (by omega)) _ _ _ (.inr ?_)
            have h5 : (mpc K j).vals.length = 3 := rfl
            rw [h5]
            left
            omega
        · exact there_setM (there_setM (there_setM hT.out _ _) _ _) _ _
        · exact ((hb.out.set _ _).set _ _).set _ _
      case measure => simp [intOf]; omega
    · have hge : ¬ (k : Int) < (m : Int) := by omega
      have hkn : k = m := by omega
      subst hkn
      go_wp2
      go_ret
      refine ⟨by simp, hb.out, fun j c hj => ?_, hT.out⟩
      have hl := (List.getElem?_eq_some_iff.1 hj).1
      rw [mpcL_length] at hl
      rw [mpcL_at hl] at hj
      cases hj
      rw [Nat.zero_add]
      exact hR.out j hl

set_option maxRecDepth 100000 in
theorem markPc_nil (a : Option Addr) (cap K : Nat) (w : World) :
    Calls Try.prog 38 #[.slice a 0 cap, .int .i64 K] w fun e w' => e = .returned (.int .i64 (K : Int)) ∧ w = w' := by
  go_enter Try.func38, Try.ntmps38
  go_wp2
  go_loopw [1, 5] (fun u i wr => u = .int .i64 (K : Int) ∧ i = .int .i64 0 ∧ w = wr) (fun _ _ _ => 0)
  case atStart => exact ⟨rfl, rfl, rfl⟩
  case round =>
    obtain ⟨rfl, rfl, rfl⟩ := hrel
    go_wp2
    go_ret
    exact ⟨rfl, rfl⟩
theorem markPc_res (M : List Pc) (hn : M.length ≤ 1048577) (K : Nat) (hK2 : K ≤ 100000000) (B cap : Nat) (a : Option Addr) (w : World) (hB : B ≤ w.heap.size) (h : PcRes B M a w) :
    Calls Try.prog 38 #[.slice a M.length cap, .int .i64 K] w fun e w' => e = .returned (.int .i64 ((K + 3 * M.length : Nat) : Int)) ∧ Below B w w' ∧ PcRes B (mpcL K M.length) a w' := by
  rcases h with h | ⟨g, h2, h3⟩
  · subst h
    refine (markPc_nil a cap K w).mono ?_
    rintro e w' ⟨h1, h2⟩
    subst h2
    exact ⟨h1, Below.refl _ _, .inl rfl⟩
  · subst h2
    refine (mark_pcs M.length hn K hK2 g cap w h3.2.2.1).mono ?_
    rintro e w' ⟨h4, h5, h6, h7⟩
    exact ⟨h4, h5.base h3.1 hB, .inr ⟨g, rfl, h3.1, h6, by rw [mpcL_length]; exact h7, Nat.lt_of_lt_of_le h3.2.2.2 h5.size⟩⟩
/-- A row that lies low: no later block is its. -/
def LowPc (B : Nat) (L : List Pc) (a : Option Addr) (w : World) : Prop := L = [] ∨ ∃ b o, a = some ⟨b, o, none⟩ ∧ b < B ∧ PcAt w b o L
theorem LowPc.of {L : List Pc} {a : Option Addr} {B : Nat} {w : World} (h : PcRes B L a w) : LowPc w.heap.size L a w := by
  rcases h with h | ⟨g, h1, h2⟩
  · exact .inl h
  · exact .inr ⟨g, 0, h1, h2.2.2.2, h2.2.1⟩
theorem LowPc.arg {B : Nat} {L : List Pc} {a : Option Addr} {w : World} (h : LowPc B L a w) : PcArg w a L := by
  rcases h with h | ⟨g, o, h1, _, h2⟩
  · exact .inl h
  · exact .inr ⟨g, o, h1, h2⟩
theorem LowPc.later {B : Nat} {L : List Pc} {a : Option Addr} {w w' : World} (h : LowPc B L a w) (hb : Below w.heap.size w w') : LowPc B L a w' := by
  rcases h with h | ⟨g, o, h1, h3, h2⟩
  · exact .inl h
  · exact .inr ⟨g, o, h1, h3, h2.later hb⟩
theorem LowPc.below {B m : Nat} {L : List Pc} {a : Option Addr} {w w' : World} (h : LowPc B L a w) (hb : Below m w w') (hm : B ≤ m) : LowPc B L a w' := by
  rcases h with h | ⟨g, o, h1, h3, h2⟩
  · exact .inl h
  · exact .inr ⟨g, o, h1, h3, h2.below hb (by omega)⟩
theorem LowPc.only {B g0 : Nat} {L : List Pc} {a : Option Addr} {w w' : World} (h : LowPc B L a w) (ho : Only g0 w w') (hg : B ≤ g0) : LowPc B L a w' := by
  rcases h with h | ⟨g, o, h1, h3, h2⟩
  · exact .inl h
  · exact .inr ⟨g, o, h1, h3, fun k c hk => ho.range (by omega) (h2 k c hk)⟩
end Go.Proofs.Ytmbmbkagmkmhlab
