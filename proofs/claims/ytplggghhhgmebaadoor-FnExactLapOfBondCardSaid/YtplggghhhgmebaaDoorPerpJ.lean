/-
  The pieces and perpends of a course by the program.
-/
import Derived.Test.YtplggghhhgmebaaDoorPerpI
import Derived.Test.YtplggghhhgmebaaDoorBuildS
import Derived.Test.YtplggghhhgmebaaDoorPerpT
namespace Go.Proofs.YtplggghhhgmebaaDoor
open Go.ChangeShapes Go.WideShapes Go.ChangeAt Go.RowKit Go.Joins

theorem byteCells_snoc (c : Co) (i : Nat) : Lib.byteCells (pieceL c (i + 1)) = Lib.byteCells (pieceL c i) ++ [.int .u8 ((letterAt c i).toNat : Int)] := by
  rw [pieceL_succ]; simp [Lib.byteCells]
theorem intVals_snoc (c : Co) (i : Nat) : intVals (perpL c (i + 1)) = intVals (perpL c i) ++ [.int .i64 ((ends c (i + 1) : Nat) : Int)] := by
  rw [perpL_succ]; simp [intVals]
/-- What lies where while pieces are read. -/
structure PcAt (w : World) (c : Co) (i r b : Nat) (v : Value) (wr : World) : Prop where
  rd : RdAt r c (i + 1) (ends c (i + 1)) wr
  bd : IsB w.heap.size b (Lib.byteCells (pieceL c i)) wr
  row : wr.ownsRow w.heap.size 2 1 v i (intVals (perpL c i))
  below : Below w.heap.size w wr
  hr : w.heap.size ≤ r
theorem row_res {w wr : World} {P : List Int} {v : Value} (h : wr.ownsRow w.heap.size 2 1 v P.length (intVals P)) : ∃ a cap, v = .slice a P.length cap ∧ IntRes w.heap.size P a wr := by
  rcases h.2 with ⟨hv, h0⟩ | ⟨g, cap, cur, hv, hB, hg, _⟩
  · have hP : P = [] := List.eq_nil_of_length_eq_zero h0
    subst hP
    exact ⟨_, _, hv, .inl rfl⟩
  · refine ⟨_, _, hv, .inr ⟨g, rfl, hB, fun k z hk => ?_, fun j hj => ?_, (Array.getElem?_eq_some_iff.1 hg).1⟩⟩
    · have hl := (List.getElem?_eq_some_iff.1 hk).1
      subst hv
      rw [Nat.zero_add, World.ownsRow.cellAt h k (by omega)]
      simp [intVals, hk]
    · subst hv
      rw [Nat.zero_add]
      refine ⟨?_, World.ownsRow.frozenAt h j⟩
      rw [World.ownsRow.cellAt h j (by omega), List.getElem?_eq_getElem (by simpa [intVals] using hj)]
      rfl
/-- Pieces and their ends are handed back. -/
def PiecesOut (w : World) (c : Co) (u : Nat) (e : Ending) (w' : World) : Prop :=
  ∃ m a cap, PerpIs c (u + 1) m ∧ e = .returned (.tuple #[.string ⟨(pieceL c m).toArray⟩, .slice a m cap]) ∧ IntRes w.heap.size (perpL c m) a w' ∧ Below w.heap.size w w'

theorem isb_start (w : World) (X R : Obj) : IsB w.heap.size (w.heap.size + 1) (Lib.byteCells []) (((w.alloc X).alloc (.cells #[.pointer none, .slice none 0 0] 78)).alloc R) := by
  have h1 := heap_alloc_new (w.alloc X) (.cells #[.pointer none, .slice none 0 0] 78)
  have h2 : (((w.alloc X).alloc (.cells #[.pointer none, .slice none 0 0] 78)).alloc R).heap[w.heap.size + 1]? = some (.cells #[.pointer none, .slice none 0 0] 78 (0, 0)) := by
    rw [Below.heap_alloc _ _ _ (by simp)]
    simpa using h1
  exact .inl ⟨Nat.le_succ _, .slice none 0 0, h2, ⟨rfl, .inl ⟨rfl, rfl⟩⟩, by simp [Value.ownBlock]⟩
set_option maxRecDepth 100000 in
set_option maxHeartbeats 6400000 in
theorem pieces_impl {nm : ByteArray} {L : List Co} (hok : okBond nm L = true) (a : Option Addr) (cap k u : Nat) (hk : k ≤ 2000) (hu : u ≤ 200) (w : World) (ha : CoArg w a L) :
    Calls Tryd.prog 40 #[.agg #[.string nm, .slice a L.length cap], .int .i64 (k : Int), .int .i64 (u : Int)] w (PiecesOut w (crs L k) u) := by
  obtain ⟨_, h1, h8, _⟩ := okBond_facts hok
  have HO := Lib.hid (crs_ok hok k)
  obtain ⟨b', o, rfl, e0, e1⟩ := crs_in ha h1 k
  obtain ⟨c, hc⟩ : ∃ c, crs L k = c := ⟨_, rfl⟩
  rw [hc] at HO e0 e1 ⊢
  have hm : k % L.length < L.length := Nat.mod_lt k h1
  have em : ((k : Int) % (L.length : Int)) = ((k % L.length : Nat) : Int) := (Int.natCast_emod _ _).symm
  obtain ⟨j, hj⟩ : ∃ j, k % L.length = j := ⟨_, rfl⟩
  rw [hj] at e0 e1 hm em
  have hz : ¬ (L.length : Int) = 0 := by omega
  have hj' : (j : Int) < (L.length : Int) := by omega
  have hj0 : (0 : Int) ≤ (j : Int) := by omega
  have A0 : ∀ p v, w.cell? p = some v → ((w.alloc (.cells #[.string nm, .slice (some ⟨b', o, none⟩) L.length cap] 30)).alloc (.cells #[.pointer none, .slice none 0 0] 78)).cell? p = some v := fun p v h =>
    (World.cell?_alloc_lt _ _ _ (by have := World.block_lt_of_cell? w _ h; simp; omega)).trans ((World.cell?_alloc_lt _ _ _ (World.block_lt_of_cell? w _ h)).trans h)
  have e0 := A0 _ _ e0
  have e1 := A0 _ _ e1
  have g1 : ((w.alloc (.cells #[.string nm, .slice (some ⟨b', o, none⟩) L.length cap] 30)).alloc (.cells #[.pointer none, .slice none 0 0] 78)).cell? ⟨w.heap.size, 1, none⟩ = some (.slice (some ⟨b', o, none⟩) L.length cap) :=
    (World.cell?_alloc_lt _ _ _ (by simp)).trans (box2 w nm _ _).2
  have A1 : ∀ p v, ((w.alloc (.cells #[.string nm, .slice (some ⟨b', o, none⟩) L.length cap] 30)).alloc (.cells #[.pointer none, .slice none 0 0] 78)).cell? p = some v → (((w.alloc (.cells #[.string nm, .slice (some ⟨b', o, none⟩) L.length cap] 30)).alloc (.cells #[.pointer none, .slice none 0 0] 78)).alloc (.cells #[.string ⟨#[]⟩, .string ⟨#[]⟩, .int .i64 0, .int .i64 0] 82)).cell? p = some v := fun p v h => (World.cell?_alloc_lt _ _ _ (World.block_lt_of_cell? _ _ h)).trans h
  have x0 := A1 _ _ e0
  have x1 := A1 _ _ e1
  have y1 := A1 _ _ g1
  clear A1
  clear A0 ha hc hj hok
  go_enter Tryd.func40, Tryd.ntmps40
  go_wp2
  go_region
  go_wp2_with fail
  have hR : RdAt (w.heap.size + 1 + 1) c 0 (ends c 0) (((w.alloc (.cells #[.string nm, .slice (some ⟨b', o, none⟩) L.length cap] 30)).alloc (.cells #[.pointer none, .slice none 0 0] 78)).alloc (.cells #[.string c.lead, .string c.cyc, .int .i64 0, .int .i64 0] 82)) := by
    have := heap_alloc_new ((w.alloc (.cells #[.string nm, .slice (some ⟨b', o, none⟩) L.length cap] 30)).alloc (.cells #[.pointer none, .slice none 0 0] 78)) (.cells #[.string c.lead, .string c.cyc, .int .i64 0, .int .i64 0] 82)
    unfold RdAt
    show _ = some (Obj.cells #[.string c.lead, .string c.cyc, .int .i64 0, .int .i64 0] _ _)
    simpa using this
  have hR' : RdAt (w.heap.size + 1 + 1) c 0 (ends c 0) (((w.alloc (.cells #[.string nm, .slice (some ⟨b', o, none⟩) L.length cap] 30)).alloc (.cells #[.pointer none, .slice none 0 0] 78)).alloc (.cells #[.string c.lead, .string c.cyc, .int .i64 0, .int .i64 0] 82)).drew := hR
  refine (readPlace_impl c HO.out (w.heap.size + 1 + 1) 0 (by omega) _ hR').mono ?_
  rintro en w1 ⟨rfl, r1, b1, k1⟩
  have P1 : Hid (PcAt w c 0 (w.heap.size + 1 + 1) (w.heap.size + 1) (.slice none 0 0) w1) := by
    refine ⟨r1, ?_, ⟨rfl, .inl ⟨rfl, rfl⟩⟩, ?_, by omega⟩
    · refine isb_keep (ts := [82]) ?_ k1 (by decide) (by decide)
      exact isb_start w _ _
    · exact (balloc (balloc (balloc0 _ _) _) _).drew.trans (b1.mono (by omega))
  clear e0 e1 g1 x0 x1 y1 hR hR' r1 b1 k1
  go_wp2
  go_loopw [9, 11, 12] (fun v x t wr => ∃ (i : Nat), i ≤ 200 ∧ (∃ ao cp, v = .slice ao i cp) ∧ x = .int .u8 ((letterAt c i).toNat : Int) ∧ t = .int .i64 ((ends c (i + 1) : Nat) : Int) ∧ Hid (i = 0 ∨ ends c i ≤ u) ∧ Hid (PcAt w c i (w.heap.size + 1 + 1) (w.heap.size + 1) v wr)) (fun _ _ t _ => 1000 - (intOf t).toNat)
  case atStart => exact ⟨0, by omega, ⟨_, _, rfl⟩, rfl, rfl, .inl rfl, P1.out⟩
  case round =>
    obtain ⟨i, hi, ⟨ao, cp, rfl⟩, rfl, rfl, hU, hP⟩ := hrel
    by_cases hlt : ends c (i + 1) ≤ u
    · have hlt' : ((ends c (i + 1) : Nat) : Int) ≤ (u : Int) := by omega
      have hi1 : i + 1 ≤ 200 := by have := ends_ge HO.out (i + 1); omega
      have hst := ends_step HO.out (i + 1)
      have hlen : (Lib.byteCells (pieceL c i)).length + 1 ≤ 140737488355328 := by rw [Lib.byteCells_length, pieceL_length]; omega
      have HS : Hid (Lib.byteCells (pieceL c (i + 1)) = Lib.byteCells (pieceL c i) ++ [.int .u8 ((letterAt c i).toNat : Int)]) := byteCells_snoc c i
      have HV : Hid (intVals (perpL c (i + 1)) = intVals (perpL c i) ++ [.int .i64 ((ends c (i + 1) : Nat) : Int)]) := intVals_snoc c i
      have WB := Lib.hid (writeByte_impl w.heap.size (w.heap.size + 1) _ ((letterAt c i).toNat : Int) wr hP.out.bd hlen hP.out.below.size)
      obtain ⟨E, hE⟩ : ∃ E : Int, ((ends c (i + 1) : Nat) : Int) = E := ⟨_, rfl⟩
      obtain ⟨x, hx⟩ : ∃ x : Int, ((letterAt c i).toNat : Int) = x := ⟨_, rfl⟩
      rw [hE] at hlt' HV ⊢
      rw [hx] at HS WB ⊢
      have HE := Lib.hid hE
      have HLT := Lib.hid hlt
      clear hE hx hlen
      go_wp2_with fail
      refine WB.out.mono ?_
      rintro en w1 ⟨rfl, b1, l1, k1⟩
      have R1 := Lib.hid (hP.out.rd.keep k1 (by decide))
      have O1 := Lib.hid (own_keep hP.out.row k1 (by decide))
      have D1 : Hid (BAt w.heap.size (w.heap.size + 1) (Lib.byteCells (pieceL c (i + 1))) w1) := by show BAt _ _ _ w1; rw [HS.out]; exact b1
      have B1 : Hid (Below w.heap.size w w1) := hP.out.below.trans l1
      have hbase : w.heap.size ≤ w1.heap.size := B1.out.size
      clear b1 l1 k1
      obtain ⟨i0, hi0, hz0, hz1, hz2⟩ := info_parts infoInt
      have c3 : Hid (i + 1 ≤ maxLen) := by show i + 1 ≤ maxLen; unfold maxLen; omega
      go_wp2_with (first | (at_builtin; go_must ((refine wpList_append_own _ rfl _ _ 43 rfl w.heap.size 2 i0 (.int .i64 0) 1 8 Tryd.underlying43 hi0 hz0 hz1 hz2 rfl (by decide) (.slice ao i cp) i (intVals (perpL c i)) rfl (O1.out.alloc _) ⟨w1.heap.size, 0, none⟩ 1 1 [.int .i64 E] rfl rfl ((lit8 w.heap.size w1 _ hbase).cells rfl) (by simp [Value.oneCell']) c3.out (by omega) (by simp; omega) ?_; intro v2 w2 hown2 hgrow2 _; obtain ⟨g2, cp2, hv2⟩ := own_form8 hown2 (Nat.succ_ne_zero i); subst hv2; have K2 : KeepT [2] w1 w2 := (KeepT.below (balloc0 _ _)).trans (KeepT.grown hgrow2 (O1.out.alloc _) (by simp)); have R2 := Lib.hid (R1.out.keep K2 (by decide)); have D2 := Lib.hid (bat_keep D1.out K2 (by decide) (by decide)); have O2 := Lib.hid hown2; have B2 : Hid (Below w.heap.size w w2) := (B1.out.alloc hbase _).grown hgrow2 (by simp; omega) (fun q hq => (O1.out.lt q hq).1); clear hown2 hgrow2 K2))) | (go_at_call 48; refine (readPlace_impl c HO.out (w.heap.size + 1 + 1) (i + 1) (by omega) _ R2.out).mono ?_; rintro en w3 ⟨rfl, r3, l3, k3⟩; have R3 := Lib.hid r3; have L3 := Lib.hid l3; have K3 := Lib.hid k3; clear r3 l3 k3))
      go_roundw
      case rel =>
        refine ⟨i + 1, hi1, ⟨_, _, rfl⟩, by simp, by simp, .inr HLT.out, ⟨R3.out, isb_keep (.inr D2.out) K3.out (by decide) (by decide), ?_, B2.out.trans (L3.out.mono (by omega)), by omega⟩⟩
        have := own_keep O2.out K3.out (by decide)
        rw [HV.out]
        exact this
      case measure => simp [intOf]; have := HE.out; omega
    · have hge : ¬ ((ends c (i + 1) : Nat) : Int) ≤ (u : Int) := by omega
      have HM : Hid (PerpIs c (u + 1) i) := by
        refine ⟨?_, by omega⟩
        rcases hU.out with h | h
        · subst h; exact Nat.succ_pos _
        · omega
      have ST := Lib.hid (string_impl w.heap.size (w.heap.size + 1) (pieceL c i) wr hP.out.bd hP.out.below.size)
      obtain ⟨T, hT⟩ : ∃ T : ByteArray, ⟨(pieceL c i).toArray⟩ = T := ⟨_, rfl⟩
      rw [hT] at ST
      have HT := Lib.hid hT
      clear hT
      go_wp2_with fail
      refine ST.out.mono ?_
      rintro en w1 ⟨rfl, l1, k1⟩
      have O1 := own_keep hP.out.row k1 (by decide)
      have B1 : Hid (Below w.heap.size w w1) := hP.out.below.trans l1
      have Z : (perpL c i).length = i := perpL_length c i
      obtain ⟨a1, cp1, hv1, hres⟩ := row_res (P := perpL c i) (by rw [Z]; exact O1)
      rw [Z] at hv1
      have HR := Lib.hid hres
      cases hv1
      clear l1 k1 O1 hres Z
      go_wp2_with fail
      go_ret2
      exact ⟨i, ao, cp, HM.out, by rw [HT.out]; rfl, HR.out, B1.out⟩
end Go.Proofs.YtplggghhhgmebaaDoor
