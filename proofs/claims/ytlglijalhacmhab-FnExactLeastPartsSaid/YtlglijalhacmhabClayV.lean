/-
  Whether clays are as told: the program's word. It keeps the names that it has met in a map of its own.
-/
import Derived.Test.YtlglijalhacmhabClay
import Derived.Test.YtlglijalhacmhabClayI
import Derived.Maps.OwnOps
import Derived.Maps.Views
import Derived.Maps.OwnSet
import Derived.Deep.RegionWith
namespace Go.Proofs.Ytlglijalhacmhab
open Go.ChangeShapes Go.WideShapes Go.ChangeAt Go.RowKit Go.Joins Go.Maps

theorem plainElem_bool_inv {H : Type} {P : Program} {e : TypeId} (he : P.underlying e = some .bool) {v : Value} {z : DataW H × List MemPlace} (h : plainElem P e v = some z) : ∃ c, v = .bool c ∧ z = (.lit (.bool c), []) := by
  unfold plainElem at h
  rw [he] at h
  cases v <;> simp at h
  exact ⟨_, rfl, h.symm⟩

/-- Block b is a map of at most n entries that holds just the first k names. -/
def SeenAt (w : World) (b : Nat) (L : List Cl) (k : Nat) : Prop :=
  ∃ D : DataW Unit, w.ownsMap Try.prog 9 (plainElem Try.prog 4) b k D ∧ ∀ s : ByteArray, s.size ≤ maxLen → D.atKey (.string s.data.toList) (.lit (.bool false)) = .lit (.bool (seenB L k s))
theorem strLaw : Keyed Try.prog 9 := string_keyed Try.underlying9
theorem zeroB (w : World) : (zeroValue 4).run Try.prog w = .ok (.bool false) w := by kernel_rfl
theorem SeenAt.look {w : World} {b k : Nat} {L : List Cl} (h : SeenAt w b L k) (s : ByteArray) (hs : s.size ≤ maxLen) : (Instr.lookup 167 (.map (some b)) (.string s) false).run Try.prog w = .ok (.bool (seenB L k s)) w := by
  obtain ⟨D, ho, hD⟩ := h
  obtain ⟨v, ps, hrun, hv⟩ := ho.lookup strLaw Try.underlying167 (zeroB w) (plainElem_bool Try.underlying4 false) (Go.WideMaps.keyOf_string_mk Try.underlying9 hs)
  rw [hD s hs] at hv
  obtain ⟨c, rfl, hc⟩ := plainElem_bool_inv Try.underlying4 hv
  simp only [Prod.mk.injEq, DataW.lit.injEq, Lit.bool.injEq] at hc
  rw [hrun, hc.1]
theorem SeenAt.new (w : World) (L : List Cl) : SeenAt (w.alloc (.map #[] 0)) w.heap.size L 0 :=
  ⟨_, World.ownsMap_made _ _ _ _, fun s _ => by rw [seenB_zero]; rfl⟩
theorem SeenAt.kept {w w' : World} {b k : Nat} {L : List Cl} {row : Option Nat} (h : SeenAt w b L k) (hg : w.grownBy w' row) (hne : some b ≠ row) : SeenAt w' b L k := by
  obtain ⟨D, ho, hD⟩ := h
  exact ⟨D, ho.kept hg hne, hD⟩
theorem SeenAt.below {w w' : World} {b k : Nat} {L : List Cl} (h : SeenAt w b L k) (hb : Below w.heap.size w w') : SeenAt w' b L k := by
  obtain ⟨D, ⟨es, clock, h1, h2⟩, hD⟩ := h
  exact ⟨D, ⟨es, clock, (hb.block b (Array.getElem?_eq_some_iff.1 h1).1).trans h1, h2⟩, hD⟩
theorem SeenAt.put {w' : World} {b k : Nat} {L : List Cl} {c : Cl} (hc : L[k]? = some c) {D : DataW Unit} (hI : Go.Maps.IsMap D) (hD : ∀ s : ByteArray, s.size ≤ maxLen → D.atKey (.string s.data.toList) (.lit (.bool false)) = .lit (.bool (seenB L k s)))
    (ho : w'.ownsMap Try.prog 9 (plainElem Try.prog 4) b (k + 1) (D.put (.string c.name.data.toList) (.lit (.bool true)))) : SeenAt w' b L (k + 1) := by
  refine ⟨_, ho, fun s hs => ?_⟩
  rw [seenB_step hc]
  by_cases e : c.name = s
  · subst e
    rw [atKey_put_same hI (by simp [WideAt.IsKeyLit])]
    simp
  · rw [atKey_put_other (fun h => e (bytes_inj (Lit.string.inj h).symm)), hD s hs]
    simp [e]

set_option maxRecDepth 100000 in
set_option maxHeartbeats 3200000 in
theorem valid_impl (L : List Cl) (a : Option Addr) (cap : Nat) (hl : L.length ≤ 1048576) (w : World) (ha : ClArg w a L) : Calls Try.prog 100 #[.slice a L.length cap] w fun e w' => e = .returned (.bool (okCls L)) ∧ Below w.heap.size w w' := by
  have HA := Lib.hid ha
  clear ha
  have hmm := @run_makeMap Try.prog
  go_enter Try.func100, Try.ntmps100
  go_wp2
  go_loopw [9] (fun i wr => ∃ (k : Nat), k ≤ L.length ∧ i = .int .i64 k ∧ Hid (fromB L k = fromB L 0) ∧ Hid (SeenAt wr w.heap.size L k) ∧ Hid (Below w.heap.size w wr) ∧ w.heap.size < wr.heap.size) (fun i _ => L.length - (intOf i).toNat)
  case atStart => exact ⟨0, Nat.zero_le _, rfl, rfl, SeenAt.new w L, balloc0 _ _, by simp⟩
  case round =>
    obtain ⟨k, hk, rfl, hF, hS, hB, hsz⟩ := hrel
    by_cases hlt : k < L.length
    · have hlt' : (k : Int) < (L.length : Int) := by omega
      have hk0 : (0 : Int) ≤ (k : Int) := by omega
      obtain ⟨b, o, c, rfl, hc, hat⟩ := (HA.out.later hB.out).at hlt
      obtain ⟨c0, c1, c2, c3, c4⟩ := hat.cells hc
      have HC := Lib.hid hc
      have C := Lib.hid (isClay_impl c)
      have HS : Hid (fromB L k = (c.ok && !seenB L k c.name && fromB L (k + 1))) := by
        show fromB L k = _
        rw [fromB_step L k hlt, fineAt_eq hc]
      clear hc hat
      go_wp2_with fail
      refine (C.out _).mono ?_
      rintro e w1 ⟨rfl, hb1⟩
      have B1 := Lib.hid (bnext (balloc hB.out _) hb1)
      have S1 : Hid (SeenAt w1 w.heap.size L k) := (hS.out.kept (World.grownBy_alloc wr _ none) (by simp)).below hb1
      have s1 : w.heap.size < w1.heap.size := by have := hb1.size; simp at this; omega
      obtain ⟨hc1, hf1⟩ := bcell hb1
      have n1 : w1.cell? ⟨wr.heap.size, 0, none⟩ = some (.string c.name) := by rw [hc1 _ _ (by simp), cell_of_row _ _ _ _ _ (0, 0) (heap_alloc_new wr _)]; rfl
      clear hb1 hc1 hf1 c0 c1 c2 c3 c4
      cases hok : c.ok
      · go_wp2_with fail
        go_ret
        refine ⟨ret_bool ?_, B1.out⟩
        have hz : fromB L 0 = false := by rw [← hF.out, HS.out, hok]; simp
        rw [okCls, hz]
        simp
      · have hns : c.name.size ≤ maxLen := by have := (nameB_size (Cl.ok_facts hok).1).2; unfold maxLen; omega
        have hlk := S1.out.look c.name hns
        cases hse : seenB L k c.name
        · rw [hse] at hlk
          obtain ⟨D, hown, hD⟩ := S1.out
          have HD := Lib.hid hD
          have HO := Lib.hid hown
          have HN := Lib.hid hns
          have HK : Hid (k < maxLen) := by show k < maxLen; unfold maxLen; omega
          clear hns hD hown
          go_wp2_with (at_mapUpdate; refine wpList_mapUpdate_own _ rfl _ _ _ 167 rfl 9 4 strLaw Try.underlying167 _ w.heap.size k D rfl HO.out HK.out _ _ _ rfl rfl (Go.WideMaps.keyOf_string_mk Try.underlying9 HN.out) _ [] (plainElem_bool Try.underlying4 true) ?_; intro w2 hown2 hg2)
          have S2 : Hid (SeenAt w2 w.heap.size L (k + 1)) := SeenAt.put HC.out HO.out.isMap HD.out hown2
          have B2 : Hid (Below w.heap.size w w2) := B1.out.grown hg2 (by omega) (fun q hq => by cases hq; exact Nat.le_refl _)
          have s2 : w.heap.size < w2.heap.size := Nat.lt_of_lt_of_le s1 hg2.size
          clear hown2 hg2
          go_roundw
          case rel =>
            refine ⟨k + 1, by omega, by go_num, ?_, S2.out, B2.out, s2⟩
            show fromB L (k + 1) = fromB L 0
            rw [← hF.out, HS.out, hok, hse]
            simp
          case measure => simp [intOf]; omega
        · rw [hse] at hlk
          go_wp2_with fail
          go_ret
          refine ⟨ret_bool ?_, B1.out⟩
          have hz : fromB L 0 = false := by rw [← hF.out, HS.out, hse]; simp
          rw [okCls, hz]
          simp
    · have hge : ¬ (k : Int) < (L.length : Int) := by omega
      have hkn : k = L.length := by omega
      subst hkn
      by_cases h6 : (L.length : Int) ≤ 6
      all_goals
        go_wp2
        go_ret
        refine ⟨ret_bool ?_, hB.out⟩
        have hz : fromB L 0 = true := by rw [← hF.out]; exact fromB_end L _ (Nat.le_refl _)
        rw [okCls, hz]
        simp
        omega
end Go.Proofs.Ytlglijalhacmhab
