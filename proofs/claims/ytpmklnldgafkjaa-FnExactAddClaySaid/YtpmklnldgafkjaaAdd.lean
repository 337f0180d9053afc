/-
  AddClay: what is handed back, and the model's answer.
-/
import Derived.Test.YtpmklnldgafkjaaClayB
import Derived.Test.YtpmklnldgafkjaaClayC
import Derived.Test.YtpmklnldgafkjaaRow
import Derived.OwnWalk
import Derived.Deep.DeepMust
import Derived.Laws.AppendOwn
import Derived.Laws.OwnMore
namespace Go.Proofs.Ytpmklnldgafkjaa
open Go.ChangeShapes Go.WideShapes Go.ChangeAt Go.RowKit Go.Joins

def addCode (L : List Cl) (c : Cl) : Int := if okCls L = true then (if c.ok = true then (if seenB L L.length c.name = true then 4 else if 6 ≤ L.length then 5 else 0) else 2) else 1
def addL (L : List Cl) (c : Cl) : List Cl := if addCode L c = 0 then L ++ [c] else []
/-- A slice of clays that is handed back: nothing is in it, or it is a row of the call's own. -/
def ClRes (B : Nat) (M : List Cl) (a : Option Addr) (w : World) : Prop := M = [] ∨ ∃ g, a = some ⟨g, 0, none⟩ ∧ ClOwn B M g w
def AddOut (w : World) (L : List Cl) (c : Cl) (e : Ending) (w' : World) : Prop :=
  Below w.heap.size w w' ∧ ∃ a cap, e = .returned (.tuple #[.slice a (addL L c).length cap, .int .i64 (addCode L c)]) ∧ ClRes w.heap.size (addL L c) a w'
theorem AddOut.bad {w w' : World} {L : List Cl} {c : Cl} {q : Int} (h : addCode L c = q) (hq : ¬ q = 0) (hb : Below w.heap.size w w') : AddOut w L c (.returned (.tuple #[.slice none 0 0, .int .i64 q])) w' := by
  have h1 : addL L c = [] := by unfold addL; rw [if_neg (by rw [h]; exact hq)]
  unfold AddOut
  rw [h1, h]
  exact And.intro hb (Exists.intro none (Exists.intro 0 (And.intro rfl (Or.inl rfl))))
theorem AddOut.good {w w' : World} {L : List Cl} {c : Cl} {g cap : Nat} (h : addCode L c = 0) (ho : ClOwn w.heap.size (L ++ [c]) g w') (hb : Below w.heap.size w w') : AddOut w L c (.returned (.tuple #[.slice (some ⟨g, 0, none⟩) (L.length + 1) cap, .int .i64 0])) w' := by
  have h1 : addL L c = L ++ [c] := by unfold addL; rw [if_pos h]
  unfold AddOut
  rw [h1, h, List.length_append]
  exact And.intro hb (Exists.intro _ (Exists.intro cap (And.intro rfl (Or.inr (Exists.intro g (And.intro rfl ho))))))

theorem clVals_one (L : List Cl) : ∀ u ∈ clVals L, u.oneCell' = true := by
  intro u hu
  obtain ⟨c, _, hc⟩ := List.mem_flatMap.1 hu
  simp [Cl.vals] at hc
  rcases hc with rfl | rfl | rfl | rfl | rfl <;> rfl
theorem clVals_cells {L : List Cl} {w : World} {b o : Nat} (h : ClAt w b o L) : ∀ j u, (clVals L)[j]? = some u → w.cell? ((⟨b, o, none⟩ : Addr).add j) = some u := by
  intro j u hu
  have hj : j < L.length * 5 := by have := (List.getElem?_eq_some_iff.1 hu).1; rwa [clVals_length] at this
  obtain ⟨c, hc⟩ : ∃ c, L[j / 5]? = some c := ⟨_, List.getElem?_eq_getElem (by omega)⟩
  have hm : j % 5 < c.vals.length := by show j % 5 < 5; omega
  have hv : c.vals[j % 5]? = some (c.vals[j % 5]'hm) := List.getElem?_eq_getElem hm
  have h1 := clVals_get hc hv
  have e : j / 5 * 5 + j % 5 = j := by omega
  rw [e, hu] at h1
  cases h1
  rw [Addr.add_mid]
  have h2 := h (j / 5) c hc (j % 5) _ hv
  rwa [Nat.add_assoc, e] at h2
theorem own_clays {w : World} {B n : Nat} {v : Value} {M : List Cl} (hn : n = M.length) (h0 : n ≠ 0) (h : w.ownsRow B 35 5 v n (clVals M)) : ∃ g cap, v = .slice (some ⟨g, 0, none⟩) n cap ∧ ClOwn B M g w := by
  rcases h.2 with ⟨_, hz⟩ | ⟨g, cap, cur, hv, hB, hh, _⟩
  · exact absurd hz h0
  · subst hv
    refine ⟨g, cap, rfl, hB, fun k c hk j u hu => ?_, fun j hj => ?_, (Array.getElem?_eq_some_iff.1 hh).1⟩
    · have hl := (List.getElem?_eq_some_iff.1 hk).1
      have hj : j < 5 := (List.getElem?_eq_some_iff.1 hu).1
      rw [Nat.zero_add, World.ownsRow.cellAt h _ (by omega)]
      exact clVals_get hk hu
    · rw [Nat.zero_add]
      refine ⟨?_, World.ownsRow.frozenAt h j⟩
      rw [World.ownsRow.cellAt h j (by omega), List.getElem?_eq_getElem (by rw [clVals_length]; exact hj)]
      rfl
theorem own_start (w : World) : (w.alloc (.cells #[] 35)).ownsRow w.heap.size 35 5 (.slice (some ⟨w.heap.size, 0, none⟩) 0 0) 0 [] :=
  ⟨rfl, .inr ⟨w.heap.size, 0, #[], rfl, Nat.le_refl _, heap_alloc_new w _, Nat.le_refl _, by decide, rfl, rfl⟩⟩
theorem clVals_snoc (L : List Cl) (c : Cl) : clVals L ++ c.vals = clVals (L ++ [c]) := by simp [clVals]
theorem own_block {w : World} {B n : Nat} {v : Value} {xs : List Value} (h : w.ownsRow B 35 5 v n xs) : ∀ k, v.ownBlock = some k → B ≤ k := by
  intro k hk
  rcases h.2 with ⟨hv, _⟩ | ⟨g, cap, cur, hv, hB, _⟩
  · rw [hv] at hk; simp [Value.ownBlock] at hk
  · rw [hv] at hk; simp [Value.ownBlock] at hk; omega

theorem boxed {w : World} {b : Nat} {c : Cl} (h : w.rangeAt b 0 c.vals) : w.cell? ⟨b, 0, none⟩ = some (.string c.name) ∧ w.cell? ⟨b, 1, none⟩ = some (.int .i64 c.sh) ∧ w.cell? ⟨b, 2, none⟩ = some (.int .i64 c.li) ∧ w.cell? ⟨b, 3, none⟩ = some (.int .i64 c.sa) ∧ w.cell? ⟨b, 4, none⟩ = some (.int .i64 c.pr) :=
  ⟨h 0 _ rfl, h 1 _ rfl, h 2 _ rfl, h 3 _ rfl, h 4 _ rfl⟩
theorem lit_clay (base : Nat) (wr : World) (c : Cl) (hb : base ≤ wr.heap.size) : (wr.alloc (.cells #[.string c.name, .int .i64 c.sh, .int .i64 c.li, .int .i64 c.sa, .int .i64 c.pr] 35)).ownsRow base 35 5 (.slice (some ⟨wr.heap.size, 0, none⟩) 1 1) 1 c.vals :=
  ⟨rfl, .inr ⟨wr.heap.size, 1, _, rfl, hb, heap_alloc_new wr _, Nat.le_refl _, by decide, rfl, rfl⟩⟩
set_option maxRecDepth 100000 in
set_option maxHeartbeats 3200000 in
theorem add_spec (L : List Cl) (c : Cl) (b o cap : Nat) (hl : L.length ≤ 1048576) (w : World) (ha : ClAt w b o L) :
    Calls Try.prog 23 #[.slice (some ⟨b, o, none⟩) L.length cap, .agg #[.string c.name, .int .i64 c.sh, .int .i64 c.li, .int .i64 c.sa, .int .i64 c.pr]] w fun e w' => AddOut w L c e w' := by
  have RX : Hid ((w.alloc (.cells #[.string c.name, .int .i64 c.sh, .int .i64 c.li, .int .i64 c.sa, .int .i64 c.pr] 35)).rangeAt w.heap.size 0 c.vals) := range_new w #[.string c.name, .int .i64 c.sh, .int .i64 c.li, .int .i64 c.sa, .int .i64 c.pr] 35
  have B0 : Hid (Below w.heap.size w (w.alloc (.cells #[.string c.name, .int .i64 c.sh, .int .i64 c.li, .int .i64 c.sa, .int .i64 c.pr] 35))) := balloc0 _ _
  obtain ⟨W0, hW0⟩ : ∃ W0, w.alloc (.cells #[.string c.name, .int .i64 c.sh, .int .i64 c.li, .int .i64 c.sa, .int .i64 c.pr] 35) = W0 := ⟨_, rfl⟩
  rw [hW0] at RX B0
  have HW := Lib.hid hW0
  have HA : Hid (∀ wx, Below w.heap.size w wx → ClAt wx b o L) := fun wx h => ha.later h
  have C := Lib.hid (okC_spec L (some ⟨b, o, none⟩) cap hl W0 (.inr ⟨b, o, rfl, ha.later B0.out⟩))
  have C1 := Lib.hid (fun wx (h : wx.rangeAt w.heap.size 0 c.vals) => one_spec c w.heap.size 0 wx (h 0 _ rfl) (h 1 _ rfl) (h 2 _ rfl) (h 3 _ rfl) (h 4 _ rfl))
  clear ha hW0
  cases h1 : okCls L
  · have HO : Hid (addCode L c = 1) := by show addCode L c = 1; simp [addCode, h1]
    rw [h1] at C
    go_enter Try.func23, Try.ntmps23
    go_wp2_with fail
    rw [HW.out]
    refine C.out.mono ?_
    rintro e w1 ⟨rfl, hb1⟩
    go_wp2
    refine bodyPost_ret (v := .tuple #[.slice none 0 0, .int .i64 1]) (by simp [results, Try.results23, go_sem]) rfl (AddOut.bad HO.out (by omega) (B0.out.trans (hb1.mono B0.out.size)))
  rw [h1] at C
  cases h2 : c.ok
  · have HO : Hid (addCode L c = 2) := by show addCode L c = 2; simp [addCode, h1, h2]
    rw [h2] at C1
    go_enter Try.func23, Try.ntmps23
    go_wp2_with fail
    rw [HW.out]
    refine C.out.mono ?_
    rintro e w1 ⟨rfl, hb1⟩
    have R1 := Lib.hid (range_below RX.out hb1)
    go_wp2_with fail
    refine (C1.out _ R1.out).mono ?_
    rintro e w2 ⟨rfl, rfl⟩
    go_wp2
    refine bodyPost_ret (v := .tuple #[.slice none 0 0, .int .i64 2]) (by simp [results, Try.results23, go_sem]) rfl (AddOut.bad HO.out (by omega) (B0.out.trans (hb1.mono B0.out.size)))
  rw [h2] at C1
  have H6 := (okCls_all h1).1
  have H12 := Lib.hid (And.intro h1 h2)
  clear h1 h2
  go_enter Try.func23, Try.ntmps23
  go_wp2_with fail
  rw [HW.out]
  refine C.out.mono ?_
  rintro e w1 ⟨rfl, hb1⟩
  have B1 := Lib.hid (B0.out.trans (hb1.mono B0.out.size))
  have R1 := Lib.hid (range_below RX.out hb1)
  clear hb1
  go_wp2_with fail
  refine (C1.out _ R1.out).mono ?_
  rintro e w2 ⟨rfl, rfl⟩
  go_wp2
  go_loopw [6] (fun i wr => ∃ k : Nat, k ≤ L.length ∧ i = .int .i64 k ∧ Hid (seenB L k c.name = false) ∧ Hid (Below w1.heap.size w1 wr)) (fun i _ => L.length - (intOf i).toNat)
  case atStart => exact ⟨0, Nat.zero_le _, rfl, seenB_zero L _, Below.refl _ _⟩
  case round =>
    obtain ⟨k, hk, rfl, hE, hB⟩ := hrel
    have HB : Hid (Below w.heap.size w wr) := B1.out.trans (hB.out.mono B1.out.size)
    by_cases hlt : k < L.length
    · have hlt' : (k : Int) < (L.length : Int) := by omega
      have hk0 : (0 : Int) ≤ (k : Int) := by omega
      obtain ⟨d, hd⟩ : ∃ d, L[k]? = some d := ⟨_, List.getElem?_eq_getElem hlt⟩
      have d0 := ((HA.out _ HB.out).cells hd).1
      have e0 : wr.cell? ⟨w.heap.size, 0, none⟩ = some (.string c.name) := range_below R1.out hB.out 0 _ rfl
      have HN : Hid (seenB L (k + 1) c.name = (seenB L k c.name || decide (d.name = c.name))) := seenB_step hd c.name
      obtain ⟨x, hx⟩ : ∃ x, d.name = x := ⟨_, rfl⟩
      obtain ⟨y, hy⟩ : ∃ y, c.name = y := ⟨_, rfl⟩
      rw [hx] at d0 HN
      rw [hy] at e0
      have HY := Lib.hid hy
      clear hd hx hy
      by_cases hxy : x = y
      · have HO : Hid (addCode L c = 4) := by
          have h3 : seenB L (k + 1) c.name = true := by rw [HN.out, HY.out, hxy]; simp
          have h4 := seenB_mono (k := L.length) (by omega) h3
          show addCode L c = 4
          simp [addCode, H12.out.1, H12.out.2, h4]
        subst hxy
        go_wp2_with fail
        go_region
        go_wp2
        refine bodyPost_ret (v := .tuple #[.slice none 0 0, .int .i64 4]) (by simp [results, Try.results23, go_sem]) rfl (AddOut.bad HO.out (by omega) HB.out.drew)
      · have hne := sneB hxy
        go_wp2_with fail
        go_region
        go_wp2
        go_roundw
        case rel =>
          refine ⟨k + 1, by omega, by go_num, ?_, hB.out.drew⟩
          show seenB L (k + 1) c.name = false
          rw [HN.out, hE.out, HY.out]
          simp [hxy]
        case measure => simp [intOf]; omega
    · have hge : ¬ (k : Int) < (L.length : Int) := by omega
      have hkn : k = L.length := by omega
      subst hkn
      by_cases h6 : (6 : Int) ≤ (L.length : Int)
      · have HO : Hid (addCode L c = 5) := by
          have h7 : 6 ≤ L.length := by omega
          show addCode L c = 5
          simp [addCode, H12.out.1, H12.out.2, hE.out, h7]
        go_wp2
        refine bodyPost_ret (v := .tuple #[.slice none 0 0, .int .i64 5]) (by simp [results, Try.results23, go_sem]) rfl (AddOut.bad HO.out (by omega) HB.out)
      · have HO : Hid (addCode L c = 0) := by
          have h7 : ¬ 6 ≤ L.length := by omega
          show addCode L c = 0
          simp [addCode, H12.out.1, H12.out.2, hE.out, h7]
        obtain ⟨i0, hi, hz0, hz1, hz2⟩ := info_parts infoClay
        obtain ⟨wa, hwa⟩ : ∃ wa, wa = wr := ⟨_, rfl⟩
        subst hwa
        have HS := Lib.hid (own_start wa)
        have HC := Lib.hid (clVals_cells (HA.out _ (balloc HB.out (.cells #[] 35))))
        have RW : Hid (wa.rangeAt w.heap.size 0 c.vals) := range_below R1.out hB.out
        have hcl := clVals_length L
        have hone := Lib.hid (clVals_one L)
        have hone1 : Hid (∀ u ∈ c.vals, u.oneCell' = true) := by intro u hu; exact clVals_one [c] u (by simpa [clVals] using hu)
        have m1 : Hid (0 + L.length ≤ maxLen) := by show 0 + L.length ≤ maxLen; unfold maxLen; omega
        have m2 : Hid (L.length + 1 ≤ maxLen) := by show L.length + 1 ≤ maxLen; unfold maxLen; omega
        go_wp2_with (first | (at_builtin; (refine wpList_append_own _ rfl _ _ 25 rfl wa.heap.size 35 i0 (.agg #[.string ⟨#[]⟩, .int .i64 0, .int .i64 0, .int .i64 0, .int .i64 0]) 5 48 Try.underlying25 hi hz0 hz1 hz2 rfl (by decide) (.slice (some ⟨wa.heap.size, 0, none⟩) 0 0) 0 [] rfl HS.out ⟨b, o, none⟩ L.length cap (clVals L) rfl hcl HC.out hone.out m1.out (by omega) (by simp) ?_); intro v1 w3 hown1 hgrow1 _; have hown2 : w3.ownsRow wa.heap.size 35 5 v1 L.length (clVals L) := (by simpa using hown1); have hb3 : Below wa.heap.size wa w3 := (balloc0 wa _).grown hgrow1 (by simp) (fun k hk => by cases hk; exact Nat.le_refl _); have O2 := Lib.hid hown2; have B3 := Lib.hid hb3; obtain ⟨e0, e1, e2, e3, e4⟩ := boxed (range_below RW.out hb3); clear hown1 hown2 hb3 hgrow1) | (at_builtin; (refine wpList_append_own _ rfl _ _ 25 rfl wa.heap.size 35 i0 (.agg #[.string ⟨#[]⟩, .int .i64 0, .int .i64 0, .int .i64 0, .int .i64 0]) 5 48 Try.underlying25 hi hz0 hz1 hz2 rfl (by decide) v1 L.length (clVals L) rfl (O2.out.alloc _) ⟨w3.heap.size, 0, none⟩ 1 1 c.vals rfl rfl ((lit_clay wa.heap.size w3 c (by have := B3.out.size; omega)).cells rfl) hone1.out m2.out (by omega) (by have := B3.out.size; simp; omega) ?_); intro v2 w4 hown3 hgrow3 _))
        rw [clVals_snoc] at hown3
        obtain ⟨g4, cap4, hv4, ho4⟩ := own_clays (by simp) (by omega) hown3
        subst hv4
        have hb4 : Below wa.heap.size wa w4 := (balloc B3.out _).grown hgrow3 (by have := B3.out.size; simp; omega) (own_block O2.out)
        have HB4 : Hid (Below w.heap.size w w4) := HB.out.trans (hb4.mono HB.out.size)
        have HO4 : Hid (ClOwn w.heap.size (L ++ [c]) g4 w4) := ⟨Nat.le_trans HB.out.size ho4.1, ho4.2⟩
        clear hown3 hgrow3 ho4 hb4
        refine bodyPost_ret (v := .tuple #[.slice (some ⟨g4, 0, none⟩) (L.length + 1) cap4, .int .i64 0]) (by simp [results, Try.results23, go_sem]) rfl (AddOut.good HO.out HO4.out HB4.out)
end Go.Proofs.Ytpmklnldgafkjaa
