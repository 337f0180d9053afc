/-
  AddClay: the program's answer.
-/
import Derived.Test.YtpmklnldgafkjaaAdd
import Derived.Test.YtpmklnldgafkjaaClayV
import Derived.Lib.AppendZerosOnto
import Derived.Lib.SliceRun
namespace Go.Proofs.Ytpmklnldgafkjaa
open Go.ChangeShapes Go.WideShapes Go.ChangeAt Go.RowKit Go.Joins

/-- The function that tells whether a clay has the name: of what lies in box q. -/
theorem hasName_impl (d : Cl) (s : ByteArray) (q : Nat) (w : World) (h : w.cell? ⟨q, 0, none⟩ = some (.string s)) : Calls Try.prog 61 #[.agg #[.string d.name, .int .i64 d.sh, .int .i64 d.li, .int .i64 d.sa, .int .i64 d.pr], .pointer (some ⟨q, 0, none⟩)] w fun e w' => e = .returned (.bool (d.name.toList == s.toList)) ∧ Below w.heap.size w w' := by
  have hq : q < w.heap.size := World.block_lt_of_cell? w _ h
  have h' : (w.alloc (.cells #[.string d.name, .int .i64 d.sh, .int .i64 d.li, .int .i64 d.sa, .int .i64 d.pr] 35)).cell? ⟨q, 0, none⟩ = some (.string s) := (World.cell?_alloc_lt _ _ _ hq).trans h
  go_enter Try.func61, Try.ntmps61
  go_wp2
  go_ret
  exact ⟨rfl, balloc0 _ _⟩

set_option maxRecDepth 100000 in
set_option maxHeartbeats 1600000 in
/-- Where the first clay with the name is: some number that is 0 or more just if there is one. -/
theorem index_impl (L : List Cl) (s : ByteArray) (q b o cap : Nat) (hl : L.length ≤ 1048576) (w : World) (ha : ClAt w b o L) (hq : w.cell? ⟨q, 0, none⟩ = some (.string s)) :
    Calls Try.prog 99 #[.slice (some ⟨b, o, none⟩) L.length cap, .func (.func 61) #[] #[.pointer (some ⟨q, 0, none⟩)]] w fun e w' => ∃ r : Int, e = .returned (.int .i64 r) ∧ decide (0 ≤ r) = seenB L L.length s ∧ Below w.heap.size w w' := by
  have HA : Hid (∀ wx, Below w.heap.size w wx → ClAt wx b o L ∧ wx.cell? ⟨q, 0, none⟩ = some (.string s)) := fun wx h => ⟨ha.later h, (h.cell (p := ⟨q, 0, none⟩) (World.block_lt_of_cell? w _ hq)).trans hq⟩
  clear ha hq
  go_enter Try.func99, Try.ntmps99
  go_wp2
  go_loopw [8] (fun i wr => ∃ k : Nat, k ≤ L.length ∧ i = .int .i64 k ∧ Hid (seenB L k s = false) ∧ Hid (Below w.heap.size w wr)) (fun i _ => L.length - (intOf i).toNat)
  case atStart => exact ⟨0, Nat.zero_le _, rfl, seenB_zero L _, Below.refl _ _⟩
  case round =>
    obtain ⟨k, hk, rfl, hE, hB⟩ := hrel
    by_cases hlt : k < L.length
    · have hlt' : (k : Int) < (L.length : Int) := by omega
      have hk0 : (0 : Int) ≤ (k : Int) := by omega
      obtain ⟨d, hd⟩ : ∃ d, L[k]? = some d := ⟨_, List.getElem?_eq_getElem hlt⟩
      obtain ⟨c0, c1, c2, c3, c4⟩ := (HA.out _ hB.out).1.cells hd
      have hqr := (HA.out _ hB.out).2
      have HN : Hid (seenB L (k + 1) s = (seenB L k s || decide (d.name = s))) := seenB_step hd s
      have C := Lib.hid (hasName_impl d s q wr hqr)
      clear hd hqr
      by_cases hxy : d.name = s
      · have he : (d.name.toList == s.toList) = true := by rw [hxy]; simp
        rw [he] at C
        have HX := Lib.hid hxy
        clear hxy he
        go_wp2_with fail
        refine C.out.mono ?_
        rintro e w1 ⟨rfl, hb1⟩
        go_wp2
        go_ret
        refine ⟨k, rfl, ?_, bnext hB.out hb1⟩
        have h3 : seenB L (k + 1) s = true := by rw [HN.out, HX.out]; simp
        rw [seenB_mono (k := L.length) (by omega) h3]
        simp
      · have he := sneB hxy
        rw [he] at C
        go_wp2_with fail
        refine C.out.mono ?_
        rintro e w1 ⟨rfl, hb1⟩
        have B1 := Lib.hid (bnext hB.out hb1)
        clear hb1
        go_wp2
        go_roundw
        case rel =>
          refine ⟨k + 1, by omega, by go_num, ?_, B1.out⟩
          show seenB L (k + 1) s = false
          rw [HN.out, hE.out]
          simp [hxy]
        case measure => simp [intOf]; omega
    · have hge : ¬ (k : Int) < (L.length : Int) := by omega
      have hkn : k = L.length := by omega
      subst hkn
      go_wp2
      go_ret
      refine ⟨-1, rfl, ?_, hB.out⟩
      rw [hE.out]
      simp
theorem contains_impl (L : List Cl) (s : ByteArray) (q b o cap : Nat) (hl : L.length ≤ 1048576) (w : World) (ha : ClAt w b o L) (hq : w.cell? ⟨q, 0, none⟩ = some (.string s)) :
    Calls Try.prog 62 #[.slice (some ⟨b, o, none⟩) L.length cap, .func (.func 61) #[] #[.pointer (some ⟨q, 0, none⟩)]] w fun e w' => e = .returned (.bool (seenB L L.length s)) ∧ Below w.heap.size w w' := by
  have C := Lib.hid (index_impl L s q b o cap hl w ha hq)
  clear ha hq
  go_enter Try.func62, Try.ntmps62
  go_wp2_with fail
  refine C.out.mono ?_
  rintro e w1 ⟨r, rfl, hr, hb1⟩
  go_wp2
  go_ret
  exact ⟨by rw [← hr]; rfl, hb1⟩

set_option maxRecDepth 100000 in
set_option maxHeartbeats 1600000 in
theorem grow_impl (n : Nat) (h1 : 1 ≤ n) (h2 : n ≤ 1000) (w : World) : Calls Try.prog 100 #[.slice none 0 0, .int .i64 n] w fun e w' => ∃ G, e = .returned (.slice (some ⟨w.heap.size, 0, none⟩) 0 G) ∧ w'.ownsRow w.heap.size 35 5 (.slice (some ⟨w.heap.size, 0, none⟩) 0 G) 0 [] ∧ Below w.heap.size w w' := by
  obtain ⟨i0, hi, hz0, hz1, hz2⟩ := info_parts infoClay
  have hold : (Builtin.firstCells i0.size 0 (.slice none 0 0)).run Try.prog w.drew = .ok ([] : List Value).toArray w.drew := run_firstCells_none w.drew i0.size 0 0 0
  have hrz : ∀ ty, (Builtin.append_ #[25, 3] ty #[.slice none 0 0, .int .i64 (n : Int)]).run Try.prog w = _ := fun ty =>
    Lib.run_append_grow_zeros w 25 3 ty 35 i0 _ .i64 .i64 Try.underlying25 Try.underlying3 hi hz0 none 0 0 [] hold n (by omega) (by omega) (by omega) (by omega) (by rw [hz2]; omega) (growslice_fits (by omega) (by rw [hz2]; omega))
  obtain ⟨G, hG⟩ : ∃ G, grownCap w (0 + n) 0 35 = G := ⟨_, rfl⟩
  have hGn : 0 + n ≤ G := by rw [← hG]; exact grownCap_ge w _ _ _
  have hGm : G ≤ maxLen := by rw [← hG]; exact grownCap_le_maxLen w (0 + n) 0 35 (by unfold maxLen; omega)
  rw [hG] at hrz
  have hG0 : (0 : Int) ≤ (G : Int) := by omega
  go_enter Try.func100, Try.ntmps100
  go_wp2_with (at_builtin; refine Lib.wpList_append_run _ rfl _ _ _ _ rfl _ _ rfl rfl _ _ (hrz _) ?_)
  go_ret
  refine ⟨G, rfl, ⟨rfl, .inr ⟨w.heap.size, G, _, rfl, Nat.le_refl _, heap_alloc_new w _, Nat.zero_le _, hGm, ?_, by simp⟩⟩, ?_⟩
  · simp only [Array.size_append, size_zeroCells]
    simp
    omega
  · first
      | exact balloc0 _ _
      | exact (balloc0 _ _).drew
      | exact balloc (Below.refl _ _).drew _

set_option maxRecDepth 100000 in
set_option maxHeartbeats 3200000 in
/-- Two rows one behind the other, in a new row. -/
theorem concat_impl (L : List Cl) (c : Cl) (b o cap q g : Nat) (h6 : L.length ≤ 6) (w : World) (ha : ClAt w b o L) (hc : ClAt w g 0 [c]) (hq0 : w.cell? ⟨q, 0, none⟩ = some (.slice (some ⟨b, o, none⟩) L.length cap)) (hq1 : w.cell? ⟨q, 1, none⟩ = some (.slice (some ⟨g, 0, none⟩) 1 1)) :
    Calls Try.prog 63 #[.slice (some ⟨q, 0, none⟩) 2 2] w fun e w' => ∃ g' cap', e = .returned (.slice (some ⟨g', 0, none⟩) (L.length + 1) cap') ∧ ClOwn w.heap.size (L ++ [c]) g' w' ∧ Below w.heap.size w w' := by
  have HQ : Hid (∀ wx, Below w.heap.size w wx → wx.cell? ⟨q, 0, none⟩ = some (.slice (some ⟨b, o, none⟩) L.length cap) ∧ wx.cell? ⟨q, 1, none⟩ = some (.slice (some ⟨g, 0, none⟩) 1 1) ∧ ClAt wx b o L ∧ ClAt wx g 0 [c]) := fun wx h =>
    ⟨(h.cell (p := ⟨q, 0, none⟩) (World.block_lt_of_cell? w _ hq0)).trans hq0, (h.cell (p := ⟨q, 1, none⟩) (World.block_lt_of_cell? w _ hq1)).trans hq1, ha.later h, hc.later h⟩
  have C := Lib.hid (grow_impl (L.length + 1) (by omega) (by omega))
  clear ha hc hq0 hq1
  go_enter Try.func63, Try.ntmps63
  go_wp2
  go_loopw [3, 11] (fun s i wr => ∃ (k z : Nat), ((k = 0 ∧ z = 0) ∨ (k = 1 ∧ z = L.length) ∨ (k = 2 ∧ z = L.length + 1)) ∧ s = .int .i64 z ∧ i = .int .i64 k ∧ Hid (Below w.heap.size w wr)) (fun _ i _ => 2 - (intOf i).toNat)
  case atStart => exact ⟨0, 0, .inl ⟨rfl, rfl⟩, rfl, rfl, Below.refl _ _⟩
  case round =>
    obtain ⟨k, z, hkz, rfl, rfl, hB⟩ := hrel
    obtain ⟨q0, q1, _, _⟩ := HQ.out _ hB.out
    rcases hkz with ⟨rfl, rfl⟩ | ⟨rfl, rfl⟩ | ⟨rfl, rfl⟩
    · go_wp2
      go_roundw
      case rel => exact ⟨1, L.length, .inr (.inl ⟨rfl, rfl⟩), by go_num, by go_num, hB.out⟩
      case measure => simp [intOf]
    · go_wp2
      go_roundw
      case rel => exact ⟨2, L.length + 1, .inr (.inr ⟨rfl, rfl⟩), by go_num, by go_num, hB.out⟩
      case measure => simp [intOf]
    · go_wp2_with fail
      refine (C.out _).mono ?_
      rintro e w1 ⟨G, rfl, ho, hb⟩
      obtain ⟨wa, hwa⟩ : ∃ wa, wa = wr := ⟨_, rfl⟩
      subst hwa
      have O1 := Lib.hid ho
      have B1 := Lib.hid hb
      clear ho hb q0 q1
      obtain ⟨i0, hi, hz0, hz1, hz2⟩ := info_parts infoClay
      have hcl := clVals_length L
      have hone := Lib.hid (clVals_one L)
      have hone1 : Hid (∀ u ∈ c.vals, u.oneCell' = true) := by intro u hu; exact clVals_one [c] u (by simpa [clVals] using hu)
      have m1 : Hid (0 + L.length ≤ maxLen) := by show 0 + L.length ≤ maxLen; unfold maxLen; omega
      have m2 : Hid (L.length + 1 ≤ maxLen) := by show L.length + 1 ≤ maxLen; unfold maxLen; omega
      go_wp2
      go_loopw [6, 27] (fun v i wr => ∃ (k n : Nat) (xs : List Value) (vv : Value), v = vv ∧ Hid ((k = 0 ∧ n = 0 ∧ xs = []) ∨ (k = 1 ∧ n = L.length ∧ xs = clVals L) ∨ (k = 2 ∧ n = L.length + 1 ∧ xs = clVals L ++ c.vals)) ∧ i = .int .i64 k ∧ k ≤ 2 ∧ Hid (wr.ownsRow wa.heap.size 35 5 vv n xs) ∧ Hid (Below wa.heap.size wa wr)) (fun _ i _ => 2 - (intOf i).toNat)
      case atStart => exact ⟨0, 0, [], _, rfl, .inl ⟨rfl, rfl, rfl⟩, rfl, by omega, O1.out, B1.out⟩
      case round =>
        obtain ⟨k, n, xs, vv, hvv, hkz, rfl, hk2, hO, hD⟩ := hrel
        have hvs := hvv.symm
        clear hvv
        subst hvs
        have HB : Hid (Below w.heap.size w wr) := hB.out.trans (hD.out.mono hB.out.size)
        obtain ⟨q0, q1, p0, p1⟩ := HQ.out _ HB.out
        have P0 := Lib.hid (clVals_cells p0)
        have P1 : Hid (∀ j u, c.vals[j]? = some u → wr.cell? ((⟨g, 0, none⟩ : Addr).add j) = some u) := fun j u hu => clVals_cells p1 j u (by simpa [clVals] using hu)
        have hsz := hD.out.size
        rcases hkz.out with ⟨rfl, rfl, rfl⟩ | ⟨rfl, rfl, rfl⟩ | ⟨rfl, rfl, rfl⟩
        · clear hkz p0 p1
          go_wp2_with (at_builtin; go_must ((refine wpList_append_own _ rfl _ _ 25 rfl wa.heap.size 35 i0 (.agg #[.string ⟨#[]⟩, .int .i64 0, .int .i64 0, .int .i64 0, .int .i64 0]) 5 48 Try.underlying25 hi hz0 hz1 hz2 rfl (by decide) vv 0 [] rfl hO.out ⟨b, o, none⟩ L.length cap (clVals L) rfl hcl P0.out hone.out m1.out (by omega) hsz ?_; intro v1 w3 hown1 hgrow1 _)))
          have HO1 : Hid (w3.ownsRow wa.heap.size 35 5 v1 L.length (clVals L)) := by
            refine Lib.hid ?_
            simpa using hown1
          have HB1 : Hid (Below wa.heap.size wa w3) := hD.out.grown hgrow1 hsz (own_block hO.out)
          clear hown1 hgrow1
          go_roundw
          case rel => exact ⟨1, L.length, clVals L, v1, rfl, .inr (.inl ⟨rfl, rfl, rfl⟩), by go_num, by omega, HO1.out, HB1.out⟩
          case measure => simp [intOf]
        · clear hkz p0 p1
          go_wp2_with (at_builtin; go_must ((refine wpList_append_own _ rfl _ _ 25 rfl wa.heap.size 35 i0 (.agg #[.string ⟨#[]⟩, .int .i64 0, .int .i64 0, .int .i64 0, .int .i64 0]) 5 48 Try.underlying25 hi hz0 hz1 hz2 rfl (by decide) vv L.length (clVals L) rfl hO.out ⟨g, 0, none⟩ 1 1 c.vals rfl rfl P1.out hone1.out m2.out (by omega) hsz ?_; intro v1 w3 hown1 hgrow1 _)))
          have HO1 : Hid (w3.ownsRow wa.heap.size 35 5 v1 (L.length + 1) (clVals L ++ c.vals)) := hown1
          have HB1 : Hid (Below wa.heap.size wa w3) := hD.out.grown hgrow1 hsz (own_block hO.out)
          clear hown1 hgrow1
          go_roundw
          case rel => exact ⟨2, L.length + 1, clVals L ++ c.vals, v1, rfl, .inr (.inr ⟨rfl, rfl, rfl⟩), by go_num, by omega, HO1.out, HB1.out⟩
          case measure => simp [intOf]
        · clear hkz p0 p1
          have hown := hO.out
          rw [clVals_snoc] at hown
          obtain ⟨g4, cap4, hv4, ho4⟩ := own_clays (by simp) (by omega) hown
          subst hv4
          have HO4 : Hid (ClOwn w.heap.size (L ++ [c]) g4 wr) := ⟨Nat.le_trans hB.out.size ho4.1, ho4.2⟩
          clear hown ho4 hO
          go_wp2
          go_ret
          exact ⟨g4, cap4, rfl, HO4.out, HB.out⟩
end Go.Proofs.Ytpmklnldgafkjaa
