/-
  In one sentence: FnLengths returns true for every slice of bytes and leaves it as it was. Conditions: none.
-/
import Derived.Test.YtpholgfkaolfjaaLen
import Derived.Test.YtpholgfkaolfjaaFrame
import Derived.JoinedCond
namespace Go.Proofs.Ytpholgfkaolfjaa
open Go.ChangeShapes Go.WideShapes Go.ChangeAt Go.RowKit Go.Joins

set_option maxHeartbeats 3200000 in
theorem walk_FnLengths (w : World) (a : Option Addr) (len cap : Nat) (hl : len ≤ 9223372036854775807) (hc : CodeAt w w.heap.size (.slice a len cap)) :
    Calls Try.prog 3 #[.slice a len cap] w fun e w' => e = .returned (.bool true) ∧ Below w.heap.size w w' := by
  have HC := Lib.hid hc
  have HL := Lib.hid hl
  clear hc hl
  by_cases h3 : (3000 : Int) < (len : Int)
  · have h3' : decide ((3000 : Int) < (len : Int)) = true := by simpa using h3
    go_enter Try.func3, Try.ntmps3
    go_wp2_with fail
    refine (long_any a len cap _).mono ?_
    rintro e w1 ⟨rfl, rfl⟩
    go_wp2_with fail
    go_ret
    exact ⟨rfl, Below.refl _ _⟩
  have h3' : decide ((3000 : Int) < (len : Int)) = false := by simpa using h3
  go_enter Try.func3, Try.ntmps3
  go_wp2_with fail
  refine (long_any a len cap _).mono ?_
  rintro e w0 ⟨rfl, rfl⟩
  go_wp2_with fail
  refine (a2_format _ (.slice a len cap) HC.out ⟨a, len, cap, rfl⟩).mono ?_
  rintro e w1 ⟨l, wd, ht, j, hok, rfl, hb1⟩
  have B1 := Lib.hid hb1
  have s1 := hb1.size
  have HC1 : Hid (CodeAt (w1.alloc (.cells #[.int .i64 l, .int .i64 wd, .int .i64 ht, .int .i64 j] 25)) w.heap.size (.slice a len cap)) := by
    rcases HC.out with h | ⟨b, o, len', cap', z, e1, e2, e3, e4⟩
    · exact .inl h
    · exact .inr ⟨b, o, len', cap', z, e1, e2, e3, fun i hi => ⟨(World.cell?_alloc_lt _ _ _ (show b < w1.heap.size by omega)).trans ((hb1.cell (p := ⟨b, o + i, none⟩) e2).trans (e4 i hi).1), (e4 i hi).2⟩⟩
  have HO := Lib.hid hok
  clear hb1 hok
  go_wp2_with fail
  refine (at_any _ _ a len cap 9 90 (by omega) (by omega) (by omega) (by omega) HC1.out HL.out).mono ?_
  rintro e w2 ⟨r, r0, r1, rfl, rfl⟩
  have hn : ∃ n : Int, Hid (1 + r = n) ∧ 1 ≤ n ∧ n ≤ 90 := ⟨_, rfl, by omega, by omega⟩
  obtain ⟨n, hn, n1, n2⟩ := hn
  obtain ⟨N, D, u, qa, qb, hh, D1, D2, N1, N2, hu, u1, u2, q1, q2, g1, g2, C1, C2, C3, C4, C5, C6⟩ := lengths_prep l wd ht j n HO.out n1 n2
  go_wp2_with fail
  rw [hn.out]
  refine (C1.out _).mono ?_
  rintro e w3 ⟨rfl, hb3⟩
  obtain ⟨hc3, hf3⟩ := bcell hb3
  have s3 := hb3.size
  simp at s3
  have z3 : w1.heap.size < w3.heap.size := by omega
  have B3 := Lib.hid (bnext (balloc B1.out _) hb3)
  clear hb3
  go_wp2_with fail
  rw [hu.out]
  refine (C2.out _).mono ?_
  rintro e w4 ⟨rfl, hb4⟩
  obtain ⟨hc4, hf4⟩ := bcell hb4
  have s4 := hb4.size
  simp at s4
  have z4 : w1.heap.size < w4.heap.size := by omega
  have B4 := Lib.hid (bnext (balloc B3.out _) hb4)
  clear hb4
  go_wp2_with fail
  refine (C3.out _).mono ?_
  rintro e w5 ⟨rfl, hb5⟩
  obtain ⟨hc5, hf5⟩ := bcell hb5
  have z5 : w1.heap.size < w5.heap.size := Nat.lt_of_lt_of_le z4 hb5.size
  have B5 := Lib.hid (bnext B4.out hb5)
  clear hb5
  go_wp2_with fail
  refine (C4.out _).mono ?_
  rintro e w6 ⟨rfl, hb6⟩
  obtain ⟨hc6, hf6⟩ := bcell hb6
  have z6 : w1.heap.size < w6.heap.size := Nat.lt_of_lt_of_le z5 hb6.size
  have B6 := Lib.hid (bnext B5.out hb6)
  clear hb6
  go_wp2_with fail
  refine (C5.out _).mono ?_
  rintro e w7 ⟨rfl, hb7⟩
  obtain ⟨hc7, hf7⟩ := bcell hb7
  have z7 : w1.heap.size < w7.heap.size := Nat.lt_of_lt_of_le z6 hb7.size
  have B7 := Lib.hid (bnext B6.out hb7)
  clear hb7
  go_wp2_with fail
  refine (C6.out _).mono ?_
  rintro e w8 ⟨rfl, hb8⟩
  have B8 := Lib.hid (bnext B7.out hb8)
  clear hb8
  go_wp2_with fail
  go_ret
  exact ⟨rfl, B8.out⟩

theorem contract_FnLengths (H : Type) (enc : TypeId × Value → H) (W : World) (base : Nat) (args : Array Value) (ds gs : List (DataW H)) (before : List MemPlace)
    (hval : ∀ (j : Nat) t v, Try.f3.params[j]? = some t → args[j]? = some v → Value.okWide Try.prog W .any base t v)
    (hW : DataW.Whole enc Try.prog Try.f3.params.toList Rows.fnLengthsSpec.vars false W args.toList ds gs before) :
    Calls Try.prog 3 args W fun e W' => ∃ v, e = .returned v ∧ Rows.fnLengthsSpec.post enc Try.prog Try.f3 false true false false W args v W' := by
  have hW' := hW
  obtain ⟨p, q, hA0, hV, rfl, hfz, hnd⟩ := hW
  have hA : DataW.TrodAll enc Try.prog W 0 (fun _ => true) true Try.f3.params.toList args.toList ds p := hA0
  rw [Try.params3] at hA hval
  obtain ⟨v0, vs0, d0, ds0, p0, q0, hargs, rfl, rfl, h0, r0⟩ := trodAll_cons hA
  obtain ⟨rfl, rfl, rfl⟩ := trodAll_nil r0
  obtain rfl : args = #[v0] := by cases args; simp_all
  obtain ⟨rfl, rfl⟩ := trodVars_none hV
  obtain ⟨a0, len, cap, rfl⟩ := okWide_slice Try.underlying22 (hval 0 22 v0 rfl rfl)
  have hcode : CodeAt W W.heap.size (.slice a0 len cap) ∧ len ≤ 9223372036854775807 := by
    obtain ⟨fuel, hf⟩ := h0
    rcases open_ints Try.underlying22 Try.underlying5 (show Try.prog.cellsOf 5 = 1 by kernel_rfl) hf with ⟨hcs, hx⟩ | ⟨a, len', cap', zs, hcs, _, hl, hm, hz, hx, hcell, hwz⟩
    · simp [Value.cells] at hcs
      obtain ⟨rfl, rfl, rfl⟩ := hcs
      exact ⟨.inl ⟨_, _, rfl⟩, by omega⟩
    · simp [Value.cells] at hcs
      obtain ⟨rfl, rfl, rfl⟩ := hcs
      have hm' : cap ≤ 9223372036854775807 := hm
      have hlen : len ≤ zs.length := by rw [hz]; split <;> omega
      refine ⟨?_, by omega⟩
      by_cases h0 : len = 0
      · subst h0
        exact .inl ⟨_, _, rfl⟩
      · obtain ⟨b, off, rfl, hc⟩ := ints_at hcell (by omega)
        have hblk : b < W.heap.size := World.block_lt_of_cell? W _ (hc 0 (by omega))
        refine .inr ⟨b, off, len, cap, fun i => zs.getD i 0, rfl, hblk, by omega, fun i hi => ⟨hc i (by omega), ?_⟩⟩
        have hw := hwz (zs.getD i 0) (by rw [List.getD_eq_getElem?_getD, List.getElem?_eq_getElem (by omega : i < zs.length)]; exact List.getElem_mem ..)
        simpa [Lit.wf, IntKind.min, IntKind.max, IntKind.signed, IntKind.bits] using hw
  clear hA0
  refine (walk_FnLengths W a0 len cap hcode.2 hcode.1).mono fun e W' ⟨he, hb⟩ => ?_
  subst he
  exact ⟨_, rfl, post_true laidOut (by kernel_rfl) (by kernel_rfl) Try.underlying4 rfl hW' rfl hb⟩
set_option maxRecDepth 100000 in
theorem lifted_FnLengths (os : Os) (started : os.Started) (H : Type) (enc : TypeId × Value → H) :
    ReturnsInHanded {} Try.checked os 3 .any (Rows.fnLengthsSpec.pre6 enc Try.prog Try.f3 Rows.fnLengthsRow.domain false) (Rows.fnLengthsSpec.post enc Try.prog Try.f3 false true false false) := by
  refine returnsInHanded_of_change (C := Try.checked) own started (by kernel_rfl) Try.func3
    (ChangeSpec.witness6 (enc := enc) (C := Try.checked) false ⟨#[], #[.slice none 0 0], []⟩ 8 (by kernel_rfl) (by kernel_rfl) (by kernel_rfl) (by kernel_rfl)) ?_
  intro W base args ds gs before hval hW _ _
  exact contract_FnLengths H enc W base args ds gs before hval hW
/-- For every slice of bytes FnLengths returns true and leaves it as it was. No condition. -/
theorem holds_FnLengths : Rows.FnLengthsSaid :=
  OpenClaim.holds_of_wide 3 Try.f3 rfl rfl rfl rfl rfl rfl rfl ⟨rfl, rfl, rfl, rfl, rfl⟩ rfl rfl rfl rfl rfl (by kernel_rfl) Try.func3 (by kernel_rfl)
    (of_decide_eq_true (by kernel_rfl)) (by unfold Func.isWrapper; first | (rw [if_pos (by decide +kernel)]; kernel_rfl) | (rw [if_neg (by decide +kernel)]; exact ⟨rfl, rfl⟩))
    (fun os started H enc _ => lifted_FnLengths os started H enc)
end Go.Proofs.Ytpholgfkaolfjaa
