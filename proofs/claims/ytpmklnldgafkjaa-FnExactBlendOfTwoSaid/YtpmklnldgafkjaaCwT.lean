/-
  The walk of the law on BlendOfTwo.
-/
import Derived.Test.YtpmklnldgafkjaaBlend2
import Derived.Deep.RegionWith
namespace Go.Proofs.Ytpmklnldgafkjaa
open Go.ChangeShapes Go.WideShapes Go.ChangeAt Go.RowKit Go.Joins

theorem twoE_two (a b : Cl) (s : Int) : ∃ x y c, twoE a b s = .returned (.tuple #[.int .i64 x, .int .i64 y, .int .i64 c]) := by
  unfold twoE
  split
  · exact ⟨_, _, _, rfl⟩
  · exact ⟨_, _, _, rfl⟩

set_option maxRecDepth 100000 in
set_option maxHeartbeats 6400000 in
theorem walk_FnExactBlendOfTwo (a : Cl) (sa : a.name.size ≤ maxLen) (b : Cl) (sb : b.name.size ≤ maxLen) (s : Int) (_ws : (Lit.int .i64 s).wf = true) (w : World) :
    Calls Try.prog 10 #[.agg #[.string a.name, .int .i64 a.sh, .int .i64 a.li, .int .i64 a.sa, .int .i64 a.pr], .agg #[.string b.name, .int .i64 b.sh, .int .i64 b.li, .int .i64 b.sa, .int .i64 b.pr], .int .i64 s] w fun e w' => e = .returned (.bool true) ∧ Below w.heap.size w w' := by
  have ra := Lib.hid (range_old w (.cells #[.string b.name, .int .i64 b.sh, .int .i64 b.li, .int .i64 b.sa, .int .i64 b.pr] 31) #[.string a.name, .int .i64 a.sh, .int .i64 a.li, .int .i64 a.sa, .int .i64 a.pr] 31)
  have rb := Lib.hid (range_new2 w (.cells #[.string a.name, .int .i64 a.sh, .int .i64 a.li, .int .i64 a.sa, .int .i64 a.pr] 31) #[.string b.name, .int .i64 b.sh, .int .i64 b.li, .int .i64 b.sa, .int .i64 b.pr] 31)
  have BB : Hid (Below w.heap.size w ((w.alloc (.cells #[.string a.name, .int .i64 a.sh, .int .i64 a.li, .int .i64 a.sa, .int .i64 a.pr] 31)).alloc (.cells #[.string b.name, .int .i64 b.sh, .int .i64 b.li, .int .i64 b.sa, .int .i64 b.pr] 31))) := balloc (balloc0 _ _) _
  obtain ⟨W2, hW⟩ : ∃ W2, ((w.alloc (.cells #[.string a.name, .int .i64 a.sh, .int .i64 a.li, .int .i64 a.sa, .int .i64 a.pr] 31)).alloc (.cells #[.string b.name, .int .i64 b.sh, .int .i64 b.li, .int .i64 b.sa, .int .i64 b.pr] 31)) = W2 := ⟨_, rfl⟩
  rw [hW] at ra rb BB
  have RA : Hid (∀ wx, Below W2.heap.size W2 wx → wx.rangeAt w.heap.size 0 a.vals) := fun wx h => range_below ra.out h
  have RB : Hid (∀ wx, Below W2.heap.size W2 wx → wx.rangeAt (w.heap.size + 1) 0 b.vals) := fun wx h => range_below rb.out h
  have HW := Lib.hid hW
  clear ra rb hW
  obtain ⟨x, y, c, hE⟩ := twoE_two a b s
  have TS := Lib.hid (two_spec a b s)
  have TI := Lib.hid (two_impl a b s)
  rw [hE] at TS TI
  clear hE
  have ZA := Lib.hid (sz_clay a 1048576 (by omega) (by omega) sa)
  have ZB := Lib.hid (fun left h0 h1 => sz_clay b left h0 h1 sb)
  clear sa sb
  go_enter Try.func10, Try.ntmps10
  go_wp2_with fail
  rw [HW.out]
  refine (ZA.out _).mono ?_
  rintro e w1 ⟨r, rfl, r0, r1, _, hb1⟩
  have H1 := Lib.hid hb1
  obtain ⟨a0, a1, a2, a3, a4⟩ := cells5 (RA.out _ H1.out)
  obtain ⟨b0, b1, b2, b3, b4⟩ := cells5 (RB.out _ H1.out)
  clear hb1
  by_cases hr : r < 0
  · go_wp2
    go_ret
    exact ⟨rfl, BB.out.trans (H1.out.mono BB.out.size)⟩
  go_wp2_with fail
  refine (ZB.out r (by omega) (by omega) _).mono ?_
  rintro e w2 ⟨q, rfl, q0, q1, _, hb2⟩
  clear a0 a1 a2 a3 a4 b0 b1 b2 b3 b4
  have H2 : Hid (Below W2.heap.size W2 w2) := bnext H1.out hb2
  obtain ⟨a0, a1, a2, a3, a4⟩ := cells5 (RA.out _ H2.out)
  obtain ⟨b0, b1, b2, b3, b4⟩ := cells5 (RB.out _ H2.out)
  clear hb2
  by_cases hq : q < 0
  · go_wp2
    go_ret
    exact ⟨rfl, BB.out.trans (H2.out.mono BB.out.size)⟩
  have D2 : Hid (Below W2.heap.size W2 w2.drew) := H2.out.drew
  go_wp2_with fail
  go_region_with (first | (go_at_call_of 24 a.name; refine (to_clay a _).mono ?_; rintro e w3 ⟨rfl, hb3⟩; have H3 := Lib.hid (bnext (Hid.out ‹Hid (Below W2.heap.size W2 _)›) hb3); clear hb3; obtain ⟨a0, a1, a2, a3, a4⟩ := cells5 (RA.out _ H3.out); obtain ⟨b0, b1, b2, b3, b4⟩ := cells5 (RB.out _ H3.out)) | (go_at_call_of 24 b.name; refine (to_clay b _).mono ?_; rintro e w3 ⟨rfl, hb3⟩; have H3 := Lib.hid (bnext (Hid.out ‹Hid (Below W2.heap.size W2 _)›) hb3); clear hb3; obtain ⟨a0, a1, a2, a3, a4⟩ := cells5 (RA.out _ H3.out); obtain ⟨b0, b1, b2, b3, b4⟩ := cells5 (RB.out _ H3.out)) | (go_at_call 40; refine (TS.out _).mono ?_; rintro e w3 ⟨rfl, hb3⟩; have H3 := Lib.hid (bnext (Hid.out ‹Hid (Below W2.heap.size W2 _)›) hb3); clear hb3; obtain ⟨a0, a1, a2, a3, a4⟩ := cells5 (RA.out _ H3.out); obtain ⟨b0, b1, b2, b3, b4⟩ := cells5 (RB.out _ H3.out)))
  all_goals
    have D3 := Lib.hid (Hid.out ‹Hid (Below W2.heap.size W2 _)›).drew
    go_wp2_with fail
    go_region_with (first | (go_at_call_of 24 a.name; refine (to_clay a _).mono ?_; rintro e w3 ⟨rfl, hb3⟩; have H3 := Lib.hid (bnext (Hid.out ‹Hid (Below W2.heap.size W2 _)›) hb3); clear hb3; obtain ⟨a0, a1, a2, a3, a4⟩ := cells5 (RA.out _ H3.out); obtain ⟨b0, b1, b2, b3, b4⟩ := cells5 (RB.out _ H3.out)) | (go_at_call_of 24 b.name; refine (to_clay b _).mono ?_; rintro e w3 ⟨rfl, hb3⟩; have H3 := Lib.hid (bnext (Hid.out ‹Hid (Below W2.heap.size W2 _)›) hb3); clear hb3; obtain ⟨a0, a1, a2, a3, a4⟩ := cells5 (RA.out _ H3.out); obtain ⟨b0, b1, b2, b3, b4⟩ := cells5 (RB.out _ H3.out)) | (go_at_call 41; refine (TI.out _).mono ?_; rintro e w3 ⟨rfl, hb3⟩; have H3 := Lib.hid (bnext (Hid.out ‹Hid (Below W2.heap.size W2 _)›) hb3); clear hb3; obtain ⟨a0, a1, a2, a3, a4⟩ := cells5 (RA.out _ H3.out); obtain ⟨b0, b1, b2, b3, b4⟩ := cells5 (RB.out _ H3.out)))
    all_goals
      have D4 := Lib.hid (Hid.out ‹Hid (Below W2.heap.size W2 _)›)
      go_wp2
      go_ret
      exact ⟨rfl, BB.out.trans (D4.out.mono BB.out.size)⟩
end Go.Proofs.Ytpmklnldgafkjaa
