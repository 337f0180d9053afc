/-
  joinNumbers: the decimal forms of numbers with a separator between them.
-/
import Derived.Test.YtpholgfkaolfjaaDoorDecI
import Derived.Test.YtpholgfkaolfjaaDoorBuild
namespace Go.Proofs.YtpholgfkaolfjaaDoor
open Go.ChangeShapes Go.WideShapes Go.ChangeAt Go.RowKit Go.Joins

def joinTo (sep : List UInt8) (ns : List Int) : Nat → List UInt8
  | 0 => []
  | k + 1 => (joinTo sep ns k ++ (if k = 0 then [] else sep)) ++ Lib.itoa ((ns[k]?).getD 0)
theorem joinTo_first {sep : List UInt8} {ns : List Int} {z : Int} (h : ns[0]? = some z) : joinTo sep ns 1 = Lib.itoa z := by simp [joinTo, h]
theorem joinTo_next {sep : List UInt8} {ns : List Int} {k : Nat} {z : Int} (h : ns[k]? = some z) (hk : ¬ k = 0) : joinTo sep ns (k + 1) = (joinTo sep ns k ++ sep) ++ Lib.itoa z := by simp [joinTo, h, hk]
def InI64 (z : Int) : Prop := -9223372036854775808 ≤ z ∧ z ≤ 9223372036854775807
theorem joinTo_length {sep : List UInt8} {ns : List Int} (hr : ∀ (k : Nat) z, ns[k]? = some z → InI64 z) (hs : sep.length ≤ 100) : ∀ k, (joinTo sep ns k).length ≤ k * 200
  | 0 => by simp [joinTo]
  | k + 1 => by
    have ih := joinTo_length hr hs k
    have h1 : (Lib.itoa ((ns[k]?).getD 0)).length ≤ 21 := by
      cases e : ns[k]? with
      | none => exact Lib.itoa_length_le _ (by simp) (by simp)
      | some z => exact Lib.itoa_length_le _ (hr k z e).1 (hr k z e).2
    simp only [joinTo, List.length_append]
    split
    · simp only [List.length_nil]; omega
    · omega

theorem bld_later {B b : Nat} {bs : List Value} {w w' : World} (h : IsB B b bs w) (hb : Below w.heap.size w w') : IsB B b bs w' := by
  rcases h with h | h
  · left
    have hlt := h.lt
    obtain ⟨h1, v, h2, h3, h4⟩ := h
    exact ⟨h1, v, (hb.block b hlt).trans h2, h3.kept (row := none) ⟨hb.os, hb.tape, hb.output, hb.size, fun k hk _ => hb.block k hk⟩ (by cases e : v.ownBlock <;> simp), h4⟩
  · right
    have hlt := h.lt
    obtain ⟨h1, v, h2, h3, h4⟩ := h
    exact ⟨h1, v, (hb.block b hlt).trans h2, h3.kept (row := none) ⟨hb.os, hb.tape, hb.output, hb.size, fun k hk _ => hb.block k hk⟩ (by cases e : v.ownBlock <;> simp), h4⟩
theorem bld_new (w : World) : IsB w.heap.size w.heap.size (Lib.byteCells []) (w.alloc (.cells #[.pointer none, .slice none 0 0] 65)) :=
  .inl ⟨Nat.le_refl _, _, heap_alloc_new w _, World.ownsRow_nil _ _ _ _, by simp [Value.ownBlock]⟩

set_option maxRecDepth 100000 in
set_option maxHeartbeats 3200000 in
theorem joinN_impl (sep : ByteArray) (ns : List Int) (g cap : Nat) (hn : ns.length ≤ 100) (hs : sep.size ≤ 100) (hr : ∀ (k : Nat) z, ns[k]? = some z → InI64 z) (w : World) (ht : Pow10 w) (hc : ∀ (k : Nat) z, ns[k]? = some z → w.cell? ⟨g, k, none⟩ = some (.int .i64 z)) :
    Calls Tryd.prog 16 #[.string sep, .slice (some ⟨g, 0, none⟩) ns.length cap] w fun e w' => e = .returned (.string ⟨(joinTo sep.data.toList ns ns.length).toArray⟩) ∧ Below w.heap.size w w' := by
  have HC : Hid (∀ wx, Below w.heap.size w wx → (∀ (k : Nat) z, ns[k]? = some z → wx.cell? ⟨g, k, none⟩ = some (.int .i64 z)) ∧ Pow10 wx) := fun wx h => ⟨fun k z hk => (h.cell (p := ⟨g, k, none⟩) (World.block_lt_of_cell? w _ (hc k z hk))).trans (hc k z hk), ht.later h⟩
  have HR := Lib.hid hr
  have HL := Lib.hid (joinTo_length (sep := sep.data.toList) hr (by simpa using hs))
  have HB0 := Lib.hid (bld_new w)
  clear hc ht hr
  go_enter Tryd.func16, Tryd.ntmps16
  go_wp2
  go_loopw [10] (fun i wr => ∃ k : Nat, k ≤ ns.length ∧ i = .int .i64 k ∧ Hid (IsB w.heap.size w.heap.size (Lib.byteCells (joinTo sep.data.toList ns k)) wr) ∧ Hid (Below w.heap.size w wr)) (fun i _ => ns.length - (intOf i).toNat)
  case atStart => exact ⟨0, Nat.zero_le _, rfl, HB0.out, balloc0 _ _⟩
  case round =>
    obtain ⟨k, hk, rfl, hB, hW⟩ := hrel
    by_cases hlt : k < ns.length
    · have hlt' : (k : Int) < (ns.length : Int) := by omega
      have hk0 : (0 : Int) ≤ (k : Int) := by omega
      obtain ⟨z, hz⟩ : ∃ z, ns[k]? = some z := ⟨_, List.getElem?_eq_getElem hlt⟩
      have c0 := (HC.out _ hW.out).1 k z hz
      have hz64 := HR.out k z hz
      have D := Lib.hid (fun wx (h : Below w.heap.size w wx) => decimal_impl z hz64.1 hz64.2 wx (HC.out _ h).2)
      have hlen := HL.out k
      have hzl := Lib.itoa_length_le z hz64.1 hz64.2
      obtain ⟨T, hT⟩ : ∃ T, joinTo sep.data.toList ns k = T := ⟨_, rfl⟩
      obtain ⟨d, hd⟩ : ∃ d, Lib.itoa z = d := ⟨_, rfl⟩
      by_cases h0 : k = 0
      · subst h0
        have HN : Hid (joinTo sep.data.toList ns (0 + 1) = T ++ d) := by
          show joinTo sep.data.toList ns 1 = T ++ d
          rw [joinTo_first hz, ← hT, ← hd]
          rfl
        rw [hT] at hB hlen
        rw [hd] at D hzl
        clear hz hT hd hz64
        go_wp2_with fail
        refine (D.out _ hW.out).mono ?_
        rintro e w1 ⟨rfl, hb1⟩
        have B1 := Lib.hid (bld_later hB.out hb1)
        have W1 := Lib.hid (bnext hW.out hb1)
        clear hb1 c0
        go_wp2_with fail
        refine (write_impl _ _ _ ⟨d.toArray⟩ _ B1.out (by rw [Lib.byteCells_length]; show _ + d.toArray.size ≤ _; simp; omega) W1.out.size).mono ?_
        rintro e w2 ⟨rfl, h2, hb2⟩
        have HB2 : Hid (IsB w.heap.size w.heap.size (Lib.byteCells (joinTo sep.data.toList ns (0 + 1))) w2) := by
          show IsB _ _ _ w2
          rw [HN.out, Lib.byteCells_append]
          exact .inr h2
        have W2 := Lib.hid (W1.out.trans hb2)
        clear h2 hb2
        go_wp2
        go_roundw
        case rel => exact ⟨0 + 1, by omega, rfl, HB2.out, W2.out⟩
        case measure => simp [intOf]; omega
      · have HN : Hid (joinTo sep.data.toList ns (k + 1) = (T ++ sep.data.toList) ++ d) := by
          show joinTo sep.data.toList ns (k + 1) = _
          rw [joinTo_next hz h0, hT, hd]
        have hk00 : (0 : Int) < (k : Int) := by omega
        rw [hT] at hB hlen
        rw [hd] at D hzl
        clear hz hT hd hz64
        go_wp2_with fail
        refine (write_impl _ _ _ sep _ hB.out (by rw [Lib.byteCells_length]; omega) hW.out.size).mono ?_
        rintro e w0 ⟨rfl, h1, hb0⟩
        have B0 : Hid (IsB w.heap.size w.heap.size (Lib.byteCells (T ++ sep.data.toList)) w0) := by
          show IsB _ _ _ w0
          rw [Lib.byteCells_append]
          exact .inr h1
        have W0 := Lib.hid (hW.out.trans hb0)
        clear h1 hb0 c0
        go_wp2_with fail
        refine (D.out _ W0.out).mono ?_
        rintro e w1 ⟨rfl, hb1⟩
        have B1 := Lib.hid (bld_later B0.out hb1)
        have W1 := Lib.hid (bnext W0.out hb1)
        clear hb1
        go_wp2_with fail
        refine (write_impl _ _ _ ⟨d.toArray⟩ _ B1.out (by rw [Lib.byteCells_length, List.length_append]; show _ + d.toArray.size ≤ _; simp; omega) W1.out.size).mono ?_
        rintro e w2 ⟨rfl, h2, hb2⟩
        have HB2 : Hid (IsB w.heap.size w.heap.size (Lib.byteCells (joinTo sep.data.toList ns (k + 1))) w2) := by
          show IsB _ _ _ w2
          rw [HN.out, Lib.byteCells_append]
          exact .inr h2
        have W2 := Lib.hid (W1.out.trans hb2)
        clear h2 hb2
        go_wp2
        go_roundw
        case rel => exact ⟨k + 1, by omega, by go_num, HB2.out, W2.out⟩
        case measure => simp [intOf]; omega
    · have hge : ¬ (k : Int) < (ns.length : Int) := by omega
      have hkn : k = ns.length := by omega
      subst hkn
      go_wp2_with fail
      refine (Tryd.Builder_String_any _ _ _ _ hB.out hW.out.size).mono ?_
      rintro e w1 ⟨rfl, hb1⟩
      go_wp2
      go_ret
      exact ⟨rfl, hW.out.trans hb1⟩
end Go.Proofs.YtpholgfkaolfjaaDoor
