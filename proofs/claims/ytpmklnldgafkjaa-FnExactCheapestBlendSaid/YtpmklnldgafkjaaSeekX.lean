/-
  The model's search for blends: a blend that keeps the limits, and the walk through all.
-/
import Derived.Test.YtpmklnldgafkjaaSeekW
namespace Go.Proofs.Ytpmklnldgafkjaa
open Go.ChangeShapes Go.WideShapes Go.ChangeAt Go.RowKit Go.Joins

set_option maxRecDepth 100000 in
set_option maxHeartbeats 3200000 in
theorem leaf_yes (w0 : World) (L : List Cl) (a : Option Addr) (cap bx bb : Nat) (x : Li) (Q : List Int) (K : List (List Int)) (hK : K.length ≤ 5000000) (hc : codeP L Q x.ok = 0) (hk : okK L x Q = true) (w : World) (h : SeekE w0 L a cap bx bb Q K w) (ha : ClArg w a L) (hx : w.rangeAt bx 0 x.vals) :
    Calls Try.prog 112 #[.pointer (some ⟨bb, 0, none⟩), .int .i64 0] w fun e w' => e = .returned (.tuple #[]) ∧ SeekE w0 L a cap bx bb Q (K ++ [Q]) w' := by
  obtain ⟨g, cp, vb, ls, h⟩ := h
  obtain ⟨c0, c1, c2, c3, c4, c5⟩ := h.cells
  have f5 := h.free 5
  have f4 := h.free 4
  obtain ⟨hL, hn, hP, -⟩ := codeP_facts hc
  have h6 := (okCls_all hL).1
  have hQ1 : 1 ≤ Q.length := by
    have h1 := (codeP_sum hc).1
    by_cases e : Q.length = 0
    · unfold sumP at h1; rw [e] at h1; simp [sumTo] at h1
    · omega
  have hn' : (Q.length : Int) = (L.length : Int) := by omega
  have hQL := own_of_row h.row
  have C := Lib.hid (fault_quiet L a cap Q (some ⟨g, 0, none⟩) cp x bx hc (by omega) w ha hQL.arg hx)
  have C2 := Lib.hid (fun n => price_quiet L a cap Q (some ⟨g, 0, none⟩) cp hL hP hn (w.drewN n) (ha.later (below_drewN (Below.refl _ _) n)) (hQL.arg.later (below_drewN (Below.refl _ _) n)))
  have hF : faultV L Q x = noneB := by simpa [okK] using hk
  rw [hF] at C
  have hF2 : (noneB.toList == [110, 111, 110, 101]) = true := by rw [noneB_list]; rfl
  obtain ⟨p0, p1⟩ := price_range hL hP
  have hcase : (better (total Cl.pr L) (bestOf (total Cl.pr L) K) Q = some Q ∧ (ls < 0 ∨ (¬ ls < 0 ∧ total Cl.pr L Q < ls))) ∨ (better (total Cl.pr L) (bestOf (total Cl.pr L) K) Q = bestOf (total Cl.pr L) K ∧ ¬ ls < 0 ∧ ¬ total Cl.pr L Q < ls) := by
    have hb := h.best
    unfold BestAt at hb
    split at hb
    · rename_i e
      rw [e]
      exact .inl ⟨rfl, .inl (by omega)⟩
    · rename_i P e
      rw [e]
      obtain ⟨⟨h1, h2⟩, _⟩ := hb
      by_cases hlt : total Cl.pr L Q < total Cl.pr L P
      · exact .inl ⟨by simp [better, hlt], .inr ⟨by omega, by omega⟩⟩
      · exact .inr ⟨by simp [better, hlt], by omega, by omega⟩
  have S := Lib.hid (fun n => h.drewN n)
  obtain ⟨pr, hpr⟩ : ∃ pr, total Cl.pr L Q = pr := ⟨_, rfl⟩
  have HPR := Lib.hid hpr
  rw [hpr] at C2 p0 p1 hcase
  have hKz : (0 : Int) ≤ (K.length : Int) := by omega
  have hKn : (K.length : Int) ≤ 5000000 := by omega
  clear h hc hk ha hx hL hn hP hQL hF hpr hK
  rcases hcase with ⟨hbt, hcase⟩ | ⟨hbt, hn1, hn2⟩
  · have HBT := Lib.hid hbt
    clear hbt
    rcases hcase with hn1 | ⟨hn1, hn2⟩
    all_goals
      go_enter Try.func112, Try.ntmps112
      go_wp2
      go_quiet (first | (go_at_call 72; exact C.out _))
      go_wp2
      have D := Lib.hid (C2.out nq)
      have S1 := Lib.hid (S.out nq)
      clear C C2 S c0 c1 c2 c3 c4 c5 f4 f5
      obtain ⟨w1, hw1⟩ : ∃ w1, w.drewN nq = w1 := ⟨_, rfl⟩
      rw [hw1] at D S1 ⊢
      clear hw1
      obtain ⟨c0, c1, c2, c3, c4, c5⟩ := S1.out.cells
      have f5 := S1.out.free 5
      have f4 := S1.out.free 4
      go_quiet (first | (go_at_call 102; exact D.out _))
      go_wp2_with fail
      have S2 := Lib.hid (S1.out.drewN nq)
      refine (own_spec Q g cp hQ1 (by omega) _ (S2.out.ints _ _)).mono ?_
      rintro e w3 ⟨g', cp', rfl, ho, hb3⟩
      have N := S2.out.new (w3 := w3) (h' := g') cp' (by rw [HPR.out]; exact p0) HBT.out (by rw [HPR.out]; exact hb3) (by rw [HPR.out]; exact ho)
      rw [HPR.out] at N
      obtain ⟨d3, e3, N⟩ := N
      have HN := Lib.hid N
      clear N ho hb3
      go_wp2
      exact bodyPost_ret (v := .tuple #[]) (by simp [results, Try.results112, go_sem]) rfl ⟨rfl, g, cp, _, _, HN.out⟩
  · have HBT := Lib.hid hbt
    clear hbt
    go_enter Try.func112, Try.ntmps112
    go_wp2
    go_quiet (first | (go_at_call 72; exact C.out _))
    go_wp2
    have D := Lib.hid (C2.out nq)
    have S1 := Lib.hid (S.out nq)
    clear C C2 S c0 c1 c2 c3 c4 c5 f4 f5
    obtain ⟨w1, hw1⟩ : ∃ w1, w.drewN nq = w1 := ⟨_, rfl⟩
    rw [hw1] at D S1 ⊢
    clear hw1
    obtain ⟨c0, c1, c2, c3, c4, c5⟩ := S1.out.cells
    have f5 := S1.out.free 5
    go_quiet (first | (go_at_call 102; exact D.out _))
    go_wp2
    exact bodyPost_ret (v := .tuple #[]) (by simp [results, Try.results112, go_sem]) rfl ⟨rfl, g, cp, vb, ls, (S1.out.drewN nq).same HBT.out⟩

theorem leaf_spec (w0 : World) (L : List Cl) (a : Option Addr) (cap bx bb : Nat) (x : Li) (t : Nat) (ht : 1 ≤ t) (hL : okCls L = true) (hx : x.ok = true) (Q : List Int) (K : List (List Int)) (r : Nat) (hn : Q.length = L.length) (hP : okParts Q = true) (hs : sumP Q + r = t) (hK : K.length ≤ 5000000) (w : World) (h : SeekE w0 L a cap bx bb Q K w) (ha : ClArg w0 a L) (hr : w0.rangeAt bx 0 x.vals) :
    Calls Try.prog 112 #[.pointer (some ⟨bb, 0, none⟩), .int .i64 (r : Nat)] w fun e w' => e = .returned (.tuple #[]) ∧ SeekE w0 L a cap bx bb Q (K ++ kp (okK L x) Q 0 r) w' := by
  have hb : Below w0.heap.size w0 w := by obtain ⟨g, cp, vb, ls, h⟩ := h; exact h.bel
  rw [kp_zero]
  by_cases h0 : r = 0
  · subst h0
    rw [if_pos rfl]
    have hc := codeP_full hL hx hP hn (by omega)
    cases hk : okK L x Q
    · rw [if_neg (by simp), List.append_nil]
      exact leaf_no w0 L a cap bx bb x Q K hc hk w h (ha.later hb) (range_below hr hb)
    · rw [if_pos rfl]
      exact leaf_yes w0 L a cap bx bb x Q K hK hc hk w h (ha.later hb) (range_below hr hb)
  · rw [if_neg h0, List.append_nil]
    exact leaf_off w0 L a cap bx bb Q K r h0 hn w h
end Go.Proofs.Ytpmklnldgafkjaa
