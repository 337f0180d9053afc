/-
  The model's search for blends: its walk.
-/
import Derived.Test.YtpmklnldgafkjaaSeek
import Derived.BigQuiet
import Derived.Deep.QuietTactic
namespace Go.Proofs.Ytpmklnldgafkjaa
open Go.ChangeShapes Go.WideShapes Go.ChangeAt Go.RowKit Go.Joins

section
variable {w0 : World} {L : List Cl} {a : Option Addr} {cap bx bb : Nat} {Q : List Int} {K : List (List Int)} {g cp : Nat} {vb : Value} {ls : Int} {w w' : World}
/-- One blend more that is not the best. -/
theorem Seek.same (h : Seek w0 L a cap bx bb Q K g cp vb ls w) (hb : better (total Cl.pr L) (bestOf (total Cl.pr L) K) Q = bestOf (total Cl.pr L) K) :
    Seek w0 L a cap bx bb Q (K ++ [Q]) g cp vb ls (w.setCell ⟨bb, 5, none⟩ (.int .i64 ((K.length : Int) + 1))) := by
  have hs := set_grown w bb 5 (.int .i64 ((K.length : Int) + 1))
  have hne := h.ne
  refine ⟨?_, h.row.kept hs (.inr (by simp [Value.ownBlock]; exact hne)), h.bel.grown hs h.bel.size (fun k hk => by cases hk; exact h.hb), h.hb, ?_⟩
  · rw [heap_setCell_same w bb 5 _ _ _ h.blk, List.length_append]
    rfl
  · have := h.best.grown hs (.inr (.inr rfl))
    unfold BestAt at this ⊢
    rw [bestOf_snoc, hb]
    exact this
/-- One that is. -/
theorem Seek.new {w3 : World} {h' : Nat} (ch : Nat) (hpr : 0 ≤ total Cl.pr L Q) (h : Seek w0 L a cap bx bb Q K g cp vb ls w) (hb : better (total Cl.pr L) (bestOf (total Cl.pr L) K) Q = some Q)
    (h3 : Below ((w.setCell ⟨bb, 5, none⟩ (.int .i64 ((K.length : Int) + 1))).setCell ⟨bb, 4, none⟩ (.int .i64 (total Cl.pr L Q))).heap.size ((w.setCell ⟨bb, 5, none⟩ (.int .i64 ((K.length : Int) + 1))).setCell ⟨bb, 4, none⟩ (.int .i64 (total Cl.pr L Q))) w3)
    (ho : IntOwn ((w.setCell ⟨bb, 5, none⟩ (.int .i64 ((K.length : Int) + 1))).setCell ⟨bb, 4, none⟩ (.int .i64 (total Cl.pr L Q))).heap.size Q h' w3) :
    w3.cell? ⟨bb, 3, none⟩ = some vb ∧ w3.frozen? ⟨bb, 3, none⟩ = false ∧
    Seek w0 L a cap bx bb Q (K ++ [Q]) g cp (.slice (some ⟨h', 0, none⟩) Q.length ch) (total Cl.pr L Q) (w3.setCell ⟨bb, 3, none⟩ (.slice (some ⟨h', 0, none⟩) Q.length ch)) := by
  have hne := h.ne
  have hlt := (Array.getElem?_eq_some_iff.1 h.blk).1
  have hgl := (Array.getElem?_eq_some_iff.1 h.heapg.choose_spec.1).1
  have hgt := h.heapg.choose_spec.1
  have hs1 := set_grown w bb 5 (.int .i64 ((K.length : Int) + 1))
  have b1 := heap_setCell_same w bb 5 _ _ (.int .i64 ((K.length : Int) + 1)) h.blk
  have hs2 := set_grown (w.setCell ⟨bb, 5, none⟩ (.int .i64 ((K.length : Int) + 1))) bb 4 (.int .i64 (total Cl.pr L Q))
  have b2 := heap_setCell_same _ bb 4 _ _ (.int .i64 (total Cl.pr L Q)) b1
  have r2 := ((h.row.kept hs1 (.inr (by simp [Value.ownBlock]; exact hne))).kept hs2 (.inr (by simp [Value.ownBlock]; exact hne)))
  have l2 := (h.bel.grown hs1 h.bel.size (fun k hk => by cases hk; exact h.hb)).grown hs2 (by simp [World.setCell]; exact h.bel.size) (fun k hk => by cases hk; exact h.hb)
  have hz : ((w.setCell ⟨bb, 5, none⟩ (.int .i64 ((K.length : Int) + 1))).setCell ⟨bb, 4, none⟩ (.int .i64 (total Cl.pr L Q))).heap.size = w.heap.size := by simp [World.setCell]
  generalize ((w.setCell ⟨bb, 5, none⟩ (.int .i64 ((K.length : Int) + 1))).setCell ⟨bb, 4, none⟩ (.int .i64 (total Cl.pr L Q))) = w2 at *
  have b3 := (h3.block bb (by omega)).trans b2
  have r3 := r2.kept (below_grown h3) (.inr (by simp [Value.ownBlock]))
  have l3 := l2.trans (h3.mono l2.size)
  have hs := set_grown w3 bb 3 (.slice (some ⟨h', 0, none⟩) Q.length ch)
  have hge := ho.1
  refine ⟨?_, frozen_of_row w3 bb 3 _ _ b3, ?_, r3.kept hs (.inr (by simp [Value.ownBlock]; exact hne)), l3.grown hs l3.size (fun k hk => by cases hk; exact h.hb), h.hb, ?_⟩
  · rw [cell_of_row w3 bb _ _ _ (0, 0) b3]; rfl
  · rw [heap_setCell_same w3 bb 3 _ _ _ b3, List.length_append]
    rfl
  · unfold BestAt
    rw [bestOf_snoc, hb]
    have hx : h' ≠ bb := by omega
    have hbase := h.bel.size
    refine ⟨⟨rfl, hpr⟩, h', ch, rfl, (IntOwn.grown ⟨by omega, ho.2⟩ hs (by simp [hx])), by omega, hx⟩
theorem Seek.ints (h : Seek w0 L a cap bx bb Q K g cp vb ls w) (u u' : Value) : IntAt ((w.setCell ⟨bb, 5, none⟩ u).setCell ⟨bb, 4, none⟩ u') g 0 Q := by
  have hne := h.ne
  exact (((own_of_row h.row).grown (set_grown w bb 5 u) (by simp [hne])).grown (set_grown _ bb 4 u') (by simp [hne])).2.1
end

set_option maxRecDepth 100000 in
set_option maxHeartbeats 1600000 in
theorem leaf_off (w0 : World) (L : List Cl) (a : Option Addr) (cap bx bb : Nat) (Q : List Int) (K : List (List Int)) (r : Nat) (hr : ¬ r = 0) (hn : Q.length = L.length) (w : World) (h : SeekE w0 L a cap bx bb Q K w) :
    Calls Try.prog 112 #[.pointer (some ⟨bb, 0, none⟩), .int .i64 (r : Nat)] w fun e w' => e = .returned (.tuple #[]) ∧ SeekE w0 L a cap bx bb Q K w' := by
  obtain ⟨g, cp, vb, ls, h⟩ := h
  have H := Lib.hid h
  obtain ⟨c0, c1, c2, c3, c4, c5⟩ := h.cells
  have hr' : ((r : Int) == 0) = false := by simpa using hr
  have hr2 : decide (r = 0) = false := by simpa using hr
  have hn' : (Q.length : Int) = (L.length : Int) := by omega
  clear h hr hn
  go_enter Try.func112, Try.ntmps112
  go_wp2
  go_quiet (fail)
  go_wp2
  exact bodyPost_ret (v := .tuple #[]) (by simp [results, Try.results112, go_sem]) rfl ⟨rfl, g, cp, vb, ls, H.out.drewN _⟩

/-- What the fault and the price of a full list are, in whatever world that only draws. -/
theorem fault_quiet (L : List Cl) (a : Option Addr) (cap : Nat) (Q : List Int) (a' : Option Addr) (cp : Nat) (x : Li) (bx : Nat) (hc : codeP L Q x.ok = 0) (hl : Q.length ≤ 1048576) (w : World) (ha : ClArg w a L) (ha' : IntArg w a' Q) (hr : w.rangeAt bx 0 x.vals) (n : Nat) :
    Calls Try.prog 72 #[.slice a L.length cap, .slice a' Q.length cp, .pointer (some ⟨bx, 0, none⟩)] (w.drewN n) fun e w'' => e = .returned (.string (faultV L Q x)) ∧ ∃ m, w'' = w.drewN m :=
  (fault_spec L a cap Q a' cp x bx hc hl (w.drewN n) (ha.later (below_drewN (Below.refl _ _) n)) (ha'.later (below_drewN (Below.refl _ _) n)) (range_below hr (below_drewN (Below.refl _ _) n))).mono (fun e w'' h => by
    obtain ⟨h1, m, h2⟩ := h
    obtain ⟨k, hk⟩ := drewN_two w n m
    exact ⟨h1, k, h2.trans hk⟩)
theorem price_quiet (L : List Cl) (a : Option Addr) (cap : Nat) (Q : List Int) (a' : Option Addr) (cp : Nat) (hL : okCls L = true) (hP : okParts Q = true) (hPL : Q.length = L.length) (w : World) (ha : ClArg w a L) (ha' : IntArg w a' Q) (n : Nat) :
    Calls Try.prog 102 #[.slice a L.length cap, .slice a' Q.length cp, .int .i64 3] (w.drewN n) fun e w'' => e = .returned (.int .i64 (total Cl.pr L Q)) ∧ ∃ m, w'' = w.drewN m :=
  (total_quiet L a cap Q a' cp 3 (by omega) hL hP hPL (w.drewN n) (ha.later (below_drewN (Below.refl _ _) n)) (ha'.later (below_drewN (Below.refl _ _) n))).mono (fun e w'' h => by
    obtain ⟨h1, m, h2⟩ := h
    obtain ⟨k, hk⟩ := drewN_two w n m
    exact ⟨h1, k, h2.trans hk⟩)

set_option maxRecDepth 100000 in
set_option maxHeartbeats 1600000 in
theorem leaf_no (w0 : World) (L : List Cl) (a : Option Addr) (cap bx bb : Nat) (x : Li) (Q : List Int) (K : List (List Int)) (hc : codeP L Q x.ok = 0) (hk : okK L x Q = false) (w : World) (h : SeekE w0 L a cap bx bb Q K w) (ha : ClArg w a L) (hx : w.rangeAt bx 0 x.vals) :
    Calls Try.prog 112 #[.pointer (some ⟨bb, 0, none⟩), .int .i64 0] w fun e w' => e = .returned (.tuple #[]) ∧ SeekE w0 L a cap bx bb Q K w' := by
  obtain ⟨g, cp, vb, ls, h⟩ := h
  have H := Lib.hid h
  obtain ⟨c0, c1, c2, c3, c4, c5⟩ := h.cells
  obtain ⟨hL, hn, -⟩ := codeP_facts hc
  have h6 := (okCls_all hL).1
  have hn' : (Q.length : Int) = (L.length : Int) := by omega
  have C := Lib.hid (fault_quiet L a cap Q (some ⟨g, 0, none⟩) cp x bx hc (by omega) w ha (own_of_row h.row).arg hx)
  have hF : ¬ faultV L Q x = noneB := by simpa [okK] using hk
  obtain ⟨F, hFe⟩ : ∃ F, faultV L Q x = F := ⟨_, rfl⟩
  rw [hFe] at C hF
  have hF2 : (F.toList == [110, 111, 110, 101]) = false := by rw [← noneB_list]; exact sneB hF
  clear h hc hk ha hx hL hn hF hFe
  go_enter Try.func112, Try.ntmps112
  go_wp2
  go_quiet (first | (go_at_call 72; exact C.out _))
  go_wp2
  exact bodyPost_ret (v := .tuple #[]) (by simp [results, Try.results112, go_sem]) rfl ⟨rfl, g, cp, vb, ls, H.out.drewN _⟩
end Go.Proofs.Ytpmklnldgafkjaa
