/-
  The model's search for blends: through all, by recursion.
-/
import Derived.Test.YtpmklnldgafkjaaSeekX
import Derived.Deep.DeepMust
namespace Go.Proofs.Ytpmklnldgafkjaa
open Go.ChangeShapes Go.WideShapes Go.ChangeAt Go.RowKit Go.Joins

set_option maxRecDepth 100000 in
set_option maxHeartbeats 3200000 in
theorem seek_walk (w0 : World) (L : List Cl) (a : Option Addr) (cap bx bb : Nat) (x : Li) (t : Nat) (ht : 1 ≤ t) (ht2 : t ≤ 12) (hL : okCls L = true) (hx : x.ok = true) (ha : ClArg w0 a L) (hr : w0.rangeAt bx 0 x.vals) :
    ∀ (m r : Nat) (Q : List Int) (K : List (List Int)) (w : World), Q.length + m = L.length → okParts Q = true → 0 ≤ sumP Q → sumP Q + r = t → K.length + (combs m r).length ≤ 5000000 → SeekE w0 L a cap bx bb Q K w →
    Calls Try.prog 112 #[.pointer (some ⟨bb, 0, none⟩), .int .i64 (r : Nat)] w fun e w' => e = .returned (.tuple #[]) ∧ SeekE w0 L a cap bx bb Q (K ++ kp (okK L x) Q m r) w' := by
  intro m
  induction m with
  | zero => exact fun r Q K w hn hP _ hs hK h => leaf_spec w0 L a cap bx bb x t ht hL hx Q K r (by omega) hP hs (by omega) w h ha hr
  | succ m ih =>
    intro r Q K w hn hP hs0 hs hK h
    have IH := Lib.hid ih
    have H6 := (okCls_all hL).1
    have HP := Lib.hid hP
    have HS := Lib.hid hs
    have HK := Lib.hid hK
    have HN := Lib.hid hn
    have H := Lib.hid h
    have hr12 : r ≤ 12 := by omega
    have hne : ¬ (Q.length : Int) = (L.length : Int) := by omega
    have hneb : ((Q.length : Int) == (L.length : Int)) = false := by simpa using hne
    have hQ6 : Q.length ≤ 6 := by omega
    obtain ⟨i0, hi, hz0, hz1, hz2⟩ := info_parts infoInt
    obtain ⟨g, cp, vb, ls, h⟩ := h
    obtain ⟨c0, -, c2, -, -, -⟩ := h.cells
    clear ih hP hs hK hn h ha hr hL hx ht ht2
    go_enter Try.func112, Try.ntmps112
    go_wp2
    clear c0 c2
    go_loopw [6] (fun i wr => ∃ n : Nat, n ≤ r + 1 ∧ i = .int .i64 n ∧ Hid (SeekE w0 L a cap bx bb Q (K ++ kpTo (okK L x) Q m r n) wr)) (fun i _ => r + 1 - (intOf i).toNat)
    case atStart => exact ⟨0, Nat.zero_le _, rfl, by show SeekE w0 L a cap bx bb Q _ _; rw [kpTo_zero, List.append_nil]; exact H.out⟩
    case round =>
      obtain ⟨n, hn, rfl, hE⟩ := hrel
      by_cases hlt : n ≤ r
      · have hlt' : (n : Int) ≤ (r : Int) := by omega
        have hn0 : (0 : Int) ≤ (n : Int) := by omega
        have hn12 : (n : Int) ≤ 12 := by omega
        obtain ⟨g, cp, vb, ls, h⟩ := hE.out
        have HH := Lib.hid h
        obtain ⟨-, -, c2, -, -, -⟩ := h.cells
        have hbase : w0.heap.size ≤ wr.heap.size := h.bel.size
        have m3 : Hid (Q.length + 1 ≤ maxLen) := by show Q.length + 1 ≤ maxLen; unfold maxLen; omega
        have HSub : Hid ((r : Int) - (n : Int) = ((r - n : Nat) : Int)) := by show (r : Int) - (n : Int) = ((r - n : Nat) : Int); omega
        clear h
        go_wp2_with (at_builtin; go_must ((refine wpList_append_own2 _ rfl _ _ 39 rfl w0.heap.size 2 i0 (.int .i64 0) 1 8 Try.underlying39 hi hz0 hz1 hz2 rfl (by decide) (.slice (some ⟨g, 0, none⟩) Q.length cp) Q.length (intVals Q) rfl (HH.out.row.alloc _) ⟨wr.heap.size, 0, none⟩ 1 1 [.int .i64 n] rfl rfl ((lit8 w0.heap.size wr _ hbase).cells rfl) (by simp [Value.oneCell']) m3.out (by omega) (by simp; omega) ?_; intro v1 w2 hown hgrow hfresh; obtain ⟨g', cp', hv, d2, e2, N⟩ := HH.out.push hown hgrow hfresh; subst hv; have HN2 := Lib.hid N; clear N hown hgrow hfresh)))
        rw [HSub.out]
        refine (IH.out (r - n) (Q ++ [(n : Int)]) (K ++ kpTo (okK L x) Q m r n) _ (by have := HN.out; rw [List.length_append]; simp; omega) (okParts_snoc HP.out hn0 (by omega)) (by rw [sumP_snoc]; omega) (by rw [sumP_snoc]; have := HS.out; omega) (by have := HK.out; have := room (okK L x) Q m r n hlt; rw [List.length_append]; omega) ⟨_, _, _, _, HN2.out⟩).mono ?_
        rintro e w3 ⟨rfl, g3, cp3, vb3, ls3, N3⟩
        have H3 := Lib.hid N3
        have c2 : w3.cell? ⟨bb, 2, none⟩ = some (.slice (some ⟨g3, 0, none⟩) (Q.length + 1) cp3) := by simpa using N3.cells.2.2.1
        have f2 := N3.free 2
        have hcp : Q.length ≤ cp3 := by have := N3.heapg.choose_spec.2.1; rw [List.length_append] at this; omega
        have hcp' : (Q.length : Int) ≤ (cp3 : Int) := by omega
        have hQ0 : (0 : Int) ≤ (Q.length : Int) := by omega
        clear N3
        go_wp2
        go_roundw
        case rel =>
          refine ⟨n + 1, by omega, by go_num, ?_⟩
          show SeekE w0 L a cap bx bb Q _ _
          rw [kpTo_succ, ← List.append_assoc]
          exact ⟨_, _, _, _, H3.out.pop⟩
        case measure => simp [intOf]; omega
      · have hge : ¬ (n : Int) ≤ (r : Int) := by omega
        have hnr : n = r + 1 := by omega
        go_wp2
        go_end0
        refine ⟨rfl, ?_⟩
        rw [kp_succ, ← hnr]
        exact hE.out
end Go.Proofs.Ytpmklnldgafkjaa
