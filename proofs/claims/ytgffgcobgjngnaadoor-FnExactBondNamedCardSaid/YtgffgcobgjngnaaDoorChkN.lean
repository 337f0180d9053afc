/-
  The program's noting of a problem.
-/
import Derived.Test.YtgffgcobgjngnaaDoorChkJ
namespace Go.Proofs.YtgffgcobgjngnaaDoor
open Go.ChangeShapes Go.WideShapes Go.ChangeAt Go.RowKit Go.Joins

/-- The cells of a row of problems. -/
def prVals (ps : List (Int × Int)) : List Value := ps.flatMap fun p => [.int .i64 p.1, .int .i64 p.2]
theorem prVals_snoc (ps : List (Int × Int)) (a b : Int) : prVals (ps ++ [(a, b)]) = prVals ps ++ [.int .i64 a, .int .i64 b] := by simp [prVals]
theorem infoPr : (Tryd.prog.info? 73).map (fun i => (i.zero, i.size, i.bytes)) = some (some (.agg #[.int .i64 0, .int .i64 0]), 2, 16) := by kernel_rfl
theorem row2_new (T : TypeId) (base : Nat) (w : World) (c d : Value) (hb : base ≤ w.heap.size) : (w.alloc (.cells #[c, d] T)).ownsRow base T 2 (.slice (some ⟨w.heap.size, 0, none⟩) 1 1) 1 [c, d] :=
  ⟨rfl, .inr ⟨w.heap.size, 1, #[c, d], rfl, hb, heap_alloc_new w _, Nat.le_refl _, by decide, rfl, rfl⟩⟩
theorem own_keep2 {ts : List TypeId} {w w' : World} {B e size n : Nat} {v : Value} {xs : List Value} (h : w.ownsRow B e size v n xs) (hk : KeepT ts w w') (he : e ∉ ts) : w'.ownsRow B e size v n xs := by
  refine ⟨h.1, ?_⟩
  rcases h.2 with hn | ⟨g, cap, cur, hv, hB, hgg, rest⟩
  · exact .inl hn
  · exact .inr ⟨g, cap, cur, hv, hB, hk _ _ _ _ hgg he, rest⟩
theorem own_later2 {w w' : World} {B e size n : Nat} {v : Value} {xs : List Value} (h : w.ownsRow B e size v n xs) (hb : Below w.heap.size w w') : w'.ownsRow B e size v n xs := by
  refine ⟨h.1, ?_⟩
  rcases h.2 with hn | ⟨g, cap, cur, hv, hB, hgg, rest⟩
  · exact .inl hn
  · exact .inr ⟨g, cap, cur, hv, hB, (hb.block g (Array.getElem?_eq_some_iff.1 hgg).1).trans hgg, rest⟩
/-- What grows by an own row keeps the blocks of other types. -/
theorem keep_grown2 {ts : List TypeId} {w w' : World} {v : Value} {B e size n : Nat} {xs : List Value} (hg : w.grownBy w' v.ownBlock) (ho : w.ownsRow B e size v n xs) (he : e ∈ ts) : KeepT ts w w' := fun i T cs fr h1 h2 => by
  refine (hg.block i (Array.getElem?_eq_some_iff.1 h1).1 (fun h3 => ?_)).trans h1
  rcases ho.2 with ⟨hv, _⟩ | ⟨g, cap, cur, hv, hB, hgg, _⟩
  · rw [hv] at h3
    simp [Value.ownBlock] at h3
  · rw [hv] at h3
    simp only [Value.ownBlock, Option.some.injEq] at h3
    subst h3
    rw [h1] at hgg
    cases hgg
    exact h2 he

/-- What is noted: nothing where there is no problem. -/
def noted (ps : List (Int × Int)) (k : Nat) (x : Int) : List (Int × Int) := if x = 0 then ps else ps ++ [((k : Int), x)]
def NoteOut (B : Nat) (ps : List (Int × Int)) (k : Nat) (x : Int) (w : World) (e : Ending) (w' : World) : Prop :=
  ∃ v, e = .returned v ∧ w'.ownsRow B 73 2 v (noted ps k x).length (prVals (noted ps k x)) ∧ Below B w w' ∧ KeepT [73] w w'
set_option maxRecDepth 100000 in
set_option maxHeartbeats 6400000 in
theorem note_impl (B : Nat) (ps : List (Int × Int)) (hps : ps.length ≤ 1048577) (v : Value) (k : Nat) (x : Int) (hx : 0 ≤ x ∧ x ≤ 6) (w : World) (hB : B ≤ w.heap.size) (ho : w.ownsRow B 73 2 v ps.length (prVals ps)) :
    Calls Tryd.prog 38 #[v, .int .i64 (k : Int), faultVal x] w (NoteOut B ps k x w) := by
  by_cases h0 : x = 0
  · have HE : Hid (∀ w', Below w.heap.size w w' → NoteOut B ps k x w (.returned v) w') := fun w' hb => by
      refine ⟨v, rfl, ?_, hb.mono hB, KeepT.below hb⟩
      have e : noted ps k x = ps := by simp [noted, h0]
      rw [e]
      exact own_later2 ho hb
    rw [h0, faultVal_nil]
    rw [h0] at HE
    have EN := Lib.hid eis_nil
    clear ho hx h0
    go_enter Tryd.func38, Tryd.ntmps38
    go_wp2
    go_loopw [0, 7] (fun u t wr => ∃ q : Nat, 1 ≤ q ∧ q ≤ 7 ∧ u = v ∧ t = .int .i64 (q : Int) ∧ Hid (Below w.heap.size w wr)) (fun _ t _ => 7 - (intOf t).toNat)
    case atStart => exact ⟨1, by omega, by omega, rfl, rfl, Below.refl _ _⟩
    case round =>
      obtain ⟨q, h1, h2, rfl, rfl, hBq⟩ := hrel
      by_cases hlt : q ≤ 6
      · have hlt' : (q : Int) ≤ 6 := by omega
        go_wp2_with (go_at_call 66; refine (EN.out _ _).mono ?_; rintro e w2 ⟨rfl, rfl⟩)
        go_roundw
        case rel => exact ⟨q + 1, by omega, by omega, rfl, by go_num, hBq⟩
        case measure => simp [intOf]; omega
      · have hge : ¬ (q : Int) ≤ 6 := by omega
        go_wp2
        go_ret
        exact HE.out _ hBq.out
  obtain ⟨x, rfl⟩ : ∃ n : Nat, x = (n : Int) := ⟨x.toNat, by omega⟩
  have hx1 : 1 ≤ x := by omega
  have hx2 : x ≤ 6 := by omega
  have en : noted ps k (x : Int) = ps ++ [((k : Int), (x : Int))] := by simp only [noted]; rw [if_neg h0]
  have HN := Lib.hid en
  rw [faultVal_some h0]
  have EI := Lib.hid eis
  obtain ⟨i0, hi0, hz0, hz1, hz2⟩ := info_parts infoPr
  have HO := Lib.hid ho
  have c3 : Hid (ps.length + 1 ≤ maxLen) := by show ps.length + 1 ≤ maxLen; unfold maxLen; omega
  have c4 : Hid ((ps.length + 1) * 16 ≤ 140737488355328) := by show _ ≤ _; omega
  clear ho hx h0 en
  go_enter Tryd.func38, Tryd.ntmps38
  go_wp2
  go_loopw [0, 7] (fun u t wr => ∃ q : Nat, 1 ≤ q ∧ q ≤ 7 ∧ t = .int .i64 (q : Int) ∧ Hid (q ≤ x → u = v) ∧ Hid (wr.ownsRow B 73 2 u (if x < q then noted ps k (x : Int) else ps).length (prVals (if x < q then noted ps k (x : Int) else ps))) ∧ Hid (Below B w wr) ∧ Hid (KeepT [73] w wr)) (fun _ t _ => 7 - (intOf t).toNat)
  case atStart => exact ⟨1, by omega, by omega, rfl, fun _ => rfl, by rw [if_neg (by omega)]; exact HO.out, Below.refl _ _, KeepT.refl _ _⟩
  case round =>
    obtain ⟨q, h1, h2, rfl, hU, hR, hBq, hK⟩ := hrel
    have hbase : B ≤ wr.heap.size := Nat.le_trans hB hBq.out.size
    by_cases hlt : q ≤ 6
    · have hlt' : (q : Int) ≤ 6 := by omega
      by_cases hqx : x = q
      · subst hqx
        have E1 : Hid (∀ w, Calls Tryd.prog 66 #[.iface 102 (.int .i64 (x : Int)), .iface 102 (.int .i64 (x : Int))] w fun e w' => e = .returned (.bool true) ∧ w' = w) := fun w => by
          have h := EI.out (x : Int) (x : Int) w
          rw [decide_eq_true rfl] at h
          exact h
        have hu := hU.out (Nat.le_refl _)
        subst hu
        have R1 : Hid (wr.ownsRow B 73 2 u0 ps.length (prVals ps)) := by
          have h := hR.out
          rw [if_neg (by omega)] at h
          exact h
        clear hU hR hlt
        go_wp2_with (first | (go_at_call 66; refine (E1.out _).mono ?_; rintro e w2 ⟨rfl, rfl⟩) | (at_builtin; go_must ((refine wpList_append_own _ rfl _ _ 30 rfl B 73 i0 (.agg #[.int .i64 0, .int .i64 0]) 2 16 Tryd.underlying30 hi0 hz0 hz1 hz2 rfl (by decide) u0 ps.length (prVals ps) rfl (R1.out.alloc _) ⟨w2.heap.size, 0, none⟩ 1 1 [.int .i64 (k : Int), .int .i64 (x : Int)] rfl rfl ((row2_new 73 B w2 _ _ hbase).cells rfl) (by simp [Value.oneCell']) c3.out c4.out (by simp; omega) ?_; intro v3 w3 hown3 hgrow3 _; have B3 : Hid (Below B w w3) := (hBq.out.alloc hbase _).grown hgrow3 (by simp; omega) (fun p hp => (R1.out.lt p hp).1); have K3 : Hid (KeepT [73] w w3) := (hK.out.trans (KeepT.below (balloc0 _ _))).trans (keep_grown2 hgrow3 (R1.out.alloc _) (by simp)); have O3 := Lib.hid hown3; clear hown3 hgrow3))))
        go_roundw
        case rel =>
          refine ⟨x + 1, by omega, by omega, by go_num, fun h => absurd h (by omega), ?_, B3, K3⟩
          show World.ownsRow _ _ _ _ _ _ _
          rw [if_pos (by omega), HN.out, prVals_snoc, List.length_append]
          exact O3.out
        case measure => simp [intOf]; omega
      · have E1 : Hid (∀ w, Calls Tryd.prog 66 #[.iface 102 (.int .i64 (x : Int)), .iface 102 (.int .i64 (q : Int))] w fun e w' => e = .returned (.bool false) ∧ w' = w) := fun w => by
          have h := EI.out (x : Int) (q : Int) w
          rw [decide_eq_false (by omega)] at h
          exact h
        have HQ := Lib.hid hqx
        clear hlt hqx
        go_wp2_with (go_at_call 66; refine (E1.out _).mono ?_; rintro e w2 ⟨rfl, rfl⟩)
        go_roundw
        case rel =>
          refine ⟨q + 1, by omega, by omega, by go_num, fun h => hU.out (by omega), ?_, hBq, hK⟩
          have h := hR.out
          have hxq := HQ.out
          show World.ownsRow _ _ _ _ _ _ _
          by_cases hx2 : x < q
          · rw [if_pos hx2] at h
            rw [if_pos (by omega)]
            exact h
          · rw [if_neg hx2] at h
            rw [if_neg (by omega)]
            exact h
        case measure => simp [intOf]; omega
    · have hge : ¬ (q : Int) ≤ 6 := by omega
      have R1 : Hid (wr.ownsRow B 73 2 u0 (noted ps k (x : Int)).length (prVals (noted ps k (x : Int)))) := by
        have h := hR.out
        rw [if_pos (by omega)] at h
        exact h
      clear hU hR
      go_wp2
      go_ret
      exact ⟨u0, rfl, R1.out, hBq.out, hK.out⟩
end Go.Proofs.YtgffgcobgjngnaaDoor
