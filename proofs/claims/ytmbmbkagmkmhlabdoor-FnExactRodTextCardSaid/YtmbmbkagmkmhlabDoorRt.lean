/-
  The text of a rod: the model's and the program's.
-/
import Derived.Test.YtmbmbkagmkmhlabDoorGk
import Derived.Test.YtmbmbkagmkmhlabDoorJoinN
import Derived.Test.YtmbmbkagmkmhlabDoorDec2
namespace Go.Proofs.YtmbmbkagmkmhlabDoor
open Go.ChangeShapes Go.WideShapes Go.ChangeAt Go.RowKit Go.Joins

theorem ret_strR {a b : ByteArray} (h : a = b) : Ending.returned (.string a) = .returned (.string b) := by rw [h]
def rtS (H c : Int) : ByteArray := if gB H c = true then ⟨(joinTo [32] (markL H c c.toNat) c.toNat).toArray⟩ else ⟨#[]⟩
theorem markL_get {H c : Int} {n k : Nat} (hk : k < n) : (markL H c n)[k]? = some (mkQ H c ((k : Int) + 1)) := by simp [markL, hk]
theorem mk_in {H : Int} {n : Nat} (h : gB H n = true) : ∀ (k : Nat) (z : Int), (markL H n n)[k]? = some z → InI64 z := by
  intro k z hk
  have hl := (List.getElem?_eq_some_iff.1 hk).1
  rw [markL_length] at hl
  rw [markL_get hl] at hk
  cases hk
  obtain ⟨-, c0, c1⟩ := gB_true.1 h
  have := mkQ_range (k := (k : Int) + 1) h (by omega) (by omega)
  unfold InI64
  omega
set_option maxRecDepth 100000 in
set_option maxHeartbeats 6400000 in
theorem rodText_spec (H c : Int) (w : World) : Calls Tryd.prog 4 #[.int .i64 H, .int .i64 c] w fun e w' => e = .returned (.string (rtS H c)) ∧ Below w.heap.size w w' := by
  rcases gC_cases H c with ⟨h1, hc⟩ | ⟨h1, hc⟩
  · obtain ⟨⟨H0, H1⟩, c0, c1⟩ := gB_true.1 h1
    obtain ⟨n, rfl⟩ := Int.eq_ofNat_of_zero_le (show 0 ≤ c by omega)
    have HG := Lib.hid h1
    have HS : Hid (rtS H n = ⟨(joinTo [32] (markL H n n) n).toArray⟩) := by show _ = _; simp [rtS, h1]
    have HLen := Lib.hid (joinTo_length (sep := [32]) (mk_in h1) (by simp))
    clear h1
    go_enter Tryd.func4, Tryd.ntmps4
    go_wp2_with fail
    refine (gcode_spec H n _).mono ?_
    rintro e w1 ⟨rfl, rfl⟩
    rw [hc]
    clear hc
    go_wp2
    go_loopw [5, 6] (fun v i wr => ∃ (k : Nat) (T : List UInt8), k ≤ n ∧ v = .string ⟨T.toArray⟩ ∧ i = .int .i64 ((k : Int) + 1) ∧ Hid (T = joinTo [32] (markL H n n) k) ∧ T.length ≤ 200 * k ∧ Hid (Below w.heap.size w wr)) (fun _ i _ => n + 1 - (intOf i).toNat)
    case atStart => exact ⟨0, [], Nat.zero_le _, rfl, rfl, rfl, by simp, Below.refl _ _⟩
    case round =>
      obtain ⟨k, T, hk, rfl, rfl, hT, hTl, hB⟩ := hrel
      by_cases hlt : k < n
      · have hlt' : (k : Int) + 1 ≤ (n : Int) := by omega
        have M := Lib.hid (fun wx => mark_spec H n ((k : Int) + 1) HG.out (by omega) (by omega) wx)
        have hg := markL_get (H := H) (c := n) hlt
        have hmr := mkQ_range (k := (k : Int) + 1) HG.out (by omega) (by omega)
        obtain ⟨x, hx⟩ : ∃ x, mkQ H n ((k : Int) + 1) = x := ⟨_, rfl⟩
        rw [hx] at M hg hmr
        have D := Lib.hid (dec_spec x (by omega) (by omega))
        have n1 := Lib.itoa_length_le x (by omega) (by omega)
        obtain ⟨d, hd⟩ : ∃ d, Lib.itoa x = d := ⟨_, rfl⟩
        have hLk := HLen.out (k + 1)
        by_cases hk0 : k = 0
        · have hT0 : T = [] := by have := hT.out; rw [this, hk0]; rfl
          have HN : Hid (d = joinTo [32] (markL H n n) (k + 1)) := by
            show d = _
            rw [hk0] at hg ⊢
            rw [joinTo_first hg, hd]
          rw [hd] at D n1
          have hkz : ¬ (1 : Int) < (k : Int) + 1 := by omega
          have HK0 := Lib.hid hk0
          subst hT0
          clear hx hg hd hLk hk0
          go_wp2_with fail
          refine (M.out _).mono ?_
          rintro e w2 ⟨rfl, rfl⟩
          go_wp2_with fail
          refine (D.out _).mono ?_
          rintro e w3 ⟨rfl, hb3⟩
          have B3 := Lib.hid (bnext hB.out hb3)
          have k1 : ¬ (9223372036854775807 < d.length) := by omega
          clear hb3
          go_wp2
          go_roundw
          case rel => exact ⟨k + 1, d, by omega, by first | rfl | simp, by go_num, HN.out, by omega, B3.out⟩
          case measure => simp [intOf]; omega
        · have HN : Hid (T ++ [32] ++ d = joinTo [32] (markL H n n) (k + 1)) := by
            show _ = _
            rw [joinTo_next hg hk0, hd, hT.out]
          rw [hd] at D n1
          have hkz : (1 : Int) < (k : Int) + 1 := by omega
          have k1 : ¬ (9223372036854775807 < T.length + 1) := by omega
          have k2 : ¬ (9223372036854775807 < T.length + 1 + d.length) := by omega
          clear hx hg hd hLk
          go_wp2_with fail
          refine (M.out _).mono ?_
          rintro e w2 ⟨rfl, rfl⟩
          go_wp2_with fail
          refine (D.out _).mono ?_
          rintro e w3 ⟨rfl, hb3⟩
          have B3 := Lib.hid (bnext hB.out hb3)
          clear hb3
          go_wp2
          go_roundw
          case rel => exact ⟨k + 1, T ++ [32] ++ d, by omega, by first | rfl | (rw [← ByteArray.mk_append_mk, ← ByteArray.mk_append_mk]), by go_num, HN.out, by simp; omega, B3.out⟩
          case measure => simp [intOf]; omega
      · have hge : ¬ (k : Int) + 1 ≤ (n : Int) := by omega
        have hkn : k = n := by omega
        have HN : Hid (T = joinTo [32] (markL H n n) n) := by show T = _; rw [hT.out, hkn]
        clear hkn
        go_wp2
        go_ret
        exact ⟨ret_strR (by rw [HS.out, HN.out]), hB.out⟩
  · have HS : Hid (rtS H c = ⟨#[]⟩) := by show _ = _; simp [rtS, h1]
    go_enter Tryd.func4, Tryd.ntmps4
    go_wp2_with fail
    refine (gcode_spec H c _).mono ?_
    rintro e w1 ⟨rfl, rfl⟩
    rw [hc]
    go_wp2
    go_ret
    exact ⟨ret_strR HS.out.symm, Below.refl _ _⟩
set_option maxRecDepth 100000 in
set_option maxHeartbeats 6400000 in
theorem rodText_ok (H c : Int) (h1 : gB H c = true) (hc : gC H c = 0) (w : World) (hp : Pow10 w) : Calls Tryd.prog 5 #[.int .i64 H, .int .i64 c] w fun e w' => e = .returned (.string (rtS H c)) ∧ Below w.heap.size w w' := by
  have M := Lib.hid (fun wx => marks_impl H c wx)
  obtain ⟨⟨H0, H1⟩, c0, c1⟩ := gB_true.1 h1
  obtain ⟨n, rfl⟩ := Int.eq_ofNat_of_zero_le (show 0 ≤ c by omega)
  have HS : Hid (rtS H n = ⟨(joinTo [32] (markL H n n) n).toArray⟩) := by show _ = _; simp [rtS, h1]
  have hq : marksQ H n = markL H n n := by unfold marksQ; rw [if_pos h1]; rfl
  have HR := Lib.hid (mk_in h1)
  have hl := markL_length H n n
  rw [hq, hc] at M
  have HL := Lib.hid hl
  have J : Hid (∀ (g cap : Nat) (wy : World), Below w.heap.size w wy → (∀ (k : Nat) (z : Int), (markL H n n)[k]? = some z → wy.cell? ⟨g, k, none⟩ = some (.int .i64 z)) → Calls Tryd.prog 10 #[.string ⟨#[32]⟩, .slice (some ⟨g, 0, none⟩) (markL H n n).length cap] wy fun e w' => e = .returned (.string (rtS H n)) ∧ Below wy.heap.size wy w') := fun g cap wy hy hcl => by
    have h := joinN_impl ⟨#[32]⟩ (markL H n n) g cap (by rw [hl]; omega) (by decide) HR.out wy (hp.later hy) hcl
    rw [HS.out]
    rw [show (joinTo (ByteArray.mk #[32]).data.toList (markL H n n) (markL H n n).length) = joinTo [32] (markL H n n) n by rw [hl]] at h
    exact h
  obtain ⟨Q, hQ⟩ : ∃ Q, markL H n n = Q := ⟨_, rfl⟩
  rw [hQ] at M J HL
  obtain ⟨TS, hTS⟩ : ∃ TS, rtS H n = TS := ⟨_, rfl⟩
  rw [hTS] at J ⊢
  clear hq h1 hc hp hl hQ hTS HS HR
  go_enter Tryd.func5, Tryd.ntmps5
  go_wp2_with fail
  refine (M.out _).mono ?_
  rintro e w1 ⟨ao, cp, rfl, o1, hb1⟩
  have B1 := Lib.hid hb1
  rcases o1 with h0 | ⟨g, rfl, og⟩
  · exfalso
    have := HL.out
    rw [h0] at this
    simp at this
    omega
  have OG : ∀ (k : Nat) (z : Int), Q[k]? = some z → w1.cell? ⟨g, k, none⟩ = some (.int .i64 z) := fun k z hk => by
    have := og.2.1 k z hk
    rwa [Nat.zero_add] at this
  have JJ := Lib.hid (J.out g cp w1 B1.out OG)
  clear hb1 og OG
  go_wp2_with fail
  refine JJ.out.mono ?_
  rintro e w2 ⟨rfl, hb2⟩
  have B2 := Lib.hid (bnext B1.out hb2)
  clear hb2
  go_wp2
  go_ret
  refine ⟨?_, B2.out⟩
  exact ret_strR (show TS = TS from rfl)
set_option maxRecDepth 100000 in
set_option maxHeartbeats 6400000 in
theorem rodText_no (H c : Int) (h1 : gB H c = false) (hc : gC H c = 2) (w : World) : Calls Tryd.prog 5 #[.int .i64 H, .int .i64 c] w fun e w' => e = .returned (.string (rtS H c)) ∧ Below w.heap.size w w' := by
  have M := Lib.hid (fun wx => marks_impl H c wx)
  have HS : Hid (rtS H c = ⟨#[]⟩) := by show _ = _; simp [rtS, h1]
  have hq : marksQ H c = [] := by simp [marksQ, h1]
  rw [hq, hc] at M
  go_enter Tryd.func5, Tryd.ntmps5
  go_wp2_with fail
  refine (M.out _).mono ?_
  rintro e w1 ⟨ao, cp, rfl, o1, hb1⟩
  go_wp2
  go_ret
  exact ⟨ret_strR HS.out.symm, hb1⟩
theorem rodText_impl (H c : Int) (w : World) (hp : Pow10 w) : Calls Tryd.prog 5 #[.int .i64 H, .int .i64 c] w fun e w' => e = .returned (.string (rtS H c)) ∧ Below w.heap.size w w' := by
  rcases gC_cases H c with ⟨h1, hc⟩ | ⟨h1, hc⟩
  · exact rodText_ok H c h1 hc w hp
  · exact rodText_no H c h1 hc w
end Go.Proofs.YtmbmbkagmkmhlabDoor
