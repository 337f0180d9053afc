/-
  The marks of a rod: the model's word and the program's.
-/
import Derived.Test.YtmbmbkagmkmhlabDoorGq
import Derived.Test.YtmbmbkagmkmhlabDoorIRow
namespace Go.Proofs.YtmbmbkagmkmhlabDoor
open Go.ChangeShapes Go.WideShapes Go.ChangeAt Go.RowKit Go.Joins


def markL (H c : Int) (n : Nat) : List Int := (List.range n).map fun (i : Nat) => mkQ H c ((i : Int) + 1)
theorem markL_length (H c : Int) (n : Nat) : (markL H c n).length = n := by simp [markL]
theorem markL_succ (H c : Int) (n : Nat) : markL H c (n + 1) = markL H c n ++ [mkQ H c ((n : Int) + 1)] := by simp [markL, List.range_succ]
def marksQ (H c : Int) : List Int := if gB H c = true then markL H c c.toNat else []
theorem marksQ_len (H c : Int) : (marksQ H c).length ≤ 1048576 := by
  unfold marksQ
  split
  · rename_i h
    obtain ⟨-, c0, c1⟩ := gB_true.1 h
    rw [markL_length]
    omega
  · simp
set_option maxRecDepth 100000 in
set_option maxHeartbeats 6400000 in
theorem marks_impl (H c : Int) (w : World) : Calls Tryd.prog 9 #[.int .i64 H, .int .i64 c] w fun e w' => ∃ ao cp, e = .returned (.tuple #[.slice ao (marksQ H c).length cp, .int .i64 (gC H c)]) ∧ IntRes w.heap.size (marksQ H c) ao w' ∧ Below w.heap.size w w' := by
  have T0 := TwBox.new w H c 35
  have E0 := Lib.hid (balloc0 w (.cells #[.int .i64 H, .int .i64 c] 35))
  obtain ⟨W0, hW⟩ : ∃ W0, w.alloc (.cells #[.int .i64 H, .int .i64 c] 35) = W0 := ⟨_, rfl⟩
  rw [hW] at T0 E0
  have K : Hid (∀ wx, Below W0.heap.size W0 wx → TwBox w.heap.size H c wx) := fun wx hx => T0.later hx
  have E0 : Hid (Below w.heap.size w W0) := E0.out
  have HW := Lib.hid hW
  clear hW T0
  rcases gC_cases H c with ⟨h1, hc⟩ | ⟨h1, hc⟩
  · have hq : marksQ H c = markL H c c.toNat := by unfold marksQ; rw [if_pos h1]
    obtain ⟨⟨H0, H1⟩, c0, c1⟩ := gB_true.1 h1
    obtain ⟨n, rfl⟩ := Int.eq_ofNat_of_zero_le (show 0 ≤ c by omega)
    have HG := Lib.hid h1
    rw [hc, hq]
    clear hq
    obtain ⟨k0, k1⟩ := K.out _ (Below.refl _ _)
    go_enter Tryd.func9, Tryd.ntmps9
    go_wp2_with fail
    try rw [HW.out]
    try go_wp2_with fail
    refine (rodOk_impl H n _).mono ?_
    rintro e w1 ⟨rfl, hb1⟩
    have B1 := Lib.hid hb1
    rw [h1]
    clear hb1 h1 hc k0 k1
    go_wp2
    go_loopw [7, 16] (fun v i wr => ∃ (k : Nat) (ao : Option Addr) (cp : Nat) (D : List Int), k ≤ n ∧ v = .slice ao D.length cp ∧ i = .int .i64 (k : Int) ∧ Hid (D = markL H n k) ∧ Hid (IRow W0.heap.size D ao cp wr) ∧ Hid (Below W0.heap.size W0 wr)) (fun _ i _ => n - (intOf i).toNat)
    case atStart => exact ⟨0, none, 0, [], Nat.zero_le _, rfl, rfl, rfl, IRow.nil _ _, B1.out⟩
    case round =>
      obtain ⟨k, ao, cp, D, hk, rfl, rfl, hD, hO, hB⟩ := hrel
      by_cases hlt : k < n
      · have hlt' : (k : Int) < (n : Int) := by omega
        have M := Lib.hid (fun wx => mark_impl H n ((k : Int) + 1) HG.out (by omega) (by omega) wx)
        obtain ⟨q, hq⟩ : ∃ q, mkQ H n ((k : Int) + 1) = q := ⟨_, rfl⟩
        have HN : Hid (D ++ [q] = markL H n (k + 1)) := by show _ = _; rw [markL_succ, hD.out, hq]
        rw [hq] at M
        have hDk : D.length ≤ 40 := by rw [hD.out, markL_length]; omega
        have c3 : Hid (D.length + 1 ≤ maxLen) := by show D.length + 1 ≤ maxLen; unfold maxLen; omega
        obtain ⟨i0, hi0, hz0, hz1, hz2⟩ := info_partsQ
        obtain ⟨k0, k1⟩ := K.out _ hB.out
        clear hq
        go_wp2_with fail
        refine (M.out _).mono ?_
        rintro e w3 ⟨rfl, hb3⟩
        have O3 := Lib.hid (hO.out.later hb3)
        have B3 := Lib.hid (bnext hB.out hb3)
        have hbase : W0.heap.size ≤ w3.heap.size := B3.out.size
        clear hb3 k0 k1
        go_wp2_with (at_builtin; go_must ((refine wpList_append_own _ rfl _ _ 27 rfl W0.heap.size 2 i0 (.int .i64 0) 1 8 Tryd.underlying27 hi0 hz0 hz1 hz2 rfl (by decide) (.slice ao D.length cp) D.length (intVals D) rfl (IRow.later O3.out (balloc0 _ _)) ⟨w3.heap.size, 0, none⟩ 1 1 [.int .i64 q] rfl rfl ((lit8 W0.heap.size w3 _ hbase).cells rfl) (by simp [Value.oneCell']) c3.out (by omega) (by simp; omega) ?_; intro v4 w4 hown4 hgrow4 _; have B4 := Lib.hid ((B3.out.alloc hbase _).grown hgrow4 (by simp; omega) (fun q hq => (World.ownsRow.lt O3.out q hq).1)); obtain ⟨g4, cp4, hv4, o4⟩ := IRow.snoc hown4; subst hv4; have O4 := Lib.hid o4; clear hown4 hgrow4 o4)))
        go_roundw
        case rel => exact ⟨k + 1, some ⟨g4, 0, none⟩, cp4, D ++ [q], by omega, by simp, by go_num, HN.out, O4.out, B4.out⟩
        case measure => simp [intOf]; omega
      · have hge : ¬ (k : Int) < (n : Int) := by omega
        have hkn : k = n := by omega
        have HN : Hid (D = markL H n n) := by show _ = _; rw [hD.out, hkn]
        clear hkn
        go_wp2
        go_ret2
        refine ⟨ao, ⟨cp, by rw [← HN.out]; rfl⟩, ?_, bnext E0.out hB.out⟩
        rw [← HN.out]
        exact (hO.out.mono E0.out.size).res
  · have hq : marksQ H c = [] := by simp [marksQ, h1]
    rw [hc, hq]
    obtain ⟨k0, k1⟩ := K.out _ (Below.refl _ _)
    go_enter Tryd.func9, Tryd.ntmps9
    go_wp2_with fail
    try rw [HW.out]
    try go_wp2_with fail
    refine (rodOk_impl H c _).mono ?_
    rintro e w1 ⟨rfl, hb1⟩
    rw [h1]
    go_wp2
    go_ret2
    exact ⟨none, 0, rfl, .inl rfl, bnext E0.out hb1⟩
end Go.Proofs.YtmbmbkagmkmhlabDoor
