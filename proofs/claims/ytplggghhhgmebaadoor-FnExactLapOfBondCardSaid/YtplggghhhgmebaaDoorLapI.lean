/-
  Laps by the program.
-/
import Derived.Test.YtplggghhhgmebaaDoorPerpK
import Derived.Laws.AppendOwnNone
namespace Go.Proofs.YtplggghhhgmebaaDoor
open Go.ChangeShapes Go.WideShapes Go.ChangeAt Go.RowKit Go.Joins

theorem distance_impl (x y : Int) (hx : 0 ≤ x ∧ x ≤ 1000) (hy : 0 ≤ y ∧ y ≤ 1000) (w : World) : Calls Tryd.prog 31 #[.int .i64 x, .int .i64 y] w fun e w' => e = .returned (.int .i64 ((x - y).natAbs : Int)) ∧ w = w' := by
  obtain ⟨hx0, hx1⟩ := hx
  obtain ⟨hy0, hy1⟩ := hy
  by_cases h : x < y
  · have hm : min x y = x := by omega
    have hM : max x y = y := by omega
    have h2 : ¬ y < x := by omega
    go_enter Tryd.func31, Tryd.ntmps31
    go_wp2
    go_ret
    exact ⟨ret_int (by omega), rfl⟩
  · go_enter Tryd.func31, Tryd.ntmps31
    go_wp2
    go_ret
    exact ⟨ret_int (by omega), rfl⟩

set_option maxRecDepth 100000 in
set_option maxHeartbeats 1600000 in
theorem min_impl (D : List Int) (h0 : ∀ d ∈ D, 0 ≤ d) (h1 : 1 ≤ D.length) (h2 : D.length ≤ 1000000) (a : Option Addr) (cap : Nat) (w : World) (ha : IntArg w a D) :
    Calls Tryd.prog 29 #[.slice a D.length cap] w fun e w' => e = .returned (.int .i64 (lapOf D)) ∧ w = w' := by
  obtain ⟨b, o, z, rfl, hz, hat⟩ := ha.at (k := 0) (by omega)
  have HA := Lib.hid hat
  have c0 := hat 0 z hz
  have c0 : w.cell? ⟨b, o, none⟩ = some (.int .i64 z) := c0
  have hl1 : ¬ (D.length : Int) < 1 := by omega
  have hl1' : (1 : Int) ≤ (D.length : Int) := by omega
  have hne : ¬ D = [] := by intro h; rw [h] at h1; simp at h1
  have hl0 : (0 : Int) < (D.length : Int) := by omega
  have HS : Hid (z = lapOf (D.take 1)) := by
    show z = lapOf (D.take 1)
    have : D.take 1 = [z] := by
      cases D with
      | nil => simp at h1
      | cons y r => simp at hz; subst hz; rfl
    rw [this]
    simp [lapOf, minStep]
  have H0 := Lib.hid h0
  clear hz hat ha h0
  go_enter Tryd.func29, Tryd.ntmps29
  go_wp2
  clear c0
  go_loopw [3, 4] (fun m i wr => ∃ (k : Nat) (r : Int), 1 ≤ k ∧ k ≤ D.length ∧ m = .int .i64 r ∧ i = .int .i64 k ∧ Hid (r = lapOf (D.take k)) ∧ w = wr) (fun _ i _ => D.length - (intOf i).toNat)
  case atStart => exact ⟨1, z, by omega, h1, rfl, rfl, HS.out, rfl⟩
  case round =>
    obtain ⟨k, r, hk1, hk, rfl, rfl, hR, hwr⟩ := hrel
    subst hwr
    by_cases hlt : k < D.length
    · have hlt' : (k : Int) < (D.length : Int) := by omega
      have hk0 : (0 : Int) ≤ (k : Int) := by omega
      obtain ⟨y, hy⟩ : ∃ y, D[k]? = some y := ⟨_, List.getElem?_eq_getElem hlt⟩
      have cy := HA.out k y hy
      have hr0 : ¬ r < 0 := by
        have hne : D.take k ≠ [] := by
          intro h
          have h3 := congrArg List.length h
          rw [List.length_take, Nat.min_eq_left (by omega), List.length_nil] at h3
          omega
        have := (lapOf_least (fun d hd => H0.out d (List.mem_of_mem_take hd)) hne).1
        rw [← hR.out] at this
        have := H0.out r (List.mem_of_mem_take this)
        omega
      have HN : Hid (lapOf (D.take (k + 1)) = if y < r then y else r) := by
        show lapOf (D.take (k + 1)) = _
        rw [List.take_add_one, hy]
        show lapOf (D.take k ++ [y]) = _
        rw [lapOf_snoc, ← hR.out]
        unfold minStep
        simp [hr0]
      clear hy hr0
      by_cases hyr : y < r
      · have hmm : min r y = y := by omega
        go_wp2
        go_roundw
        case rel => exact ⟨k + 1, y, by omega, by omega, by first | rfl | (congr 1; omega) | simp [hmm], by go_num, by show y = _; rw [HN.out, if_pos hyr], by first | rfl | trivial⟩
        case measure => simp [intOf]; omega
      · have hmm : min r y = r := by omega
        go_wp2
        go_roundw
        case rel => exact ⟨k + 1, r, by omega, by omega, by first | rfl | (congr 1; omega) | simp [hmm], by go_num, by show r = _; rw [HN.out, if_neg hyr], by first | rfl | trivial⟩
        case measure => simp [intOf]; omega
    · have hge : ¬ (k : Int) < (D.length : Int) := by omega
      have hkn : k = D.length := by omega
      subst hkn
      go_wp2
      go_ret
      exact ⟨ret_int (by rw [hR.out, List.take_length]), rfl⟩
theorem least_impl (D : List Int) (h0 : ∀ d ∈ D, 0 ≤ d) (h2 : D.length ≤ 1000000) (a : Option Addr) (cap : Nat) (w : World) (ha : IntArg w a D) :
    Calls Tryd.prog 17 #[.slice a D.length cap] w fun e w' => e = .returned (.tuple #[.int .i64 (lapN D), .int .i64 (lapE D)]) ∧ w = w' := by
  by_cases hD : D = []
  · subst hD
    go_enter Tryd.func17, Tryd.ntmps17
    go_wp2
    go_ret2
    exact ⟨rfl, rfl⟩
  · have hl : 1 ≤ D.length := by have := List.length_pos_iff.2 hD; omega
    have hnz : ¬ (D.length : Int) = 0 := by omega
    have C := Lib.hid (min_impl D h0 hl h2 a cap w ha)
    have hn : ¬ lapOf D < 0 := fun h => hD ((lapOf_neg h0).1 h)
    have HN : Hid (lapN D = lapOf D) := by show lapN D = _; simp [lapN, hn]
    have HE : Hid (lapE D = 0) := by show lapE D = 0; simp [lapE, hn]
    rw [HN.out, HE.out]
    obtain ⟨V, hV⟩ : ∃ V, lapOf D = V := ⟨_, rfl⟩
    rw [hV] at C ⊢
    clear ha h0 hn HN HE hD hV
    go_enter Tryd.func17, Tryd.ntmps17
    go_wp2_with (go_at_call 29; refine C.out.mono ?_; rintro e w1 ⟨rfl, rfl⟩)
    go_ret2
    exact ⟨rfl, rfl⟩

theorem own_mono {w : World} {B B' e n : Nat} {v : Value} {xs : List Value} (h : w.ownsRow B e 1 v n xs) (hb : B' ≤ B) : w.ownsRow B' e 1 v n xs := by
  refine ⟨h.1, ?_⟩
  rcases h.2 with hn | ⟨g, cap, cur, hv, hB, rest⟩
  · exact .inl hn
  · exact .inr ⟨g, cap, cur, hv, Nat.le_trans hb hB, rest⟩
theorem own_arg {w : World} {B : Nat} {D : List Int} {a : Option Addr} {cap : Nat} (h : w.ownsRow B 2 1 (.slice a D.length cap) D.length (intVals D)) : IntArg w a D := by
  rcases h.2 with ⟨hv, h0⟩ | ⟨g, c, cur, hv, hB, hg, _⟩
  · exact .inl (List.eq_nil_of_length_eq_zero h0)
  · cases hv
    exact .inr ⟨g, 0, rfl, fun k z hk => by
      have hl := (List.getElem?_eq_some_iff.1 hk).1
      rw [Nat.zero_add, World.ownsRow.cellAt h k (by omega)]
      simp [intVals, hk]⟩
theorem map_take_succ2 {B : List Int} {k : Nat} {y : Int} (h : B[k]? = some y) (f : Int → Int) : (B.take (k + 1)).map f = (B.take k).map f ++ [f y] := by
  rw [List.take_add_one, h]
  simp
theorem distTo_len (A B : List Int) (n : Nat) (h : n ≤ A.length) : (distTo A B n).length = n * B.length := by
  have := distL_length (A.take n) B
  unfold distTo
  unfold distL at this
  rw [this, List.length_take, Nat.min_eq_left h]

set_option maxRecDepth 100000 in
set_option maxHeartbeats 6400000 in
theorem distances_impl {nm : ByteArray} {L : List Co} (hok : okBond nm L = true) (a : Option Addr) (cap low high u : Nat) (hk : low ≤ 2000) (hk2 : high ≤ 2000) (hu : 1 ≤ u) (hu2 : u ≤ 200) (w : World) (ha : CoArg w a L) :
    Calls Tryd.prog 18 #[.agg #[.string nm, .slice a L.length cap], .int .i64 (low : Int), .int .i64 (high : Int), .int .i64 (u : Int)] w fun e w' => ∃ ao cp, e = .returned (.slice ao (pairD L low high u).length cp) ∧ w'.ownsRow w.heap.size 2 1 (.slice ao (pairD L low high u).length cp) (pairD L low high u).length (intVals (pairD L low high u)) ∧ Below w.heap.size w w' := by
  obtain ⟨d0, d1⟩ := box2 w nm (.slice a L.length cap) 30
  obtain ⟨W0, hW⟩ : ∃ W0, w.alloc (.cells #[.string nm, .slice a L.length cap] 30) = W0 := ⟨_, rfl⟩
  have E0 : Hid (Below w.heap.size w W0) := by show Below w.heap.size w W0; rw [← hW]; exact balloc0 _ _
  rw [hW] at d0 d1
  have K : Hid (∀ wx, Below W0.heap.size W0 wx → wx.cell? ⟨w.heap.size, 0, none⟩ = some (.string nm) ∧ wx.cell? ⟨w.heap.size, 1, none⟩ = some (.slice a L.length cap)) := fun wx hx =>
    ⟨(hx.cell (p := ⟨w.heap.size, 0, none⟩) (World.block_lt_of_cell? W0 _ d0)).trans d0, (hx.cell (p := ⟨w.heap.size, 1, none⟩) (World.block_lt_of_cell? W0 _ d1)).trans d1⟩
  have HW := Lib.hid hW
  have HC := Lib.hid (ha.later E0.out)
  have PH := Lib.hid (fun wx (hx : Below W0.heap.size W0 wx) => before_impl hok a cap high u hk2 hu hu2 wx (HC.out.later hx))
  have PL := Lib.hid (fun wx (hx : Below W0.heap.size W0 wx) => before_impl hok a cap low u hk hu hu2 wx (HC.out.later hx))
  have NA := Lib.hid (near_perps (crs_ok hok low) hu (by omega : u ≤ 201))
  have NB := Lib.hid (near_perps (crs_ok hok high) hu (by omega : u ≤ 201))
  have lA : (perpsV L low u).length ≤ 200 := by have := perpsV_le (crs_ok hok low) hu; omega
  have lB : (perpsV L high u).length ≤ 200 := by have := perpsV_le (crs_ok hok high) hu; omega
  unfold pairD
  obtain ⟨A, hA⟩ : ∃ A, perpsV L low u = A := ⟨_, rfl⟩
  obtain ⟨B, hB⟩ : ∃ B, perpsV L high u = B := ⟨_, rfl⟩
  rw [hA] at PL NA lA ⊢
  rw [hB] at PH NB lB ⊢
  clear hW d0 d1 ha hA hB
  go_enter Tryd.func18, Tryd.ntmps18
  go_wp2_with fail
  rw [HW.out]
  obtain ⟨c0, c1⟩ := K.out _ (Below.refl _ _)
  refine (PH.out _ (Below.refl _ _)).mono ?_
  rintro e w1 ⟨aB, cB, rfl, oB, hb1⟩
  have B1 := Lib.hid hb1
  have IB1 := Lib.hid oB.arg
  clear hb1 oB c0 c1
  obtain ⟨c0, c1⟩ := K.out _ B1.out
  go_wp2_with fail
  refine (PL.out _ B1.out).mono ?_
  rintro e w2 ⟨aA, cA, rfl, oA, hb2⟩
  have B2 := Lib.hid (bnext B1.out hb2)
  have IB := Lib.hid (IB1.out.later hb2)
  have IA := Lib.hid oA.arg
  clear hb2 oA c0 c1
  go_wp2
  go_loopw [9, 24] (fun v i wr => ∃ (n : Nat) (ao : Option Addr) (cp : Nat) (D : List Int), n ≤ A.length ∧ v = .slice ao D.length cp ∧ i = .int .i64 n ∧ Hid (D = distTo A B n) ∧ Hid (wr.ownsRow w2.heap.size 2 1 (.slice ao D.length cp) D.length (intVals D)) ∧ Hid (Below w2.heap.size w2 wr)) (fun _ i _ => A.length - (intOf i).toNat)
  case atStart => exact ⟨0, none, 0, [], Nat.zero_le _, rfl, rfl, rfl, ⟨rfl, .inl ⟨rfl, rfl⟩⟩, Below.refl _ _⟩
  case round =>
    obtain ⟨n, ao, cp, D, hn, rfl, rfl, hD, hO, hBl⟩ := hrel
    by_cases hlt : n < A.length
    · have hlt' : (n : Int) < (A.length : Int) := by omega
      have hn0 : (0 : Int) ≤ (n : Int) := by omega
      obtain ⟨bA, oA, x, rfl, hx, hat⟩ := (IA.out.later hBl.out).at hlt
      have cx := hat n x hx
      have hxn := NA.out n x hx
      have HX : Hid (distTo A B (n + 1) = distTo A B n ++ B.map fun y => ((x - y).natAbs : Int)) := distTo_step hx
      have hDl : Hid (D.length = n * B.length) := by show D.length = _; rw [hD.out, distTo_len A B n hn]
      clear hx hat
      go_wp2
      clear cx
      go_loopw [9, 30] (fun v i wr => ∃ (m : Nat) (ao : Option Addr) (cp : Nat) (D : List Int), m ≤ B.length ∧ v = .slice ao D.length cp ∧ i = .int .i64 m ∧ Hid (D = distTo A B n ++ (B.take m).map fun y => ((x - y).natAbs : Int)) ∧ Hid (wr.ownsRow w2.heap.size 2 1 (.slice ao D.length cp) D.length (intVals D)) ∧ Hid (Below w2.heap.size w2 wr)) (fun _ i _ => B.length - (intOf i).toNat)
      case atStart => exact ⟨0, ao, cp, D, Nat.zero_le _, rfl, rfl, by show D = _; rw [hD.out]; simp, hO.out, hBl.out⟩
      case round =>
        obtain ⟨m, ap, cq, F, hm, rfl, rfl, hF, hP, hBm⟩ := hrel
        by_cases hmt : m < B.length
        · have hmt' : (m : Int) < (B.length : Int) := by omega
          have hm0 : (0 : Int) ≤ (m : Int) := by omega
          obtain ⟨bB, oB, y, rfl, hy, hat⟩ := (IB.out.later hBm.out).at hmt
          have cy := hat m y hy
          have C := Lib.hid (distance_impl x y hxn (NB.out m y hy))
          have HF : Hid (F ++ [((x - y).natAbs : Int)] = distTo A B n ++ (B.take (m + 1)).map fun y => ((x - y).natAbs : Int)) := by
            show F ++ _ = _
            rw [map_take_succ2 hy, ← List.append_assoc, hF.out]
          have hFl : F.length ≤ 40000 := by
            have h1 : F.length = n * B.length + m := by rw [hF.out, List.length_append, distTo_len A B n hn, List.length_map, List.length_take, Nat.min_eq_left hm]
            have h2 : n * B.length ≤ 199 * 200 := Nat.mul_le_mul (by omega) lB
            omega
          obtain ⟨d, hd⟩ : ∃ d : Int, ((x - y).natAbs : Int) = d := ⟨_, rfl⟩
          rw [hd] at C HF
          clear hy hat hd
          obtain ⟨i0, hi0, hz0, hz1, hz2⟩ := info_parts infoInt
          have c3 : Hid (F.length + 1 ≤ maxLen) := by show F.length + 1 ≤ maxLen; unfold maxLen; omega
          have hbase : w2.heap.size ≤ wr.heap.size := hBm.out.size
          go_wp2_with (first | (go_at_call 31; refine (C.out _).mono ?_; rintro e w3 ⟨rfl, rfl⟩) | (at_builtin; go_must ((refine wpList_append_own _ rfl _ _ 43 rfl w2.heap.size 2 i0 (.int .i64 0) 1 8 Tryd.underlying43 hi0 hz0 hz1 hz2 rfl (by decide) (.slice ap F.length cq) F.length (intVals F) rfl (hP.out.alloc _) ⟨wr.heap.size, 0, none⟩ 1 1 [.int .i64 d] rfl rfl ((lit8 w2.heap.size wr _ hbase).cells rfl) (by simp [Value.oneCell']) c3.out (by omega) (by simp; omega) ?_; intro v4 w4 hown4 hgrow4 _; obtain ⟨g4, cp4, hv4⟩ := own_form8 hown4 (Nat.succ_ne_zero _); subst hv4; have O4 := Lib.hid hown4; have B4 : Hid (Below w2.heap.size w2 w4) := (hBm.out.alloc hbase _).grown hgrow4 (by simp; omega) (fun q hq => (hP.out.lt q hq).1); clear hown4 hgrow4))))
          go_roundw
          case rel =>
            refine ⟨m + 1, some ⟨g4, 0, none⟩, cp4, F ++ [d], by omega, by simp, by go_num, HF.out, ?_, B4.out⟩
            have h := O4.out
            show World.ownsRow _ _ _ _ _ _ _
            have e : intVals (F ++ [d]) = intVals F ++ [.int .i64 d] := by simp [intVals]
            rw [e, List.length_append]
            exact h
          case measure => simp [intOf]; omega
        · have hge : ¬ (m : Int) < (B.length : Int) := by omega
          have hmn : m = B.length := by omega
          subst hmn
          go_wp2
          go_roundw
          case rel => exact ⟨n + 1, ap, cq, F, by omega, rfl, by go_num, by show F = distTo A B (n + 1); rw [HX.out, hF.out, List.take_length], hP.out, hBm.out⟩
          case measure => simp [intOf]; omega
    · have hge : ¬ (n : Int) < (A.length : Int) := by omega
      have hnn : n = A.length := by omega
      subst hnn
      have HD : Hid (D = distL A B) := by show D = _; rw [hD.out, distTo_all]
      have HO : Hid (wr.ownsRow w.heap.size 2 1 (.slice ao D.length cp) D.length (intVals D)) := own_mono hO.out (bnext E0.out B2.out).size
      have HB : Hid (Below w.heap.size w wr) := (bnext E0.out B2.out).trans (hBl.out.mono (bnext E0.out B2.out).size)
      go_wp2
      go_ret
      refine ⟨ao, cp, ?_, ?_, HB.out⟩
      · rw [← HD.out]; rfl
      · rw [← HD.out]; exact HO.out
end Go.Proofs.YtplggghhhgmebaaDoor
