/-
  ShareUses: the model's answer.
-/
import Derived.Test.YtdandhmallbemaaDoorSuR
import Derived.Deep.DeepMust
import Derived.BigQuiet
namespace Go.Proofs.YtdandhmallbemaaDoor
open Go.ChangeShapes Go.WideShapes Go.ChangeAt Go.RowKit Go.Joins

set_option maxRecDepth 100000 in
set_option maxHeartbeats 6400000 in
theorem share_spec (L : List Mo) (a : Option Addr) (cap : Nat) (hl : L.length ≤ 1048576) (t : Int) (w : World) (ha : MoArg w a L) : Calls Tryd.prog 7 #[.slice a L.length cap, .int .i64 t] w fun e w' => ∃ a cap, e = .returned (.tuple #[.slice a (suL L t).length cap, .int .i64 (suC L t)]) ∧ IntRes w.heap.size (suL L t) a w' ∧ Below w.heap.size w w' := by
  have C := Lib.hid (okM_spec L a cap hl w ha)
  have I := Lib.hid (in_any t 0 2000)
  cases h1 : okMos L
  · have E1 : Hid (suC L t = 1) := by show suC L t = 1; simp [suC, h1]
    have E2 := Lib.hid (su_bad E1.out (by omega))
    rw [E1.out, E2.out]
    rw [h1] at C
    clear ha h1
    go_enter Tryd.func7, Tryd.ntmps7
    go_wp2_with fail
    refine C.out.mono ?_
    rintro e w1 ⟨rfl, hb1⟩
    go_wp2
    go_ret2
    first | exact ⟨none, ⟨0, rfl⟩, .inl rfl, hb1⟩ | exact ⟨none, 0, rfl, .inl rfl, hb1⟩
  cases h2 : inB t 0 2000
  · have E1 : Hid (suC L t = 2) := by show suC L t = 2; simp [suC, h1, h2]
    have E2 := Lib.hid (su_bad E1.out (by omega))
    rw [E1.out, E2.out]
    rw [h1] at C
    rw [h2] at I
    clear ha h1 h2
    go_enter Tryd.func7, Tryd.ntmps7
    go_wp2_with fail
    refine C.out.mono ?_
    rintro e w1 ⟨rfl, hb1⟩
    go_wp2_with fail
    refine (I.out _).mono ?_
    rintro e w2 ⟨rfl, rfl⟩
    go_wp2
    go_ret2
    first | exact ⟨none, ⟨0, rfl⟩, .inl rfl, hb1⟩ | exact ⟨none, 0, rfl, .inl rfl, hb1⟩
  by_cases h4 : L.length = 0
  · have E1 : Hid (suC L t = 3) := by show suC L t = 3; simp [suC, h1, h2, h4]
    have E2 := Lib.hid (su_bad E1.out (by omega))
    rw [E1.out, E2.out]
    rw [h1] at C
    rw [h2] at I
    have h5 : (L.length : Int) = 0 := by omega
    have h6 : ((L.length : Int) == 0) = true := by rw [h5]; rfl
    clear ha h1 h2 h4
    go_enter Tryd.func7, Tryd.ntmps7
    go_wp2_with fail
    refine C.out.mono ?_
    rintro e w1 ⟨rfl, hb1⟩
    go_wp2_with fail
    refine (I.out _).mono ?_
    rintro e w2 ⟨rfl, rfl⟩
    go_wp2
    go_ret2
    first | exact ⟨none, ⟨0, rfl⟩, .inl rfl, hb1⟩ | exact ⟨none, 0, rfl, .inl rfl, hb1⟩
  have E1 : Hid (suC L t = 0) := by show suC L t = 0; simp [suC, h1, h2, h4]
  have E2 := Lib.hid (su_good E1.out)
  rw [E1.out, E2.out]
  obtain ⟨t0, t1⟩ := inB_true.1 h2
  obtain ⟨T, hT⟩ : ∃ T : Nat, t = (T : Int) := ⟨t.toNat, by omega⟩
  subst hT
  rw [show (T : Int).toNat = T by omega, shTo_length]
  have HUS : Hid (∀ k, k < L.length → 0 ≤ usA L k ∧ usA L k ≤ 100000) := fun k hk => uses_range h1 hk
  rw [h1] at C
  rw [h2] at I
  have h5 : ¬ (L.length : Int) = 0 := by omega
  have h6 : ((L.length : Int) == 0) = false := beq_eq_false_iff_ne.2 h5
  have hpos : 0 < L.length := by omega
  have HA : Hid (∀ wx, Below w.heap.size w wx → MoArg wx a L) := fun wx h => ha.later h
  clear ha h1 h2 h4
  go_enter Tryd.func7, Tryd.ntmps7
  go_wp2_with fail
  refine C.out.mono ?_
  rintro e w1 ⟨rfl, hb1⟩
  have B1 := Lib.hid hb1
  clear hb1
  go_wp2_with fail
  refine (I.out _).mono ?_
  rintro e w2 ⟨rfl, rfl⟩
  have hmk := make_nums L.length hl w1
  have R0 := Lib.hid (NuOwn.new (B := w.heap.size) (n := L.length) B1.out.size hl)
  have B2 := Lib.hid (balloc B1.out (.cells (madeCells #[.int .i64 0] L.length) 2))
  obtain ⟨g, hg⟩ : ∃ g, w1.heap.size = g := ⟨_, rfl⟩
  rw [hg] at hmk R0
  obtain ⟨W, hW⟩ : ∃ W, w1.alloc (.cells (madeCells #[.int .i64 0] L.length) 2) = W := ⟨_, rfl⟩
  rw [hW] at hmk R0 B2
  clear hW hg
  go_wp2
  go_loopw [7] (fun v wr => ∃ n : Nat, n ≤ T ∧ v = .int .i64 (n : Int) ∧ Hid (NuOwn w.heap.size g L.length (shTo L n) wr) ∧ Hid (Below w.heap.size w wr)) (fun v _ => T - (intOf v).toNat)
  case atStart => exact ⟨0, by omega, rfl, R0.out, B2.out⟩
  case round =>
    obtain ⟨n, hn, rfl, hR, hB⟩ := hrel
    by_cases hlt : n < T
    · have hlt' : (n : Int) < (T : Int) := by omega
      obtain ⟨O, hO⟩ : ∃ O, shTo L n = O := ⟨_, rfl⟩
      have HN : Hid (shTo L (n + 1) = O.set (nextU L O) (og O (nextU L O) + 1)) := by show _ = _; rw [← hO]; rfl
      have HOR : Hid (∀ k, 0 ≤ og O k ∧ og O k ≤ 2000) := fun k => by have := shTo_range L n k; rw [hO] at this; omega
      rw [hO] at hR
      clear hO
      go_wp2
      go_loopw [8, 9] (fun v i wx => ∃ k : Nat, 1 ≤ k ∧ k ≤ L.length ∧ v = .int .i64 ((leastTo (fun k => usA L k + og O k) k : Nat) : Int) ∧ i = .int .i64 (k : Int) ∧ Hid (Below wr.heap.size wr wx)) (fun _ i _ => L.length - (intOf i).toNat)
      case atStart => exact ⟨1, by omega, by omega, rfl, rfl, Below.refl _ _⟩
      case round =>
        obtain ⟨k, hk1, hk, rfl, rfl, hX⟩ := hrel
        have hRX := Lib.hid (hR.out.later hX.out)
        by_cases hkl : k < L.length
        · have hkl' : (k : Int) < (L.length : Int) := by omega
          have hk0 : (0 : Int) ≤ (k : Int) := by omega
          have hbl := leastTo_lt (fun k => usA L k + og O k) k hk1
          have HS := Lib.hid (leastTo_step (V := fun k => usA L k + og O k) hk1)
          obtain ⟨b, hb⟩ : ∃ b, leastTo (fun k => usA L k + og O k) k = b := ⟨_, rfl⟩
          rw [hb] at hbl HS ⊢
          have hb0 : (0 : Int) ≤ (b : Int) := by omega
          have hb1 : (b : Int) < (L.length : Int) := by omega
          obtain ⟨bb, o, _, rfl, _, hat⟩ := (HA.out _ (hB.out.trans (hX.out.mono hB.out.size))).at hkl
          have c0 := uses_cell hat hkl
          have d0 := uses_cell hat (k := b) (by omega)
          have c1 := hRX.out.cell (k := k) hkl
          have d1 := hRX.out.cell (k := b) (by omega)
          have u1 := HUS.out k hkl
          have u2 := HUS.out b (by omega)
          have x1 := HOR.out k
          have x2 := HOR.out b
          have HV : Hid ((fun k => usA L k + og O k) k = usA L k + og O k ∧ (fun k => usA L k + og O k) b = usA L b + og O b) := ⟨rfl, rfl⟩
          obtain ⟨uk, huk⟩ : ∃ u, usA L k = u := ⟨_, rfl⟩
          obtain ⟨ub, hub⟩ : ∃ u, usA L b = u := ⟨_, rfl⟩
          obtain ⟨ok, hok⟩ : ∃ u, og O k = u := ⟨_, rfl⟩
          obtain ⟨ob, hob⟩ : ∃ u, og O b = u := ⟨_, rfl⟩
          rw [huk] at c0 u1
          rw [hub] at d0 u2
          rw [hok] at c1 x1
          rw [hob] at d1 x2
          have HS2 : Hid (leastTo (fun k => usA L k + og O k) (k + 1) = if uk + ok < ub + ob then k else b) := by
            show leastTo (fun k => usA L k + og O k) (k + 1) = _
            rw [HS.out, huk, hub, hok, hob]
          have e1 : IntKind.i64.wrap (uk + ok) = uk + ok := IntWalk.i64_in _ (by omega)
          have e2 : IntKind.i64.wrap (ub + ob) = ub + ob := IntWalk.i64_in _ (by omega)
          clear hat hb huk hub hok hob HS HV u1 u2 x1 x2
          by_cases hlt2 : uk + ok < ub + ob
          · have HR : Hid (leastTo (fun k => usA L k + og O k) (k + 1) = k) := by show _ = _; rw [HS2.out, if_pos hlt2]
            clear HS2
            go_wp2_with fail
            go_quiet (first | fail)
            all_goals
              go_wp2
              go_roundw
              case rel => exact ⟨k + 1, by omega, by omega, by rw [HR.out], by go_num, below_drewN hX.out _⟩
              case measure => simp [intOf]; omega
          · have HR : Hid (leastTo (fun k => usA L k + og O k) (k + 1) = b) := by show _ = _; rw [HS2.out, if_neg hlt2]
            clear HS2
            go_wp2_with fail
            go_quiet (first | fail)
            all_goals
              go_wp2
              go_roundw
              case rel => exact ⟨k + 1, by omega, by omega, by rw [HR.out], by go_num, below_drewN hX.out _⟩
              case measure => simp [intOf]; omega
        · have hge : ¬ (k : Int) < (L.length : Int) := by omega
          have hkk : k = L.length := by omega
          have hbl := leastTo_lt (fun k => usA L k + og O k) k hk1
          have HNX : Hid (leastTo (fun k => usA L k + og O k) k = nextU L O) := by show _ = nextU L O; rw [hkk]; rfl
          obtain ⟨b, hb⟩ : ∃ b, leastTo (fun k => usA L k + og O k) k = b := ⟨_, rfl⟩
          rw [hb] at hbl HNX ⊢
          have hb0 : (0 : Int) ≤ (b : Int) := by omega
          have hb1 : (b : Int) < (L.length : Int) := by omega
          have d1 := hRX.out.cell (k := b) (by omega)
          have f1 := hRX.out.frozen (k := b)
          have x2 := HOR.out b
          have P := Lib.hid (hRX.out.put (k := b) (og O b + 1))
          have HN2 : Hid (shTo L (n + 1) = O.set b (og O b + 1)) := by show _ = _; rw [HN.out, ← HNX.out]
          have BX := Lib.hid ((hB.out.trans (hX.out.mono hB.out.size)).setCell (p := ⟨g, b, none⟩) hR.out.base (.int .i64 (og O b + 1)))
          obtain ⟨ob, hob⟩ : ∃ u, og O b = u := ⟨_, rfl⟩
          rw [hob] at d1 x2 P HN2 BX
          have e2 : IntKind.i64.wrap (ob + 1) = ob + 1 := IntWalk.i64_in _ (by omega)
          clear hb hob hkk
          go_wp2
          go_roundw
          case rel => exact ⟨n + 1, by omega, by go_num, by show NuOwn _ _ _ (shTo L (n + 1)) _; rw [HN2.out]; exact P.out, BX.out⟩
          case measure => simp [intOf]; omega
    · have hge : ¬ (n : Int) < (T : Int) := by omega
      have hnT : n = T := by omega
      subst hnT
      have HO : Hid (IntOwn w.heap.size (shTo L n) g wr) := hR.out.own
      go_wp2
      go_ret2
      first | exact ⟨_, ⟨_, rfl⟩, .inr ⟨g, rfl, HO.out⟩, hB.out⟩ | exact ⟨_, _, rfl, .inr ⟨g, rfl, HO.out⟩, hB.out⟩
end Go.Proofs.YtdandhmallbemaaDoor
