/-
  HouseText by the program.
-/
import Derived.Test.YtikjielgnlgnjaaDoorHoJ
import Derived.Test.YtikjielgnlgnjaaDoorHoTx
import Derived.Test.YtikjielgnlgnjaaDoorDecJ
import Derived.Test.YtikjielgnlgnjaaDoorShelfB
import Derived.Deep.RegionHeld3
import Derived.Maps.AppendAt
namespace Go.Proofs.YtikjielgnlgnjaaDoor
open Go.ChangeShapes Go.WideShapes Go.ChangeAt Go.RowKit Go.Joins

theorem infoStrT : (Tryd.prog.info? 9).map (fun i => (i.zero, i.size, i.bytes)) = some (some (.string ⟨#[]⟩), 1, 16) := by kernel_rfl
def stVals (W : List ByteArray) : List Value := W.map Value.string
theorem litT (base : Nat) (wr : World) (x : ByteArray) (hb : base ≤ wr.heap.size) : (wr.alloc (.cells #[.string x] 9)).ownsRow base 9 1 (.slice (some ⟨wr.heap.size, 0, none⟩) 1 1) 1 [.string x] :=
  ⟨rfl, .inr ⟨wr.heap.size, 1, #[.string x], rfl, hb, heap_alloc_new wr _, Nat.le_refl _, by decide, rfl, rfl⟩⟩
theorem keepT_call {b n : Nat} {u v : Value} {w0 w1 w2 : World} (h : w1.cell? ⟨b, 0, none⟩ = some u ∧ w1.cell? ⟨b, 1, none⟩ = some v ∧ Below n w0 w1 ∧ n ≤ w1.heap.size) (hb : Below w1.heap.size w1 w2) :
    w2.cell? ⟨b, 0, none⟩ = some u ∧ w2.cell? ⟨b, 1, none⟩ = some v ∧ Below n w0 w2 ∧ n ≤ w2.heap.size := by
  obtain ⟨h0, h1, h3, h4⟩ := h
  exact ⟨(hb.cell (World.block_lt_of_cell? w1 _ h0)).trans h0, (hb.cell (World.block_lt_of_cell? w1 _ h1)).trans h1, h3.trans (hb.mono h4), Nat.le_trans h4 hb.size⟩
theorem keepT_grown {b n : Nat} {u v : Value} {w0 w1 w2 : World} {row : Option Nat} (h : w1.cell? ⟨b, 0, none⟩ = some u ∧ w1.cell? ⟨b, 1, none⟩ = some v ∧ Below n w0 w1 ∧ n ≤ w1.heap.size) (hb : row ≠ some b) (hg : w1.grownBy w2 row) (hr : ∀ r, row = some r → n ≤ r) :
    w2.cell? ⟨b, 0, none⟩ = some u ∧ w2.cell? ⟨b, 1, none⟩ = some v ∧ Below n w0 w2 ∧ n ≤ w2.heap.size := by
  obtain ⟨h0, h1, h3, h4⟩ := h
  exact ⟨hg.cell h0 (fun e => hb e.symm), hg.cell h1 (fun e => hb e.symm), h3.grown hg h4 hr, Nat.le_trans h4 hg.size⟩
theorem wp_append_any {P : Program} {o : Oper} {a : Act} {w w' : World} {K : Act → World → Prop} {Q : Exit → Act → World → Prop} {s x : Operand} {t : TypeId} {v v' : Value} {ad : Addr} {m c : Nat}
    (ho : o.op = .call { callee := .builtin .append, args := #[s, x], argTypes := #[t, t] }) (hs : a.eval s = v) (hx : a.eval x = .slice (some ad) m c) (hr : (Builtin.append_ #[t, t] o.type #[v, .slice (some ad) m c]).run P w = .ok v' w') (h : K (a.put o.dst v') w') : Oper.wp P o a w K Q := by
  unfold Oper.wp execOp
  simp only [ho, resolve, invoke, builtin, Sem.run_bind, Sem.run_pure, Result.andThen_ok, List.map_toArray, List.map_cons, List.map_nil, hs, hx, hr]
  exact h
/-- One letter of a text. -/
theorem letter_slice (T : ByteArray) (k : Nat) (h : k < T.size) (w : World) : (Instr.slice 9 (.string T) (some (.int .i64 (k : Int))) (some (.int .i64 ((k : Int) + 1))) none).run Tryd.prog w = .ok (.string ⟨#[T[k]'h]⟩) w := by
  have h1 : (0 : Int) ≤ (k : Int) := by omega
  have h2 : (k : Int) + 1 ≤ (T.size : Int) := by omega
  have h3 : (k : Int) ≤ (k : Int) + 1 := by omega
  have e : T.extract k (k + 1) = ⟨#[T[k]'h]⟩ := by
    apply ByteArray.ext
    apply Array.toList_inj.1
    have h' : k < T.data.toList.length := by simpa using h
    have : (T.extract k (k + 1)).data.toList = (T.data.toList.drop k).take 1 := by simp [List.take_drop]
    rw [this, List.drop_eq_getElem_cons h']
    rfl
  have e2 : ((k : Int) + 1).toNat = k + 1 := by omega
  simp [go_sem, h1, h2, h3, e, e2]
set_option maxRecDepth 100000 in
set_option maxHeartbeats 12800000 in
theorem houseText_impl (P : List Int) (T : ByteArray) (a : Option Addr) (cap : Nat) (hl : P.length ≤ 1048576) (hs : T.size ≤ 1048576) (w : World) (ha : IntArg w a P) (hd : DirAt w) (hp : Pow10 w) :
    Calls Tryd.prog 45 #[.agg #[.slice a P.length cap, .string T]] w fun e w' => e = .returned (.string (htV P T)) ∧ Below w.heap.size w w' := by
  have K := house_new w (.slice a P.length cap) T 27
  obtain ⟨W0, hW⟩ : ∃ W0, w.alloc (.cells #[.slice a P.length cap, .string T] 27) = W0 := ⟨_, rfl⟩
  have E0 : Hid (Below w.heap.size w W0) := by show Below w.heap.size w W0; rw [← hW]; exact balloc0 _ _
  rw [hW] at K
  have HA := Lib.hid (ha.later E0.out)
  have HD := Lib.hid (hd.later E0.out)
  have HP := Lib.hid (hp.later E0.out)
  have HW := Lib.hid hW
  obtain ⟨d0, d1⟩ := K.out _ (Below.refl _ _)
  have C := Lib.hid (validHouse_impl P T a cap hl hs W0 HA.out HD.out)
  have z0 : W0.heap.size = w.heap.size + 1 := by rw [← hW]; simp
  clear hW ha hd hp
  cases h : okHo P T
  · rw [ht_bad h]
    rw [h] at C
    clear h
    go_enter Tryd.func45, Tryd.ntmps45
    go_wp2_with fail
    rw [HW.out]
    go_wp2_with fail
    refine C.out.mono ?_
    rintro e w1 ⟨rfl, hb1⟩
    have B1 := Lib.hid (bnext E0.out hb1)
    clear hb1
    go_wp2
    go_ret
    exact ⟨rfl, B1.out⟩
  rw [ht_good h]
  rw [h] at C
  obtain ⟨h4, h12, hT, hr⟩ := okHo_size h
  have HR := Lib.hid hr
  clear h hr
  go_enter Tryd.func45, Tryd.ntmps45
  go_wp2_with fail
  rw [HW.out]
  go_wp2_with fail
  refine C.out.mono ?_
  rintro e w1 ⟨rfl, hb1⟩
  have B1 := Lib.hid (bnext E0.out hb1)
  have KL := Lib.hid hb1
  have HA1 := Lib.hid (HA.out.later hb1)
  have HP1 := Lib.hid (HP.out.later hb1)
  clear d0 d1
  obtain ⟨d0, d1⟩ := K.out _ hb1
  clear hb1
  go_wp2
  go_loopw [3, 12] (fun v0 i wr => ∃ (v : Value) (k : Nat) (L : List ByteArray), v = v0 ∧ i = .int .i64 (k : Int) ∧ k ≤ P.length ∧ Hid (L.length = k) ∧ Hid (L.map (·.data.toList) = wordsH P T k) ∧ Hid (wr.ownsRow w1.heap.size 9 1 v L.length (stVals L)) ∧ Hid (Below w1.heap.size w1 wr)) (fun _ i _ => P.length - (intOf i).toNat)
  case atStart => exact ⟨.slice none 0 0, 0, [], rfl, rfl, Nat.zero_le _, rfl, rfl, World.ownsRow_nil _ _ _ _, Below.refl _ _⟩
  case round =>
    obtain ⟨v, k, L, rfl, rfl, hk, hpl, hL, hO, hB⟩ := hrel
    clear d0 d1
    obtain ⟨d0, d1⟩ := K.out _ (bnext KL.out hB.out)
    by_cases hlt : k < P.length
    · have hlt' : (k : Int) < (P.length : Int) := by omega
      have hk0 : (0 : Int) ≤ (k : Int) := by omega
      have hkT : k < T.size := by omega
      obtain ⟨bb, o, z, rfl, hz, hat⟩ := (HA1.out.later hB.out).at hlt
      have c0 := hat k z hz
      have hzb := runsB_at HR.out hz
      have CD := Lib.hid (fun wx (hx : Pow10 wx) => decimal_impl z (by omega) (by omega) wx hx)
      have hds := itoa_small (z := z) ⟨by omega, by omega⟩
      have HN : Hid (wordsH P T (k + 1) = wordsH P T k ++ [Lib.itoa z ++ [T[k]'hkT]]) := by show _ = _; rw [wordsH_succ, wordH_at hz hkT]
      obtain ⟨D, hD⟩ : ∃ D : ByteArray, ⟨(Lib.itoa z).toArray⟩ = D := ⟨_, rfl⟩
      have HDe : Hid (D.data.toList = Lib.itoa z) := by show _ = _; rw [← hD]
      rw [hD] at CD hds
      have hds1 : D.size ≤ 9223372036854775806 := by omega
      have LS := fun wx => letter_slice T k hkT wx
      have hwk : IntKind.i64.wrap ((k : Int) + 1) = (k : Int) + 1 := IntWalk.i64_in _ (by omega)
      have hlow : w.heap.size < w1.heap.size := by have := KL.out.size; omega
      obtain ⟨i0, hi, hz0, hz1, hz2⟩ := info_parts infoStrT
      have hpk := hpl.out
      clear hat hz hD
      go_wp2_with fail
      -- HAND
      refine wp_region_held_drew (S := fun w' => w'.cell? ⟨w.heap.size, 0, none⟩ = some (.slice (some ⟨bb, o, none⟩) P.length cap) ∧ w'.cell? ⟨w.heap.size, 1, none⟩ = some (.string T) ∧ Below w1.heap.size w1 w' ∧ w1.heap.size ≤ w'.heap.size) (by kernel_rfl) ?_ (fun hHeld => ?_)
      · exact ⟨d0, d1, hB.out.drew, hB.out.size⟩
      refine wpAnyH_take (i := 0) (v := v) rfl (by kernel_rfl) (by kernel_rfl) (by kernel_rfl) (fun _ _ _ h => h) (Or.inl ⟨by kernel_rfl, ?_⟩) (by assumption) ?_
      · intro w hSw
        try dsimp only at hSw
        skip
        go_simp
      try simp only [Act.put, List.setIfInBounds_toArray, List.set_cons_zero, List.set_cons_succ, List.getElem_toArray, List.getElem_cons_zero]
      refine wpAnyH_take (i := 1) (v := .int .i64 z) rfl (by kernel_rfl) (by kernel_rfl) (by kernel_rfl) (fun _ _ _ h => h) (Or.inl ⟨by kernel_rfl, ?_⟩) (by assumption) ?_
      · intro w hSw
        try dsimp only at hSw
        skip
        go_simp
      try simp only [Act.put, List.setIfInBounds_toArray, List.set_cons_zero, List.set_cons_succ, List.getElem_toArray, List.getElem_cons_zero, List.getElem_cons_succ]
      refine wpAnyH_take (i := 3) (v := .pointer (some ⟨w.heap.size, 1, none⟩)) rfl (by kernel_rfl) (by kernel_rfl) (by kernel_rfl) (fun _ _ _ h => h) (Or.inl ⟨by kernel_rfl, ?_⟩) (by assumption) ?_
      · intro w hSw
        try dsimp only at hSw
        skip
        go_simp
      try simp only [Act.put, List.setIfInBounds_toArray, List.set_cons_zero, List.set_cons_succ, List.getElem_toArray, List.getElem_cons_zero, List.getElem_cons_succ]
      refine wpAnyH_take (i := 4) (v := .string T) rfl (by kernel_rfl) (by kernel_rfl) (by kernel_rfl) (fun _ _ _ h => h) (Or.inl ⟨by kernel_rfl, ?_⟩) (by assumption) ?_
      · intro w hSw
        try dsimp only at hSw
        obtain ⟨hS0, hS1, hS2⟩ := hSw
        go_simp
      try simp only [Act.put, List.setIfInBounds_toArray, List.set_cons_zero, List.set_cons_succ, List.getElem_toArray, List.getElem_cons_zero, List.getElem_cons_succ]
      refine wpAnyH_take (i := 5) (v := .int .i64 (k : Int)) rfl (by kernel_rfl) (by kernel_rfl) (by kernel_rfl) (fun _ _ _ h => h) (Or.inl ⟨by kernel_rfl, ?_⟩) (by assumption) ?_
      · intro w hSw
        try dsimp only at hSw
        skip
        go_simp
      try simp only [Act.put, List.setIfInBounds_toArray, List.set_cons_zero, List.set_cons_succ, List.getElem_toArray, List.getElem_cons_zero, List.getElem_cons_succ]
      refine wpAnyH_take (i := 6) (v := .int .i64 (k : Int)) rfl (by kernel_rfl) (by kernel_rfl) (by kernel_rfl) (fun _ _ _ h => h) (Or.inl ⟨by kernel_rfl, ?_⟩) (by assumption) ?_
      · intro w hSw
        try dsimp only at hSw
        skip
        go_simp
      try simp only [Act.put, List.setIfInBounds_toArray, List.set_cons_zero, List.set_cons_succ, List.getElem_toArray, List.getElem_cons_zero, List.getElem_cons_succ]
      refine wpAnyH_take (i := 7) (v := .int .i64 ((k : Int) + 1)) rfl (by kernel_rfl) (by kernel_rfl) (by kernel_rfl) (fun _ _ _ h => h) (Or.inl ⟨by kernel_rfl, ?_⟩) (by assumption) ?_
      · intro w hSw
        try dsimp only at hSw
        skip
        go_simp
      try simp only [Act.put, List.setIfInBounds_toArray, List.set_cons_zero, List.set_cons_succ, List.getElem_toArray, List.getElem_cons_zero, List.getElem_cons_succ]
      refine wpAnyH_take (i := 8) (v := .string ⟨#[T[k]'hkT]⟩) rfl (by kernel_rfl) (by kernel_rfl) (by kernel_rfl) (fun _ _ _ h => h) (Or.inl ⟨by kernel_rfl, ?_⟩) (by assumption) ?_
      · intro w hSw
        try dsimp only at hSw
        skip
        go_simp
      try simp only [Act.put, List.setIfInBounds_toArray, List.set_cons_zero, List.set_cons_succ, List.getElem_toArray, List.getElem_cons_zero, List.getElem_cons_succ]
      refine wpAnyH_ready (rs := [2]) (by kernel_rfl) (by simp) ?_
      refine AllReadyH.cons rfl (fun K hK => ?_) AllReadyH.nil
      go_simp
      go_at_call 73
      refine (CD.out _ (HP1.out.later hHeld.2.2.1)).mono ?_
      rintro e w2 ⟨rfl, hb⟩
      refine hK.out _ _ ?_ (fun hHeld' => ?_)
      · exact keepT_call hHeld hb
      clear hK K hHeld
      have hHeld := hHeld'
      clear hHeld'
      try simp only [Act.put, List.setIfInBounds_toArray, List.set_cons_zero, List.set_cons_succ, List.getElem_toArray, List.getElem_cons_zero, List.getElem_cons_succ]
      refine wpAnyH_take (i := 9) (v := .string (D ++ ⟨#[T[k]'hkT]⟩)) rfl (by kernel_rfl) (by kernel_rfl) (by kernel_rfl) (fun _ _ _ h => h) (Or.inl ⟨by kernel_rfl, ?_⟩) (by assumption) ?_
      · intro w hSw
        try dsimp only at hSw
        skip
        go_simp
      try simp only [Act.put, List.setIfInBounds_toArray, List.set_cons_zero, List.set_cons_succ, List.getElem_toArray, List.getElem_cons_zero, List.getElem_cons_succ]
      refine wpAnyH_ready (rs := [10]) (by kernel_rfl) (by simp) ?_
      refine AllReadyH.cons rfl (fun K hK => ?_) AllReadyH.nil
      go_simp
      refine hK.out _ _ ?_ (fun hHeld' => ?_)
      · exact keepT_call hHeld (balloc0 _ _)
      clear hK K hHeld
      have hHeld := hHeld'
      clear hHeld'
      try simp only [Act.put, List.setIfInBounds_toArray, List.set_cons_zero, List.set_cons_succ, List.getElem_toArray, List.getElem_cons_zero, List.getElem_cons_succ]
      refine wpAnyH_ready (rs := [11]) (by kernel_rfl) (by simp) ?_
      refine AllReadyH.cons rfl (fun K hK => ?_) AllReadyH.nil
      rw [if_pos (by kernel_rfl)]
      have hO2 : w2.ownsRow w1.heap.size 9 1 v L.length (stVals L) := hO.out.kept (row := none) (below_grown (undrew hb)) (by cases hv : v.ownBlock <;> simp)
      have hsz2 : w1.heap.size ≤ w2.heap.size := Nat.le_trans hB.out.size hb.size
      obtain ⟨v3, w3, hr, hO3, hG3, _, _⟩ := run_append_own_at (P := Tryd.prog) (w2.alloc (.cells #[.string (D ++ ⟨#[T[k]'hkT]⟩)] 9)) w1.heap.size 79 79 9 i0 (.string ⟨#[]⟩) 1 16 Tryd.underlying79 hi hz0 hz1 hz2 rfl (by decide) v L.length (stVals L) (hO2.alloc _) ⟨w2.heap.size, 0, none⟩ 1 1 [.string (D ++ ⟨#[T[k]'hkT]⟩)] rfl (cell_one_new w2 _ _) (by simp [Value.oneCell']) (by unfold maxLen; omega) (by omega) (by simp; omega)
      refine wp_append_any (s := .tmp 17) (x := .tmp 27) (t := 79) rfl rfl rfl hr ?_
      refine hK.out _ _ ?_ (fun hHeld' => ?_)
      · exact keepT_grown hHeld (fun e => by have := (hO2.lt _ e).1; have := hlow; omega) hG3 (fun r e => (hO2.lt r e).1)
      clear hK K hHeld
      have hHeld := hHeld'
      clear hHeld'
      obtain ⟨g3, cp3, rfl⟩ := ownsRow_succ hO3
      try simp only [Act.put, List.setIfInBounds_toArray, List.set_cons_zero, List.set_cons_succ, List.getElem_toArray, List.getElem_cons_zero, List.getElem_cons_succ]
      refine wpAnyH_take (i := 12) (v := .slice (some ⟨g3, 0, none⟩) (L.length + 1) cp3) rfl (by kernel_rfl) (by kernel_rfl) (by kernel_rfl) (fun _ _ _ h => h) (Or.inl ⟨by kernel_rfl, ?_⟩) (by assumption) ?_
      · intro w hSw
        try dsimp only at hSw
        skip
        go_simp
      try simp only [Act.put, List.setIfInBounds_toArray, List.set_cons_zero, List.set_cons_succ, List.getElem_toArray, List.getElem_cons_zero, List.getElem_cons_succ]
      refine wpAnyH_done (by kernel_rfl) ?_ _
      have HB3 := Lib.hid hHeld.2.2.1
      clear hHeld hb hr hG3
      go_wp2
      have hO4 : Hid (w3.ownsRow w1.heap.size 9 1 (.slice (some ⟨g3, 0, none⟩) (L.length + 1) cp3) (L ++ [D ++ ⟨#[T[k]'hkT]⟩]).length (stVals (L ++ [D ++ ⟨#[T[k]'hkT]⟩]))) := by
        show World.ownsRow _ _ _ _ _ _ _
        simpa [stVals] using hO3
      have hM4 : Hid ((L ++ [D ++ ⟨#[T[k]'hkT]⟩]).map (·.data.toList) = wordsH P T (k + 1)) := by
        show _ = _
        rw [HN.out, List.map_append, hL.out]
        simp [HDe.out]
      refine ⟨⟨_, k + 1, L ++ [D ++ ⟨#[T[k]'hkT]⟩], rfl, by go_num, by omega, by show (L ++ [_]).length = k + 1; simp; omega, hM4.out, hO4.out, HB3.out⟩, by simp [intOf]; omega⟩
    · have hge : ¬ (k : Int) < (P.length : Int) := by omega
      have hkn : k = P.length := by omega
      have hpk := hpl.out
      have hMW : L.map (·.data.toList) = wordsH P T P.length := by rw [← hkn]; exact hL.out
      have HJ : Hid ((⟨(Lib.join (L.map (·.data.toList)) (⟨#[32]⟩ : ByteArray).data.toList).toArray⟩ : ByteArray) = textH P T P.length) := by show _ = _; rw [hMW]; rfl
      have HZ : (Lib.join (L.map (·.data.toList)) (⟨#[32]⟩ : ByteArray).data.toList).length ≤ 24 * P.length := by
        have h1 := textH_size HR.out T P.length (Nat.le_refl _) (by omega)
        rw [← HJ.out] at h1
        have h2 : (⟨(Lib.join (L.map (·.data.toList)) (⟨#[32]⟩ : ByteArray).data.toList).toArray⟩ : ByteArray).size = (Lib.join (L.map (·.data.toList)) (⟨#[32]⟩ : ByteArray).data.toList).length := by
          show (List.toArray _).size = _
          simp
        omega
      obtain ⟨g, cp, hv, hbk, hcap⟩ : ∃ g cp, v = .slice (some ⟨g, 0, none⟩) L.length cp ∧ g < wr.heap.size ∧ L.length ≤ cp := by
        rcases hO.out.2 with ⟨_, h0⟩ | ⟨g, cp, cur, hv, _, hg, hc, _⟩
        · omega
        · exact ⟨g, cp, hv, (Array.getElem?_eq_some_iff.1 hg).1, hc⟩
      subst hv
      have hcells : ∀ (j : Nat) x, L[j]? = some x → wr.cell? ⟨g, 0 + j, none⟩ = some (.string x) := fun j x hx => by
        have hl := (List.getElem?_eq_some_iff.1 hx).1
        rw [Nat.zero_add, World.ownsRow.cellAt hO.out j (by omega)]
        simp [stVals, hx]
      have J := Tryd.strings_Join g 0 cp L ⟨#[32]⟩ wr hcells hbk (by omega) hcap (by omega)
      rw [HJ.out, hpk.trans hkn] at J
      have JJ := Lib.hid J
      clear J hcells hbk hcap HZ hMW
      go_wp2_with fail
      refine JJ.out.mono ?_
      rintro e w2 ⟨rfl, hb2⟩
      have B2 := Lib.hid (bnext B1.out (bnext hB.out hb2))
      clear hb2
      go_wp2
      go_ret
      exact ⟨rfl, B2.out⟩
end Go.Proofs.YtikjielgnlgnjaaDoor
