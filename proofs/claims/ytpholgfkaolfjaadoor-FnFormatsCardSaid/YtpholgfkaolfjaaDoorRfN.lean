/-
  The program's reading of numbers between separators.
-/
import Derived.Test.YtpholgfkaolfjaaDoorRfS
import Derived.Test.YtpholgfkaolfjaaDoorRdI
import Derived.Test.YtpholgfkaolfjaaDoorNumI
import Derived.Test.YtpholgfkaolfjaaDoorShelfC
namespace Go.Proofs.YtpholgfkaolfjaaDoor
open Go.ChangeShapes Go.WideShapes Go.ChangeAt Go.RowKit Go.Joins

theorem infoI64 : (Tryd.prog.info? 2).map (fun i => (i.zero, i.size, i.bytes)) = some (some (.int .i64 0), 1, 8) := by kernel_rfl
theorem litI_row (base : Nat) (wr : World) (c : Value) (hb : base ≤ wr.heap.size) : (wr.alloc (.cells #[c] 2)).ownsRow base 2 1 (.slice (some ⟨wr.heap.size, 0, none⟩) 1 1) 1 [c] :=
  ⟨rfl, .inr ⟨wr.heap.size, 1, #[c], rfl, hb, heap_alloc_new wr _, Nat.le_refl _, by decide, rfl, rfl⟩⟩
theorem own_on {w w' : World} {B e size n : Nat} {v : Value} {xs : List Value} (h : w.ownsRow B e size v n xs) (hb : Below w.heap.size w w') : w'.ownsRow B e size v n xs := by
  obtain ⟨h1, h2⟩ := h
  refine ⟨h1, ?_⟩
  rcases h2 with h | ⟨a, c, cur, e1, e2, e3, e4⟩
  · exact .inl h
  · refine .inr ⟨a, c, cur, e1, e2, ?_, e4⟩
    exact (hb.block a (Array.getElem?_eq_some_iff.1 e3).1).trans e3
theorem own_weaken {w : World} {B B' e size n : Nat} {v : Value} {xs : List Value} (h : w.ownsRow B e size v n xs) (hle : B' ≤ B) : w.ownsRow B' e size v n xs := by
  obtain ⟨h1, h2⟩ := h
  refine ⟨h1, ?_⟩
  rcases h2 with h | ⟨a, c, cur, e1, e2, e3⟩
  · exact .inl h
  · exact .inr ⟨a, c, cur, e1, Nat.le_trans hle e2, e3⟩
theorem own_from {w : World} {B e size n : Nat} {v : Value} {xs : List Value} (h : w.ownsRow B e size v n xs) : ∀ k, v.ownBlock = some k → B ≤ k := fun k hk => (h.lt k hk).1
def nvals (ns : List Int) : List Value := ns.map (Value.int .i64)
theorem nvals_snoc (ns : List Int) (n : Int) : nvals (ns ++ [n]) = nvals ns ++ [.int .i64 n] := by simp [nvals]

set_option maxRecDepth 100000 in
set_option maxHeartbeats 6400000 in
/-- All parts are numbers: they; else nothing. -/
theorem numbers_impl (s : ByteArray) (hs : s.size ≤ 1048576) (tp : TypeId) (p : Value) (m : Int) (w : World) (hm : w.cell? ⟨0, 0, none⟩ = some (.int .i64 m)) (hp : Pow10 w) (hv : w.var? Tryd.prog "strconv.ErrSyntax" = some #[.iface tp p]) :
    Calls Tryd.prog 20 #[.string s, .string ⟨#[120]⟩] w fun e w' => Below w.heap.size w w' ∧
      ((∃ (ns : List Int) (v : Value), (partsOf s 120).map (fun x => numR x.data.toList) = ns.map some ∧ e = .returned (.tuple #[v, .bool true]) ∧ w'.ownsRow w.heap.size 2 1 v ns.length (nvals ns)) ∨
       ((∃ x ∈ partsOf s 120, numR x.data.toList = none) ∧ e = .returned (.tuple #[.slice none 0 0, .bool false]))) := by
  have C0 := Tryd.strings_Split s ⟨#[120]⟩ m w (by omega) hm (by rw [one_size]; omega)
  rw [splitB_count, splitB_parts] at C0
  have HS : Hid (∀ x ∈ partsOf s 120, x.size ≤ 1048576) := fun x hx => Nat.le_trans (part_size hx) hs
  have hn : (partsOf s 120).length ≤ 1048577 := by
    show (cutParts s (cutsC s 120 s.size 0 0)).length ≤ _
    have := cuts_length s 120 s.size 0 0
    simp [cutParts]; omega
  have HP : Hid (∀ wx, Below w.heap.size w wx → Pow10 wx) := fun wx h => hp.later h
  have HV : Hid (∀ wx, Below w.heap.size w wx → wx.var? Tryd.prog "strconv.ErrSyntax" = some #[.iface tp p]) := fun wx h => var_stays gSynC hv h (Nat.le_refl _)
  obtain ⟨P, hP⟩ : ∃ P, partsOf s 120 = P := ⟨_, rfl⟩
  rw [hP] at C0 HS hn ⊢
  clear hP hp hv hm hs
  have HB : Hid (Below w.heap.size w (w.alloc (.cells (P.map Value.string).toArray 9))) := balloc0 _ _
  have HC : Hid (∀ k x, P[k]? = some x → (w.alloc (.cells (P.map Value.string).toArray 9)).cell? ⟨w.heap.size, k, none⟩ = some (.string x)) := fun k x hx => by
    rw [cell_of_row _ _ _ _ _ (0, 0) (heap_alloc_new w _)]
    simp [hx]
  obtain ⟨wS, hW⟩ : ∃ wS, w.alloc (.cells (P.map Value.string).toArray 9) = wS := ⟨_, rfl⟩
  rw [hW] at C0 HB HC
  clear hW
  have C := Lib.hid C0
  clear C0
  obtain ⟨i0, hi, hz0, hz1, hz2⟩ := info_parts infoI64
  go_enter Tryd.func20, Tryd.ntmps20
  go_wp2_with fail
  refine C.out.mono ?_
  rintro e w1 ⟨rfl, hw⟩
  rw [hw]
  clear hw
  go_wp2
  go_loopw [6, 15] (fun v i wr => ∃ (k : Nat) (ns : List Int) (vv : Value), v = vv ∧ i = .int .i64 k ∧ k ≤ P.length ∧ ns.length = k ∧ Hid ((P.take k).map (fun x => numR x.data.toList) = ns.map some) ∧ Hid (wr.ownsRow wS.heap.size 2 1 vv k (nvals ns)) ∧ Hid (Below wS.heap.size wS wr)) (fun _ i _ => P.length - (intOf i).toNat)
  case atStart => exact ⟨0, [], _, rfl, rfl, Nat.zero_le _, rfl, rfl, ⟨rfl, .inl ⟨rfl, rfl⟩⟩, Below.refl _ _⟩
  case round =>
    obtain ⟨k, ns, vv, hvv, rfl, hk, hns, hT, hO, hB⟩ := hrel
    have hvs := hvv.symm
    clear hvv
    subst hvs
    have BR := Lib.hid (bnext HB.out hB.out)
    by_cases hlt : k < P.length
    · have hlt' : (k : Int) < (P.length : Int) := by omega
      have hk0 : (0 : Int) ≤ (k : Int) := by omega
      obtain ⟨x, hx⟩ : ∃ x, P[k]? = some x := ⟨P[k], List.getElem?_eq_getElem hlt⟩
      have hxm : x ∈ P := List.mem_of_getElem? hx
      have hc := HC.out k x hx
      have a0 := (hB.out.cell (p := ⟨w.heap.size, k, none⟩) (World.block_lt_of_cell? wS _ hc)).trans hc
      have N := Lib.hid (number_impl x (HS.out x hxm) tp p wr (HP.out _ BR.out) (HV.out _ BR.out))
      clear hc
      rcases numR_cases x.data.toList with ⟨n, h1, h2, h3⟩ | ⟨h1, h3⟩
      · rw [h2, h3] at N
        have HT2 : Hid ((P.take (k + 1)).map (fun x => numR x.data.toList) = (ns ++ [n]).map some) := by
          show (P.take (k + 1)).map (fun x => numR x.data.toList) = (ns ++ [n]).map some
          rw [List.take_succ_eq_append_getElem hlt, List.map_append, hT.out, List.map_append]
          have : P[k] = x := by
            have := List.getElem?_eq_getElem hlt
            rw [hx] at this
            exact (Option.some.inj this).symm
          simp [this, h1]
        clear h1 h2 h3 hx hxm hT
        have c3 : Hid (k + 1 ≤ maxLen) := by show k + 1 ≤ maxLen; unfold maxLen; omega
        go_wp2_with fail
        refine N.out.mono ?_
        rintro e w4 ⟨rfl, hb⟩
        have hO4 := Lib.hid (own_on hO.out hb)
        have hB4 := Lib.hid (bnext hB.out hb)
        have hbase := hB4.out.size
        clear hb a0
        go_wp2_with (at_builtin; go_must ((refine wpList_append_own _ rfl _ _ 45 rfl wS.heap.size 2 i0 (.int .i64 0) 1 8 Tryd.underlying45 hi hz0 hz1 hz2 rfl (by decide) vv k (nvals ns) rfl (hO4.out.alloc _) ⟨w4.heap.size, 0, none⟩ 1 1 [.int .i64 n] rfl rfl ((litI_row wS.heap.size w4 _ hbase).cells rfl) (by simp [Value.oneCell']) c3.out (by omega) (by simp; omega) ?_; intro v1 w5 hown1 hgrow1 _)))
        have HO5 : Hid (w5.ownsRow wS.heap.size 2 1 v1 (k + 1) (nvals (ns ++ [n]))) := by
          show w5.ownsRow wS.heap.size 2 1 v1 (k + 1) (nvals (ns ++ [n]))
          rw [nvals_snoc]
          exact hown1
        have HB5 : Hid (Below wS.heap.size wS w5) := (balloc hB4.out _).grown hgrow1 (by simp; omega) (own_from hO4.out)
        clear hown1 hgrow1
        go_roundw
        case rel => exact ⟨k + 1, ns ++ [n], v1, rfl, by go_num, by omega, by simp; omega, HT2, HO5, HB5⟩
        case measure => simp [intOf]; omega
      · rw [h3] at N
        have HX : Hid (∃ x ∈ P, numR x.data.toList = none) := ⟨x, hxm, h1⟩
        obtain ⟨n, hn0⟩ : ∃ n, (numR x.data.toList).getD 0 = n := ⟨_, rfl⟩
        rw [hn0] at N
        clear hn0 h1 h3 hx hxm
        go_wp2_with fail
        refine N.out.mono ?_
        rintro e w4 ⟨rfl, hb⟩
        go_wp2
        go_ret2
        exact ⟨bnext BR.out hb, .inr ⟨HX.out, rfl⟩⟩
    · have hge : ¬ (k : Int) < (P.length : Int) := by omega
      have hkk : k = P.length := by omega
      have HT2 : Hid (P.map (fun x => numR x.data.toList) = ns.map some) := by
        show P.map (fun x => numR x.data.toList) = ns.map some
        rw [← hT.out, hkk, List.take_length]
      have HO5 : Hid (wr.ownsRow w.heap.size 2 1 vv ns.length (nvals ns)) := by
        show wr.ownsRow w.heap.size 2 1 vv ns.length (nvals ns)
        rw [hns]
        exact own_weaken hO.out HB.out.size
      clear hT hO
      go_wp2
      go_ret2
      exact ⟨BR.out, .inl ⟨ns, HT2.out, _, rfl, HO5.out⟩⟩
end Go.Proofs.YtpholgfkaolfjaaDoor
