/-
  LayWall: the model's word.
-/
import Derived.Test.YtbhjdhkabhafmaaDoorWaLc
import Derived.Test.YtbhjdhkabhafmaaDoorStM
namespace Go.Proofs.YtbhjdhkabhafmaaDoor
open Go.ChangeShapes Go.WideShapes Go.ChangeAt Go.RowKit Go.Joins

/-- A laid course as a text; the first n of them; whether none has too many pieces. -/
def lwB (L : List Co) (u k : Nat) : ByteArray := ⟨(layL (crs L k) u).toArray⟩
def lwTo (L : List Co) (u n : Nat) : List ByteArray := (List.range n).map (lwB L u)
theorem lwTo_length (L : List Co) (u n : Nat) : (lwTo L u n).length = n := by simp [lwTo]
theorem lwTo_succ (L : List Co) (u n : Nat) : lwTo L u (n + 1) = lwTo L u n ++ [lwB L u n] := by simp [lwTo, List.range_succ]
def lwF (L : List Co) (u n : Nat) : Bool := (List.range n).all fun k => decide ((layL (crs L k) u).length ≤ 60)
theorem lwF_succ (L : List Co) (u n : Nat) : lwF L u (n + 1) = (lwF L u n && decide ((layL (crs L n) u).length ≤ 60)) := by simp [lwF, List.range_succ]
theorem lwF_bad {L : List Co} {u k n : Nat} (hk : k < n) (h : ¬ (layL (crs L k) u).length ≤ 60) : lwF L u n = false := by
  unfold lwF
  rw [List.all_eq_false]
  exact ⟨k, List.mem_range.2 hk, by simpa using h⟩
def lwC (nm : ByteArray) (L : List Co) (t n : Int) : Int := if bCode nm L 0 t = 0 then (if inB n 1 40 = true then (if lwF L t.toNat n.toNat = true then 0 else 5) else 2) else bCode nm L 0 t
def lwV (nm : ByteArray) (L : List Co) (t n : Int) : List ByteArray := if lwC nm L t n = 0 then lwTo L t.toNat n.toNat else []
theorem lw_bad {nm : ByteArray} {L : List Co} {t n : Int} (h : ¬ bCode nm L 0 t = 0) : lwC nm L t n = bCode nm L 0 t ∧ lwV nm L t n = [] := by
  have h1 : lwC nm L t n = bCode nm L 0 t := by unfold lwC; rw [if_neg h]
  exact ⟨h1, by unfold lwV; rw [h1, if_neg h]⟩
theorem lw_range {nm : ByteArray} {L : List Co} {t n : Int} (h : bCode nm L 0 t = 0) (h2 : inB n 1 40 = false) : lwC nm L t n = 2 ∧ lwV nm L t n = [] := by
  have h1 : lwC nm L t n = 2 := by unfold lwC; rw [if_pos h, h2]; rfl
  exact ⟨h1, by unfold lwV; rw [h1, if_neg (by omega)]⟩
theorem lw_full {nm : ByteArray} {L : List Co} {t n : Int} (h : bCode nm L 0 t = 0) (h2 : inB n 1 40 = true) (h3 : lwF L t.toNat n.toNat = false) : lwC nm L t n = 5 ∧ lwV nm L t n = [] := by
  have h1 : lwC nm L t n = 5 := by unfold lwC; rw [if_pos h, if_pos h2, h3]; rfl
  exact ⟨h1, by unfold lwV; rw [h1, if_neg (by omega)]⟩
theorem lw_good {nm : ByteArray} {L : List Co} {t n : Int} (h : bCode nm L 0 t = 0) (h2 : inB n 1 40 = true) (h3 : lwF L t.toNat n.toNat = true) : lwC nm L t n = 0 ∧ lwV nm L t n = lwTo L t.toNat n.toNat := by
  have h1 : lwC nm L t n = 0 := by unfold lwC; rw [if_pos h, if_pos h2, if_pos h3]
  exact ⟨h1, by unfold lwV; rw [h1, if_pos rfl]⟩
theorem lwV_length (nm : ByteArray) (L : List Co) (t n : Int) : (lwV nm L t n).length ≤ 40 := by
  unfold lwV
  split
  · rename_i h
    rw [lwTo_length]
    unfold lwC at h
    split at h
    · split at h
      · rename_i h2
        have := inB_true.1 h2
        omega
      · omega
    · omega
  · simp
/-- Courses and a code are handed back. -/
def LwAns (w : World) (nm : ByteArray) (L : List Co) (t n : Int) (e : Ending) (w' : World) : Prop := ∃ a cap, e = .returned (.tuple #[.slice a (lwV nm L t n).length cap, .int .i64 (lwC nm L t n)]) ∧ StrRes w.heap.size (lwV nm L t n) a w' ∧ Below w.heap.size w w'
/-- A row of texts that grows. -/
theorem str_res {wr : World} {B : Nat} {P : List ByteArray} {v : Value} (h : wr.ownsRow B 9 1 v P.length (strVals P)) : ∃ a cap, v = .slice a P.length cap ∧ StrRes B P a wr := by
  rcases h.2 with ⟨hv, h0⟩ | ⟨g, cap, cur, hv, hB, hg, _⟩
  · have hP : P = [] := List.eq_nil_of_length_eq_zero h0
    subst hP
    exact ⟨_, _, hv, .inl rfl⟩
  · refine ⟨_, _, hv, .inr ⟨g, rfl, hB, fun k z hk => ?_, fun j hj => ?_, (Array.getElem?_eq_some_iff.1 hg).1⟩⟩
    · have hl := (List.getElem?_eq_some_iff.1 hk).1
      subst hv
      rw [Nat.zero_add, World.ownsRow.cellAt h k (by omega)]
      simp [strVals, hk]
    · subst hv
      rw [Nat.zero_add]
      refine ⟨?_, World.ownsRow.frozenAt h j⟩
      rw [World.ownsRow.cellAt h j (by omega), List.getElem?_eq_getElem (by simpa [strVals] using hj)]
      rfl
theorem StrRes.mono {B B' : Nat} {Q : List ByteArray} {a : Option Addr} {w : World} (h : StrRes B Q a w) (hB : B' ≤ B) : StrRes B' Q a w := by
  rcases h with h | ⟨g, h1, h2⟩
  · exact .inl h
  · exact .inr ⟨g, h1, Nat.le_trans hB h2.1, h2.2⟩
theorem strs_start (w : World) : (w.alloc (.cells #[] 9)).ownsRow w.heap.size 9 1 (.slice (some ⟨w.heap.size, 0, none⟩) 0 0) 0 (strVals []) :=
  ⟨rfl, .inr ⟨w.heap.size, 0, #[], rfl, Nat.le_refl _, heap_alloc_new w _, Nat.le_refl _, by decide, rfl, rfl⟩⟩
theorem strVals_snoc (P : List ByteArray) (x : ByteArray) : strVals P ++ [.string x] = strVals (P ++ [x]) := by simp [strVals]

set_option maxRecDepth 100000 in
set_option maxHeartbeats 6400000 in
theorem layWall_spec (nm : ByteArray) (L : List Co) (a : Option Addr) (cap : Nat) (hl : L.length ≤ 1048576) (hs : CosLe 1048576 L) (til n : Int) (w : World) (ha : CoArg w a L) :
    Calls Tryd.prog 33 #[.agg #[.string nm, .slice a L.length cap], .int .i64 til, .int .i64 n] w (LwAns w nm L til n) := by
  have hbd := bd_new w nm L a cap 39 ha
  obtain ⟨W0, hW⟩ : ∃ W0, w.alloc (.cells #[.string nm, .slice a L.length cap] 39) = W0 := ⟨_, rfl⟩
  have E0 : Hid (Below w.heap.size w W0) := by show Below w.heap.size w W0; rw [← hW]; exact balloc0 _ _
  rw [hW] at hbd
  have HW := Lib.hid hW
  have C := Lib.hid (code_spec nm L a cap hl hs w.heap.size 0 til W0 hbd)
  by_cases hc : bCode nm L 0 til = 0
  case neg =>
    obtain ⟨e1, e2⟩ := lw_bad (n := n) hc
    unfold LwAns
    rw [e1, e2]
    obtain ⟨q, hq⟩ : ∃ q, bCode nm L 0 til = q := ⟨_, rfl⟩
    rw [hq] at C hc ⊢
    clear hW hbd hq ha e1 e2
    go_enter Tryd.func33, Tryd.ntmps33
    go_wp2_with fail
    rw [HW.out]
    refine C.out.mono ?_
    rintro e w1 ⟨rfl, hb1⟩
    have B1 := Lib.hid (bnext E0.out hb1)
    clear hb1
    go_wp2_with fail
    go_ret2
    exact ⟨none, 0, rfl, .inl rfl, B1.out⟩
  obtain ⟨hok, _, u0, u1⟩ := bCode_facts hc
  have HC := Lib.hid hc
  rw [hc] at C
  cases hin : inB n 1 40
  · obtain ⟨e1, e2⟩ := lw_range hc hin
    unfold LwAns
    rw [e1, e2]
    clear hW hbd ha e1 e2 hc
    have IN : Hid (∀ wx, Calls Tryd.prog 70 #[.int .i64 n, .int .i64 1, .int .i64 40] wx fun e w' => e = .returned (.bool false) ∧ wx = w') := fun wx => by rw [← hin]; exact in_any _ _ _ _
    clear hin
    go_enter Tryd.func33, Tryd.ntmps33
    go_wp2_with fail
    rw [HW.out]
    refine C.out.mono ?_
    rintro e w1 ⟨rfl, hb1⟩
    have B1 := Lib.hid (bnext E0.out hb1)
    clear hb1
    go_wp2_with fail
    refine (IN.out _).mono ?_
    rintro e w2 ⟨rfl, rfl⟩
    go_wp2_with fail
    go_ret2
    exact ⟨none, 0, rfl, .inl rfl, B1.out⟩
  have hn := inB_true.1 hin
  obtain ⟨m, rfl⟩ := Int.eq_ofNat_of_zero_le (show 0 ≤ n by omega)
  obtain ⟨u, rfl⟩ := Int.eq_ofNat_of_zero_le (show 0 ≤ til by omega)
  have IN : Hid (∀ wx, Calls Tryd.prog 70 #[.int .i64 (m : Int), .int .i64 1, .int .i64 40] wx fun e w' => e = .returned (.bool true) ∧ wx = w') := fun wx => by rw [← hin]; exact in_any _ _ _ _
  have A1 := Lib.hid (fun k (hk : k ≤ 2000) wx (hx : Below W0.heap.size W0 wx) => lay_spec hok a cap w.heap.size k u hk (by omega) wx (hbd.later hx))
  have LL := Lib.hid (fun k => layL_length (crs_ok hok k) u)
  have HIN := Lib.hid hin
  clear hW hbd ha hc hin
  have HFUL : Hid (∀ k, k < m → ¬ (layL (crs L k) u).length ≤ 60 → lwC nm L (u : Int) (m : Int) = 5 ∧ lwV nm L (u : Int) (m : Int) = []) := fun k hk h => lw_full HC.out HIN.out (by simpa using lwF_bad hk h)
  have HGOO : Hid (lwF L u m = true → lwC nm L (u : Int) (m : Int) = 0 ∧ lwV nm L (u : Int) (m : Int) = lwTo L u m) := fun h => by have := lw_good HC.out HIN.out (by simpa using h); simpa using this
  go_enter Tryd.func33, Tryd.ntmps33
  go_wp2_with fail
  rw [HW.out]
  refine C.out.mono ?_
  rintro e w1 ⟨rfl, hb1⟩
  have B1 := Lib.hid hb1
  clear hb1
  go_wp2_with fail
  refine (IN.out _).mono ?_
  rintro e w2 ⟨rfl, rfl⟩
  go_wp2
  have S0 := strs_start w1
  have SB := balloc0 w1 (.cells #[] 9)
  go_loopw [9, 10] (fun v i wr => ∃ (k : Nat) (P : List ByteArray) (ao : Option Addr) (cp : Nat), v = .slice ao k cp ∧ i = .int .i64 (k : Int) ∧ k ≤ m ∧ Hid (wr.ownsRow w1.heap.size 9 1 (.slice ao k cp) k (strVals P)) ∧ Hid (P = lwTo L u k) ∧ Hid (lwF L u k = true) ∧ Hid (Below w1.heap.size w1 wr)) (fun _ i _ => m - (intOf i).toNat)
  case atStart => exact ⟨0, [], _, _, rfl, rfl, Nat.zero_le _, S0, rfl, rfl, SB⟩
  case round =>
    obtain ⟨k, P, ao, cp, rfl, rfl, hk, hO, hP, hF, hB⟩ := hrel
    by_cases hlt : k < m
    · have hlt' : (k : Int) < (m : Int) := by omega
      have hk0 : (0 : Int) ≤ (k : Int) := by omega
      obtain ⟨i0, hi, hz0, hz1, hz2⟩ := info_parts infoStrB
      have c3 : Hid (k + 1 ≤ maxLen) := by show k + 1 ≤ maxLen; unfold maxLen; omega
      by_cases h60 : (layL (crs L k) u).length ≤ 60
      · have HN : Hid (lwF L u (k + 1) = true) := by show lwF L u (k + 1) = true; rw [lwF_succ, hF.out]; simp [h60]
        have HBk : Hid (lwB L u k = ⟨(layL (crs L k) u).toArray⟩) := rfl
        have LA := Lib.hid (A1.out k (by omega) wr (bnext B1.out hB.out))
        have hsz : ((⟨(layL (crs L k) u).toArray⟩ : ByteArray).size : Int) = ((layL (crs L k) u).length : Int) := by simp [ByteArray.size]
        have hle : ¬ (60 : Int) < ((⟨(layL (crs L k) u).toArray⟩ : ByteArray).size : Int) := by omega
        obtain ⟨VB, hVB⟩ : ∃ VB : ByteArray, ⟨(layL (crs L k) u).toArray⟩ = VB := ⟨_, rfl⟩
        rw [hVB] at LA hle HBk
        clear hsz hVB h60
        go_wp2_with fail
        refine LA.out.mono ?_
        rintro e w3 ⟨rfl, hb3⟩
        have O3 := Lib.hid (own_later hO.out hb3)
        have B3 := Lib.hid (bnext hB.out hb3)
        have z3 : w1.heap.size ≤ w3.heap.size := B3.out.size
        clear hb3
        go_wp2_with (at_builtin; go_must ((refine wpList_append_own _ rfl _ _ 43 rfl w1.heap.size 9 i0 (.string ⟨#[]⟩) 1 16 Tryd.underlying43 hi hz0 hz1 hz2 rfl (by decide) (.slice ao k cp) k (strVals P) rfl (O3.out.alloc _) ⟨w3.heap.size, 0, none⟩ 1 1 [.string VB] rfl rfl ((litS w1.heap.size w3 VB z3).cells rfl) (by simp [Value.oneCell']) c3.out (by omega) (by simp; omega) ?_; intro v5 w5 hown5 hgrow5 _; obtain ⟨g5, cp5, hv5⟩ := own_form8S hown5 (Nat.succ_ne_zero k); subst hv5; have O5 := Lib.hid hown5; have B5 : Hid (Below w1.heap.size w1 w5) := (B3.out.alloc z3 _).grown hgrow5 (by simp; omega) (fun q hq => (O3.out.lt q hq).1); clear hown5 hgrow5)))
        go_roundw
        case rel => exact ⟨k + 1, P ++ [VB], _, _, rfl, by go_num, by omega, by have := O5.out; rw [strVals_snoc] at this; exact this, by show P ++ [VB] = _; rw [lwTo_succ, hP.out, HBk.out], HN.out, B5.out⟩
        case measure => simp [intOf]; omega
      · have HFX := Lib.hid (HFUL.out k hlt h60)
        have LA := Lib.hid (A1.out k (by omega) wr (bnext B1.out hB.out))
        have hsz : ((⟨(layL (crs L k) u).toArray⟩ : ByteArray).size : Int) = ((layL (crs L k) u).length : Int) := by simp [ByteArray.size]
        have hle : (60 : Int) < ((⟨(layL (crs L k) u).toArray⟩ : ByteArray).size : Int) := by omega
        obtain ⟨VB, hVB⟩ : ∃ VB : ByteArray, ⟨(layL (crs L k) u).toArray⟩ = VB := ⟨_, rfl⟩
        rw [hVB] at LA hle
        clear hsz hVB h60
        go_wp2_with fail
        refine LA.out.mono ?_
        rintro e w3 ⟨rfl, hb3⟩
        have B3 := Lib.hid (bnext hB.out hb3)
        clear hb3
        go_wp2_with fail
        go_ret2
        exact ⟨none, 0, by rw [HFX.out.1, HFX.out.2]; rfl, by rw [HFX.out.2]; exact .inl rfl, bnext E0.out <| bnext B1.out <| B3.out⟩
    · have hge : ¬ (k : Int) < (m : Int) := by omega
      have hkn : k = m := by omega
      subst hkn
      have HG := Lib.hid (HGOO.out hF.out)
      have hpl : P.length = k := by rw [hP.out, lwTo_length]
      obtain ⟨a2, cap2, hv, hr⟩ := str_res (P := P) (by rw [hpl]; exact hO.out)
      rw [hpl] at hv
      cases hv
      have HR : Hid (StrRes w.heap.size P ao wr) := hr.mono (bnext E0.out <| bnext B1.out <| (Below.refl _ _)).size
      have HPL : Hid ((lwTo L u k).length = k) := lwTo_length _ _ _
      clear hpl hr
      go_wp2_with fail
      go_ret2
      exact ⟨ao, cp, by rw [HG.out.1, HG.out.2, HPL.out]; rfl, by rw [HG.out.2, ← hP.out]; exact HR.out, bnext E0.out <| bnext B1.out <| hB.out⟩
end Go.Proofs.YtbhjdhkabhafmaaDoor
