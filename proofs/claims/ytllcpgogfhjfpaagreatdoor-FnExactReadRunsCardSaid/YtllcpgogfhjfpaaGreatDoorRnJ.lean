/-
  The short text of a course by the program.
-/
import Derived.Test.YtllcpgogfhjfpaaGreatDoorRn
import Derived.Test.YtllcpgogfhjfpaaGreatDoorDecI
import Derived.Test.YtllcpgogfhjfpaaGreatDoorShelfT
import Derived.Test.YtllcpgogfhjfpaaGreatDoorWaVc
import Derived.Test.YtllcpgogfhjfpaaGreatDoorLw
namespace Go.Proofs.YtllcpgogfhjfpaaGreatDoor
open Go.ChangeShapes Go.WideShapes Go.ChangeAt Go.RowKit Go.Joins

theorem piece_low {s : ByteArray} (h : piecesB s = true) {c : UInt8} (hc : c ∈ s.data.toList) : c.toNat < 128 := by
  unfold piecesB at h
  rw [List.all_eq_true] at h
  have h1 := of_decide_eq_true (h c hc)
  have key : ∀ x : UInt8, qtr x ≠ 0 → x.toNat < 128 := fun x hx => by
    unfold qtr at hx
    by_cases e1 : x = 83
    · subst e1; decide
    by_cases e2 : x = 84
    · subst e2; decide
    by_cases e3 : x = 72
    · subst e3; decide
    by_cases e4 : x = 66
    · subst e4; decide
    by_cases e5 : x = 67
    · subst e5; decide
    exact absurd (by simp [e1, e2, e3, e4, e5]) hx
  exact key c h1
theorem full_not (T : ByteArray) {c : UInt8} {r : List UInt8} (h : T.data.toList = c :: r) : T.toList.isEmpty = false := by
  rw [ByteArray.toList_eq, h]; rfl
theorem head_slice (T : ByteArray) {c : UInt8} {r : List UInt8} (h : T.data.toList = c :: r) (w : World) : (Instr.slice 9 (.string T) none (some (.int .i64 1)) none).run Tryz.prog w = .ok (.string ⟨#[c]⟩) w := by
  have hl : T.data.toList.length = r.length + 1 := by rw [h]; rfl
  have hz : T.size = r.length + 1 := by rw [← hl]; simp
  have h1 : (1 : Int) ≤ (T.size : Int) := by omega
  have e : T.extract 0 1 = ⟨#[c]⟩ := by
    apply ByteArray.ext
    apply Array.toList_inj.1
    have : (T.extract 0 1).data.toList = T.data.toList.take 1 := by simp
    rw [this, h]
    rfl
  simp [go_sem, h1, e]
/-- The runs so far and the rest: all runs. -/
def RnRel (s : ByteArray) (P : List ByteArray) (T : ByteArray) : Prop := P.map (·.data.toList) ++ runsL T.data.toList = runsL s.data.toList ∧ (∀ c ∈ T.data.toList, c ∈ s.data.toList) ∧ P.length + T.size ≤ s.size ∧ (Lib.join (P.map (·.data.toList)) [32]).length ≤ 24 * P.length
theorem rn_next {s : ByteArray} {P : List ByteArray} {T U : ByteArray} {c : UInt8} {m : Nat} {Dt : ByteArray} (h : RnRel s P T) (hT : T.data.toList = List.replicate (m + 1) c ++ U.data.toList) (hU : U.data.toList.head? ≠ some c) (hD : (⟨(runT (m + 1) c).toArray⟩ : ByteArray) = Dt ++ ⟨#[c]⟩) (hds : Dt.size ≤ 21) : RnRel s (P ++ [Dt ++ ⟨#[c]⟩]) U := by
  obtain ⟨h1, h2, h3, h4⟩ := h
  have e : (Dt ++ ⟨#[c]⟩ : ByteArray).data.toList = runT (m + 1) c := by rw [← hD]
  have hl : T.size = m + 1 + U.size := by
    have := congrArg List.length hT
    simpa using this
  have hz : (runT (m + 1) c).length ≤ 22 := by
    rw [← e]
    have : (Dt ++ ⟨#[c]⟩ : ByteArray).data.toList.length = (Dt ++ ⟨#[c]⟩ : ByteArray).size := by rw [Array.length_toList]; rfl
    rw [this, sz_one]
    omega
  refine ⟨?_, fun x hx => h2 x (by rw [hT]; exact List.mem_append_right _ hx), by simp; omega, ?_⟩
  · rw [← h1, runs_step hT hU, List.map_append, List.append_assoc]
    simp only [List.map_cons, List.map_nil, e]
    rfl
  · rw [List.map_append, List.map_cons, List.map_nil, e]
    by_cases hP : P.map (·.data.toList) = []
    · rw [hP, join_empty]
      simp only [List.length_append, List.length_cons, List.length_nil]
      omega
    · rw [join_snoc _ _ hP]
      simp only [List.length_append, List.length_cons, List.length_nil]
      omega
set_option maxRecDepth 100000 in
set_option maxHeartbeats 6400000 in
theorem courseRuns_impl (s : ByteArray) (hs : s.size ≤ 1048576) (w : World) (hp : Pow10 w) : Calls Tryz.prog 13 #[.string s] w fun e w' => e = .returned (.string (shortS s)) ∧ Below w.heap.size w w' := by
  have C := Lib.hid (validCourse_impl s hs)
  have HP := Lib.hid hp
  clear hp
  cases h : okCr s
  · rw [h] at C
    have HS : Hid (shortS s = ⟨#[]⟩) := by show shortS s = _; simp [shortS, h]
    go_enter Tryz.func13, Tryz.ntmps13
    go_wp2_with fail
    refine (C.out _).mono ?_
    rintro e w1 ⟨rfl, hb1⟩
    have B1 := Lib.hid hb1
    clear hb1
    go_wp2
    go_ret
    exact ⟨by rw [HS.out]; rfl, B1.out⟩
  · rw [h] at C
    have HS : Hid (shortS s = shortT s) := by show shortS s = _; simp [shortS, h]
    obtain ⟨h1, h2, h3, _⟩ := okCr_facts h
    have HLO : Hid (∀ c ∈ s.data.toList, c.toNat < 128) := fun c hc => piece_low h3 hc
    clear h h3
    go_enter Tryz.func13, Tryz.ntmps13
    go_wp2_with fail
    refine (C.out _).mono ?_
    rintro e w1 ⟨rfl, hb1⟩
    have B1 := Lib.hid hb1
    have HP1 := Lib.hid (HP.out.later hb1)
    clear hb1
    go_wp2
    have S0 : w1.ownsRow w1.heap.size 9 1 (.slice none 0 0) 0 (strVals []) := World.ownsRow_nil _ _ _ _
    have SB : Below w1.heap.size w1 w1 := Below.refl _ _
    go_loopw [0, 3] (fun t v wr => ∃ (k : Nat) (P : List ByteArray) (T : ByteArray) (ao : Option Addr) (cp : Nat), t = .string T ∧ v = .slice ao k cp ∧ T.size ≤ 60 ∧ k ≤ 60 ∧ Hid (P.length = k) ∧ Hid (wr.ownsRow w1.heap.size 9 1 (.slice ao k cp) k (strVals P)) ∧ Hid (RnRel s P T) ∧ Hid (Below w1.heap.size w1 wr)) (fun t _ _ => match t with | .string T => T.size | _ => 0)
    case atStart => exact ⟨0, [], s, _, _, rfl, rfl, h2, by omega, rfl, S0, ⟨by simp, fun _ hc => hc, by simp, by simp [Lib.join]⟩, SB⟩
    case round =>
      obtain ⟨k, P, T, ao, cp, rfl, rfl, hT60, hk60, hPk, hO, hR, hB⟩ := hrel
      cases hTl : T.data.toList with
      | cons c r =>
        obtain ⟨i0, hi, hz0, hz1, hz2⟩ := info_parts infoStrB
        have hne2 := full_not T hTl
        have hne3 : (!T.toList.isEmpty) = true := by rw [hne2]; rfl
        obtain ⟨m, q, hm, hq⟩ := runs_split c (c :: r)
        cases m with
        | zero =>
          rw [List.replicate_zero, List.nil_append] at hm
          rw [← hm] at hq
          exact absurd rfl hq
        | succ m =>
          have hsl := head_slice T hTl
          have hc128 : c.toNat < 128 := HLO.out c (hR.out.2.1 c (by rw [hTl]; simp))
          have TL := Lib.hid (fun wx => Any.strings_TrimLeft_one Tryz.lays161 T c hc128 wx)
          rw [hTl, hm, trim_rep hq] at TL
          obtain ⟨U, hU⟩ : ∃ U : ByteArray, ⟨q.toArray⟩ = U := ⟨_, rfl⟩
          have hUq : U.data.toList = q := by rw [← hU]
          rw [hU] at TL
          have hTU : T.data.toList = List.replicate (m + 1) c ++ U.data.toList := by rw [hTl, hm, hUq]
          have hl : T.size = m + 1 + U.size := by
            have := congrArg List.length hTU
            simpa using this
          have CD := Lib.hid (fun wx (hx : Pow10 wx) => decimal_impl ((T.size : Int) - (U.size : Int)) (by omega) (by omega) wx hx)
          obtain ⟨Dt, hDt⟩ : ∃ Dt : ByteArray, ⟨(Lib.itoa ((T.size : Int) - (U.size : Int))).toArray⟩ = Dt := ⟨_, rfl⟩
          have hds : Dt.size ≤ 21 := by
            have h1 := Lib.itoa_length_le ((T.size : Int) - (U.size : Int)) (by omega) (by omega)
            rw [← hDt]
            show (Lib.itoa _).toArray.size ≤ 21
            simpa using h1
          rw [hDt] at CD
          have HRT : (⟨(runT (m + 1) c).toArray⟩ : ByteArray) = Dt ++ ⟨#[c]⟩ := by rw [← hDt, runT, show ((m + 1 : Nat) : Int) = (T.size : Int) - (U.size : Int) by omega]; exact ba_snoc _ c
          have HX := Lib.hid (rn_next hR.out hTU (by rw [hUq]; exact hq) HRT hds)
          have hwr : IntKind.i64.wrap ((T.size : Int) - (U.size : Int)) = (T.size : Int) - (U.size : Int) := IntWalk.i64_in _ (by omega)
          have hds1 : Dt.size ≤ 9223372036854775806 := by omega
          have hkT : k + T.size ≤ 60 := by have := hR.out.2.2.1; have := hPk.out; omega
          have c3 : Hid (k + 1 ≤ maxLen) := by show k + 1 ≤ maxLen; unfold maxLen; omega
          have HLEN : Hid (U.size < T.size) := by show U.size < T.size; omega
          have hU60 : U.size ≤ 60 := by omega
          have hk1 : k + 1 ≤ 60 := by omega
          clear hTl hm hq hUq hTU hDt HRT hc128 hU hl hkT
          go_wp2_with fail
          refine (TL.out _).mono ?_
          rintro e w2 ⟨rfl, rfl⟩
          go_wp2_with fail
          refine (CD.out _ (HP1.out.later hB.out)).mono ?_
          rintro e w3 ⟨rfl, hb3⟩
          have O3 := Lib.hid (own_later hO.out hb3)
          have B3 := Lib.hid (bnext hB.out hb3)
          have z3 : w1.heap.size ≤ w3.heap.size := B3.out.size
          clear hb3
          obtain ⟨VB, hVB⟩ : ∃ VB : ByteArray, Dt ++ ⟨#[c]⟩ = VB := ⟨_, rfl⟩
          rw [hVB] at HX
          go_wp2_with (at_builtin; go_must ((refine wpList_append_own _ rfl _ _ 25 rfl w1.heap.size 9 i0 (.string ⟨#[]⟩) 1 16 Tryz.underlying25 hi hz0 hz1 hz2 rfl (by decide) (.slice ao k cp) k (strVals P) rfl (O3.out.alloc _) ⟨w3.heap.size, 0, none⟩ 1 1 [.string VB] rfl rfl ((litS w1.heap.size w3 VB z3).cells rfl) (by simp [Value.oneCell']) c3.out (by omega) (by simp; omega) ?_; intro v5 w5 hown5 hgrow5 _; obtain ⟨g5, cp5, hv5⟩ := own_form8S hown5 (Nat.succ_ne_zero k); subst hv5; have O5 := Lib.hid hown5; have B5 : Hid (Below w1.heap.size w1 w5) := (B3.out.alloc z3 _).grown hgrow5 (by simp; omega) (fun q hq => (O3.out.lt q hq).1); clear hown5 hgrow5)))
          go_roundw
          case rel => exact ⟨k + 1, P ++ [VB], U, _, _, rfl, rfl, hU60, hk1, by show (P ++ [VB]).length = k + 1; rw [List.length_append, hPk.out]; rfl, by have := O5.out; rw [strVals_snoc] at this; exact this, HX.out, B5.out⟩
          case measure => exact HLEN.out
      | nil =>
        have hTe : T = ⟨#[]⟩ := ByteArray.ext (Array.toList_inj.1 hTl)
        subst hTe
        have HR : Hid (P.map (·.data.toList) = runsL s.data.toList) := by
          have := hR.out.1
          rw [hTl, runsL_nil, List.append_nil] at this
          exact this
        have HZ : (Lib.join (P.map (·.data.toList)) [32]).length ≤ 24 * P.length := hR.out.2.2.2
        have HJ : Hid ((⟨(Lib.join (P.map (·.data.toList)) (⟨#[32]⟩ : ByteArray).data.toList).toArray⟩ : ByteArray) = shortT s) := by show _ = _; rw [HR.out]; rfl
        have hPn : P.length ≠ 0 := fun e => by
          have hn := List.length_eq_zero_iff.1 e
          have h5 := HR.out
          rw [hn] at h5
          cases hsl : s.data.toList with
          | nil =>
            have : s.data.toList.length = s.size := by simp
            rw [hsl] at this
            simp at this
            omega
          | cons x l => rw [hsl, runsL_cons] at h5; simp at h5
        have hcells0 := hO.out
        obtain ⟨g, cp', hgv⟩ := own_form8S hO.out (by have := hPk.out; omega)
        cases hgv
        have hcells : ∀ (j : Nat) x, P[j]? = some x → wr.cell? ⟨g, 0 + j, none⟩ = some (.string x) := fun j x hx => by
          have hl := (List.getElem?_eq_some_iff.1 hx).1
          rw [Nat.zero_add, World.ownsRow.cellAt hO.out j (by have := hPk.out; omega)]
          simp [strVals, hx]
        obtain ⟨hbk, hcap⟩ : g < wr.heap.size ∧ k ≤ cp := by
          rcases hO.out.2 with ⟨hv, _⟩ | ⟨g', c', cur, hv, _, hg, hc', _⟩
          · cases hv
          · cases hv
            exact ⟨(Array.getElem?_eq_some_iff.1 hg).1, hc'⟩
        have hPk' := hPk.out
        have J := Tryz.strings_Join g 0 cp P ⟨#[32]⟩ wr hcells hbk (by omega) (by omega) (by show (Lib.join _ [32]).length ≤ _; omega)
        rw [HJ.out, hPk'] at J
        have JJ := Lib.hid J
        clear J hcells hcells0 hbk hcap HZ hPn hTl hPk'
        go_wp2_with fail
        refine JJ.out.mono ?_
        rintro e w2 ⟨rfl, hb2⟩
        have B2 := Lib.hid (bnext B1.out (bnext hB.out hb2))
        clear hb2
        go_wp2
        go_ret
        exact ⟨by rw [HS.out]; rfl, B2.out⟩
end Go.Proofs.YtllcpgogfhjfpaaGreatDoor
