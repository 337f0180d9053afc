/-
  The short text of a course, as told, and the model's word.
-/
import Derived.Test.YtllcpgogfhjfpaaGreatDoorWaVc
import Derived.Test.YtllcpgogfhjfpaaGreatDoorDec2
import Derived.Lib.Join
import Derived.Lib.TrimByte
import Derived.Lib.ItoaLen
import Derived.Deep.QuietTactic
import Derived.BigQuiet
import Derived.Deep.RegionWith
import Derived.Deep.RegionHeld3
namespace Go.Proofs.YtllcpgogfhjfpaaGreatDoor
open Go.ChangeShapes Go.WideShapes Go.ChangeAt Go.RowKit Go.Joins


/-- One run: how many, and of which piece. -/
def runT (n : Nat) (c : UInt8) : List UInt8 := Lib.itoa (n : Int) ++ [c]
/-- The runs of a row of pieces. -/
def runsL : List UInt8 → List (List UInt8)
  | [] => []
  | c :: r => runT (1 + (r.takeWhile (· == c)).length) c :: runsL (r.dropWhile (· == c))
termination_by l => l.length
decreasing_by
  have : (r.dropWhile (· == c)).length ≤ r.length := (List.dropWhile_suffix _).length_le
  simp; omega
theorem runsL_nil : runsL [] = [] := by rw [runsL]
theorem runsL_cons (c : UInt8) (r : List UInt8) : runsL (c :: r) = runT (1 + (r.takeWhile (· == c)).length) c :: runsL (r.dropWhile (· == c)) := by rw [runsL]
theorem while_rep {c : UInt8} {q : List UInt8} (hq : q.head? ≠ some c) : ∀ m : Nat, (List.replicate m c ++ q).takeWhile (· == c) = List.replicate m c ∧ (List.replicate m c ++ q).dropWhile (· == c) = q
  | 0 => by
    cases q with
    | nil => simp
    | cons x l =>
      have hx : ¬ x = c := fun e => hq (by rw [e]; rfl)
      simp [hx]
  | m + 1 => by
    have ih := while_rep hq m
    rw [List.replicate_succ, List.cons_append]
    simp [ih.1, ih.2]
theorem runs_step {c : UInt8} {l q : List UInt8} {m : Nat} (h : l = List.replicate (m + 1) c ++ q) (hq : q.head? ≠ some c) : runsL l = runT (m + 1) c :: runsL q := by
  have h2 := while_rep hq m
  rw [h, List.replicate_succ, List.cons_append, runsL_cons, h2.1, h2.2, List.length_replicate, Nat.add_comm]
theorem trim_rep {c : UInt8} {q : List UInt8} (hq : q.head? ≠ some c) (m : Nat) : Lib.trimLeftB (List.replicate m c ++ q) c = q := (while_rep hq m).2
/-- Every text begins with a run. -/
theorem runs_split (c : UInt8) : ∀ l : List UInt8, ∃ m q, l = List.replicate m c ++ q ∧ q.head? ≠ some c
  | [] => ⟨0, [], rfl, by simp⟩
  | x :: l => by
    by_cases e : x = c
    · subst e
      obtain ⟨m, q, h, hq⟩ := runs_split x l
      exact ⟨m + 1, q, by rw [List.replicate_succ, List.cons_append, ← h], hq⟩
    · exact ⟨0, x :: l, rfl, by simpa using e⟩
/-- The short text. -/
def shortT (s : ByteArray) : ByteArray := ⟨(Lib.join (runsL s.data.toList) [32]).toArray⟩
def shortS (s : ByteArray) : ByteArray := if okCr s = true then shortT s else ⟨#[]⟩
theorem join_snoc (R : List (List UInt8)) (x : List UInt8) (h : R ≠ []) : Lib.join (R ++ [x]) [32] = Lib.join R [32] ++ [32] ++ x := by
  cases R with
  | nil => exact absurd rfl h
  | cons y r =>
    rw [List.cons_append, Lib.join_cons, Lib.join_cons]
    simp [Lib.joinTail]
theorem join_empty (x : List UInt8) : Lib.join ([] ++ [x]) [32] = x := by rw [List.nil_append, Lib.join_one]
theorem runT_ne (n : Nat) (c : UInt8) : runT n c ≠ [] := by simp [runT]
theorem join_ne {R : List (List UInt8)} (h : R ≠ []) (h2 : ∀ x ∈ R, x ≠ []) : Lib.join R [32] ≠ [] := by
  cases R with
  | nil => exact absurd rfl h
  | cons y r =>
    rw [Lib.join_cons]
    have := h2 y (by simp)
    simp [this]
theorem drop_at {s : ByteArray} {i : Nat} (h : i < s.size) : s.data.toList.drop i = (s[i]'h) :: s.data.toList.drop (i + 1) := by
  have hl : i < s.data.toList.length := by simpa using h
  rw [List.drop_eq_getElem_cons hl]
  rfl
theorem rep_next {l : List UInt8} {c : UInt8} {m : Nat} {q : List UInt8} (h : l = List.replicate m c ++ c :: q) : l = List.replicate (m + 1) c ++ q := by
  rw [h, List.replicate_succ', List.append_assoc, List.singleton_append]

theorem ba_snoc (l : List UInt8) (x : UInt8) : (⟨(l ++ [x]).toArray⟩ : ByteArray) = ⟨l.toArray⟩ ++ ⟨#[x]⟩ := by
  apply ByteArray.ext
  simp
theorem sz_one (a : ByteArray) (x : UInt8) : (a ++ ⟨#[x]⟩).size = a.size + 1 := by rw [ByteArray.size_append]; rfl
theorem sz_three (a b : ByteArray) (x : UInt8) : (a ++ (b ++ ⟨#[x]⟩)).size = a.size + (b.size + 1) := by rw [ByteArray.size_append, sz_one]
theorem ba_nil (b : ByteArray) : (⟨#[]⟩ : ByteArray) ++ b = b := by
  apply ByteArray.ext
  simp
theorem ba_three (a b c : List UInt8) : ((⟨a.toArray⟩ : ByteArray) ++ ⟨b.toArray⟩) ++ ⟨c.toArray⟩ = ⟨(a ++ b ++ c).toArray⟩ := by
  apply ByteArray.ext
  simp
theorem ext_one (s : ByteArray) (i : Nat) (h : i < s.size) : s.extract i (i + 1) = ⟨#[s[i]'h]⟩ := by
  apply ByteArray.ext
  apply Array.toList_inj.1
  have e := drop_at h
  have : (s.extract i (i + 1)).data.toList = (s.data.toList.drop i).take 1 := by simp
  rw [this, e]
  rfl
theorem slice_one (s : ByteArray) (i : Nat) (h : i < s.size) (w : World) : (Instr.slice 9 (.string s) (some (.int .i64 (i : Int))) (some (.int .i64 ((i : Int) + 1))) none).run Tryz.prog w = .ok (.string ⟨#[s[i]'h]⟩) w := by
  have h1 : (i : Int) + 1 ≤ (s.size : Int) := by omega
  have h2 : ((i : Int) + 1).toNat = i + 1 := by omega
  have h4 : (i : Int) ≤ (i : Int) + 1 := by omega
  simp [go_sem, h1, h2, h4, ext_one s i h]
set_option maxRecDepth 100000 in
set_option maxHeartbeats 6400000 in
theorem runs_spec (s : ByteArray) (hs : s.size ≤ 60) (w : World) : Calls Tryz.prog 10 #[.string s] w fun e w' => e = .returned (.string (shortT s)) ∧ Below w.heap.size w w' := by
  go_enter Tryz.func10, Tryz.ntmps10
  go_wp2
  go_loopw [3, 4] (fun v u wr => ∃ (i : Nat) (O : ByteArray), i ≤ s.size ∧ O.size ≤ 24 * i ∧ v = .string O ∧ u = .int .i64 (i : Int) ∧ Hid (∃ R, R ++ runsL (s.data.toList.drop i) = runsL s.data.toList ∧ O = ⟨(Lib.join R [32]).toArray⟩ ∧ ∀ x ∈ R, x ≠ []) ∧ Hid (Below w.heap.size w wr)) (fun _ u _ => s.size - (intOf u).toNat)
  case atStart => exact ⟨0, ⟨#[]⟩, Nat.zero_le _, Nat.le_refl _, rfl, rfl, ⟨[], by simp, rfl, by simp⟩, Below.refl _ _⟩
  case round =>
    obtain ⟨i, O, hi, hOs, rfl, rfl, hR, hB⟩ := hrel
    by_cases hit : i < s.size
    · have hit' : (i : Int) < (s.size : Int) := by omega
      have hi0 : (0 : Int) ≤ (i : Int) := by omega
      go_wp2
      go_loopw [5] (fun u wq => ∃ j : Nat, i ≤ j ∧ j ≤ s.size ∧ u = .int .i64 (j : Int) ∧ Hid (s.data.toList.drop i = List.replicate (j - i) (s[i]'hit) ++ s.data.toList.drop j) ∧ Hid (Below w.heap.size w wq)) (fun u _ => s.size - (intOf u).toNat)
      case atStart => exact ⟨i, Nat.le_refl _, by omega, rfl, by show _ = _; simp, hB.out⟩
      case round =>
        clear hB
        obtain ⟨j, hj1, hj2, rfl, hD, hB⟩ := hrel
        by_cases hjt : j < s.size
        · have hjt' : (j : Int) < (s.size : Int) := by omega
          have hj0 : (0 : Int) ≤ (j : Int) := by omega
          by_cases hc : s[j]'hjt = s[i]'hit
          · have hcd : ((s[j]'hjt).toNat : Int) = ((s[i]'hit).toNat : Int) := by rw [hc]
            have HN : Hid (s.data.toList.drop i = List.replicate (j + 1 - i) (s[i]'hit) ++ s.data.toList.drop (j + 1)) := by
              show _ = _
              rw [show j + 1 - i = (j - i) + 1 by omega]
              refine rep_next ?_
              rw [hD.out, drop_at hjt, hc]
            clear hc
            go_wp2
            go_quiet (fail "none")
            all_goals go_wp2
            all_goals
              go_roundw
              case rel => exact ⟨j + 1, by omega, by omega, by go_num, HN.out, below_drewN hB.out _⟩
              case measure => simp [intOf]; omega
          · have hcd : ¬ ((s[j]'hjt).toNat : Int) = ((s[i]'hit).toNat : Int) := fun h => hc (UInt8.toNat_inj.1 (by omega))
            have hij : i < j := by
              rcases Nat.lt_or_ge i j with h | h
              · exact h
              · have e : j = i := by omega
                subst e
                exact absurd rfl hc
            have HN : Hid (runsL (s.data.toList.drop i) = runT (j - i) (s[i]'hit) :: runsL (s.data.toList.drop j)) := by
              have e := hD.out
              have e2 : j - i = (j - i - 1) + 1 := by omega
              rw [e2] at e
              show _ = _
              rw [runs_step e (by rw [drop_at hjt]; simpa using hc), ← e2]
            clear hc
            obtain ⟨R, h1, h2, h3⟩ := hR.out
            clear hR
            have hle : j - i ≤ 60 := by omega
            have CD := Lib.hid (fun wx => dec_spec ((j : Int) - (i : Int)) (by omega) (by omega) wx)
            obtain ⟨Dt, hDt⟩ : ∃ Dt : ByteArray, ⟨(Lib.itoa ((j : Int) - (i : Int))).toArray⟩ = Dt := ⟨_, rfl⟩
            have hds : Dt.size ≤ 21 := by
              have h1 := Lib.itoa_length_le ((j : Int) - (i : Int)) (by omega) (by omega)
              rw [← hDt]
              show (Lib.itoa _).toArray.size ≤ 21
              simpa using h1
            rw [hDt] at CD
            have HRT : Hid (∀ x, (⟨(runT (j - i) x).toArray⟩ : ByteArray) = Dt ++ ⟨#[x]⟩) := fun x => by rw [← hDt, runT, show ((j - i : Nat) : Int) = (j : Int) - (i : Int) by omega]; exact ba_snoc _ x
            have hsl := slice_one s i hit
            have hwr : IntKind.i64.wrap ((j : Int) - (i : Int)) = (j : Int) - (i : Int) := IntWalk.i64_in _ (by omega)
            have hwr2 : IntKind.i64.wrap ((i : Int) + 1) = (i : Int) + 1 := IntWalk.i64_in _ (by omega)
            have hij0 : (0 : Int) ≤ (j : Int) - (i : Int) := by omega
            clear hDt hD
            by_cases hRe : R = []
            · subst hRe
              have e0 : O = ⟨#[]⟩ := h2
              subst e0
              have HZ : Hid ((⟨#[]⟩ ++ (Dt ++ ⟨#[s[i]'hit]⟩) : ByteArray).size ≤ 24 * j) := by show _ ≤ _; rw [sz_three]; show 0 + _ ≤ _; omega
              have HX : Hid (∃ R, R ++ runsL (s.data.toList.drop j) = runsL s.data.toList ∧ (⟨#[]⟩ ++ (Dt ++ ⟨#[s[i]'hit]⟩) : ByteArray) = ⟨(Lib.join R [32]).toArray⟩ ∧ ∀ x ∈ R, x ≠ []) := by
                refine ⟨[runT (j - i) (s[i]'hit)], by rw [← h1, HN.out]; rfl, ?_, by simp [runT]⟩
                rw [Lib.join_one, HRT.out]
                exact ba_nil _
              clear h1 h2 h3 HN HRT
              go_wp2
              go_quiet (fail "none")
              all_goals go_wp2
              refine wp_region_held_drew (S := fun W => Below w.heap.size w W) (by kernel_rfl) ?_ (fun hHeld => ?_)
              · exact (below_drewN hB.out _).drew
              refine wpAnyH_take (i := 0) (v := .string (⟨#[]⟩ : ByteArray)) rfl (by kernel_rfl) (by kernel_rfl) (by kernel_rfl) (fun _ _ _ h => h) (Or.inl ⟨by kernel_rfl, ?_⟩) (by assumption) ?_
              · intro w hSw
                try dsimp only at hSw
                skip
                go_simp
              try simp only [Act.put, List.setIfInBounds_toArray, List.set_cons_zero, List.set_cons_succ, List.getElem_toArray, List.getElem_cons_zero]
              refine wpAnyH_take (i := 1) (v := .int .i64 (j : Int)) rfl (by kernel_rfl) (by kernel_rfl) (by kernel_rfl) (fun _ _ _ h => h) (Or.inl ⟨by kernel_rfl, ?_⟩) (by assumption) ?_
              · intro w hSw
                try dsimp only at hSw
                skip
                go_simp
              try simp only [Act.put, List.setIfInBounds_toArray, List.set_cons_zero, List.set_cons_succ, List.getElem_toArray, List.getElem_cons_zero, List.getElem_cons_succ]
              refine wpAnyH_take (i := 2) (v := .int .i64 (i : Int)) rfl (by kernel_rfl) (by kernel_rfl) (by kernel_rfl) (fun _ _ _ h => h) (Or.inl ⟨by kernel_rfl, ?_⟩) (by assumption) ?_
              · intro w hSw
                try dsimp only at hSw
                skip
                go_simp
              try simp only [Act.put, List.setIfInBounds_toArray, List.set_cons_zero, List.set_cons_succ, List.getElem_toArray, List.getElem_cons_zero, List.getElem_cons_succ]
              refine wpAnyH_take (i := 3) (v := .int .i64 ((j : Int) - (i : Int))) rfl (by kernel_rfl) (by kernel_rfl) (by kernel_rfl) (fun _ _ _ h => h) (Or.inl ⟨by kernel_rfl, ?_⟩) (by assumption) ?_
              · intro w hSw
                try dsimp only at hSw
                skip
                go_simp
              try simp only [Act.put, List.setIfInBounds_toArray, List.set_cons_zero, List.set_cons_succ, List.getElem_toArray, List.getElem_cons_zero, List.getElem_cons_succ]
              refine wpAnyH_take (i := 5) (v := .string s) rfl (by kernel_rfl) (by kernel_rfl) (by kernel_rfl) (fun _ _ _ h => h) (Or.inl ⟨by kernel_rfl, ?_⟩) (by assumption) ?_
              · intro w hSw
                try dsimp only at hSw
                skip
                go_simp
              try simp only [Act.put, List.setIfInBounds_toArray, List.set_cons_zero, List.set_cons_succ, List.getElem_toArray, List.getElem_cons_zero, List.getElem_cons_succ]
              refine wpAnyH_take (i := 6) (v := .int .i64 (i : Int)) rfl (by kernel_rfl) (by kernel_rfl) (by kernel_rfl) (fun _ _ _ h => h) (Or.inl ⟨by kernel_rfl, ?_⟩) (by assumption) ?_
              · intro w hSw
                try dsimp only at hSw
                skip
                go_simp
              try simp only [Act.put, List.setIfInBounds_toArray, List.set_cons_zero, List.set_cons_succ, List.getElem_toArray, List.getElem_cons_zero, List.getElem_cons_succ]
              refine wpAnyH_take (i := 7) (v := .int .i64 (i : Int)) rfl (by kernel_rfl) (by kernel_rfl) (by kernel_rfl) (fun _ _ _ h => h) (Or.inl ⟨by kernel_rfl, ?_⟩) (by assumption) ?_
              · intro w hSw
                try dsimp only at hSw
                skip
                go_simp
              try simp only [Act.put, List.setIfInBounds_toArray, List.set_cons_zero, List.set_cons_succ, List.getElem_toArray, List.getElem_cons_zero, List.getElem_cons_succ]
              refine wpAnyH_take (i := 8) (v := .int .i64 ((i : Int) + 1)) rfl (by kernel_rfl) (by kernel_rfl) (by kernel_rfl) (fun _ _ _ h => h) (Or.inl ⟨by kernel_rfl, ?_⟩) (by assumption) ?_
              · intro w hSw
                try dsimp only at hSw
                skip
                go_simp
              try simp only [Act.put, List.setIfInBounds_toArray, List.set_cons_zero, List.set_cons_succ, List.getElem_toArray, List.getElem_cons_zero, List.getElem_cons_succ]
              refine wpAnyH_take (i := 9) (v := .string ⟨#[s[i]'hit]⟩) rfl (by kernel_rfl) (by kernel_rfl) (by kernel_rfl) (fun _ _ _ h => h) (Or.inl ⟨by kernel_rfl, ?_⟩) (by assumption) ?_
              · intro w hSw
                try dsimp only at hSw
                skip
                go_simp
              try simp only [Act.put, List.setIfInBounds_toArray, List.set_cons_zero, List.set_cons_succ, List.getElem_toArray, List.getElem_cons_zero, List.getElem_cons_succ]
              refine wpAnyH_ready (rs := [4]) (by kernel_rfl) (by simp) ?_
              refine AllReadyH.cons rfl (fun K hK => ?_) AllReadyH.nil
              go_simp
              go_at_call 15
              refine (CD.out _).mono ?_
              rintro e w1 ⟨rfl, hb⟩
              refine hK.out _ _ ?_ (fun hHeld' => ?_)
              · exact bnext hHeld hb
              clear hK K hHeld
              have hHeld := hHeld'
              clear hHeld'
              try simp only [Act.put, List.setIfInBounds_toArray, List.set_cons_zero, List.set_cons_succ, List.getElem_toArray, List.getElem_cons_zero, List.getElem_cons_succ]
              refine wpAnyH_take (i := 10) (v := .string (Dt ++ ⟨#[s[i]'hit]⟩)) rfl (by kernel_rfl) (by kernel_rfl) (by kernel_rfl) (fun _ _ _ h => h) (Or.inl ⟨by kernel_rfl, ?_⟩) (by assumption) ?_
              · intro w hSw
                try dsimp only at hSw
                skip
                go_simp
                try omega
              try simp only [Act.put, List.setIfInBounds_toArray, List.set_cons_zero, List.set_cons_succ, List.getElem_toArray, List.getElem_cons_zero, List.getElem_cons_succ]
              refine wpAnyH_take (i := 11) (v := .string ((⟨#[]⟩ : ByteArray) ++ (Dt ++ ⟨#[s[i]'hit]⟩))) rfl (by kernel_rfl) (by kernel_rfl) (by kernel_rfl) (fun _ _ _ h => h) (Or.inl ⟨by kernel_rfl, ?_⟩) (by assumption) ?_
              · intro w hSw
                try dsimp only at hSw
                skip
                go_simp
                try omega
              try simp only [Act.put, List.setIfInBounds_toArray, List.set_cons_zero, List.set_cons_succ, List.getElem_toArray, List.getElem_cons_zero, List.getElem_cons_succ]
              refine wpAnyH_take (i := 12) (v := .string ((⟨#[]⟩ : ByteArray) ++ (Dt ++ ⟨#[s[i]'hit]⟩))) rfl (by kernel_rfl) (by kernel_rfl) (by kernel_rfl) (fun _ _ _ h => h) (Or.inl ⟨by kernel_rfl, ?_⟩) (by assumption) ?_
              · intro w hSw
                try dsimp only at hSw
                skip
                go_simp
              try simp only [Act.put, List.setIfInBounds_toArray, List.set_cons_zero, List.set_cons_succ, List.getElem_toArray, List.getElem_cons_zero, List.getElem_cons_succ]
              refine wpAnyH_done (by kernel_rfl) ?_ _
              go_wp2
              go_roundw
              case rel => exact ⟨j, _, by omega, HZ.out, rfl, by go_num, HX.out, hHeld⟩
              case measure => simp [intOf]; omega
            · have hne : ¬ O = ⟨#[]⟩ := fun e => join_ne hRe h3 (by rw [e] at h2; have := congrArg ByteArray.data h2; simpa using this.symm)
              have hne2 : O.toList.isEmpty = false := by
                rw [ByteArray.toList_eq]
                cases hl : O.data.toList with
                | nil => exact absurd (ByteArray.ext (Array.toList_inj.1 hl)) hne
                | cons _ _ => rfl
              have hne3 : (!O.toList.isEmpty) = true := by rw [hne2]; rfl
              have HZ : Hid (((O ++ ⟨#[32]⟩) ++ (Dt ++ ⟨#[s[i]'hit]⟩) : ByteArray).size ≤ 24 * j) := by show _ ≤ _; rw [sz_three, sz_one]; omega
              have HX : Hid (∃ R, R ++ runsL (s.data.toList.drop j) = runsL s.data.toList ∧ ((O ++ ⟨#[32]⟩) ++ (Dt ++ ⟨#[s[i]'hit]⟩) : ByteArray) = ⟨(Lib.join R [32]).toArray⟩ ∧ ∀ x ∈ R, x ≠ []) := by
                refine ⟨R ++ [runT (j - i) (s[i]'hit)], by rw [← h1, HN.out, List.append_assoc]; rfl, ?_, ?_⟩
                · rw [join_snoc _ _ hRe, h2, ← HRT.out]
                  exact ba_three _ _ _
                · intro x hx
                  rcases List.mem_append.1 hx with h | h
                  · exact h3 x h
                  · rw [List.mem_singleton.1 h]; exact runT_ne _ _
              clear h1 h2 h3 HN HRT hRe
              go_wp2
              go_quiet (fail "none")
              all_goals go_wp2
              refine wp_region_held_drew (S := fun W => Below w.heap.size w W) (by kernel_rfl) ?_ (fun hHeld => ?_)
              · exact (below_drewN hB.out _).drew
              refine wpAnyH_take (i := 0) (v := .string (O ++ ⟨#[32]⟩)) rfl (by kernel_rfl) (by kernel_rfl) (by kernel_rfl) (fun _ _ _ h => h) (Or.inl ⟨by kernel_rfl, ?_⟩) (by assumption) ?_
              · intro w hSw
                try dsimp only at hSw
                skip
                go_simp
              try simp only [Act.put, List.setIfInBounds_toArray, List.set_cons_zero, List.set_cons_succ, List.getElem_toArray, List.getElem_cons_zero]
              refine wpAnyH_take (i := 1) (v := .int .i64 (j : Int)) rfl (by kernel_rfl) (by kernel_rfl) (by kernel_rfl) (fun _ _ _ h => h) (Or.inl ⟨by kernel_rfl, ?_⟩) (by assumption) ?_
              · intro w hSw
                try dsimp only at hSw
                skip
                go_simp
              try simp only [Act.put, List.setIfInBounds_toArray, List.set_cons_zero, List.set_cons_succ, List.getElem_toArray, List.getElem_cons_zero, List.getElem_cons_succ]
              refine wpAnyH_take (i := 2) (v := .int .i64 (i : Int)) rfl (by kernel_rfl) (by kernel_rfl) (by kernel_rfl) (fun _ _ _ h => h) (Or.inl ⟨by kernel_rfl, ?_⟩) (by assumption) ?_
              · intro w hSw
                try dsimp only at hSw
                skip
                go_simp
              try simp only [Act.put, List.setIfInBounds_toArray, List.set_cons_zero, List.set_cons_succ, List.getElem_toArray, List.getElem_cons_zero, List.getElem_cons_succ]
              refine wpAnyH_take (i := 3) (v := .int .i64 ((j : Int) - (i : Int))) rfl (by kernel_rfl) (by kernel_rfl) (by kernel_rfl) (fun _ _ _ h => h) (Or.inl ⟨by kernel_rfl, ?_⟩) (by assumption) ?_
              · intro w hSw
                try dsimp only at hSw
                skip
                go_simp
              try simp only [Act.put, List.setIfInBounds_toArray, List.set_cons_zero, List.set_cons_succ, List.getElem_toArray, List.getElem_cons_zero, List.getElem_cons_succ]
              refine wpAnyH_take (i := 5) (v := .string s) rfl (by kernel_rfl) (by kernel_rfl) (by kernel_rfl) (fun _ _ _ h => h) (Or.inl ⟨by kernel_rfl, ?_⟩) (by assumption) ?_
              · intro w hSw
                try dsimp only at hSw
                skip
                go_simp
              try simp only [Act.put, List.setIfInBounds_toArray, List.set_cons_zero, List.set_cons_succ, List.getElem_toArray, List.getElem_cons_zero, List.getElem_cons_succ]
              refine wpAnyH_take (i := 6) (v := .int .i64 (i : Int)) rfl (by kernel_rfl) (by kernel_rfl) (by kernel_rfl) (fun _ _ _ h => h) (Or.inl ⟨by kernel_rfl, ?_⟩) (by assumption) ?_
              · intro w hSw
                try dsimp only at hSw
                skip
                go_simp
              try simp only [Act.put, List.setIfInBounds_toArray, List.set_cons_zero, List.set_cons_succ, List.getElem_toArray, List.getElem_cons_zero, List.getElem_cons_succ]
              refine wpAnyH_take (i := 7) (v := .int .i64 (i : Int)) rfl (by kernel_rfl) (by kernel_rfl) (by kernel_rfl) (fun _ _ _ h => h) (Or.inl ⟨by kernel_rfl, ?_⟩) (by assumption) ?_
              · intro w hSw
                try dsimp only at hSw
                skip
                go_simp
              try simp only [Act.put, List.setIfInBounds_toArray, List.set_cons_zero, List.set_cons_succ, List.getElem_toArray, List.getElem_cons_zero, List.getElem_cons_succ]
              refine wpAnyH_take (i := 8) (v := .int .i64 ((i : Int) + 1)) rfl (by kernel_rfl) (by kernel_rfl) (by kernel_rfl) (fun _ _ _ h => h) (Or.inl ⟨by kernel_rfl, ?_⟩) (by assumption) ?_
              · intro w hSw
                try dsimp only at hSw
                skip
                go_simp
              try simp only [Act.put, List.setIfInBounds_toArray, List.set_cons_zero, List.set_cons_succ, List.getElem_toArray, List.getElem_cons_zero, List.getElem_cons_succ]
              refine wpAnyH_take (i := 9) (v := .string ⟨#[s[i]'hit]⟩) rfl (by kernel_rfl) (by kernel_rfl) (by kernel_rfl) (fun _ _ _ h => h) (Or.inl ⟨by kernel_rfl, ?_⟩) (by assumption) ?_
              · intro w hSw
                try dsimp only at hSw
                skip
                go_simp
              try simp only [Act.put, List.setIfInBounds_toArray, List.set_cons_zero, List.set_cons_succ, List.getElem_toArray, List.getElem_cons_zero, List.getElem_cons_succ]
              refine wpAnyH_ready (rs := [4]) (by kernel_rfl) (by simp) ?_
              refine AllReadyH.cons rfl (fun K hK => ?_) AllReadyH.nil
              go_simp
              go_at_call 15
              refine (CD.out _).mono ?_
              rintro e w1 ⟨rfl, hb⟩
              refine hK.out _ _ ?_ (fun hHeld' => ?_)
              · exact bnext hHeld hb
              clear hK K hHeld
              have hHeld := hHeld'
              clear hHeld'
              try simp only [Act.put, List.setIfInBounds_toArray, List.set_cons_zero, List.set_cons_succ, List.getElem_toArray, List.getElem_cons_zero, List.getElem_cons_succ]
              refine wpAnyH_take (i := 10) (v := .string (Dt ++ ⟨#[s[i]'hit]⟩)) rfl (by kernel_rfl) (by kernel_rfl) (by kernel_rfl) (fun _ _ _ h => h) (Or.inl ⟨by kernel_rfl, ?_⟩) (by assumption) ?_
              · intro w hSw
                try dsimp only at hSw
                skip
                go_simp
                try omega
              try simp only [Act.put, List.setIfInBounds_toArray, List.set_cons_zero, List.set_cons_succ, List.getElem_toArray, List.getElem_cons_zero, List.getElem_cons_succ]
              refine wpAnyH_take (i := 11) (v := .string ((O ++ ⟨#[32]⟩) ++ (Dt ++ ⟨#[s[i]'hit]⟩))) rfl (by kernel_rfl) (by kernel_rfl) (by kernel_rfl) (fun _ _ _ h => h) (Or.inl ⟨by kernel_rfl, ?_⟩) (by assumption) ?_
              · intro w hSw
                try dsimp only at hSw
                skip
                go_simp
                try omega
              try simp only [Act.put, List.setIfInBounds_toArray, List.set_cons_zero, List.set_cons_succ, List.getElem_toArray, List.getElem_cons_zero, List.getElem_cons_succ]
              refine wpAnyH_take (i := 12) (v := .string ((O ++ ⟨#[32]⟩) ++ (Dt ++ ⟨#[s[i]'hit]⟩))) rfl (by kernel_rfl) (by kernel_rfl) (by kernel_rfl) (fun _ _ _ h => h) (Or.inl ⟨by kernel_rfl, ?_⟩) (by assumption) ?_
              · intro w hSw
                try dsimp only at hSw
                skip
                go_simp
              try simp only [Act.put, List.setIfInBounds_toArray, List.set_cons_zero, List.set_cons_succ, List.getElem_toArray, List.getElem_cons_zero, List.getElem_cons_succ]
              refine wpAnyH_done (by kernel_rfl) ?_ _
              go_wp2
              go_roundw
              case rel => exact ⟨j, _, by omega, HZ.out, rfl, by go_num, HX.out, hHeld⟩
              case measure => simp [intOf]; omega
        · have hge : ¬ (j : Int) < (s.size : Int) := by omega
          have hjn : j = s.size := by omega
          have hij : i < j := by omega
          have HN : Hid (runsL (s.data.toList.drop i) = runT (j - i) (s[i]'hit) :: runsL (s.data.toList.drop j)) := by
            have e := hD.out
            have e2 : j - i = (j - i - 1) + 1 := by omega
            rw [e2] at e
            show _ = _
            rw [runs_step e (by rw [List.drop_eq_nil_of_le (by simp; omega)]; simp), ← e2]
          clear hjn
          obtain ⟨R, h1, h2, h3⟩ := hR.out
          clear hR
          have hle : j - i ≤ 60 := by omega
          have CD := Lib.hid (fun wx => dec_spec ((j : Int) - (i : Int)) (by omega) (by omega) wx)
          obtain ⟨Dt, hDt⟩ : ∃ Dt : ByteArray, ⟨(Lib.itoa ((j : Int) - (i : Int))).toArray⟩ = Dt := ⟨_, rfl⟩
          have hds : Dt.size ≤ 21 := by
            have h1 := Lib.itoa_length_le ((j : Int) - (i : Int)) (by omega) (by omega)
            rw [← hDt]
            show (Lib.itoa _).toArray.size ≤ 21
            simpa using h1
          rw [hDt] at CD
          have HRT : Hid (∀ x, (⟨(runT (j - i) x).toArray⟩ : ByteArray) = Dt ++ ⟨#[x]⟩) := fun x => by rw [← hDt, runT, show ((j - i : Nat) : Int) = (j : Int) - (i : Int) by omega]; exact ba_snoc _ x
          have hsl := slice_one s i hit
          have hwr : IntKind.i64.wrap ((j : Int) - (i : Int)) = (j : Int) - (i : Int) := IntWalk.i64_in _ (by omega)
          have hwr2 : IntKind.i64.wrap ((i : Int) + 1) = (i : Int) + 1 := IntWalk.i64_in _ (by omega)
          have hij0 : (0 : Int) ≤ (j : Int) - (i : Int) := by omega
          clear hDt hD
          by_cases hRe : R = []
          · subst hRe
            have e0 : O = ⟨#[]⟩ := h2
            subst e0
            have HZ : Hid ((⟨#[]⟩ ++ (Dt ++ ⟨#[s[i]'hit]⟩) : ByteArray).size ≤ 24 * j) := by show _ ≤ _; rw [sz_three]; show 0 + _ ≤ _; omega
            have HX : Hid (∃ R, R ++ runsL (s.data.toList.drop j) = runsL s.data.toList ∧ (⟨#[]⟩ ++ (Dt ++ ⟨#[s[i]'hit]⟩) : ByteArray) = ⟨(Lib.join R [32]).toArray⟩ ∧ ∀ x ∈ R, x ≠ []) := by
              refine ⟨[runT (j - i) (s[i]'hit)], by rw [← h1, HN.out]; rfl, ?_, by simp [runT]⟩
              rw [Lib.join_one, HRT.out]
              exact ba_nil _
            clear h1 h2 h3 HN HRT
            go_wp2
            go_quiet (fail "none")
            all_goals go_wp2
            refine wp_region_held_drew (S := fun W => Below w.heap.size w W) (by kernel_rfl) ?_ (fun hHeld => ?_)
            · exact (below_drewN hB.out _).drew
            refine wpAnyH_take (i := 0) (v := .string (⟨#[]⟩ : ByteArray)) rfl (by kernel_rfl) (by kernel_rfl) (by kernel_rfl) (fun _ _ _ h => h) (Or.inl ⟨by kernel_rfl, ?_⟩) (by assumption) ?_
            · intro w hSw
              try dsimp only at hSw
              skip
              go_simp
            try simp only [Act.put, List.setIfInBounds_toArray, List.set_cons_zero, List.set_cons_succ, List.getElem_toArray, List.getElem_cons_zero]
            refine wpAnyH_take (i := 1) (v := .int .i64 (j : Int)) rfl (by kernel_rfl) (by kernel_rfl) (by kernel_rfl) (fun _ _ _ h => h) (Or.inl ⟨by kernel_rfl, ?_⟩) (by assumption) ?_
            · intro w hSw
              try dsimp only at hSw
              skip
              go_simp
            try simp only [Act.put, List.setIfInBounds_toArray, List.set_cons_zero, List.set_cons_succ, List.getElem_toArray, List.getElem_cons_zero, List.getElem_cons_succ]
            refine wpAnyH_take (i := 2) (v := .int .i64 (i : Int)) rfl (by kernel_rfl) (by kernel_rfl) (by kernel_rfl) (fun _ _ _ h => h) (Or.inl ⟨by kernel_rfl, ?_⟩) (by assumption) ?_
            · intro w hSw
              try dsimp only at hSw
              skip
              go_simp
            try simp only [Act.put, List.setIfInBounds_toArray, List.set_cons_zero, List.set_cons_succ, List.getElem_toArray, List.getElem_cons_zero, List.getElem_cons_succ]
            refine wpAnyH_take (i := 3) (v := .int .i64 ((j : Int) - (i : Int))) rfl (by kernel_rfl) (by kernel_rfl) (by kernel_rfl) (fun _ _ _ h => h) (Or.inl ⟨by kernel_rfl, ?_⟩) (by assumption) ?_
            · intro w hSw
              try dsimp only at hSw
              skip
              go_simp
            try simp only [Act.put, List.setIfInBounds_toArray, List.set_cons_zero, List.set_cons_succ, List.getElem_toArray, List.getElem_cons_zero, List.getElem_cons_succ]
            refine wpAnyH_take (i := 5) (v := .string s) rfl (by kernel_rfl) (by kernel_rfl) (by kernel_rfl) (fun _ _ _ h => h) (Or.inl ⟨by kernel_rfl, ?_⟩) (by assumption) ?_
            · intro w hSw
              try dsimp only at hSw
              skip
              go_simp
            try simp only [Act.put, List.setIfInBounds_toArray, List.set_cons_zero, List.set_cons_succ, List.getElem_toArray, List.getElem_cons_zero, List.getElem_cons_succ]
            refine wpAnyH_take (i := 6) (v := .int .i64 (i : Int)) rfl (by kernel_rfl) (by kernel_rfl) (by kernel_rfl) (fun _ _ _ h => h) (Or.inl ⟨by kernel_rfl, ?_⟩) (by assumption) ?_
            · intro w hSw
              try dsimp only at hSw
              skip
              go_simp
            try simp only [Act.put, List.setIfInBounds_toArray, List.set_cons_zero, List.set_cons_succ, List.getElem_toArray, List.getElem_cons_zero, List.getElem_cons_succ]
            refine wpAnyH_take (i := 7) (v := .int .i64 (i : Int)) rfl (by kernel_rfl) (by kernel_rfl) (by kernel_rfl) (fun _ _ _ h => h) (Or.inl ⟨by kernel_rfl, ?_⟩) (by assumption) ?_
            · intro w hSw
              try dsimp only at hSw
              skip
              go_simp
            try simp only [Act.put, List.setIfInBounds_toArray, List.set_cons_zero, List.set_cons_succ, List.getElem_toArray, List.getElem_cons_zero, List.getElem_cons_succ]
            refine wpAnyH_take (i := 8) (v := .int .i64 ((i : Int) + 1)) rfl (by kernel_rfl) (by kernel_rfl) (by kernel_rfl) (fun _ _ _ h => h) (Or.inl ⟨by kernel_rfl, ?_⟩) (by assumption) ?_
            · intro w hSw
              try dsimp only at hSw
              skip
              go_simp
            try simp only [Act.put, List.setIfInBounds_toArray, List.set_cons_zero, List.set_cons_succ, List.getElem_toArray, List.getElem_cons_zero, List.getElem_cons_succ]
            refine wpAnyH_take (i := 9) (v := .string ⟨#[s[i]'hit]⟩) rfl (by kernel_rfl) (by kernel_rfl) (by kernel_rfl) (fun _ _ _ h => h) (Or.inl ⟨by kernel_rfl, ?_⟩) (by assumption) ?_
            · intro w hSw
              try dsimp only at hSw
              skip
              go_simp
            try simp only [Act.put, List.setIfInBounds_toArray, List.set_cons_zero, List.set_cons_succ, List.getElem_toArray, List.getElem_cons_zero, List.getElem_cons_succ]
            refine wpAnyH_ready (rs := [4]) (by kernel_rfl) (by simp) ?_
            refine AllReadyH.cons rfl (fun K hK => ?_) AllReadyH.nil
            go_simp
            go_at_call 15
            refine (CD.out _).mono ?_
            rintro e w1 ⟨rfl, hb⟩
            refine hK.out _ _ ?_ (fun hHeld' => ?_)
            · exact bnext hHeld hb
            clear hK K hHeld
            have hHeld := hHeld'
            clear hHeld'
            try simp only [Act.put, List.setIfInBounds_toArray, List.set_cons_zero, List.set_cons_succ, List.getElem_toArray, List.getElem_cons_zero, List.getElem_cons_succ]
            refine wpAnyH_take (i := 10) (v := .string (Dt ++ ⟨#[s[i]'hit]⟩)) rfl (by kernel_rfl) (by kernel_rfl) (by kernel_rfl) (fun _ _ _ h => h) (Or.inl ⟨by kernel_rfl, ?_⟩) (by assumption) ?_
            · intro w hSw
              try dsimp only at hSw
              skip
              go_simp
              try omega
            try simp only [Act.put, List.setIfInBounds_toArray, List.set_cons_zero, List.set_cons_succ, List.getElem_toArray, List.getElem_cons_zero, List.getElem_cons_succ]
            refine wpAnyH_take (i := 11) (v := .string ((⟨#[]⟩ : ByteArray) ++ (Dt ++ ⟨#[s[i]'hit]⟩))) rfl (by kernel_rfl) (by kernel_rfl) (by kernel_rfl) (fun _ _ _ h => h) (Or.inl ⟨by kernel_rfl, ?_⟩) (by assumption) ?_
            · intro w hSw
              try dsimp only at hSw
              skip
              go_simp
              try omega
            try simp only [Act.put, List.setIfInBounds_toArray, List.set_cons_zero, List.set_cons_succ, List.getElem_toArray, List.getElem_cons_zero, List.getElem_cons_succ]
            refine wpAnyH_take (i := 12) (v := .string ((⟨#[]⟩ : ByteArray) ++ (Dt ++ ⟨#[s[i]'hit]⟩))) rfl (by kernel_rfl) (by kernel_rfl) (by kernel_rfl) (fun _ _ _ h => h) (Or.inl ⟨by kernel_rfl, ?_⟩) (by assumption) ?_
            · intro w hSw
              try dsimp only at hSw
              skip
              go_simp
            try simp only [Act.put, List.setIfInBounds_toArray, List.set_cons_zero, List.set_cons_succ, List.getElem_toArray, List.getElem_cons_zero, List.getElem_cons_succ]
            refine wpAnyH_done (by kernel_rfl) ?_ _
            go_wp2
            go_roundw
            case rel => exact ⟨j, _, by omega, HZ.out, rfl, by go_num, HX.out, hHeld⟩
            case measure => simp [intOf]; omega
          · have hne : ¬ O = ⟨#[]⟩ := fun e => join_ne hRe h3 (by rw [e] at h2; have := congrArg ByteArray.data h2; simpa using this.symm)
            have hne2 : O.toList.isEmpty = false := by
              rw [ByteArray.toList_eq]
              cases hl : O.data.toList with
              | nil => exact absurd (ByteArray.ext (Array.toList_inj.1 hl)) hne
              | cons _ _ => rfl
            have hne3 : (!O.toList.isEmpty) = true := by rw [hne2]; rfl
            have HZ : Hid (((O ++ ⟨#[32]⟩) ++ (Dt ++ ⟨#[s[i]'hit]⟩) : ByteArray).size ≤ 24 * j) := by show _ ≤ _; rw [sz_three, sz_one]; omega
            have HX : Hid (∃ R, R ++ runsL (s.data.toList.drop j) = runsL s.data.toList ∧ ((O ++ ⟨#[32]⟩) ++ (Dt ++ ⟨#[s[i]'hit]⟩) : ByteArray) = ⟨(Lib.join R [32]).toArray⟩ ∧ ∀ x ∈ R, x ≠ []) := by
              refine ⟨R ++ [runT (j - i) (s[i]'hit)], by rw [← h1, HN.out, List.append_assoc]; rfl, ?_, ?_⟩
              · rw [join_snoc _ _ hRe, h2, ← HRT.out]
                exact ba_three _ _ _
              · intro x hx
                rcases List.mem_append.1 hx with h | h
                · exact h3 x h
                · rw [List.mem_singleton.1 h]; exact runT_ne _ _
            clear h1 h2 h3 HN HRT hRe
            go_wp2
            go_quiet (fail "none")
            all_goals go_wp2
            refine wp_region_held_drew (S := fun W => Below w.heap.size w W) (by kernel_rfl) ?_ (fun hHeld => ?_)
            · exact (below_drewN hB.out _).drew
            refine wpAnyH_take (i := 0) (v := .string (O ++ ⟨#[32]⟩)) rfl (by kernel_rfl) (by kernel_rfl) (by kernel_rfl) (fun _ _ _ h => h) (Or.inl ⟨by kernel_rfl, ?_⟩) (by assumption) ?_
            · intro w hSw
              try dsimp only at hSw
              skip
              go_simp
            try simp only [Act.put, List.setIfInBounds_toArray, List.set_cons_zero, List.set_cons_succ, List.getElem_toArray, List.getElem_cons_zero]
            refine wpAnyH_take (i := 1) (v := .int .i64 (j : Int)) rfl (by kernel_rfl) (by kernel_rfl) (by kernel_rfl) (fun _ _ _ h => h) (Or.inl ⟨by kernel_rfl, ?_⟩) (by assumption) ?_
            · intro w hSw
              try dsimp only at hSw
              skip
              go_simp
            try simp only [Act.put, List.setIfInBounds_toArray, List.set_cons_zero, List.set_cons_succ, List.getElem_toArray, List.getElem_cons_zero, List.getElem_cons_succ]
            refine wpAnyH_take (i := 2) (v := .int .i64 (i : Int)) rfl (by kernel_rfl) (by kernel_rfl) (by kernel_rfl) (fun _ _ _ h => h) (Or.inl ⟨by kernel_rfl, ?_⟩) (by assumption) ?_
            · intro w hSw
              try dsimp only at hSw
              skip
              go_simp
            try simp only [Act.put, List.setIfInBounds_toArray, List.set_cons_zero, List.set_cons_succ, List.getElem_toArray, List.getElem_cons_zero, List.getElem_cons_succ]
            refine wpAnyH_take (i := 3) (v := .int .i64 ((j : Int) - (i : Int))) rfl (by kernel_rfl) (by kernel_rfl) (by kernel_rfl) (fun _ _ _ h => h) (Or.inl ⟨by kernel_rfl, ?_⟩) (by assumption) ?_
            · intro w hSw
              try dsimp only at hSw
              skip
              go_simp
            try simp only [Act.put, List.setIfInBounds_toArray, List.set_cons_zero, List.set_cons_succ, List.getElem_toArray, List.getElem_cons_zero, List.getElem_cons_succ]
            refine wpAnyH_take (i := 5) (v := .string s) rfl (by kernel_rfl) (by kernel_rfl) (by kernel_rfl) (fun _ _ _ h => h) (Or.inl ⟨by kernel_rfl, ?_⟩) (by assumption) ?_
            · intro w hSw
              try dsimp only at hSw
              skip
              go_simp
            try simp only [Act.put, List.setIfInBounds_toArray, List.set_cons_zero, List.set_cons_succ, List.getElem_toArray, List.getElem_cons_zero, List.getElem_cons_succ]
            refine wpAnyH_take (i := 6) (v := .int .i64 (i : Int)) rfl (by kernel_rfl) (by kernel_rfl) (by kernel_rfl) (fun _ _ _ h => h) (Or.inl ⟨by kernel_rfl, ?_⟩) (by assumption) ?_
            · intro w hSw
              try dsimp only at hSw
              skip
              go_simp
            try simp only [Act.put, List.setIfInBounds_toArray, List.set_cons_zero, List.set_cons_succ, List.getElem_toArray, List.getElem_cons_zero, List.getElem_cons_succ]
            refine wpAnyH_take (i := 7) (v := .int .i64 (i : Int)) rfl (by kernel_rfl) (by kernel_rfl) (by kernel_rfl) (fun _ _ _ h => h) (Or.inl ⟨by kernel_rfl, ?_⟩) (by assumption) ?_
            · intro w hSw
              try dsimp only at hSw
              skip
              go_simp
            try simp only [Act.put, List.setIfInBounds_toArray, List.set_cons_zero, List.set_cons_succ, List.getElem_toArray, List.getElem_cons_zero, List.getElem_cons_succ]
            refine wpAnyH_take (i := 8) (v := .int .i64 ((i : Int) + 1)) rfl (by kernel_rfl) (by kernel_rfl) (by kernel_rfl) (fun _ _ _ h => h) (Or.inl ⟨by kernel_rfl, ?_⟩) (by assumption) ?_
            · intro w hSw
              try dsimp only at hSw
              skip
              go_simp
            try simp only [Act.put, List.setIfInBounds_toArray, List.set_cons_zero, List.set_cons_succ, List.getElem_toArray, List.getElem_cons_zero, List.getElem_cons_succ]
            refine wpAnyH_take (i := 9) (v := .string ⟨#[s[i]'hit]⟩) rfl (by kernel_rfl) (by kernel_rfl) (by kernel_rfl) (fun _ _ _ h => h) (Or.inl ⟨by kernel_rfl, ?_⟩) (by assumption) ?_
            · intro w hSw
              try dsimp only at hSw
              skip
              go_simp
            try simp only [Act.put, List.setIfInBounds_toArray, List.set_cons_zero, List.set_cons_succ, List.getElem_toArray, List.getElem_cons_zero, List.getElem_cons_succ]
            refine wpAnyH_ready (rs := [4]) (by kernel_rfl) (by simp) ?_
            refine AllReadyH.cons rfl (fun K hK => ?_) AllReadyH.nil
            go_simp
            go_at_call 15
            refine (CD.out _).mono ?_
            rintro e w1 ⟨rfl, hb⟩
            refine hK.out _ _ ?_ (fun hHeld' => ?_)
            · exact bnext hHeld hb
            clear hK K hHeld
            have hHeld := hHeld'
            clear hHeld'
            try simp only [Act.put, List.setIfInBounds_toArray, List.set_cons_zero, List.set_cons_succ, List.getElem_toArray, List.getElem_cons_zero, List.getElem_cons_succ]
            refine wpAnyH_take (i := 10) (v := .string (Dt ++ ⟨#[s[i]'hit]⟩)) rfl (by kernel_rfl) (by kernel_rfl) (by kernel_rfl) (fun _ _ _ h => h) (Or.inl ⟨by kernel_rfl, ?_⟩) (by assumption) ?_
            · intro w hSw
              try dsimp only at hSw
              skip
              go_simp
              try omega
            try simp only [Act.put, List.setIfInBounds_toArray, List.set_cons_zero, List.set_cons_succ, List.getElem_toArray, List.getElem_cons_zero, List.getElem_cons_succ]
            refine wpAnyH_take (i := 11) (v := .string ((O ++ ⟨#[32]⟩) ++ (Dt ++ ⟨#[s[i]'hit]⟩))) rfl (by kernel_rfl) (by kernel_rfl) (by kernel_rfl) (fun _ _ _ h => h) (Or.inl ⟨by kernel_rfl, ?_⟩) (by assumption) ?_
            · intro w hSw
              try dsimp only at hSw
              skip
              go_simp
              try omega
            try simp only [Act.put, List.setIfInBounds_toArray, List.set_cons_zero, List.set_cons_succ, List.getElem_toArray, List.getElem_cons_zero, List.getElem_cons_succ]
            refine wpAnyH_take (i := 12) (v := .string ((O ++ ⟨#[32]⟩) ++ (Dt ++ ⟨#[s[i]'hit]⟩))) rfl (by kernel_rfl) (by kernel_rfl) (by kernel_rfl) (fun _ _ _ h => h) (Or.inl ⟨by kernel_rfl, ?_⟩) (by assumption) ?_
            · intro w hSw
              try dsimp only at hSw
              skip
              go_simp
            try simp only [Act.put, List.setIfInBounds_toArray, List.set_cons_zero, List.set_cons_succ, List.getElem_toArray, List.getElem_cons_zero, List.getElem_cons_succ]
            refine wpAnyH_done (by kernel_rfl) ?_ _
            go_wp2
            go_roundw
            case rel => exact ⟨j, _, by omega, HZ.out, rfl, by go_num, HX.out, hHeld⟩
            case measure => simp [intOf]; omega
    · have hge : ¬ (i : Int) < (s.size : Int) := by omega
      have hin : i = s.size := by omega
      have HS : Hid (O = shortT s) := by
        obtain ⟨R, h1, h2, _⟩ := hR.out
        rw [List.drop_eq_nil_of_le (by simp; omega), runsL_nil, List.append_nil] at h1
        show O = _
        rw [h2, h1, shortT]
      subst hin
      go_wp2
      go_ret
      exact ⟨by rw [HS.out]; rfl, hB.out⟩
end Go.Proofs.YtllcpgogfhjfpaaGreatDoor
