/-
  The least of some numbers: slices.Min and what stands around it.
-/
import Derived.Test.YtplggghhhgmebaaInts
import Derived.Test.YtplggghhhgmebaaBase
namespace Go.Proofs.Ytplggghhhgmebaa
open Go.ChangeShapes Go.WideShapes Go.ChangeAt Go.RowKit Go.Joins

def mnStep (b d : Int) : Int := if b < 0 ∨ d < b then d else b
def mnOf (D : List Int) : Int := D.foldl mnStep (-1)
theorem mnOf_snoc (D : List Int) (d : Int) : mnOf (D ++ [d]) = mnStep (mnOf D) d := by simp [mnOf]
theorem mnOf_facts (R : List Int) : (∀ d ∈ R, 0 ≤ d) → (R = [] → mnOf R.reverse = -1) ∧ (R ≠ [] → mnOf R.reverse ∈ R ∧ ∀ d ∈ R, mnOf R.reverse ≤ d) := by
  induction R with
  | nil => intro _; exact ⟨fun _ => rfl, fun h => absurd rfl h⟩
  | cons x R ih =>
    intro h
    refine ⟨fun e => (by cases e), fun _ => ?_⟩
    have hx := h x (by simp)
    have hR := ih (fun d hd => h d (by simp [hd]))
    rw [List.reverse_cons, mnOf_snoc]
    by_cases e : R = []
    · subst e
      have : mnOf [] = -1 := rfl
      simp only [List.reverse_nil, this]
      have e2 : mnStep (-1) x = x := by simp [mnStep]
      rw [e2]
      simp
    · obtain ⟨h1, h2⟩ := hR.2 e
      have h3 := h _ (List.mem_cons_of_mem x h1)
      unfold mnStep
      split
      · rename_i hc
        refine ⟨by simp, fun d hd => ?_⟩
        rcases List.mem_cons.1 hd with e | e
        · omega
        · have := h2 d e; omega
      · rename_i hc
        refine ⟨List.mem_cons_of_mem x h1, fun d hd => ?_⟩
        rcases List.mem_cons.1 hd with e | e
        · omega
        · exact h2 d e
theorem mnOf_nil : mnOf [] = -1 := rfl
theorem mnOf_least {D : List Int} (h : ∀ d ∈ D, 0 ≤ d) (hn : D ≠ []) : mnOf D ∈ D ∧ ∀ d ∈ D, mnOf D ≤ d := by
  have := (mnOf_facts D.reverse (fun d hd => h d (by simpa using hd))).2 (by simpa using hn)
  simpa using this
theorem mnOf_one {D : List Int} (h : ∀ d ∈ D, 0 ≤ d) {r : Int} (h1 : r ∈ D) (h2 : ∀ d ∈ D, r ≤ d) : mnOf D = r := by
  obtain ⟨h3, h4⟩ := mnOf_least h (List.ne_nil_of_mem h1)
  have := h4 r h1
  have := h2 _ h3
  omega
theorem mnOf_neg {D : List Int} (h : ∀ d ∈ D, 0 ≤ d) : mnOf D < 0 ↔ D = [] := by
  constructor
  · intro hl
    apply Decidable.byContradiction
    intro hn
    have := h _ (mnOf_least h hn).1
    omega
  · rintro rfl; decide
def mnN (D : List Int) : Int := if mnOf D < 0 then 0 else mnOf D
def mnE (D : List Int) : Int := if mnOf D < 0 then 3 else 0
set_option maxRecDepth 100000 in
set_option maxHeartbeats 1600000 in
theorem mn_impl (D : List Int) (h0 : ∀ d ∈ D, 0 ≤ d) (h1 : 1 ≤ D.length) (h2 : D.length ≤ 1000000) (a : Option Addr) (cap : Nat) (w : World) (ha : IntArg w a D) :
    Calls Try.prog 89 #[.slice a D.length cap] w fun e w' => e = .returned (.int .i64 (mnOf D)) ∧ w = w' := by
  obtain ⟨b, o, z, rfl, hz, hat⟩ := ha.at (k := 0) (by omega)
  have HA := Lib.hid hat
  have c0 := hat 0 z hz
  have c0 : w.cell? ⟨b, o, none⟩ = some (.int .i64 z) := c0
  have hl1 : ¬ (D.length : Int) < 1 := by omega
  have hl1' : (1 : Int) ≤ (D.length : Int) := by omega
  have hne : ¬ D = [] := by intro h; rw [h] at h1; simp at h1
  have hl0 : (0 : Int) < (D.length : Int) := by omega
  have HS : Hid (z = mnOf (D.take 1)) := by
    show z = mnOf (D.take 1)
    have : D.take 1 = [z] := by
      cases D with
      | nil => simp at h1
      | cons y r => simp at hz; subst hz; rfl
    rw [this]
    simp [mnOf, mnStep]
  have H0 := Lib.hid h0
  clear hz hat ha h0
  go_enter Try.func89, Try.ntmps89
  go_wp2
  clear c0
  go_loopw [3, 4] (fun m i wr => ∃ (k : Nat) (r : Int), 1 ≤ k ∧ k ≤ D.length ∧ m = .int .i64 r ∧ i = .int .i64 k ∧ Hid (r = mnOf (D.take k)) ∧ w = wr) (fun _ i _ => D.length - (intOf i).toNat)
  case atStart => exact ⟨1, z, by omega, h1, rfl, rfl, HS.out, rfl⟩
  case round =>
    obtain ⟨k, r, hk1, hk, rfl, rfl, hR, hwr⟩ := hrel
    subst hwr
    by_cases hlt : k < D.length
    · have hlt' : (k : Int) < (D.length : Int) := by omega
      have hk0 : (0 : Int) ≤ (k : Int) := by omega
      obtain ⟨y, hy⟩ : ∃ y, D[k]? = some y := ⟨_, List.getElem?_eq_getElem hlt⟩
      have cy := HA.out k y hy
      have hr0 : ¬ r < 0 := by
        have hne : D.take k ≠ [] := by
          intro h
          have h3 := congrArg List.length h
          rw [List.length_take, Nat.min_eq_left (by omega), List.length_nil] at h3
          omega
        have := (mnOf_least (fun d hd => H0.out d (List.mem_of_mem_take hd)) hne).1
        rw [← hR.out] at this
        have := H0.out r (List.mem_of_mem_take this)
        omega
      have HN : Hid (mnOf (D.take (k + 1)) = if y < r then y else r) := by
        show mnOf (D.take (k + 1)) = _
        rw [List.take_add_one, hy]
        show mnOf (D.take k ++ [y]) = _
        rw [mnOf_snoc, ← hR.out]
        unfold mnStep
        simp [hr0]
      clear hy hr0
      by_cases hyr : y < r
      · have hmm : min r y = y := by omega
        go_wp2
        go_roundw
        case rel => exact ⟨k + 1, y, by omega, by omega, by first | rfl | (congr 1; omega) | simp [hmm], by go_num, by show y = _; rw [HN.out, if_pos hyr], by first | rfl | trivial⟩
        case measure => simp [intOf]; omega
      · have hmm : min r y = r := by omega
        go_wp2
        go_roundw
        case rel => exact ⟨k + 1, r, by omega, by omega, by first | rfl | (congr 1; omega) | simp [hmm], by go_num, by show r = _; rw [HN.out, if_neg hyr], by first | rfl | trivial⟩
        case measure => simp [intOf]; omega
    · have hge : ¬ (k : Int) < (D.length : Int) := by omega
      have hkn : k = D.length := by omega
      subst hkn
      go_wp2
      go_ret
      exact ⟨ret_int (by rw [hR.out, List.take_length]), rfl⟩
theorem leastOf_impl (D : List Int) (h0 : ∀ d ∈ D, 0 ≤ d) (h2 : D.length ≤ 1000000) (a : Option Addr) (cap : Nat) (w : World) (ha : IntArg w a D) :
    Calls Try.prog 68 #[.slice a D.length cap] w fun e w' => e = .returned (.tuple #[.int .i64 (mnN D), .int .i64 (mnE D)]) ∧ w = w' := by
  by_cases hD : D = []
  · subst hD
    go_enter Try.func68, Try.ntmps68
    go_wp2
    go_ret2
    exact ⟨rfl, rfl⟩
  · have hl : 1 ≤ D.length := by have := List.length_pos_iff.2 hD; omega
    have hnz : ¬ (D.length : Int) = 0 := by omega
    have C := Lib.hid (mn_impl D h0 hl h2 a cap w ha)
    have hn : ¬ mnOf D < 0 := fun h => hD ((mnOf_neg h0).1 h)
    have HN : Hid (mnN D = mnOf D) := by show mnN D = _; simp [mnN, hn]
    have HE : Hid (mnE D = 0) := by show mnE D = 0; simp [mnE, hn]
    rw [HN.out, HE.out]
    obtain ⟨V, hV⟩ : ∃ V, mnOf D = V := ⟨_, rfl⟩
    rw [hV] at C ⊢
    clear ha h0 hn HN HE hD hV
    go_enter Try.func68, Try.ntmps68
    go_wp2_with (go_at_call 89; refine C.out.mono ?_; rintro e w1 ⟨rfl, rfl⟩)
    go_ret2
    exact ⟨rfl, rfl⟩

end Go.Proofs.Ytplggghhhgmebaa
