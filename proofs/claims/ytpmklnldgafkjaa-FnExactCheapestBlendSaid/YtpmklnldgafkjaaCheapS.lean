/-
  CheapestBlend and CountBlends: the model's answers.
-/
import Derived.Test.YtpmklnldgafkjaaSeekZ
import Derived.Test.YtpmklnldgafkjaaMarkI
namespace Go.Proofs.Ytpmklnldgafkjaa
open Go.ChangeShapes Go.WideShapes Go.ChangeAt Go.RowKit Go.Joins

def CheapOut (w : World) (L : List Cl) (t : Int) (x : Li) (e : Ending) (w' : World) : Prop :=
  Below w.heap.size w w' ∧ ∃ a cap, e = .returned (.tuple #[.slice a (cheapL L t x).length cap, .int .i64 (cheapCode L t x)]) ∧ IntRes w.heap.size (cheapL L t x) a w'
theorem CheapOut.bad {w w' : World} {L : List Cl} {t : Int} {x : Li} {q : Int} (h : cheapCode L t x = q) (hl : cheapL L t x = []) (hb : Below w.heap.size w w') : CheapOut w L t x (.returned (.tuple #[.slice none 0 0, .int .i64 q])) w' := by
  unfold CheapOut
  rw [h, hl]
  exact And.intro hb (Exists.intro none (Exists.intro 0 (And.intro rfl (Or.inl rfl))))
theorem CheapOut.good {w w' : World} {L : List Cl} {t : Int} {x : Li} {P : List Int} {g cap : Nat} (h : cheapCode L t x = 0) (hl : cheapL L t x = P) (ho : IntOwn w.heap.size P g w') (hb : Below w.heap.size w w') : CheapOut w L t x (.returned (.tuple #[.slice (some ⟨g, 0, none⟩) P.length cap, .int .i64 0])) w' := by
  unfold CheapOut
  rw [h, hl]
  exact And.intro hb (Exists.intro _ (Exists.intro cap (And.intro rfl (Or.inr (Exists.intro g (And.intro rfl ho))))))
theorem cheap_code {L : List Cl} {t : Int} {x : Li} {q : Int} (h : codeT L t x = q) (hq : ¬ q = 0) : cheapCode L t x = q ∧ cheapL L t x = [] ∧ cntV L t x = 0 := by
  subst h
  simp [cheapCode, cheapL, cntV, hq]
theorem cheap_none {L : List Cl} {t : Int} {x : Li} (h : codeT L t x = 0) (hk : (keptK L t x).length = 0) : cheapCode L t x = 3 ∧ cheapL L t x = [] := by
  have hk' : keptK L t x = [] := List.eq_nil_of_length_eq_zero hk
  simp [cheapCode, cheapL, h, hk', bestOf_nil]
theorem cheap_some {L : List Cl} {t : Int} {x : Li} (h : codeT L t x = 0) (hk : ¬ (keptK L t x).length = 0) : cheapCode L t x = 0 ∧ ∃ P, bestOf (total Cl.pr L) (keptK L t x) = some P ∧ cheapL L t x = P := by
  have hc : cheapCode L t x = 0 := by simp only [cheapCode, h, if_neg hk]; rfl
  refine ⟨hc, ?_⟩
  cases hb : bestOf (total Cl.pr L) (keptK L t x) with
  | none => exact absurd (by rw [bestOf_none hb]; rfl) hk
  | some P => exact ⟨P, rfl, by simp [cheapL, h, hb]⟩
theorem IntOwn.mono {B B' : Nat} {P : List Int} {g : Nat} {w : World} (h : IntOwn B P g w) (hb : B' ≤ B) : IntOwn B' P g w := ⟨Nat.le_trans hb h.1, h.2⟩

set_option maxRecDepth 100000 in
set_option maxHeartbeats 3200000 in
theorem cheap_spec (L : List Cl) (a : Option Addr) (cap : Nat) (hl : L.length ≤ 1048576) (t : Int) (x : Li) (w : World) (ha : ClArg w a L) :
    Calls Try.prog 42 #[.slice a L.length cap, .int .i64 t, .agg #[.int .i64 x.lo, .int .i64 x.hi, .int .i64 x.ml, .int .i64 x.ms]] w fun e w' => CheapOut w L t x e w' := by
  have RX : (w.alloc (.cells #[.int .i64 x.lo, .int .i64 x.hi, .int .i64 x.ml, .int .i64 x.ms] 52)).rangeAt w.heap.size 0 x.vals := range_new w #[.int .i64 x.lo, .int .i64 x.hi, .int .i64 x.ml, .int .i64 x.ms] 52
  have B0 : Hid (Below w.heap.size w (w.alloc (.cells #[.int .i64 x.lo, .int .i64 x.hi, .int .i64 x.ml, .int .i64 x.ms] 52))) := balloc0 _ _
  obtain ⟨W0, hW0⟩ : ∃ W0, w.alloc (.cells #[.int .i64 x.lo, .int .i64 x.hi, .int .i64 x.ml, .int .i64 x.ms] 52) = W0 := ⟨_, rfl⟩
  rw [hW0] at RX B0
  have HW := Lib.hid hW0
  have C := Lib.hid (all_spec L a cap hl t x w.heap.size W0 (ha.later B0.out) RX)
  clear ha hW0 RX
  go_enter Try.func42, Try.ntmps42
  go_wp2_with fail
  rw [HW.out]
  refine C.out.mono ?_
  intro e w1 hA
  unfold AllOut at hA
  obtain ⟨rfl, hb1, hE⟩ := hA
  have B1 := Lib.hid (B0.out.trans (hb1.mono B0.out.size))
  have HE := Lib.hid hE
  clear hb1 hE
  by_cases h0 : codeT L t x = 0
  case neg =>
    obtain ⟨q, hq⟩ : ∃ q, codeT L t x = q := ⟨_, rfl⟩
    have HO := Lib.hid (cheap_code hq (by rw [← hq]; exact h0))
    rw [hq] at h0 ⊢
    clear hq HE
    go_wp2
    refine bodyPost_ret (v := .tuple #[.slice none 0 0, .int .i64 q]) (by simp [results, Try.results42, go_sem]) rfl (CheapOut.bad HO.out.1 HO.out.2.1 B1.out)
  have H0 := Lib.hid h0
  rw [h0]
  obtain ⟨g, cp, vb, ls, h⟩ := HE.out h0
  obtain ⟨-, -, -, c3, -, c5⟩ := h.cells
  have hbest := h.best
  clear h h0 HE
  obtain ⟨K, hK⟩ : ∃ K, keptK L t x = K := ⟨_, rfl⟩
  have HK := Lib.hid hK
  rw [hK] at c5 hbest
  clear hK
  by_cases hk : K.length = 0
  · have HO := Lib.hid (cheap_none H0.out (by rw [HK.out]; exact hk))
    have hk' : (K.length : Int) = 0 := by omega
    rw [hk'] at c5
    clear hk hk' hbest c3
    go_wp2
    refine bodyPost_ret (v := .tuple #[.slice none 0 0, .int .i64 3]) (by simp [results, Try.results42, go_sem]) rfl (CheapOut.bad HO.out.1 HO.out.2 B1.out)
  · obtain ⟨h1, P, h2, h3⟩ := cheap_some H0.out (by rw [HK.out]; exact hk)
    rw [HK.out] at h2
    unfold BestAt at hbest
    rw [h2] at hbest
    obtain ⟨-, h', ch, rfl, ho, -, -⟩ := hbest
    have HO := Lib.hid (And.intro h1 h3)
    have O := Lib.hid (ho.mono B0.out.size)
    have hk' : ((K.length : Int) == 0) = false := by simpa using hk
    have hk2 : ¬ (K.length : Int) = 0 := by omega
    clear hk h1 h2 h3 ho
    go_wp2
    refine bodyPost_ret (v := .tuple #[.slice (some ⟨h', 0, none⟩) P.length ch, .int .i64 0]) (by simp [results, Try.results42, go_sem]) rfl (CheapOut.good HO.out.1 HO.out.2 O.out B1.out)

set_option maxRecDepth 100000 in
set_option maxHeartbeats 3200000 in
theorem count_spec (L : List Cl) (a : Option Addr) (cap : Nat) (hl : L.length ≤ 1048576) (t : Int) (x : Li) (w : World) (ha : ClArg w a L) :
    Calls Try.prog 46 #[.slice a L.length cap, .int .i64 t, .agg #[.int .i64 x.lo, .int .i64 x.hi, .int .i64 x.ml, .int .i64 x.ms]] w fun e w' => e = .returned (.tuple #[.int .i64 (cntV L t x), .int .i64 (codeT L t x)]) ∧ Below w.heap.size w w' := by
  have RX : (w.alloc (.cells #[.int .i64 x.lo, .int .i64 x.hi, .int .i64 x.ml, .int .i64 x.ms] 52)).rangeAt w.heap.size 0 x.vals := range_new w #[.int .i64 x.lo, .int .i64 x.hi, .int .i64 x.ml, .int .i64 x.ms] 52
  have B0 : Hid (Below w.heap.size w (w.alloc (.cells #[.int .i64 x.lo, .int .i64 x.hi, .int .i64 x.ml, .int .i64 x.ms] 52))) := balloc0 _ _
  obtain ⟨W0, hW0⟩ : ∃ W0, w.alloc (.cells #[.int .i64 x.lo, .int .i64 x.hi, .int .i64 x.ml, .int .i64 x.ms] 52) = W0 := ⟨_, rfl⟩
  rw [hW0] at RX B0
  have HW := Lib.hid hW0
  have C := Lib.hid (all_spec L a cap hl t x w.heap.size W0 (ha.later B0.out) RX)
  clear ha hW0 RX
  obtain ⟨v, hv⟩ : ∃ v, cntV L t x = v := ⟨_, rfl⟩
  rw [hv]
  go_enter Try.func46, Try.ntmps46
  go_wp2_with fail
  rw [HW.out]
  refine C.out.mono ?_
  intro e w1 hA
  unfold AllOut at hA
  obtain ⟨rfl, hb1, hE⟩ := hA
  have B1 := Lib.hid (B0.out.trans (hb1.mono B0.out.size))
  have HE := Lib.hid hE
  clear hb1 hE
  by_cases h0 : codeT L t x = 0
  case neg =>
    obtain ⟨q, hq⟩ : ∃ q, codeT L t x = q := ⟨_, rfl⟩
    have hv0 := (cheap_code hq (by rw [← hq]; exact h0)).2.2
    rw [hv] at hv0
    subst hv0
    have HQ := Lib.hid hq
    rw [hq] at h0 ⊢
    clear hq HE hv
    go_wp2
    refine bodyPost_ret (v := .tuple #[.int .i64 0, .int .i64 q]) (by simp [results, Try.results46, go_sem]) rfl ⟨by rw [HQ.out], B1.out⟩
  obtain ⟨g, cp, vb, ls, h⟩ := HE.out h0
  obtain ⟨-, -, -, -, -, c5⟩ := h.cells
  have hv0 : cntV L t x = ((keptK L t x).length : Nat) := by simp [cntV, h0]
  rw [hv] at hv0
  have HQ := Lib.hid h0
  rw [h0]
  rw [← hv0] at c5
  clear h h0 HE hv hv0
  go_wp2
  refine bodyPost_ret (v := .tuple #[.int .i64 v, .int .i64 0]) (by simp [results, Try.results46, go_sem]) rfl ⟨by rw [HQ.out], B1.out⟩
end Go.Proofs.Ytpmklnldgafkjaa
