/-
  The blends that keep limits: their number, the cheapest of them, codes. Plain data.
-/
import Derived.Test.YtpmklnldgafkjaaComb
import Derived.Test.YtpmklnldgafkjaaFaultT
namespace Go.Proofs.Ytpmklnldgafkjaa
open Go.ChangeShapes Go.WideShapes Go.ChangeAt Go.RowKit Go.Joins

/-- The text of no fault. -/
def noneB : ByteArray := ⟨#[110, 111, 110, 101]⟩
theorem noneB_list : noneB.toList = [110, 111, 110, 101] := by rw [ByteArray.toList_eq]; rfl
def okK (L : List Cl) (x : Li) (P : List Int) : Bool := decide (faultV L P x = noneB)
def codeT (L : List Cl) (t : Int) (x : Li) : Int := if okCls L = true then (if (inB t 1 12 && x.ok) = true then 0 else 2) else 1
/-- All that keep the limits, in order. -/
def keptK (L : List Cl) (t : Int) (x : Li) : List (List Int) := kp (okK L x) [] L.length t.toNat
theorem codeT_facts {L : List Cl} {t : Int} {x : Li} (h : codeT L t x = 0) : okCls L = true ∧ (1 ≤ t ∧ t ≤ 12) ∧ x.ok = true := by
  unfold codeT at h
  split at h
  · rename_i h1
    split at h
    · rename_i h2
      simp only [Bool.and_eq_true, inB_true] at h2
      exact ⟨h1, h2.1, h2.2⟩
    · cases h
  · cases h
/-- A full list of parts is right. -/
theorem codeP_full {L : List Cl} {x : Li} {Q : List Int} (hL : okCls L = true) (hx : x.ok = true) (hQ : okParts Q = true) (hn : Q.length = L.length) (hs : ¬ sumP Q = 0) : codeP L Q x.ok = 0 := by
  simp [codeP, hL, hx, hQ, hn, hs]
theorem price_range {L : List Cl} {Q : List Int} (hL : okCls L = true) (hQ : okParts Q = true) : 0 ≤ total Cl.pr L Q ∧ total Cl.pr L Q ≤ 60000000 := by
  have h := wsum_range small_pr hL hQ L.length
  have h6 := (okCls_all hL).1
  unfold total
  omega
def cheapCode (L : List Cl) (t : Int) (x : Li) : Int := if codeT L t x = 0 then (if (keptK L t x).length = 0 then 3 else 0) else codeT L t x
def cheapL (L : List Cl) (t : Int) (x : Li) : List Int := if codeT L t x = 0 then (bestOf (total Cl.pr L) (keptK L t x)).getD [] else []
def cntV (L : List Cl) (t : Int) (x : Li) : Int := if codeT L t x = 0 then ((keptK L t x).length : Nat) else 0
theorem keptK_few {L : List Cl} {t : Int} {x : Li} (h : codeT L t x = 0) : (keptK L t x).length ≤ 4826809 := by
  obtain ⟨h1, h2, _⟩ := codeT_facts h
  exact Nat.le_trans (kp_length _ _ _ _) (combs_few (okCls_all h1).1 (by omega))
theorem keptK_mem {L : List Cl} {t : Int} {x : Li} (h : codeT L t x = 0) {P : List Int} (hP : P ∈ keptK L t x) : P.length = L.length ∧ okParts P = true := by
  obtain ⟨h1, h2, _⟩ := codeT_facts h
  have h3 := kp_mem (okK L x) L.length t.toNat [] (by omega) rfl P hP
  simp at h3
  exact ⟨h3.1, h3.2.1⟩
theorem cheapL_length (L : List Cl) (t : Int) (x : Li) : (cheapL L t x).length ≤ 6 := by
  unfold cheapL
  split
  · rename_i h
    cases hb : bestOf (total Cl.pr L) (keptK L t x) with
    | none => simp
    | some P =>
      have h1 := (keptK_mem h (bestOf_mem hb)).1
      have h2 := (okCls_all (codeT_facts h).1).1
      simp
      omega
  · exact Nat.zero_le _
end Go.Proofs.Ytpmklnldgafkjaa
