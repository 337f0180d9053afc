/-
  BondNamed: what the library's texts read as, and what is handed back: plain facts.
-/
import Derived.Test.YtgffgcobgjngnaaDoorBn
import Derived.Test.YtgffgcobgjngnaaDoorCwRb
namespace Go.Proofs.YtgffgcobgjngnaaDoor
open Go.ChangeShapes Go.WideShapes Go.ChangeAt Go.RowKit Go.Joins

theorem lib_good (k : Nat) (T : ByteArray) (h : LTb[k]? = some T) : chkBad T = false ∧ T.size ≤ 1048576 := by
  match k, h with
  | 0, h => cases h; exact ⟨by decide +kernel, by decide⟩
  | 1, h => cases h; exact ⟨by decide +kernel, by decide⟩
  | 2, h => cases h; exact ⟨by decide +kernel, by decide⟩
  | 3, h => cases h; exact ⟨by decide +kernel, by decide⟩
  | 4, h => cases h; exact ⟨by decide +kernel, by decide⟩
  | k + 5, h => simp [LTb] at h
/-- The first text whose bond has the name. -/
def hitFrom (nm : ByteArray) : List ByteArray → Option ByteArray
  | [] => none
  | T :: r => if ckN T = nm then some T else hitFrom nm r
theorem hit_yes {nm : ByteArray} : ∀ {L : List ByteArray} {k : Nat} {T : ByteArray}, L[k]? = some T → (∀ (j : Nat), j < k → ∀ (T' : ByteArray), L[j]? = some T' → ckN T' ≠ nm) → ckN T = nm → hitFrom nm L = some T
  | [], k, T, h, _, _ => by simp at h
  | a :: L, 0, T, h, _, he => by
    have e : a = T := by simpa using h
    subst e
    simp [hitFrom, he]
  | a :: L, k + 1, T, h, hn, he => by
    have h0 := hn 0 (by omega) a rfl
    simp only [hitFrom, if_neg h0]
    exact hit_yes (by simpa using h) (fun j hj T' hT' => hn (j + 1) (by omega) T' (by simpa using hT')) he
theorem hit_no {nm : ByteArray} : ∀ {L : List ByteArray}, (∀ (j : Nat) (T' : ByteArray), L[j]? = some T' → ckN T' ≠ nm) → hitFrom nm L = none
  | [], _ => rfl
  | a :: L, hn => by
    have h0 := hn 0 a rfl
    simp only [hitFrom, if_neg h0]
    exact hit_no (fun j T' hT' => hn (j + 1) T' (by simpa using hT'))
def bnN (nm : ByteArray) : ByteArray := match hitFrom nm LTb with | some T => ckN T | none => .empty
def bnL (nm : ByteArray) : List Co := match hitFrom nm LTb with | some T => ckL T | none => []
def bnC (nm : ByteArray) : Int := match hitFrom nm LTb with | some _ => 0 | none => 3
theorem hit_mem {nm : ByteArray} : ∀ {L : List ByteArray} {T : ByteArray}, hitFrom nm L = some T → ∃ k : Nat, L[k]? = some T
  | [], T, h => by simp [hitFrom] at h
  | a :: L, T, h => by
    simp only [hitFrom] at h
    split at h
    · exact ⟨0, by simpa using h⟩
    · obtain ⟨k, hk⟩ := hit_mem h
      exact ⟨k + 1, by simpa using hk⟩
theorem bnL_length (nm : ByteArray) : (bnL nm).length ≤ 1048577 := by
  unfold bnL
  split
  · rename_i T h
    obtain ⟨k, hk⟩ := hit_mem h
    exact ckL_length T (lib_good k T hk).2
  · simp
/-- What BondNamed hands back. -/
def BnOut (nm : ByteArray) (w : World) (e : Ending) (w' : World) : Prop :=
  ∃ cv, e = .returned (.tuple #[.agg #[.string (bnN nm), cv], .int .i64 (bnC nm)]) ∧ w'.ownsRow w.heap.size 68 2 cv (bnL nm).length (coVals (bnL nm)) ∧ Below w.heap.size w w'
theorem BnOut.hit {nm T : ByteArray} {w w' : World} {cv : Value} (h : hitFrom nm LTb = some T) (o : w'.ownsRow w.heap.size 68 2 cv (ckL T).length (coVals (ckL T))) (hb : Below w.heap.size w w') : BnOut nm w (.returned (.tuple #[.agg #[.string (ckN T), cv], .int .i64 0])) w' := by
  have h1 : bnN nm = ckN T := by simp [bnN, h]
  have h2 : bnL nm = ckL T := by simp [bnL, h]
  have h3 : bnC nm = 0 := by simp [bnC, h]
  unfold BnOut
  rw [h1, h2, h3]
  exact ⟨cv, rfl, o, hb⟩
theorem BnOut.miss {nm : ByteArray} {w w' : World} (h : hitFrom nm LTb = none) (hb : Below w.heap.size w w') : BnOut nm w (.returned (.tuple #[.agg #[.string ⟨#[]⟩, .slice none 0 0], .int .i64 3])) w' := by
  have h1 : bnN nm = .empty := by simp [bnN, h]
  have h2 : bnL nm = [] := by simp [bnL, h]
  have h3 : bnC nm = 3 := by simp [bnC, h]
  unfold BnOut
  rw [h1, h2, h3]
  exact ⟨.slice none 0 0, rfl, ⟨rfl, .inl ⟨rfl, rfl⟩⟩, hb⟩
theorem own_mono2 {w : World} {B B' : Nat} {t : TypeId} {size n : Nat} {v : Value} {xs : List Value} (h : w.ownsRow B t size v n xs) (hb : B' ≤ B) : w.ownsRow B' t size v n xs := by
  refine ⟨h.1, ?_⟩
  rcases h.2 with hn | ⟨g, cap, cur, hv, hB, rest⟩
  · exact .inl hn
  · exact .inr ⟨g, cap, cur, hv, Nat.le_trans hb hB, rest⟩
/-- Before k no text has the name. -/
def NoHit (nm : ByteArray) (k : Nat) : Prop := ∀ (j : Nat), j < k → ∀ (T' : ByteArray), LTb[j]? = some T' → ckN T' ≠ nm
theorem NoHit.next {nm T : ByteArray} {k : Nat} (h : NoHit nm k) (hT : LTb[k]? = some T) (hne : ckN T ≠ nm) : NoHit nm (k + 1) := fun j hj T' hT' => by
  by_cases e : j = k
  · subst e; rw [hT] at hT'; cases hT'; exact hne
  · exact h j (by omega) T' hT'
theorem NoHit.end {nm : ByteArray} (h : NoHit nm 5) : hitFrom nm LTb = none := hit_no (fun j T' hT' => h j (by have := (List.getElem?_eq_some_iff.1 hT').1; exact this) T' hT')
end Go.Proofs.YtgffgcobgjngnaaDoor
