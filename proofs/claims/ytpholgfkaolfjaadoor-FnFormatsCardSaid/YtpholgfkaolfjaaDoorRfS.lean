/-
  ReadFormat: what its answer is, and the model's.
-/
import Derived.Test.YtpholgfkaolfjaaDoorSpl2
import Derived.Test.YtpholgfkaolfjaaDoorRdS
import Derived.Test.YtpholgfkaolfjaaDoorNumS
import Derived.Test.YtpholgfkaolfjaaDoorC2a
import Derived.Test.YtpholgfkaolfjaaDoorRow
import Derived.Test.YtpholgfkaolfjaaDoorKeep
namespace Go.Proofs.YtpholgfkaolfjaaDoor
open Go.ChangeShapes Go.WideShapes Go.ChangeAt Go.RowKit Go.Joins


/-- s is the text of the format with these measures. -/
def FmIs (s : ByteArray) (l wd h j : Int) : Prop := ∃ a b p q r : ByteArray, partsOf s 43 = [a, b] ∧ partsOf a 120 = [p, q, r] ∧ numR p.data.toList = some l ∧ numR q.data.toList = some wd ∧ numR r.data.toList = some h ∧ numR b.data.toList = some j ∧ okB l wd h j = true
theorem FmIs.one {s : ByteArray} {l wd h j l' wd' h' j' : Int} (H : FmIs s l wd h j) (H' : FmIs s l' wd' h' j') : l = l' ∧ wd = wd' ∧ h = h' ∧ j = j' := by
  obtain ⟨a, b, p, q, r, e1, e2, n1, n2, n3, n4, _⟩ := H
  obtain ⟨a', b', p', q', r', f1, f2, m1, m2, m3, m4, _⟩ := H'
  rw [e1] at f1
  simp only [List.cons.injEq, and_true] at f1
  obtain ⟨rfl, rfl⟩ := f1
  rw [e2] at f2
  simp only [List.cons.injEq, and_true] at f2
  obtain ⟨rfl, rfl, rfl⟩ := f2
  rw [n1] at m1; rw [n2] at m2; rw [n3] at m3; rw [n4] at m4
  exact ⟨Option.some.inj m1, Option.some.inj m2, Option.some.inj m3, Option.some.inj m4⟩
/-- The format with the text s, or none. -/
def FmRead (s : ByteArray) (e : Ending) : Prop :=
  (∃ v1 v2 v3 v4 : Int, FmIs s v1 v2 v3 v4 ∧ e = .returned (.tuple #[.agg #[.int .i64 v1, .int .i64 v2, .int .i64 v3, .int .i64 v4], .bool true])) ∨
  ((∀ l wd h j : Int, ¬ FmIs s l wd h j) ∧ e = .returned (.tuple #[.agg #[.int .i64 0, .int .i64 0, .int .i64 0, .int .i64 0], .bool false]))
theorem fmRead_one {s : ByteArray} {e e' : Ending} (h : FmRead s e) (h' : FmRead s e') : e = e' := by
  rcases h with ⟨a, b, c, d, h1, h2⟩ | ⟨h1, h2⟩ <;> rcases h' with ⟨a', b', c', d', k1, k2⟩ | ⟨k1, k2⟩
  · obtain ⟨rfl, rfl, rfl, rfl⟩ := h1.one k1
    rw [h2, k2]
  · exact absurd h1 (k1 _ _ _ _)
  · exact absurd k1 (h1 _ _ _ _)
  · rw [h2, k2]
theorem FmRead.form {s : ByteArray} {e : Ending} (h : FmRead s e) : ∃ (v1 v2 v3 v4 : Int) (b : Bool), e = .returned (.tuple #[.agg #[.int .i64 v1, .int .i64 v2, .int .i64 v3, .int .i64 v4], .bool b]) := by
  rcases h with ⟨a, b, c, d, _, h2⟩ | ⟨_, h2⟩
  · exact ⟨a, b, c, d, true, h2⟩
  · exact ⟨0, 0, 0, 0, false, h2⟩
theorem FmRead.none {s : ByteArray} (h : ∀ a b p q r : ByteArray, ∀ l wd ht j : Int, partsOf s 43 = [a, b] → partsOf a 120 = [p, q, r] → numR p.data.toList = Option.some l → numR q.data.toList = Option.some wd → numR r.data.toList = Option.some ht → numR b.data.toList = Option.some j → okB l wd ht j = true → False) : FmRead s (.returned (.tuple #[.agg #[.int .i64 0, .int .i64 0, .int .i64 0, .int .i64 0], .bool false])) :=
  .inr ⟨fun l wd ht j ⟨a, b, p, q, r, e1, e2, n1, n2, n3, n4, ok⟩ => h a b p q r l wd ht j e1 e2 n1 n2 n3 n4 ok, rfl⟩
theorem two {α : Type} {l : List α} (h : l.length = 2) : ∃ a b, l = [a, b] := by
  match l, h with
  | [a, b], _ => exact ⟨a, b, rfl⟩
theorem three {α : Type} {l : List α} (h : l.length = 3) : ∃ a b c, l = [a, b, c] := by
  match l, h with
  | [a, b, c], _ => exact ⟨a, b, c, rfl⟩
end Go.Proofs.YtpholgfkaolfjaaDoor
