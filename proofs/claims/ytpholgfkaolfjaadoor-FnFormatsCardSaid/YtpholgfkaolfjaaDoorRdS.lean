/-
  ReadClay: the model's answer.
-/
import Derived.Test.YtpholgfkaolfjaaDoorRdP
import Derived.Test.YtpholgfkaolfjaaDoorNumS
import Derived.Test.YtpholgfkaolfjaaDoorRow
namespace Go.Proofs.YtpholgfkaolfjaaDoor
open Go.ChangeShapes Go.WideShapes Go.ChangeAt Go.RowKit Go.Joins


theorem ClRead.none {s : ByteArray} (h : ∀ c : Cl, c.ok = true → partsOf s 32 = clW c → False) : ClRead s (.returned (.tuple #[.agg #[.string ⟨#[]⟩, .int .i64 0, .int .i64 0, .int .i64 0, .int .i64 0], .bool false])) :=
  .inr ⟨fun c hc e => h c hc (clay_parts hc e).1, rfl⟩
theorem ClRead.some {s : ByteArray} {c : Cl} (h1 : c.ok = true) (h2 : clT c = s) : ClRead s (.returned (.tuple #[.agg #[.string c.name, .int .i64 c.sh, .int .i64 c.li, .int .i64 c.sa, .int .i64 c.pr], .bool true])) := .inl ⟨c, h1, h2, rfl⟩
theorem neS {x : ByteArray} {l : List UInt8} (h : ¬ x = ⟨l.toArray⟩) : (x.toList == l) = false := by
  rw [beq_eq_false_iff_ne]
  intro e
  rw [ByteArray.toList_eq] at e
  exact h (Go.WideShapes.bytes_inj (by simpa using e))
theorem eqS {x : ByteArray} {l : List UInt8} (h : x = ⟨l.toArray⟩) : (x.toList == l) = true := by
  rw [h, ByteArray.toList_eq]
  simp
theorem nine {α : Type} {l : List α} (h : l.length = 9) : ∃ a b c d e f g i j, l = [a, b, c, d, e, f, g, i, j] := by
  match l, h with
  | [a, b, c, d, e, f, g, i, j], _ => exact ⟨a, b, c, d, e, f, g, i, j, rfl⟩
theorem numR_cases (l : List UInt8) : (∃ n, numR l = Option.some n ∧ (numR l).getD 0 = n ∧ (numR l).isSome = true) ∨ (numR l = Option.none ∧ (numR l).isSome = false) := by
  cases numR l with
  | none => exact .inr ⟨rfl, rfl⟩
  | some n => exact .inl ⟨n, rfl, rfl, rfl⟩
end Go.Proofs.YtpholgfkaolfjaaDoor
