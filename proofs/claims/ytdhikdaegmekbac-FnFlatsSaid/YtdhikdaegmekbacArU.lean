/-
  JointsOf, TaperOf, MustTaper: contracts of the program and of the model.
-/
import Derived.Test.YtdhikdaegmekbacArT
namespace Go.Proofs.Ytdhikdaegmekbac
open Go.ChangeShapes Go.WideShapes Go.ChangeAt Go.RowKit Go.Joins


theorem rN_none {R D B J : Int} (h : ¬ rC R D B J = 0) : rN R D B J = 0 := by rcases ring_cases R D B J with ⟨_, _, h3⟩ | ⟨_, _, _, h4⟩ | ⟨_, _, h3, _⟩ <;> omega
theorem rN_some {R D B J : Int} (h : rC R D B J = 0) : okR R D B J = true ∧ 1 ≤ rN R D B J ∧ rN R D B J ≤ 506 := by
  rcases ring_cases R D B J with ⟨_, h3, _⟩ | ⟨_, _, h4, _⟩ | ⟨h1, _, _, _, h5, h6, _⟩
  · omega
  · omega
  · exact ⟨h1, h5, h6⟩
end Go.Proofs.Ytdhikdaegmekbac
