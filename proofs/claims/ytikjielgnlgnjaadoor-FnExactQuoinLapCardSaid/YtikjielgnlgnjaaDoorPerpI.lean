/-
  The pieces of a course by the program: its reader, and where pieces end.
-/
import Derived.Test.YtikjielgnlgnjaaDoorPerpS
import Derived.Test.YtikjielgnlgnjaaDoorPerpV
import Derived.Test.YtikjielgnlgnjaaDoorBuildW
import Derived.Test.YtikjielgnlgnjaaDoorShelfB
import Derived.Deep.DeepMust
namespace Go.Proofs.YtikjielgnlgnjaaDoor
open Go.ChangeShapes Go.WideShapes Go.ChangeAt Go.RowKit Go.Joins
theorem quartersI (k : Int) (w : World) : Calls Tryd.prog 109 #[.int .u8 k] w fun e w' => ∃ z : Int, e = .returned (.tuple #[.int .i64 (qtrI k), .int .i64 z]) ∧ w = w' := by
  by_cases h1 : k = 83
  · subst h1
    go_enter Tryd.func109, Tryd.ntmps109
    go_wp2
    go_ret2
    exact ⟨0, rfl, rfl⟩
  by_cases h2 : k = 84
  · subst h2
    go_enter Tryd.func109, Tryd.ntmps109
    go_wp2
    go_ret2
    exact ⟨0, rfl, rfl⟩
  by_cases h3 : k = 72
  · subst h3
    go_enter Tryd.func109, Tryd.ntmps109
    go_wp2
    go_ret2
    exact ⟨0, rfl, rfl⟩
  by_cases h4 : k = 66
  · subst h4
    go_enter Tryd.func109, Tryd.ntmps109
    go_wp2
    go_ret2
    exact ⟨0, rfl, rfl⟩
  by_cases h5 : k = 67
  · subst h5
    go_enter Tryd.func109, Tryd.ntmps109
    go_wp2
    go_ret2
    exact ⟨0, rfl, rfl⟩
  go_enter Tryd.func109, Tryd.ntmps109
  go_wp2
  go_ret2
  exact ⟨2, by simp [qtrI, h1, h2, h3, h4, h5], rfl⟩
end Go.Proofs.YtikjielgnlgnjaaDoor
