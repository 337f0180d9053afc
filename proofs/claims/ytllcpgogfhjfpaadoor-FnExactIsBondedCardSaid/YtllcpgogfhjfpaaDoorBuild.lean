/-
  strings.Builder: what its writing methods do at this program: the methods' own text, walked. (The library's contracts speak of another text of copyCheck: here its panicking arm is refused by the loader.)
-/
import Derived.Test.YtllcpgogfhjfpaaDoorBase
import Derived.Lib.Builder
import Derived.Shelf.Strings.Builder1
namespace Go.Proofs.YtllcpgogfhjfpaaDoor
open Go.ChangeShapes Go.WideShapes Go.ChangeAt Go.RowKit Go.Joins


theorem infoByteB : (Tryd.prog.info? 5).map (fun i => (i.zero, i.size, i.bytes)) = some (some (.int .u8 0), 1, 1) := by kernel_rfl
end Go.Proofs.YtllcpgogfhjfpaaDoor
