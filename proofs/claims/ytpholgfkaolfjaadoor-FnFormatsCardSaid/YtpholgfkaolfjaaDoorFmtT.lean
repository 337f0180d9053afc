/-
  The text of a format: the model's and the program's.
-/
import Derived.Test.YtpholgfkaolfjaaDoorJoinN
import Derived.Test.YtpholgfkaolfjaaDoorDec2
import Derived.Test.YtpholgfkaolfjaaDoorC2v
import Derived.Test.YtpholgfkaolfjaaDoorKeep
namespace Go.Proofs.YtpholgfkaolfjaaDoor
open Go.ChangeShapes Go.WideShapes Go.ChangeAt Go.RowKit Go.Joins


theorem ret_str {a b : ByteArray} (h : a = b) : Ending.returned (.string a) = .returned (.string b) := by rw [h]
theorem fmt_cat (d1 d2 d3 d4 : List UInt8) : (ByteArray.mk d1.toArray ++ ByteArray.mk #[120] ++ ByteArray.mk d2.toArray ++ ByteArray.mk #[120] ++ ByteArray.mk d3.toArray ++ ByteArray.mk #[43] ++ ByteArray.mk d4.toArray) = ByteArray.mk (d1 ++ [120] ++ d2 ++ [120] ++ d3 ++ [43] ++ d4).toArray := by
  rw [← ByteArray.mk_append_mk, ← ByteArray.mk_append_mk, ← ByteArray.mk_append_mk, ← ByteArray.mk_append_mk, ← ByteArray.mk_append_mk, ← ByteArray.mk_append_mk]
/-- The text of a format. -/
def fmtL (l wd ht j : Int) : List UInt8 := Lib.itoa l ++ [120] ++ Lib.itoa wd ++ [120] ++ Lib.itoa ht ++ [43] ++ Lib.itoa j
/-- What FormatText answers. -/
def fmtS (l wd ht j : Int) : ByteArray := if okB l wd ht j = true then ⟨(fmtL l wd ht j).toArray⟩ else ⟨#[]⟩

theorem fmtL_join (l wd ht j : Int) : joinTo [120] [l, wd, ht] 3 ++ [43] ++ Lib.itoa j = fmtL l wd ht j := by
  simp [joinTo, fmtL]
end Go.Proofs.YtpholgfkaolfjaaDoor
