/-
  CoursePerpends by the program: the ends of pieces are collected.
-/
import Derived.Test.YtllcpgogfhjfpaaDoorWaVc
import Derived.Test.YtllcpgogfhjfpaaDoorWaC
import Derived.Test.YtllcpgogfhjfpaaDoorPerpJ
import Derived.Maps.AppendAt
namespace Go.Proofs.YtllcpgogfhjfpaaDoor
open Go.ChangeShapes Go.WideShapes Go.ChangeAt Go.RowKit Go.Joins Go.Shelf


attribute [local go_sem] Oper.semAt_some

def plcVals (l : List Plc) : List Value := l.map fun x => .int .i64 x.1
theorem plcVals_end {s : ByteArray} (hs : s.size ≤ 250) : plcVals (endP s s.size) = intVals (prpC s s.size) := by
  unfold plcVals endP intVals prpC
  rw [List.map_map, List.map_map]
  refine List.map_congr_left fun i hi => ?_
  have hi' : i < s.size := by simpa using hi
  have := qto_le s (i + 1)
  show Value.int .i64 (mkP (qto s (i + 1))).1 = _
  rw [mkP_val (by omega)]
  rfl
/-- Ends are collected. -/
def ColOut (w : World) (s : ByteArray) (e : Ending) (w' : World) : Prop := ∃ a cap, e = .returned (.slice a s.size cap) ∧ IntRes w.heap.size (prpC s s.size) a w' ∧ Below w.heap.size w w'
/-- A course without its last piece. -/
def lessB (s : ByteArray) : ByteArray := s.extract 0 (s.size - 1)
theorem lessB_size (s : ByteArray) : (lessB s).size = s.size - 1 := by simp [lessB]
theorem lessB_list (s : ByteArray) : (lessB s).data.toList = s.data.toList.take (s.size - 1) := by
  have h : s.data.toList.dropLast = s.data.toList.take (s.data.toList.length - 1) := List.dropLast_eq_take
  simpa [lessB] using h
theorem lessB_qto (s : ByteArray) {k : Nat} (h : k ≤ s.size - 1) : qto (lessB s) k = qto s k := by
  unfold qto
  rw [lessB_list, List.take_take, Nat.min_eq_left h]
theorem lessB_perps (s : ByteArray) : prpC (lessB s) (lessB s).size = perpsC s := by
  rw [lessB_size]
  unfold perpsC prpC
  refine List.map_congr_left fun i hi => ?_
  rw [lessB_qto s (by simp at hi; omega)]
theorem perpendsIn_impl (s : ByteArray) (h1 : 1 ≤ s.size) (hs : s.size ≤ 1048576) (w : World) : Calls Tryd.prog 38 #[.string s] w fun e w' => e = .returned (.func (.func 90) #[] #[.pointer (some ⟨w.heap.size, 0, none⟩)]) ∧ w' = w.alloc (.cells #[.string (lessB s)] 9) := by
  have C := Lib.hid (fun wx => callsIn_wide.1 (ends_in (lessB s) wx))
  have hn : (s.size : Int) - 1 = ((s.size - 1 : Nat) : Int) := by omega
  have h0 : (0 : Int) ≤ (s.size : Int) - 1 := by omega
  have h2 : (s.size : Int) - 1 ≤ (s.size : Int) := by omega
  go_enter Tryd.func38, Tryd.ntmps38
  go_wp2_with fail
  refine (C.out _).mono ?_
  rintro e w' ⟨rfl, rfl⟩
  go_wp2
  go_ret
  exact ⟨rfl, rfl⟩
end Go.Proofs.YtllcpgogfhjfpaaDoor
