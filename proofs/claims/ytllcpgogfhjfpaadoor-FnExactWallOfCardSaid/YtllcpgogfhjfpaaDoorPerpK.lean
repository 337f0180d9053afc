/-
  PerpendsOf by the program.
-/
import Derived.Test.YtllcpgogfhjfpaaDoorPerpJ
import Derived.Test.YtllcpgogfhjfpaaDoorPerpU
import Derived.Test.YtllcpgogfhjfpaaDoorCoI
namespace Go.Proofs.YtllcpgogfhjfpaaDoor
open Go.ChangeShapes Go.WideShapes Go.ChangeAt Go.RowKit Go.Joins


def bCodeL (nm : ByteArray) (L : List Co) (P : List Int) (til : Int) : Int := if okBond nm L = true then (if (P.all (fun z => inB z 0 1000) && inB til 1 200) = true then 0 else 2) else 1
theorem bCodeL_one (nm : ByteArray) (L : List Co) (k til : Int) : bCodeL nm L [k] til = bCode nm L k til := by simp [bCodeL, bCode]
theorem bCodeL_two (nm : ByteArray) (L : List Co) (j k til : Int) : bCodeL nm L [j, k] til = bCode2 nm L j k til := by
  unfold bCodeL bCode2 bCode
  cases h1 : okBond nm L <;> cases h2 : inB j 0 1000 <;> cases h3 : inB k 0 1000 <;> cases h4 : inB til 1 200 <;> simp [h2, h3]
theorem bCodeL_nil (nm : ByteArray) (L : List Co) (til : Int) : bCodeL nm L [] til = bCode nm L 0 til := by simp [bCodeL, bCode, inB]

theorem one_arg (wx : World) (course : Int) : IntArg (wx.alloc (.cells #[.int .i64 course] 2)) (some ⟨wx.heap.size, 0, none⟩) [course] := .inr ⟨wx.heap.size, 0, rfl, fun k z hk => by
  match k, hk with
  | 0, hk => cases hk; rw [cell_of_row _ _ _ _ _ (0, 0) (heap_alloc_new wx _)]; rfl⟩
theorem two_arg (wx : World) (x y : Int) : IntArg (wx.alloc (.cells #[.int .i64 x, .int .i64 y] 2)) (some ⟨wx.heap.size, 0, none⟩) [x, y] := .inr ⟨wx.heap.size, 0, rfl, fun k z hk => by
  match k, hk with
  | 0, hk => cases hk; rw [cell_of_row _ _ _ _ _ (0, 0) (heap_alloc_new wx _)]; rfl
  | 1, hk => cases hk; rw [cell_of_row _ _ _ _ _ (0, 0) (heap_alloc_new wx _)]; rfl⟩
end Go.Proofs.YtllcpgogfhjfpaaDoor
