/-
  Perpends, laps and headers: the model's answers.
-/
import Derived.Test.YtllcpgogfhjfpaaGreatDoorPerpI
import Derived.Test.YtllcpgogfhjfpaaGreatDoorPerpV
import Derived.Test.YtllcpgogfhjfpaaGreatDoorWaVc
import Derived.Test.YtllcpgogfhjfpaaGreatDoorBy
namespace Go.Proofs.YtllcpgogfhjfpaaGreatDoor
open Go.ChangeShapes Go.WideShapes Go.ChangeAt Go.RowKit Go.Joins


/-- A bond lies at b. -/
def BdAt (w : World) (b : Nat) (nm : ByteArray) (L : List Co) (a : Option Addr) (cap : Nat) : Prop := w.cell? ⟨b, 0, none⟩ = some (.string nm) ∧ w.cell? ⟨b, 1, none⟩ = some (.slice a L.length cap) ∧ CoArg w a L
theorem BdAt.later {w w' : World} {b : Nat} {nm : ByteArray} {L : List Co} {a : Option Addr} {cap : Nat} (h : BdAt w b nm L a cap) (hb : Below w.heap.size w w') : BdAt w' b nm L a cap :=
  ⟨(hb.cell (p := ⟨b, 0, none⟩) (World.block_lt_of_cell? w _ h.1)).trans h.1, (hb.cell (p := ⟨b, 1, none⟩) (World.block_lt_of_cell? w _ h.2.1)).trans h.2.1, h.2.2.later hb⟩
theorem bd_new (w : World) (nm : ByteArray) (L : List Co) (a : Option Addr) (cap : Nat) (t : TypeId) (ha : CoArg w a L) : BdAt (w.alloc (.cells #[.string nm, .slice a L.length cap] t)) w.heap.size nm L a cap :=
  ⟨(box2 w nm _ t).1, (box2 w nm _ t).2, ha.later (balloc0 _ _)⟩

theorem crs_in {w : World} {a : Option Addr} {L : List Co} (ha : CoArg w a L) (h : 1 ≤ L.length) (k : Nat) : ∃ b o, a = some ⟨b, o, none⟩ ∧ w.cell? ⟨b, o + (k % L.length) * 2, none⟩ = some (.string (crs L k).lead) ∧ w.cell? ⟨b, o + (k % L.length) * 2 + 1, none⟩ = some (.string (crs L k).cyc) := by
  obtain ⟨b, o, c, h1, h2, h3⟩ := ha.at (Nat.mod_lt k h)
  have := crs_at h k
  rw [h2] at this
  cases this
  exact ⟨b, o, h1, (h3.cells h2).1, (h3.cells h2).2⟩

/-- Places within bounds. -/
def Near (A : List Int) : Prop := ∀ (k : Nat) (z : Int), A[k]? = some z → 0 ≤ z ∧ z ≤ 1000
theorem map_take_succ {B : List Int} {k : Nat} {y : Int} (h : B[k]? = some y) (f : Int → Int) : (B.take (k + 1)).map f = (B.take k).map f ++ [f y] := by
  rw [List.take_add_one, h]
  simp
end Go.Proofs.YtllcpgogfhjfpaaGreatDoor
/-
  PerpendsOf, LapBetween, LapOfBond and HeadersIn: the model's answers.
-/
namespace Go.Proofs.YtllcpgogfhjfpaaGreatDoor
open Go.ChangeShapes Go.WideShapes Go.ChangeAt Go.RowKit Go.Joins


theorem near_perps {L : List Co} {k u : Nat} (h : (crs L k).ok = true) (hu : 1 ≤ u) (hu2 : u ≤ 201) : Near (perpsV L k u) := fun i z hz => by
  have := perpsV_range h hu hz
  omega
def tup2 (v : Value) (c : Int) : Ending := .returned (.tuple #[v, .int .i64 c])
/-- What PerpendsOf hands back. -/
def PerpAns (w : World) (nm : ByteArray) (L : List Co) (course til : Int) (e : Ending) (w' : World) : Prop :=
  ∃ a cap, e = .returned (.tuple #[.slice a (perpV nm L course til).length cap, .int .i64 (bCode nm L course til)]) ∧ IntRes w.heap.size (perpV nm L course til) a w' ∧ Below w.heap.size w w'
end Go.Proofs.YtllcpgogfhjfpaaGreatDoor
/-
  A course that is laid: what it is, and the model's word.
-/
namespace Go.Proofs.YtllcpgogfhjfpaaGreatDoor
open Go.ChangeShapes Go.WideShapes Go.ChangeAt Go.RowKit Go.Joins


/-- What fills up a course. -/
def fillL (k : Nat) : List UInt8 := if k = 1 then [67] else if k = 2 then [66] else if k = 3 then [84] else []
/-- How many whole pieces a course has, and its pieces. -/
def layM (c : Co) (u : Nat) : Nat := perpM c (u + 1)
def layL (c : Co) (u : Nat) : List UInt8 := pieceL c (layM c u) ++ fillL (u - ends c (layM c u))
theorem lay_is {c : Co} (h : c.ok = true) (u : Nat) : PerpIs c (u + 1) (layM c u) := perp_some h (by omega)
theorem lay_eq {c : Co} (h : c.ok = true) {u m : Nat} (hm : PerpIs c (u + 1) m) : layM c u = m := perpM_eq h hm
theorem lay_left {c : Co} (h : c.ok = true) {u m : Nat} (hm : PerpIs c (u + 1) m) : ends c m ≤ u ∧ u - ends c m ≤ 3 := by
  obtain ⟨h1, h2⟩ := hm
  have := (ends_step h m).2
  omega
theorem fillL_length (k : Nat) : (fillL k).length ≤ 1 := by
  unfold fillL
  repeat' split
  all_goals simp
theorem layL_length {c : Co} (h : c.ok = true) (u : Nat) : (layL c u).length ≤ u + 2 := by
  have h1 := perp_le h (lay_is h u)
  have h2 := fillL_length (u - ends c (layM c u))
  unfold layL
  rw [List.length_append, pieceL_length]
  omega
theorem qsum_pieceL (c : Co) : ∀ m, qsum (pieceL c m) = ends c m
  | 0 => rfl
  | m + 1 => by rw [pieceL_succ, qsum_append, qsum_pieceL c m]; simp [qsum, ends]
end Go.Proofs.YtllcpgogfhjfpaaGreatDoor
/-
  LayCourse: what it tells, and the model's word.
-/
namespace Go.Proofs.YtllcpgogfhjfpaaGreatDoor
open Go.ChangeShapes Go.WideShapes Go.ChangeAt Go.RowKit Go.Joins


def lyL (L : List Co) (c t : Int) : List UInt8 := layL (crs L c.toNat) t.toNat
def lyC (nm : ByteArray) (L : List Co) (c t : Int) : Int := if bCode nm L c t = 0 then (if (lyL L c t).length ≤ 60 then 0 else 5) else bCode nm L c t
def lyB (nm : ByteArray) (L : List Co) (c t : Int) : ByteArray := if lyC nm L c t = 0 then ⟨(lyL L c t).toArray⟩ else ⟨#[]⟩
theorem ly_bad {nm : ByteArray} {L : List Co} {c t : Int} (h : ¬ bCode nm L c t = 0) : lyC nm L c t = bCode nm L c t ∧ lyB nm L c t = ⟨#[]⟩ := by
  have h1 : lyC nm L c t = bCode nm L c t := by unfold lyC; rw [if_neg h]
  exact ⟨h1, by unfold lyB; rw [h1, if_neg h]⟩
theorem ly_full {nm : ByteArray} {L : List Co} {c t : Int} (h : bCode nm L c t = 0) (hl : ¬ (lyL L c t).length ≤ 60) : lyC nm L c t = 5 ∧ lyB nm L c t = ⟨#[]⟩ := by
  have h1 : lyC nm L c t = 5 := by unfold lyC; rw [if_pos h, if_neg hl]
  exact ⟨h1, by unfold lyB; rw [h1, if_neg (by omega)]⟩
theorem ly_good {nm : ByteArray} {L : List Co} {c t : Int} (h : bCode nm L c t = 0) (hl : (lyL L c t).length ≤ 60) : lyC nm L c t = 0 ∧ lyB nm L c t = ⟨(lyL L c t).toArray⟩ := by
  have h1 : lyC nm L c t = 0 := by unfold lyC; rw [if_pos h, if_pos hl]
  exact ⟨h1, by unfold lyB; rw [h1, if_pos rfl]⟩
theorem lyL_nat (L : List Co) (k u : Nat) : lyL L (k : Int) (u : Int) = layL (crs L k) u := by simp [lyL]
end Go.Proofs.YtllcpgogfhjfpaaGreatDoor
