/-
  Texts of bonds as plain data. Nothing of the dump.
-/
import Derived.Test.YtikjielgnlgnjaaDoorCo
import Derived.Lib.Join
import Derived.Laws.Concat
import Derived.Test.YtikjielgnlgnjaaDoorPerp
import Derived.Test.YtikjielgnlgnjaaDoorInts
import Derived.Test.YtikjielgnlgnjaaDoorCoI
import Derived.Test.YtikjielgnlgnjaaDoorShelfB
import Derived.OwnWalk
import Derived.Lib.IfaceEq
import Derived.Stop.Asserts
import Derived.LaidEql
import Derived.RowKitTokens
namespace Go.Proofs.YtikjielgnlgnjaaDoor
open Go.ChangeShapes Go.WideShapes Go.ChangeAt Go.RowKit Go.Joins

theorem ret_strB {a b : ByteArray} (h : a = b) : Ending.returned (.string a) = .returned (.string b) := by rw [h]
/-- The text of a course. -/
def coTxt (c : Co) : ByteArray := if c.lead.size = 0 then c.cyc else c.lead ++ ⟨#[43]⟩ ++ c.cyc
/-- The name and the first k courses. -/
def bdTo (nm : ByteArray) (L : List Co) : Nat → ByteArray
  | 0 => nm
  | k + 1 => match L[k]? with | some c => bdTo nm L k ++ ⟨#[32]⟩ ++ coTxt c | none => bdTo nm L k
theorem bdTo_step {nm : ByteArray} {L : List Co} {k : Nat} {c : Co} (h : L[k]? = some c) : bdTo nm L (k + 1) = bdTo nm L k ++ ⟨#[32]⟩ ++ coTxt c := by simp [bdTo, h]
def bdT (nm : ByteArray) (L : List Co) : ByteArray := bdTo nm L L.length
def bdS (nm : ByteArray) (L : List Co) : ByteArray := if okBond nm L = true then bdT nm L else ⟨#[]⟩
theorem coTxt_size {c : Co} (h : c.ok = true) : 1 ≤ (coTxt c).size ∧ (coTxt c).size ≤ 15 := by
  obtain ⟨h1, _, h2, h3, _⟩ := Co.ok_facts h
  unfold coTxt
  split
  · omega
  · rw [ByteArray.size_append, ByteArray.size_append]
    have : (ByteArray.mk #[43]).size = 1 := rfl
    omega
theorem bdTo_size {nm : ByteArray} {L : List Co} (h : ∀ (k : Nat) (c : Co), L[k]? = some c → c.ok = true) : ∀ k, (bdTo nm L k).size ≤ nm.size + 16 * k
  | 0 => Nat.le_refl _
  | k + 1 => by
    have ih := bdTo_size (nm := nm) h k
    simp only [bdTo]
    split
    · rename_i c hc
      have := coTxt_size (h k c hc)
      rw [ByteArray.size_append, ByteArray.size_append]
      have : (ByteArray.mk #[32]).size = 1 := rfl
      omega
    · omega
/-- The words of the text. -/
def bdW (nm : ByteArray) (L : List Co) : List ByteArray := nm :: L.map coTxt
theorem joinTail_append (sep : List UInt8) (A B : List (List UInt8)) : Lib.joinTail sep (A ++ B) = Lib.joinTail sep A ++ Lib.joinTail sep B := by simp [Lib.joinTail]
theorem bdTo_list (nm : ByteArray) (L : List Co) : ∀ k, k ≤ L.length → (bdTo nm L k).data.toList = nm.data.toList ++ Lib.joinTail [32] ((L.take k).map fun c => (coTxt c).data.toList)
  | 0, _ => by simp [bdTo, Lib.joinTail]
  | k + 1, h => by
    have hk : L[k]? = some (L[k]'(by omega)) := List.getElem?_eq_getElem (by omega)
    rw [bdTo_step hk, List.take_add_one, hk, List.map_append, joinTail_append]
    simp only [ByteArray.data_append, Array.toList_append, bdTo_list nm L k (by omega)]
    rw [List.append_assoc, List.append_assoc]
    congr 1
    congr 1
    simp [Lib.joinTail]
theorem bdW_join (nm : ByteArray) (L : List Co) : (⟨(Lib.join ((bdW nm L).map (·.data.toList)) [32]).toArray⟩ : ByteArray) = bdT nm L := by
  apply ByteArray.ext
  apply Array.toList_inj.1
  rw [bdT, bdTo_list nm L L.length (Nat.le_refl _)]
  simp [bdW, Lib.join_cons, Function.comp_def]
theorem bdW_size {nm : ByteArray} {L : List Co} (h : okBond nm L = true) : (bdT nm L).size ≤ 140 ∧ (Lib.join ((bdW nm L).map (·.data.toList)) [32]).length ≤ 140 := by
  obtain ⟨h1, h2, h3, h4⟩ := okBond_facts h
  have h5 := bdTo_size (nm := nm) h4 L.length
  have h6 : nm.size ≤ 12 := by simp only [nameB, Bool.and_eq_true, decide_eq_true_eq] at h1; exact h1.2.1
  have h7 := congrArg ByteArray.size (bdW_join nm L)
  have h8 : (ByteArray.mk (Lib.join ((bdW nm L).map (·.data.toList)) [32]).toArray).size = (Lib.join ((bdW nm L).map (·.data.toList)) [32]).length := by simp [ByteArray.size]
  unfold bdT at *
  omega
end Go.Proofs.YtikjielgnlgnjaaDoor
/-
  Perpends by the model.
-/
namespace Go.Proofs.YtikjielgnlgnjaaDoor
open Go.ChangeShapes Go.WideShapes Go.ChangeAt Go.RowKit Go.Joins


theorem box2c (w : World) (x y : ByteArray) (t : TypeId) : (w.alloc (.cells #[.string x, .string y] t)).cell? ⟨w.heap.size, 0, none⟩ = some (.string x) ∧ (w.alloc (.cells #[.string x, .string y] t)).cell? ⟨w.heap.size, 1, none⟩ = some (.string y) := by
  refine ⟨?_, ?_⟩ <;> (rw [cell_of_row _ _ _ _ t (0, 0) (heap_alloc_new w _)]; rfl)

/-- Perpends are handed back. -/
def PerpOut (w : World) (c : Co) (u : Nat) (e : Ending) (w' : World) : Prop :=
  ∃ m g cap, PerpIs c u m ∧ e = .returned (.slice (some ⟨g, 0, none⟩) m cap) ∧ IntOwn w.heap.size (perpL c m) g w' ∧ Below w.heap.size w w'

theorem own_later {w w' : World} {B e size n : Nat} {v : Value} {xs : List Value} (h : w.ownsRow B e size v n xs) (hb : Below w.heap.size w w') : w'.ownsRow B e size v n xs := by
  refine ⟨h.1, ?_⟩
  rcases h.2 with hn | ⟨g, cap, cur, hv, hB, hgg, rest⟩
  · exact .inl hn
  · exact .inr ⟨g, cap, cur, hv, hB, (hb.block g (Array.getElem?_eq_some_iff.1 hgg).1).trans hgg, rest⟩
theorem nums_later {W0 w w' : World} {ps : List Int} {g cap : Nat} (h : NumsAt W0 ps g cap w) (hb : Below w.heap.size w w') : NumsAt W0 ps g cap w' :=
  ⟨own_later h.1 hb, h.2.1.trans (hb.mono (Nat.le_of_succ_le h.2.2)), Nat.le_trans h.2.2 hb.size⟩
end Go.Proofs.YtikjielgnlgnjaaDoor
/-
  Texts of bonds: the model's.
-/
namespace Go.Proofs.YtikjielgnlgnjaaDoor
open Go.ChangeShapes Go.WideShapes Go.ChangeAt Go.RowKit Go.Joins

end Go.Proofs.YtikjielgnlgnjaaDoor
/-
  Texts of bonds: the program's.
-/
namespace Go.Proofs.YtikjielgnlgnjaaDoor
open Go.ChangeShapes Go.WideShapes Go.ChangeAt Go.RowKit Go.Joins
theorem infoStrB : (Tryd.prog.info? 9).map (fun i => (i.zero, i.size, i.bytes)) = some (some (.string ⟨#[]⟩), 1, 16) := by kernel_rfl
def strVals (W : List ByteArray) : List Value := W.map Value.string
theorem strVals_one (W : List ByteArray) : ∀ u ∈ strVals W, u.oneCell' = true := by
  intro u hu
  obtain ⟨c, _, rfl⟩ := List.mem_map.1 hu
  rfl
theorem litS (base : Nat) (wr : World) (x : ByteArray) (hb : base ≤ wr.heap.size) : (wr.alloc (.cells #[.string x] 9)).ownsRow base 9 1 (.slice (some ⟨wr.heap.size, 0, none⟩) 1 1) 1 (strVals [x]) :=
  ⟨rfl, .inr ⟨wr.heap.size, 1, #[.string x], rfl, hb, heap_alloc_new wr _, Nat.le_refl _, by decide, rfl, rfl⟩⟩
theorem own_form8S {w : World} {B : Nat} {e : TypeId} {n : Nat} {v : Value} {xs : List Value} (h : w.ownsRow B e 1 v n xs) (hn : n ≠ 0) : ∃ g cap, v = .slice (some ⟨g, 0, none⟩) n cap := by
  rcases h.2 with ⟨_, h0⟩ | ⟨g, cap, cur, hv, _⟩
  · exact absurd h0 hn
  · exact ⟨g, cap, hv⟩
end Go.Proofs.YtikjielgnlgnjaaDoor
/-
  errors.Is where the target is a number of the program's own type of problems.
-/
namespace Go.Proofs.YtikjielgnlgnjaaDoor
open Go.ChangeShapes Go.WideShapes Go.ChangeAt Go.RowKit Go.Joins Go.Extern.Stop Go.Stop Go.Extern

end Go.Proofs.YtikjielgnlgnjaaDoor
