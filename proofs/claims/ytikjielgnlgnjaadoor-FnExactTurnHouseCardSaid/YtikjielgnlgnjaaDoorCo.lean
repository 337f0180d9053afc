/-
  Courses of bonds as plain data: a right course, a right bond, where courses lie in memory. Nothing of the dump.
-/
import Derived.Test.YtikjielgnlgnjaaDoorIsName
import Derived.Test.YtikjielgnlgnjaaDoorIn
import Derived.Deep.MidRow
import Derived.Deep.DeepMust
import Derived.Laws.OwnMore
namespace Go.Proofs.YtikjielgnlgnjaaDoor
open Go.ChangeShapes Go.WideShapes Go.ChangeAt Go.RowKit Go.Joins

structure Co where
  lead : ByteArray
  cyc : ByteArray

instance : Inhabited Co := ⟨⟨.empty, .empty⟩⟩

/-- The two cells of a course. -/
def Co.vals (c : Co) : List Value := [.string c.lead, .string c.cyc]
/-- The quarters of a piece; 0 if it is none. -/
def qtr (x : UInt8) : Nat := if x = 83 then 4 else if x = 84 then 3 else if x = 72 then 2 else if x = 66 then 2 else if x = 67 then 1 else 0
/-- Pieces alone; stretchers and headers alone. -/
def piecesB (s : ByteArray) : Bool := s.data.toList.all fun x => decide (qtr x ≠ 0)
def plainB (s : ByteArray) : Bool := s.data.toList.all fun x => decide (x = 83) || decide (x = 72)
/-- A course as told. -/
def Co.ok (c : Co) : Bool := decide (c.lead.size ≤ 6) && (piecesB c.lead && (inB (c.cyc.size : Int) 1 8 && plainB c.cyc))
/-- All courses are as told. -/
def okCos (L : List Co) : Bool := L.all Co.ok
/-- A bond as told. -/
def okBond (nm : ByteArray) (L : List Co) : Bool := okCos L && (nameB nm && inB (L.length : Int) 1 8)

/-- The courses lie in block b from offset o on. -/
def CoAt (w : World) (b o : Nat) (L : List Co) : Prop := ∀ k c, L[k]? = some c → w.rangeAt b (o + k * 2) c.vals
theorem CoAt.carry {w w' : World} {b o : Nat} {L : List Co} (h : CoAt w b o L) (hc : ∀ p, w.cell? ⟨b, p, none⟩ ≠ none → w'.cell? ⟨b, p, none⟩ = w.cell? ⟨b, p, none⟩) : CoAt w' b o L :=
  fun k c hk j v hv => by
    have h1 := h k c hk j v hv
    rw [hc _ (by rw [h1]; simp)]
    exact h1
theorem CoAt.later {w w' : World} {b o : Nat} {L : List Co} (h : CoAt w b o L) (hb : Below w.heap.size w w') : CoAt w' b o L :=
  h.carry (fun p hp => hb.cell (p := ⟨b, p, none⟩) (by
    obtain ⟨v, hv⟩ := Option.ne_none_iff_exists'.1 hp
    exact World.block_lt_of_cell? w _ hv))
theorem CoAt.cells {w : World} {b o k : Nat} {L : List Co} {c : Co} (h : CoAt w b o L) (hk : L[k]? = some c) :
    w.cell? ⟨b, o + k * 2, none⟩ = some (.string c.lead) ∧ w.cell? ⟨b, o + k * 2 + 1, none⟩ = some (.string c.cyc) :=
  ⟨h k c hk 0 _ rfl, h k c hk 1 _ rfl⟩

/-- What is told of the slice: nothing is in it, or its courses lie there. -/
def CoArg (w : World) (a : Option Addr) (L : List Co) : Prop := L = [] ∨ ∃ b o, a = some ⟨b, o, none⟩ ∧ CoAt w b o L
theorem CoArg.later {w w' : World} {a : Option Addr} {L : List Co} (h : CoArg w a L) (hb : Below w.heap.size w w') : CoArg w' a L := by
  rcases h with h | ⟨b, o, h1, h2⟩
  · exact .inl h
  · exact .inr ⟨b, o, h1, h2.later hb⟩
theorem CoArg.at {w : World} {a : Option Addr} {L : List Co} (h : CoArg w a L) {k : Nat} (hk : k < L.length) : ∃ b o c, a = some ⟨b, o, none⟩ ∧ L[k]? = some c ∧ CoAt w b o L := by
  rcases h with h | ⟨b, o, h1, h2⟩
  · subst h; simp at hk
  · exact ⟨b, o, _, h1, List.getElem?_eq_getElem hk, h2⟩
theorem CoArg.lies {w : World} {b o : Nat} {L : List Co} (h : CoArg w (some ⟨b, o, none⟩) L) : CoAt w b o L := by
  rcases h with h | ⟨b', o', h1, h2⟩
  · subst h; intro k c hk; simp at hk
  · cases h1; exact h2

/-- No text of the courses is longer than n. -/
def CosLe (n : Nat) (L : List Co) : Prop := ∀ (k : Nat) (c : Co), L[k]? = some c → c.lead.size ≤ n ∧ c.cyc.size ≤ n

/-- The first k courses are as told. -/
theorem okCos_take {L : List Co} {k : Nat} {c : Co} (hk : L[k]? = some c) : okCos (L.take (k + 1)) = (okCos (L.take k) && c.ok) := by
  unfold okCos
  rw [List.take_add_one, hk]
  simp
theorem okCos_bad {L : List Co} {k : Nat} {c : Co} (hk : L[k]? = some c) (h : c.ok = false) : okCos L = false := by
  unfold okCos
  rw [List.all_eq_false]
  exact ⟨c, List.mem_of_getElem? hk, by simp [h]⟩
theorem okBond_facts {nm : ByteArray} {L : List Co} (h : okBond nm L = true) : nameB nm = true ∧ 1 ≤ L.length ∧ L.length ≤ 8 ∧ ∀ (k : Nat) (c : Co), L[k]? = some c → c.ok = true := by
  simp only [okBond, Bool.and_eq_true, inB_true] at h
  refine ⟨h.2.1, by omega, by omega, fun k c hk => ?_⟩
  have h1 := h.1
  unfold okCos at h1
  rw [List.all_eq_true] at h1
  exact h1 c (List.mem_of_getElem? hk)
theorem Co.ok_facts {c : Co} (h : c.ok = true) : c.lead.size ≤ 6 ∧ piecesB c.lead = true ∧ 1 ≤ c.cyc.size ∧ c.cyc.size ≤ 8 ∧ plainB c.cyc = true := by
  simp only [Co.ok, Bool.and_eq_true, inB_true, decide_eq_true_eq] at h
  exact ⟨h.1, h.2.1, by omega, by omega, h.2.2.2⟩
/-- The first problem of a course; 0 if there is none. -/
def Co.fault (c : Co) (h : Bool) : Int :=
  if (piecesB c.lead && plainB c.cyc) = true then (if (decide (c.cyc.size = 0) || (h && decide (c.lead.size = 0))) = true then 4 else if 6 < c.lead.size ∨ 8 < c.cyc.size then 5 else 0) else 3
theorem fault_ok (c : Co) : c.fault (!decide (c.lead.size = 0)) = 0 ↔ c.ok = true := by
  unfold Co.fault Co.ok
  simp only [Bool.and_eq_true, inB_true, decide_eq_true_eq, Bool.or_eq_true, Bool.not_eq_true']
  constructor
  · intro h
    split at h
    · rename_i h1
      split at h
      · omega
      · rename_i h2
        split at h
        · omega
        · rename_i h3
          refine ⟨by omega, h1.1, by omega, h1.2⟩
    · omega
  · rintro ⟨h1, h2, h3, h4⟩
    rw [if_pos ⟨h2, h4⟩, if_neg (by rintro (h | ⟨h, h'⟩) <;> simp_all <;> omega), if_neg (by omega)]

/-- Texts that are not the same. -/
theorem sneB2 {x y : ByteArray} (h : ¬ x = y) : (x.toList == y.toList) = false := by
  rw [beq_eq_false_iff_ne]
  intro e
  rw [ByteArray.toList_eq, ByteArray.toList_eq] at e
  exact h (bytes_inj e)
theorem toList_same2 {x y : ByteArray} (h : x.toList = y.toList) : x = y := by
  rw [ByteArray.toList_eq, ByteArray.toList_eq] at h
  exact bytes_inj h
end Go.Proofs.YtikjielgnlgnjaaDoor
