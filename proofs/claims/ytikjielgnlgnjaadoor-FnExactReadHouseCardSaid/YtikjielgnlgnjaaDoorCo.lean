/-
  IsName by the program and by the model: both answer whether a string is a name.
-/
import Derived.Test.YtikjielgnlgnjaaDoorDecI
import Derived.Laws.RangeAny
import Derived.Lib.OthersKept
import Derived.Laws.Closers25b
import Derived.Deep.MidRow
import Derived.Deep.DeepMust
import Derived.Laws.OwnMore
namespace Go.Proofs.YtikjielgnlgnjaaDoor
open Go.ChangeShapes Go.WideShapes Go.ChangeAt Go.RowKit Go.Joins


/-- A letter of a name behind the first one. -/
def okC (n : Int) : Bool := (decide (97 ≤ n) && decide (n ≤ 122)) || ((decide (48 ≤ n) && decide (n ≤ 57)) || decide (n = 45))
def smallC (n : Int) : Bool := decide (97 ≤ n) && decide (n ≤ 122)
/-- From position k on all letters are letters of a name. -/
def restB (s : ByteArray) (k : Nat) : Bool := (s.data.toList.drop k).all fun c => okC c.toNat
/-- A name. -/
def nameB (s : ByteArray) : Bool := decide (1 ≤ s.size) && (decide (s.size ≤ 12) && (smallC (s.get! 0).toNat && restB s 0))

theorem restB_end (s : ByteArray) (k : Nat) (h : s.size ≤ k) : restB s k = true := by
  have : s.data.toList.drop k = [] := List.drop_eq_nil_iff.2 (by simpa using h)
  simp [restB, this]
theorem restB_step (s : ByteArray) (k : Nat) (h : k < s.size) : restB s k = (okC (s[k]'h).toNat && restB s (k + 1)) := by
  have h' : k < s.data.toList.length := by simpa using h
  have e : s.data.toList.drop k = (s[k]'h) :: s.data.toList.drop (k + 1) := by
    rw [List.drop_eq_getElem_cons h']; rfl
  simp [restB, e]
theorem get0 (s : ByteArray) (h : 0 < s.size) : s.get! 0 = s[0]'h := by
  simp [ByteArray.get!, getElem!_pos, h]; rfl

theorem digit_spec (n : Int) (w : World) : Calls Tryd.prog 96 #[.int .u8 n] w fun e w' => e = .returned (.bool (decide (48 ≤ n) && decide (n ≤ 57))) ∧ w = w' := by
  by_cases h1 : 48 ≤ n <;> by_cases h2 : n ≤ 57
  all_goals
    go_enter Tryd.func96, Tryd.ntmps96
    go_wp2
    go_ret
    exact ⟨ret_bool (by simp [h1, h2]), rfl⟩
def digC (n : Int) : Bool := decide (48 ≤ n) && decide (n ≤ 57)
theorem okC_eq (n : Int) : okC n = (smallC n || (digC n || decide (n = 45))) := rfl
theorem okC_high (n : Int) (h : 128 ≤ n) : okC n = false := by simp [okC]; omega
theorem smallC_high (n : Int) (h : 128 ≤ n) : smallC n = false := by simp [smallC]; omega
theorem nameB_short (s : ByteArray) (h : ¬ 1 ≤ s.size) : nameB s = false := by simp [nameB, h]
theorem nameB_long (s : ByteArray) (h : ¬ s.size ≤ 12) : nameB s = false := by simp [nameB, h]
theorem nameB_first (s : ByteArray) (h : 0 < s.size) (hc : smallC (s[0]'h).toNat = false) : nameB s = false := by simp [nameB, get0 s h, hc]
theorem nameB_rest (s : ByteArray) (h : 0 < s.size) (h2 : s.size ≤ 12) (hc : smallC (s[0]'h).toNat = true) : nameB s = restB s 0 := by
  have : 1 ≤ s.size := h
  simp [nameB, get0 s h, hc, h2, this]

theorem empty_of (s : ByteArray) (h : ¬ 1 ≤ s.size) : s = .empty := by
  have hz : s.data.size = 0 := by have : s.size = s.data.size := rfl; omega
  have h2 : s.data = #[] := Array.eq_empty_of_size_eq_zero hz
  cases s; simp_all [ByteArray.empty, ByteArray.emptyWithCapacity]
theorem toList_ne (s : ByteArray) (h : 1 ≤ s.size) : s.toList.isEmpty = false := by
  rw [Bool.eq_false_iff, ne_eq, List.isEmpty_iff, toList_nil_iff_emptyBytes]
  intro he; subst he; simp at h
end Go.Proofs.YtikjielgnlgnjaaDoor
/-
  impl.IsName, by runes.
-/
namespace Go.Proofs.YtikjielgnlgnjaaDoor
open Go.ChangeShapes Go.WideShapes Go.ChangeAt Go.RowKit Go.Joins


/-- What is left to show at position k: behind the first letter all letters decide, at the first one the name itself. -/
def leftB (s : ByteArray) (k : Nat) : Bool := if k = 0 then nameB s else restB s k
theorem leftB_pos (s : ByteArray) (k : Nat) (h : 0 < k) : leftB s k = restB s k := by simp [leftB]; omega
theorem leftB_first (s : ByteArray) (h : 0 < s.size) (h2 : s.size ≤ 12) : leftB s 0 = (smallC (s[0]'h).toNat && restB s 1) := by
  have e : leftB s 0 = nameB s := rfl
  rw [e]
  cases hc : smallC (s[0]'h).toNat
  · rw [nameB_first s h hc]; rfl
  · rw [nameB_rest s h h2 hc, restB_step s 0 h, okC_eq, hc]; rfl
end Go.Proofs.YtikjielgnlgnjaaDoor
/-
  Courses of bonds as plain data: a right course, a right bond, where courses lie in memory. Nothing of the dump.
-/
namespace Go.Proofs.YtikjielgnlgnjaaDoor
open Go.ChangeShapes Go.WideShapes Go.ChangeAt Go.RowKit Go.Joins

structure Co where
  lead : ByteArray
  cyc : ByteArray

instance : Inhabited Co := ⟨⟨.empty, .empty⟩⟩

/-- The two cells of a course. -/
def Co.vals (c : Co) : List Value := [.string c.lead, .string c.cyc]
/-- The quarters of a piece; 0 if it is none. -/
def qtr (x : UInt8) : Nat := if x = 83 then 4 else if x = 84 then 3 else if x = 72 then 2 else if x = 66 then 2 else if x = 67 then 1 else 0
/-- Pieces alone; stretchers and headers alone. -/
def piecesB (s : ByteArray) : Bool := s.data.toList.all fun x => decide (qtr x ≠ 0)
def plainB (s : ByteArray) : Bool := s.data.toList.all fun x => decide (x = 83) || decide (x = 72)
/-- A course as told. -/
def Co.ok (c : Co) : Bool := decide (c.lead.size ≤ 6) && (piecesB c.lead && (inB (c.cyc.size : Int) 1 8 && plainB c.cyc))
/-- All courses are as told. -/
def okCos (L : List Co) : Bool := L.all Co.ok
/-- A bond as told. -/
def okBond (nm : ByteArray) (L : List Co) : Bool := okCos L && (nameB nm && inB (L.length : Int) 1 8)

/-- The courses lie in block b from offset o on. -/
def CoAt (w : World) (b o : Nat) (L : List Co) : Prop := ∀ k c, L[k]? = some c → w.rangeAt b (o + k * 2) c.vals
theorem CoAt.carry {w w' : World} {b o : Nat} {L : List Co} (h : CoAt w b o L) (hc : ∀ p, w.cell? ⟨b, p, none⟩ ≠ none → w'.cell? ⟨b, p, none⟩ = w.cell? ⟨b, p, none⟩) : CoAt w' b o L :=
  fun k c hk j v hv => by
    have h1 := h k c hk j v hv
    rw [hc _ (by rw [h1]; simp)]
    exact h1
theorem CoAt.later {w w' : World} {b o : Nat} {L : List Co} (h : CoAt w b o L) (hb : Below w.heap.size w w') : CoAt w' b o L :=
  h.carry (fun p hp => hb.cell (p := ⟨b, p, none⟩) (by
    obtain ⟨v, hv⟩ := Option.ne_none_iff_exists'.1 hp
    exact World.block_lt_of_cell? w _ hv))
theorem CoAt.cells {w : World} {b o k : Nat} {L : List Co} {c : Co} (h : CoAt w b o L) (hk : L[k]? = some c) :
    w.cell? ⟨b, o + k * 2, none⟩ = some (.string c.lead) ∧ w.cell? ⟨b, o + k * 2 + 1, none⟩ = some (.string c.cyc) :=
  ⟨h k c hk 0 _ rfl, h k c hk 1 _ rfl⟩

/-- What is told of the slice: nothing is in it, or its courses lie there. -/
def CoArg (w : World) (a : Option Addr) (L : List Co) : Prop := L = [] ∨ ∃ b o, a = some ⟨b, o, none⟩ ∧ CoAt w b o L
theorem CoArg.later {w w' : World} {a : Option Addr} {L : List Co} (h : CoArg w a L) (hb : Below w.heap.size w w') : CoArg w' a L := by
  rcases h with h | ⟨b, o, h1, h2⟩
  · exact .inl h
  · exact .inr ⟨b, o, h1, h2.later hb⟩
theorem CoArg.at {w : World} {a : Option Addr} {L : List Co} (h : CoArg w a L) {k : Nat} (hk : k < L.length) : ∃ b o c, a = some ⟨b, o, none⟩ ∧ L[k]? = some c ∧ CoAt w b o L := by
  rcases h with h | ⟨b, o, h1, h2⟩
  · subst h; simp at hk
  · exact ⟨b, o, _, h1, List.getElem?_eq_getElem hk, h2⟩
theorem CoArg.lies {w : World} {b o : Nat} {L : List Co} (h : CoArg w (some ⟨b, o, none⟩) L) : CoAt w b o L := by
  rcases h with h | ⟨b', o', h1, h2⟩
  · subst h; intro k c hk; simp at hk
  · cases h1; exact h2

/-- No text of the courses is longer than n. -/
def CosLe (n : Nat) (L : List Co) : Prop := ∀ (k : Nat) (c : Co), L[k]? = some c → c.lead.size ≤ n ∧ c.cyc.size ≤ n

/-- The first k courses are as told. -/
theorem okCos_take {L : List Co} {k : Nat} {c : Co} (hk : L[k]? = some c) : okCos (L.take (k + 1)) = (okCos (L.take k) && c.ok) := by
  unfold okCos
  rw [List.take_add_one, hk]
  simp
theorem okCos_bad {L : List Co} {k : Nat} {c : Co} (hk : L[k]? = some c) (h : c.ok = false) : okCos L = false := by
  unfold okCos
  rw [List.all_eq_false]
  exact ⟨c, List.mem_of_getElem? hk, by simp [h]⟩
theorem okBond_facts {nm : ByteArray} {L : List Co} (h : okBond nm L = true) : nameB nm = true ∧ 1 ≤ L.length ∧ L.length ≤ 8 ∧ ∀ (k : Nat) (c : Co), L[k]? = some c → c.ok = true := by
  simp only [okBond, Bool.and_eq_true, inB_true] at h
  refine ⟨h.2.1, by omega, by omega, fun k c hk => ?_⟩
  have h1 := h.1
  unfold okCos at h1
  rw [List.all_eq_true] at h1
  exact h1 c (List.mem_of_getElem? hk)
theorem Co.ok_facts {c : Co} (h : c.ok = true) : c.lead.size ≤ 6 ∧ piecesB c.lead = true ∧ 1 ≤ c.cyc.size ∧ c.cyc.size ≤ 8 ∧ plainB c.cyc = true := by
  simp only [Co.ok, Bool.and_eq_true, inB_true, decide_eq_true_eq] at h
  exact ⟨h.1, h.2.1, by omega, by omega, h.2.2.2⟩
/-- The first problem of a course; 0 if there is none. -/
def Co.fault (c : Co) (h : Bool) : Int :=
  if (piecesB c.lead && plainB c.cyc) = true then (if (decide (c.cyc.size = 0) || (h && decide (c.lead.size = 0))) = true then 4 else if 6 < c.lead.size ∨ 8 < c.cyc.size then 5 else 0) else 3
theorem fault_ok (c : Co) : c.fault (!decide (c.lead.size = 0)) = 0 ↔ c.ok = true := by
  unfold Co.fault Co.ok
  simp only [Bool.and_eq_true, inB_true, decide_eq_true_eq, Bool.or_eq_true, Bool.not_eq_true']
  constructor
  · intro h
    split at h
    · rename_i h1
      split at h
      · omega
      · rename_i h2
        split at h
        · omega
        · rename_i h3
          refine ⟨by omega, h1.1, by omega, h1.2⟩
    · omega
  · rintro ⟨h1, h2, h3, h4⟩
    rw [if_pos ⟨h2, h4⟩, if_neg (by rintro (h | ⟨h, h'⟩) <;> simp_all <;> omega), if_neg (by omega)]

/-- Texts that are not the same. -/
theorem sneB2 {x y : ByteArray} (h : ¬ x = y) : (x.toList == y.toList) = false := by
  rw [beq_eq_false_iff_ne]
  intro e
  rw [ByteArray.toList_eq, ByteArray.toList_eq] at e
  exact h (bytes_inj e)
theorem toList_same2 {x y : ByteArray} (h : x.toList = y.toList) : x = y := by
  rw [ByteArray.toList_eq, ByteArray.toList_eq] at h
  exact bytes_inj h
end Go.Proofs.YtikjielgnlgnjaaDoor
