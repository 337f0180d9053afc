/-
  Clays as plain data: a right clay, a right list, where a list lies in memory. Nothing of the dump.
-/
import Derived.Test.YtlglijalhacmhabIsName
import Derived.Test.YtlglijalhacmhabIn
import Derived.Deep.MidRow
import Derived.Deep.DeepMust
import Derived.Laws.OwnMore
namespace Go.Proofs.Ytlglijalhacmhab
open Go.ChangeShapes Go.WideShapes Go.ChangeAt Go.RowKit Go.Joins

structure Cl where
  name : ByteArray
  sh : Int
  li : Int
  sa : Int
  pr : Int

instance : Inhabited Cl := ⟨⟨.empty, 0, 0, 0, 0⟩⟩

/-- The five cells of a clay. -/
def Cl.vals (c : Cl) : List Value := [.string c.name, .int .i64 c.sh, .int .i64 c.li, .int .i64 c.sa, .int .i64 c.pr]
/-- A clay as told. -/
def Cl.ok (c : Cl) : Bool := nameB c.name && (inB c.sh 0 200 && (inB c.li 0 1000 && (inB c.sa 0 1000 && inB c.pr 0 10000)))

/-- The clays lie in block b from offset o on. -/
def ClAt (w : World) (b o : Nat) (L : List Cl) : Prop := ∀ k c, L[k]? = some c → w.rangeAt b (o + k * 5) c.vals
theorem ClAt.carry {w w' : World} {b o : Nat} {L : List Cl} (h : ClAt w b o L) (hc : ∀ p, w.cell? ⟨b, p, none⟩ ≠ none → w'.cell? ⟨b, p, none⟩ = w.cell? ⟨b, p, none⟩) : ClAt w' b o L :=
  fun k c hk j v hv => by
    have h1 := h k c hk j v hv
    rw [hc _ (by rw [h1]; simp)]
    exact h1
theorem ClAt.below {w w' : World} {b o n : Nat} {L : List Cl} (h : ClAt w b o L) (hb : Below n w w') (hn : b < n) : ClAt w' b o L :=
  h.carry (fun p _ => hb.cell (p := ⟨b, p, none⟩) hn)
theorem ClAt.later {w w' : World} {b o : Nat} {L : List Cl} (h : ClAt w b o L) (hb : Below w.heap.size w w') : ClAt w' b o L :=
  h.carry (fun p hp => hb.cell (p := ⟨b, p, none⟩) (by
    obtain ⟨v, hv⟩ := Option.ne_none_iff_exists'.1 hp
    exact World.block_lt_of_cell? w _ hv))
theorem ClAt.cells {w : World} {b o k : Nat} {L : List Cl} {c : Cl} (h : ClAt w b o L) (hk : L[k]? = some c) :
    w.cell? ⟨b, o + k * 5, none⟩ = some (.string c.name) ∧ w.cell? ⟨b, o + k * 5 + 1, none⟩ = some (.int .i64 c.sh) ∧ w.cell? ⟨b, o + k * 5 + 2, none⟩ = some (.int .i64 c.li) ∧ w.cell? ⟨b, o + k * 5 + 3, none⟩ = some (.int .i64 c.sa) ∧ w.cell? ⟨b, o + k * 5 + 4, none⟩ = some (.int .i64 c.pr) :=
  ⟨h k c hk 0 _ rfl, h k c hk 1 _ rfl, h k c hk 2 _ rfl, h k c hk 3 _ rfl, h k c hk 4 _ rfl⟩

/-- What is told of the slice: nothing is in it, or its clays lie there. -/
def ClArg (w : World) (a : Option Addr) (L : List Cl) : Prop := L = [] ∨ ∃ b o, a = some ⟨b, o, none⟩ ∧ ClAt w b o L
theorem ClArg.later {w w' : World} {a : Option Addr} {L : List Cl} (h : ClArg w a L) (hb : Below w.heap.size w w') : ClArg w' a L := by
  rcases h with h | ⟨b, o, h1, h2⟩
  · exact .inl h
  · exact .inr ⟨b, o, h1, h2.later hb⟩
theorem ClArg.at {w : World} {a : Option Addr} {L : List Cl} (h : ClArg w a L) {k : Nat} (hk : k < L.length) : ∃ b o c, a = some ⟨b, o, none⟩ ∧ L[k]? = some c ∧ ClAt w b o L := by
  rcases h with h | ⟨b, o, h1, h2⟩
  · subst h; simp at hk
  · exact ⟨b, o, _, h1, List.getElem?_eq_getElem hk, h2⟩

theorem ClArg.lies {w : World} {b o : Nat} {L : List Cl} (h : ClArg w (some ⟨b, o, none⟩) L) : ClAt w b o L := by
  rcases h with h | ⟨b', o', h1, h2⟩
  · subst h; intro k c hk; simp at hk
  · cases h1; exact h2

/-- Numbers lie in block b from offset o on. -/
def IntAt (w : World) (b o : Nat) (P : List Int) : Prop := ∀ (k : Nat) (z : Int), P[k]? = some z → w.cell? ⟨b, o + k, none⟩ = some (.int .i64 z)
theorem IntAt.later {w w' : World} {b o : Nat} {P : List Int} (h : IntAt w b o P) (hb : Below w.heap.size w w') : IntAt w' b o P := fun k z hk => by
  have h1 := h k z hk
  rw [hb.cell (p := ⟨b, o + k, none⟩) (World.block_lt_of_cell? w _ h1)]
  exact h1
/-- What is told of a slice of numbers: nothing is in it, or they lie there. -/
def IntArg (w : World) (a : Option Addr) (P : List Int) : Prop := P = [] ∨ ∃ b o, a = some ⟨b, o, none⟩ ∧ IntAt w b o P
theorem IntArg.later {w w' : World} {a : Option Addr} {P : List Int} (h : IntArg w a P) (hb : Below w.heap.size w w') : IntArg w' a P := by
  rcases h with h | ⟨b, o, h1, h2⟩
  · exact .inl h
  · exact .inr ⟨b, o, h1, h2.later hb⟩
theorem IntArg.at {w : World} {a : Option Addr} {P : List Int} (h : IntArg w a P) {k : Nat} (hk : k < P.length) : ∃ b o z, a = some ⟨b, o, none⟩ ∧ P[k]? = some z ∧ IntAt w b o P := by
  rcases h with h | ⟨b, o, h1, h2⟩
  · subst h; simp at hk
  · exact ⟨b, o, _, h1, List.getElem?_eq_getElem hk, h2⟩
theorem IntArg.lies {w : World} {b o : Nat} {P : List Int} (h : IntArg w (some ⟨b, o, none⟩) P) : IntAt w b o P := by
  rcases h with h | ⟨b', o', h1, h2⟩
  · subst h; intro k c hk; simp at hk
  · cases h1; exact h2

/-- No name is longer than n. -/
def NamesLe (n : Nat) (L : List Cl) : Prop := ∀ (k : Nat) (c : Cl), L[k]? = some c → c.name.size ≤ n

/-- A name stands among the first clays. -/
def seenB (L : List Cl) (k : Nat) (s : ByteArray) : Bool := (L.take k).any fun d => decide (d.name = s)
/-- The clay at k is right, and no clay before it has its name. -/
def fineAt (L : List Cl) (k : Nat) : Bool := match L[k]? with | some c => c.ok && !seenB L k c.name | none => true
def fromN (L : List Cl) : Nat → Nat → Bool
  | 0, _ => true
  | n + 1, k => fineAt L k && fromN L n (k + 1)
/-- From k on all clays are fine. -/
def fromB (L : List Cl) (k : Nat) : Bool := fromN L (L.length - k) k
theorem fromB_end (L : List Cl) (k : Nat) (h : L.length ≤ k) : fromB L k = true := by
  have : L.length - k = 0 := by omega
  simp [fromB, this, fromN]
theorem fromB_step (L : List Cl) (k : Nat) (h : k < L.length) : fromB L k = (fineAt L k && fromB L (k + 1)) := by
  have : L.length - k = (L.length - (k + 1)) + 1 := by omega
  simp [fromB, this, fromN]
/-- A list as told. -/
def okCls (L : List Cl) : Bool := fromB L 0 && decide (L.length ≤ 6)
theorem fineAt_eq {L : List Cl} {k : Nat} {c : Cl} (h : L[k]? = some c) : fineAt L k = (c.ok && !seenB L k c.name) := by simp [fineAt, h]
theorem seenB_zero (L : List Cl) (s : ByteArray) : seenB L 0 s = false := by simp [seenB]
theorem seenB_step {L : List Cl} {k : Nat} {c : Cl} (h : L[k]? = some c) (s : ByteArray) : seenB L (k + 1) s = (seenB L k s || decide (c.name = s)) := by
  unfold seenB
  rw [List.take_add_one, h]
  simp [List.any_append]

theorem seenB_mono {L : List Cl} {j k : Nat} {s : ByteArray} (hjk : j ≤ k) (h : seenB L j s = true) : seenB L k s = true := by
  unfold seenB at h ⊢
  rw [List.any_eq_true] at h ⊢
  obtain ⟨d, hd, h2⟩ := h
  refine ⟨d, ?_, h2⟩
  have : L.take j = (L.take k).take j := by rw [List.take_take]; congr 1; omega
  rw [this] at hd
  exact List.mem_of_mem_take hd
/-- Texts that are not the same. -/
theorem sneB {x y : ByteArray} (h : ¬ x = y) : (x.toList == y.toList) = false := by
  rw [beq_eq_false_iff_ne]
  intro e
  rw [ByteArray.toList_eq, ByteArray.toList_eq] at e
  exact h (bytes_inj e)

theorem fromB_all {L : List Cl} : ∀ {k : Nat}, fromB L k = true → ∀ j c, k ≤ j → L[j]? = some c → c.ok = true ∧ seenB L j c.name = false := by
  intro k h j c hkj hj
  have hjl : j < L.length := (List.getElem?_eq_some_iff.1 hj).1
  obtain ⟨d, rfl⟩ := Nat.exists_eq_add_of_le hkj
  clear hkj
  induction d generalizing k with
  | zero =>
    rw [fromB_step L k (by omega), Bool.and_eq_true] at h
    have := h.1
    rw [Nat.add_zero] at hj
    rw [fineAt_eq hj] at this
    simpa using this
  | succ d ih =>
    rw [fromB_step L k (by omega), Bool.and_eq_true] at h
    have e : k + (d + 1) = k + 1 + d := by omega
    rw [e] at hj hjl ⊢
    exact ih h.2 hj hjl
theorem okCls_all {L : List Cl} (h : okCls L = true) : L.length ≤ 6 ∧ ∀ k c, L[k]? = some c → c.ok = true ∧ seenB L k c.name = false := by
  simp only [okCls, Bool.and_eq_true, decide_eq_true_eq] at h
  exact ⟨h.2, fun k c hk => fromB_all h.1 k c (Nat.zero_le _) hk⟩
theorem nameB_size {s : ByteArray} (h : nameB s = true) : 1 ≤ s.size ∧ s.size ≤ 12 := by
  simp only [nameB, Bool.and_eq_true, decide_eq_true_eq] at h
  exact ⟨h.1, h.2.1⟩
theorem Cl.ok_facts {c : Cl} (h : c.ok = true) : nameB c.name = true ∧ (0 ≤ c.sh ∧ c.sh ≤ 200) ∧ (0 ≤ c.li ∧ c.li ≤ 1000) ∧ (0 ≤ c.sa ∧ c.sa ≤ 1000) ∧ (0 ≤ c.pr ∧ c.pr ≤ 10000) := by
  simpa [Cl.ok, inB_true] using h

/-- The cells of all clays, one behind the other. -/
def clVals (L : List Cl) : List Value := L.flatMap Cl.vals
theorem clVals_length (L : List Cl) : (clVals L).length = L.length * 5 := by
  induction L with
  | nil => rfl
  | cons c L ih =>
    show (c.vals ++ clVals L).length = _
    rw [List.length_append, ih, List.length_cons]
    show 5 + _ = _
    omega
theorem clVals_get {L : List Cl} {k j : Nat} {c : Cl} {v : Value} (hk : L[k]? = some c) (hv : c.vals[j]? = some v) : (clVals L)[k * 5 + j]? = some v := by
  have hj : j < 5 := (List.getElem?_eq_some_iff.1 hv).1
  induction L generalizing k with
  | nil => simp at hk
  | cons d L ih =>
    show (d.vals ++ clVals L)[k * 5 + j]? = some v
    cases k with
    | zero =>
      have e : d = c := by simpa using hk
      subst e
      rw [List.getElem?_append_left (by show 0 * 5 + j < 5; omega)]
      simpa using hv
    | succ k =>
      rw [List.getElem?_append_right (by show 5 ≤ _; omega)]
      have e : (k + 1) * 5 + j - d.vals.length = k * 5 + j := by show (k + 1) * 5 + j - 5 = _; omega
      rw [e]
      exact ih (by simpa using hk)
end Go.Proofs.Ytlglijalhacmhab
