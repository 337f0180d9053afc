/-
  strings.Builder: what its writing methods do at this program: the methods' own text, walked. (The library's contracts speak of another text of copyCheck: here its panicking arm is refused by the loader.)
-/
import Derived.Test.YtllcpgogfhjfpaaDoorDecI
import Derived.Lib.Builder
import Derived.Shelf.Strings.Builder1
import Derived.Test.YtllcpgogfhjfpaaDoorInts
import Derived.Test.YtllcpgogfhjfpaaDoorEis
import Derived.Test.YtllcpgogfhjfpaaDoorChkP
import Derived.Test.YtllcpgogfhjfpaaDoorNameI
import Derived.Test.YtllcpgogfhjfpaaDoorShelfC
import Derived.Test.YtllcpgogfhjfpaaDoorSpl2
namespace Go.Proofs.YtllcpgogfhjfpaaDoor
open Go.ChangeShapes Go.WideShapes Go.ChangeAt Go.RowKit Go.Joins


theorem infoByteB : (Tryd.prog.info? 5).map (fun i => (i.zero, i.size, i.bytes)) = some (some (.int .u8 0), 1, 1) := by kernel_rfl
end Go.Proofs.YtllcpgogfhjfpaaDoor
/-
  strings.Builder: WriteByte at this program, and what it leaves as it was: blocks of other types.
-/
namespace Go.Proofs.YtllcpgogfhjfpaaDoor
open Go.ChangeShapes Go.WideShapes Go.ChangeAt Go.RowKit Go.Joins


/-- Blocks of other types than these are as they were. -/
def KeepT (ts : List TypeId) (w w' : World) : Prop := ∀ (k : Nat) (T : TypeId) (cs : Array Value) (fr : Nat × Nat), w.heap[k]? = some (.cells cs T fr) → T ∉ ts → w'.heap[k]? = some (.cells cs T fr)
theorem KeepT.refl (ts : List TypeId) (w : World) : KeepT ts w w := fun _ _ _ _ h _ => h
theorem KeepT.trans {ts : List TypeId} {a b c : World} (h : KeepT ts a b) (k : KeepT ts b c) : KeepT ts a c := fun i T cs fr h1 h2 => k i T cs fr (h i T cs fr h1 h2) h2
theorem KeepT.below {ts : List TypeId} {a b : World} (h : Below a.heap.size a b) : KeepT ts a b := fun i _ _ _ h1 _ => (h.block i (Array.getElem?_eq_some_iff.1 h1).1).trans h1
theorem KeepT.set {ts : List TypeId} {w : World} {b o : Nat} {v : Value} {T0 : TypeId} {c0 : Array Value} {f0 : Nat × Nat} (hb : w.heap[b]? = some (.cells c0 T0 f0)) (ht : T0 ∈ ts) : KeepT ts w (w.setCell ⟨b, o, none⟩ v) := fun i T cs fr h1 h2 => by
  have hne : i ≠ b := fun e => by subst e; rw [hb] at h1; cases h1; exact h2 ht
  exact (Below.heap_setCell _ _ _ _ hne).trans h1
theorem KeepT.grown {ts : List TypeId} {w w' : World} {v : Value} {B n : Nat} {xs : List Value} {e : TypeId} (hg : w.grownBy w' v.ownBlock) (ho : w.ownsRow B e 1 v n xs) (he : e ∈ ts) : KeepT ts w w' := fun i _ _ _ h1 h2 =>
  (hg.block i (Array.getElem?_eq_some_iff.1 h1).1 (fun h3 => Lib.ownBlock_ne ho h1 (fun h4 => h2 (h4 ▸ he)) h3.symm)).trans h1
theorem own_keep {ts : List TypeId} {w w' : World} {B e n : Nat} {v : Value} {xs : List Value} (h : w.ownsRow B e 1 v n xs) (hk : KeepT ts w w') (he : e ∉ ts) : w'.ownsRow B e 1 v n xs := by
  refine ⟨h.1, ?_⟩
  rcases h.2 with hn | ⟨g, cap, cur, hv, hB, hgg, rest⟩
  · exact .inl hn
  · exact .inr ⟨g, cap, cur, hv, hB, hk _ _ _ _ hgg he, rest⟩
theorem lit8B (base : Nat) (wr : World) (c : Value) (hb : base ≤ wr.heap.size) : (wr.alloc (.cells #[c] 5)).ownsRow base 5 1 (.slice (some ⟨wr.heap.size, 0, none⟩) 1 1) 1 [c] :=
  ⟨rfl, .inr ⟨wr.heap.size, 1, #[c], rfl, hb, heap_alloc_new wr _, Nat.le_refl _, by decide, rfl, rfl⟩⟩
end Go.Proofs.YtllcpgogfhjfpaaDoor
/-
  The program's parts of CheckBond: the first word, the course of a word, and the noting of a problem.
-/
namespace Go.Proofs.YtllcpgogfhjfpaaDoor
open Go.ChangeShapes Go.WideShapes Go.ChangeAt Go.RowKit Go.Joins
theorem plain_not {s : ByteArray} (h : (43 : UInt8) ∈ s.data.toList) : plainB s = false := by
  cases hp : plainB s
  · rfl
  · unfold plainB at hp
    rw [List.all_eq_true] at hp
    exact absurd (hp _ h) (by decide)
theorem fault_plain {c : Co} (h : Bool) (hp : plainB c.cyc = false) : c.fault h = 3 := by simp [Co.fault, hp]
/-- What lies before and behind the first end of a Lead, and whether there is one, as the word's course. -/
theorem cut_word (s : ByteArray) : ∃ (a b : ByteArray) (f : Bool), a.size ≤ s.size ∧ b.size ≤ s.size ∧ (⟨(Lib.cut s.data.toList [43]).1.toArray⟩ : ByteArray) = a ∧ (⟨(Lib.cut s.data.toList [43]).2.1.toArray⟩ : ByteArray) = b ∧ (Lib.cut s.data.toList [43]).2.2 = f ∧
    (f = true → (Co.fault ⟨a, b⟩ true = (wordOf s).2 ∧ ((wordOf s).2 = 0 → (wordOf s).1 = ⟨a, b⟩))) ∧ (f = false → (Co.fault ⟨.empty, s⟩ false = (wordOf s).2 ∧ ((wordOf s).2 = 0 → (wordOf s).1 = ⟨.empty, s⟩))) := by
  rcases cut_cases 43 s with ⟨h1, h2⟩ | ⟨a, b, h2, h1, k1, k2⟩
  · refine ⟨s, ⟨#[]⟩, false, Nat.le_refl _, Nat.zero_le _, by rw [h2], by rw [h2], by rw [h2], fun h => (by cases h), fun _ => ?_⟩
    have e : wordOf s = (⟨.empty, s⟩, Co.fault ⟨.empty, s⟩ false) := by unfold wordOf; rw [h1]
    rw [e]
    exact ⟨rfl, fun _ => rfl⟩
  · refine ⟨a, b, true, k1, k2, by rw [h2], by rw [h2], by rw [h2], fun _ => ?_, fun h => (by cases h)⟩
    rcases idx_cases 43 b.data.toList with ⟨h3, _⟩ | ⟨p, r, h3, h4, _⟩
    · have e2 : partsOf b 43 = [b] := toList_inj_map (by rw [partsOf_spl, spl_plain h3]; rfl)
      have e : wordOf s = (⟨a, b⟩, Co.fault ⟨a, b⟩ true) := by unfold wordOf; rw [h1, e2]
      rw [e]
      exact ⟨rfl, fun _ => rfl⟩
    · have e3 : (partsOf b 43).map (fun x => x.data.toList) = p :: spl 43 r := by rw [partsOf_spl, h3, spl_first h4]
      obtain ⟨p2, q2, e4⟩ := spl_cons 43 r
      rw [e4] at e3
      have hm : (43 : UInt8) ∈ b.data.toList := by rw [h3]; simp
      have e : (wordOf s).2 = 3 := by
        unfold wordOf
        rw [h1]
        match hq : partsOf b 43, e3 with
        | [], e3 => simp at e3
        | [x], e3 => simp at e3
        | x :: y :: z, e3 => rfl
      rw [e]
      exact ⟨fault_plain true (plain_not hm), fun h => absurd h (by decide)⟩
end Go.Proofs.YtllcpgogfhjfpaaDoor
