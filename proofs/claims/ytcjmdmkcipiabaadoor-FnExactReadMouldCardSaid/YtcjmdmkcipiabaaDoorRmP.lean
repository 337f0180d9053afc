/-
  ReadMould: plain facts. What its answer is, and what the library's cut at a word means for it.
-/
import Derived.Test.YtcjmdmkcipiabaaDoorSpl2
import Derived.Test.YtcjmdmkcipiabaaDoorMoP
namespace Go.Proofs.YtcjmdmkcipiabaaDoor
open Go.ChangeShapes Go.WideShapes Go.ChangeAt Go.RowKit Go.Joins

theorem numR_none0 : numR ([] : List UInt8) = none := by rfl
theorem valF_low : ∀ (l : List UInt8) (acc u : Nat), valF acc l = some u → ∀ c ∈ l, 48 ≤ c.toNat
  | [], _, _, _, c, hc => by simp at hc
  | x :: l, acc, u, h, c, hc => by
    simp only [valF] at h
    split at h
    · rename_i hd
      rcases List.mem_cons.1 hc with rfl | hc
      · exact hd.1
      · exact valF_low l _ u h c hc
    · cases h
theorem numR_blank {l : List UInt8} {n : Int} (h : numR l = some n) : (32 : UInt8) ∉ l := by
  intro hm
  unfold numR at h
  split at h
  · split at h
    · rename_i u hu
      have h32 : (32 : UInt8) ∈ tr l := by
        cases l with
        | nil => simp at hm
        | cons c r =>
          by_cases hc : c = 45
          · subst hc
            simp only [tr, if_true]
            simpa using hm
          · simpa [tr, hc] using hm
      have := valF_low _ _ _ hu 32 h32
      revert this
      decide
    · cases h
  · cases h
/-- The word between the sizes and the uses. -/
def usedB : ByteArray := ⟨#[117, 115, 101, 100]⟩
def sepU : List UInt8 := [32, 117, 115, 101, 100, 32]
/-- s is the text of the mould with these numbers. -/
def MoIs (s : ByteArray) (l wd h u : Int) : Prop := ∃ a b p q r : ByteArray, partsOf s 32 = [a, usedB, b] ∧ partsOf a 120 = [p, q, r] ∧ numR p.data.toList = some l ∧ numR q.data.toList = some wd ∧ numR r.data.toList = some h ∧ numR b.data.toList = some u ∧ (⟨l, wd, h, u⟩ : Mo).ok = true
theorem MoIs.one {s : ByteArray} {l wd h j l' wd' h' j' : Int} (H : MoIs s l wd h j) (H' : MoIs s l' wd' h' j') : l = l' ∧ wd = wd' ∧ h = h' ∧ j = j' := by
  obtain ⟨a, b, p, q, r, e1, e2, n1, n2, n3, n4, _⟩ := H
  obtain ⟨a', b', p', q', r', f1, f2, m1, m2, m3, m4, _⟩ := H'
  rw [e1] at f1
  simp only [List.cons.injEq, and_true, true_and] at f1
  obtain ⟨rfl, rfl⟩ := f1
  rw [e2] at f2
  simp only [List.cons.injEq, and_true] at f2
  obtain ⟨rfl, rfl, rfl⟩ := f2
  rw [n1] at m1; rw [n2] at m2; rw [n3] at m3; rw [n4] at m4
  exact ⟨Option.some.inj m1, Option.some.inj m2, Option.some.inj m3, Option.some.inj m4⟩
/-- The mould with the text s, or none. -/
def MoRead (s : ByteArray) (e : Ending) : Prop :=
  (∃ v1 v2 v3 v4 : Int, MoIs s v1 v2 v3 v4 ∧ e = .returned (.tuple #[.agg #[.int .i64 v1, .int .i64 v2, .int .i64 v3, .int .i64 v4], .bool true])) ∨
  ((∀ l wd h j : Int, ¬ MoIs s l wd h j) ∧ e = .returned (.tuple #[.agg #[.int .i64 0, .int .i64 0, .int .i64 0, .int .i64 0], .bool false]))
theorem moRead_one {s : ByteArray} {e e' : Ending} (h : MoRead s e) (h' : MoRead s e') : e = e' := by
  rcases h with ⟨a, b, c, d, h1, h2⟩ | ⟨h1, h2⟩ <;> rcases h' with ⟨a', b', c', d', k1, k2⟩ | ⟨k1, k2⟩
  · obtain ⟨rfl, rfl, rfl, rfl⟩ := h1.one k1
    rw [h2, k2]
  · exact absurd h1 (k1 _ _ _ _)
  · exact absurd k1 (h1 _ _ _ _)
  · rw [h2, k2]
theorem MoRead.form {s : ByteArray} {e : Ending} (h : MoRead s e) : ∃ (v1 v2 v3 v4 : Int) (b : Bool), e = .returned (.tuple #[.agg #[.int .i64 v1, .int .i64 v2, .int .i64 v3, .int .i64 v4], .bool b]) := by
  rcases h with ⟨a, b, c, d, _, h2⟩ | ⟨_, h2⟩
  · exact ⟨a, b, c, d, true, h2⟩
  · exact ⟨0, 0, 0, 0, false, h2⟩
theorem MoRead.none {s : ByteArray} (h : ∀ a b p q r : ByteArray, ∀ l wd ht j : Int, partsOf s 32 = [a, usedB, b] → partsOf a 120 = [p, q, r] → numR p.data.toList = Option.some l → numR q.data.toList = Option.some wd → numR r.data.toList = Option.some ht → numR b.data.toList = Option.some j → (⟨l, wd, ht, j⟩ : Mo).ok = true → False) : MoRead s (.returned (.tuple #[.agg #[.int .i64 0, .int .i64 0, .int .i64 0, .int .i64 0], .bool false])) :=
  .inr ⟨fun l wd ht j ⟨a, b, p, q, r, e1, e2, n1, n2, n3, n4, ok⟩ => h a b p q r l wd ht j e1 e2 n1 n2 n3 n4 ok, rfl⟩

/-- Where the word is found: the first place of its first byte, if that byte stands not ahead of it. -/
theorem idx_word (t r : List UInt8) : ∀ a : List UInt8, (32 : UInt8) ∉ a → Lib.index (a ++ (32 :: t) ++ r) (32 :: t) = (a.length : Int)
  | [], _ => by
    have hp : (32 :: t).isPrefixOf ([] ++ (32 :: t) ++ r) = true := by
      rw [List.isPrefixOf_iff_prefix]
      exact ⟨r, by simp⟩
    cases h : ([] ++ (32 :: t) ++ r : List UInt8) with
    | nil => simp at h
    | cons x l =>
      rw [h] at hp
      rw [Lib.index, if_pos hp]
      rfl
  | x :: a, ha => by
    have hx : ¬ (32 : UInt8) = x := fun e => ha (by simp [e])
    have hp : ((32 :: t).isPrefixOf (x :: (a ++ (32 :: t) ++ r))) = false := by simp [List.isPrefixOf, hx]
    have ih := idx_word t r a (fun h => ha (by simp [h]))
    show Lib.index (x :: (a ++ (32 :: t) ++ r)) (32 :: t) = _
    rw [Lib.index, hp, ih]
    have : ¬ ((a.length : Int) == -1) = true := by simp
    simp only [Bool.false_eq_true, if_false, if_neg this, List.length_cons]
    omega
theorem idx_found : ∀ (l sub : List UInt8), Lib.index l sub = -1 ∨ ∃ p r, l = p ++ sub ++ r ∧ Lib.index l sub = (p.length : Int)
  | [], sub => by
    by_cases h : sub = []
    · subst h; exact .inr ⟨[], [], rfl, by simp [Lib.index]⟩
    · left
      cases sub with
      | nil => exact absurd rfl h
      | cons x t => simp [Lib.index]
  | x :: l, sub => by
    by_cases hp : sub.isPrefixOf (x :: l) = true
    · obtain ⟨r, hr⟩ := List.isPrefixOf_iff_prefix.1 hp
      exact .inr ⟨[], r, by simp [hr], by rw [Lib.index, if_pos hp]; rfl⟩
    · have hp' : sub.isPrefixOf (x :: l) = false := Bool.eq_false_iff.2 hp
      rcases idx_found l sub with h | ⟨p, r, h1, h2⟩
      · left; rw [Lib.index, hp', h]; simp
      · right
        refine ⟨x :: p, r, by simp [h1], ?_⟩
        rw [Lib.index, hp', h2]
        have : ¬ ((p.length : Int) == -1) = true := by simp
        simp only [Bool.false_eq_true, if_false, if_neg this, List.length_cons]
        omega
/-- What is read behind the cut. -/
def MoTwo (a b : ByteArray) (l wd h j : Int) : Prop := ∃ p q r : ByteArray, partsOf a 120 = [p, q, r] ∧ numR p.data.toList = some l ∧ numR q.data.toList = some wd ∧ numR r.data.toList = some h ∧ numR b.data.toList = some j ∧ (⟨l, wd, h, j⟩ : Mo).ok = true
theorem moTwo_blank {a b : ByteArray} {l wd h j : Int} (H : MoTwo a b l wd h j) : (32 : UInt8) ∉ a.data.toList ∧ (32 : UInt8) ∉ b.data.toList := by
  obtain ⟨p, q, r, e, n1, n2, n3, n4, _⟩ := H
  refine ⟨?_, numR_blank n4⟩
  rw [← join_partsOf a 120, e]
  rw [List.map_cons, List.map_cons, List.map_cons, List.map_nil, join_two, join_two]
  have e1 : Lib.join [r.data.toList] [120] = r.data.toList := by simp [Lib.join]
  rw [e1]
  simp only [List.mem_append, not_or]
  have b1 := numR_blank n1
  have b2 := numR_blank n2
  have b3 := numR_blank n3
  exact ⟨⟨b1, by decide⟩, ⟨b2, by decide⟩, b3⟩
theorem three_of {s a b : List UInt8} (h1 : s = a ++ sepU ++ b) (h2 : (32 : UInt8) ∉ a) (h3 : (32 : UInt8) ∉ b) : spl 32 s = [a, [117, 115, 101, 100], b] := by
  have e : s = a ++ 32 :: ([117, 115, 101, 100] ++ 32 :: b) := by rw [h1]; simp [sepU]
  rw [e, spl_first h2, spl_first (by decide), spl_plain h3]
theorem cut_used (s : ByteArray) : ∃ (a b : ByteArray) (f : Bool), a.size ≤ s.size ∧ b.size ≤ s.size ∧ (⟨(Lib.cut s.data.toList sepU).1.toArray⟩ : ByteArray) = a ∧ (⟨(Lib.cut s.data.toList sepU).2.1.toArray⟩ : ByteArray) = b ∧ (Lib.cut s.data.toList sepU).2.2 = f ∧ ∀ l wd h j, MoIs s l wd h j ↔ MoTwo a b l wd h j := by
  have back : ∀ l wd h j, MoIs s l wd h j → ∃ a b : ByteArray, s.data.toList = a.data.toList ++ sepU ++ b.data.toList ∧ Lib.index s.data.toList sepU = (a.data.toList.length : Int) ∧ MoTwo a b l wd h j := by
    rintro l wd h j ⟨a, b, p, q, r, e, e2, n1, n2, n3, n4, ok⟩
    have hc := spl_clean (c := 32) s.data.toList
    rw [← partsOf_spl, e] at hc
    have ha : (32 : UInt8) ∉ a.data.toList := hc _ (by simp)
    have hj := join_partsOf s 32
    rw [e] at hj
    have hs : s.data.toList = a.data.toList ++ sepU ++ b.data.toList := by
      rw [← hj]
      rw [List.map_cons, List.map_cons, List.map_cons, List.map_nil, join_two, join_two]
      simp [Lib.join, usedB, sepU]
    exact ⟨a, b, hs, by rw [hs]; exact idx_word _ _ _ ha, p, q, r, e2, n1, n2, n3, n4, ok⟩
  rcases idx_found s.data.toList sepU with h0 | ⟨p, r, h1, h2⟩
  · have hcut : Lib.cut s.data.toList sepU = (s.data.toList, [], false) := by rw [Lib.cut, h0, if_neg (by decide)]
    refine ⟨s, ⟨#[]⟩, false, Nat.le_refl _, Nat.zero_le _, by rw [hcut], by rw [hcut], by rw [hcut], fun l wd h j => ⟨?_, ?_⟩⟩
    · intro H
      obtain ⟨a, b, _, hi, _⟩ := back l wd h j H
      rw [h0] at hi
      omega
    · rintro ⟨p, q, r, _, _, _, _, e, _⟩
      have : numR (⟨#[]⟩ : ByteArray).data.toList = Option.none := by rfl
      rw [this] at e
      cases e
  · have hlen : sepU.length = 6 := rfl
    have hcut : Lib.cut s.data.toList sepU = (p, r, true) := by
      rw [Lib.cut, h2, if_pos (by omega), h1]
      simp [hlen]
    have hsz : s.size = (p ++ sepU ++ r).length := by rw [← h1]; simp
    refine ⟨⟨p.toArray⟩, ⟨r.toArray⟩, true, ?_, ?_, by rw [hcut], by rw [hcut], by rw [hcut], fun l wd h j => ⟨?_, ?_⟩⟩
    · show p.toArray.size ≤ _
      rw [hsz]; simp
    · show r.toArray.size ≤ _
      rw [hsz]; simp; omega
    · intro H
      obtain ⟨a, b, hs, hi, H2⟩ := back l wd h j H
      rw [h2] at hi
      have hl : a.data.toList.length = p.length := by omega
      have e1 : p ++ (sepU ++ r) = a.data.toList ++ (sepU ++ b.data.toList) := by rw [← List.append_assoc, ← List.append_assoc, ← h1, ← hs]
      obtain ⟨e2, e3⟩ := List.append_inj e1 hl.symm
      have e4 := List.append_cancel_left e3
      have ea : (⟨p.toArray⟩ : ByteArray) = a := Go.WideShapes.bytes_inj (by simp [e2])
      have eb : (⟨r.toArray⟩ : ByteArray) = b := Go.WideShapes.bytes_inj (by simp [e4])
      rw [ea, eb]
      exact H2
    · intro H
      obtain ⟨k1, k2⟩ := moTwo_blank H
      obtain ⟨p', q', r', e2, n1, n2, n3, n4, ok⟩ := H
      refine ⟨⟨p.toArray⟩, ⟨r.toArray⟩, p', q', r', ?_, e2, n1, n2, n3, n4, ok⟩
      apply toList_inj_map
      rw [partsOf_spl, three_of h1 (by simpa using k1) (by simpa using k2)]
      rfl
end Go.Proofs.YtcjmdmkcipiabaaDoor
