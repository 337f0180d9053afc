/-
  A clay read back from its text: plain lemmas.
-/
import Derived.Test.YtpholgfkaolfjaaDoorSpl
import Derived.Test.YtpholgfkaolfjaaDoorClTxtI
namespace Go.Proofs.YtpholgfkaolfjaaDoor
open Go.ChangeShapes Go.WideShapes Go.ChangeAt Go.RowKit Go.Joins

theorem name_clean {s : ByteArray} (h : nameB s = true) : (32 : UInt8) ∉ s.data.toList := by
  intro hm
  simp only [nameB, Bool.and_eq_true] at h
  have h2 := h.2.2.2
  unfold restB at h2
  rw [List.drop_zero, List.all_eq_true] at h2
  have := h2 32 hm
  revert this
  decide
theorem itoaB_facts {n : Int} (h0 : 0 ≤ n) (h1 : n < 1000000000000000) : numR (itoaB n).data.toList = some n ∧ (32 : UInt8) ∉ (itoaB n).data.toList ∧ 0 < (itoaB n).size := by
  obtain ⟨a, b, c⟩ := numR_itoa h0 h1
  have e : (itoaB n).data.toList = Lib.itoa n := by simp [itoaB]
  rw [e]
  refine ⟨a, fun hm => ?_, ?_⟩
  · have := b 32 hm
    have e2 : (32 : UInt8).toNat = 32 := rfl
    omega
  · show 0 < (Lib.itoa n).toArray.size
    have : 0 < (Lib.itoa n).length := List.length_pos_iff.2 c
    simpa using this
theorem Cl.ok_small {c : Cl} (h : c.ok = true) : (0 ≤ c.sh ∧ c.sh < 1000000000000000) ∧ (0 ≤ c.li ∧ c.li < 1000000000000000) ∧ (0 ≤ c.sa ∧ c.sa < 1000000000000000) ∧ (0 ≤ c.pr ∧ c.pr < 1000000000000000) ∧ nameB c.name = true := by
  have h1 := Cl.ok_facts h
  exact ⟨by omega, by omega, by omega, by omega, h1.1⟩
theorem clay_parts {c : Cl} {s : ByteArray} (hc : c.ok = true) (h : clT c = s) : partsOf s 32 = clW c ∧ wordsOf s = clW c := by
  obtain ⟨a, b, d, e, f⟩ := Cl.ok_small hc
  obtain ⟨_, a2, a3⟩ := itoaB_facts a.1 a.2
  obtain ⟨_, b2, b3⟩ := itoaB_facts b.1 b.2
  obtain ⟨_, d2, d3⟩ := itoaB_facts d.1 d.2
  obtain ⟨_, e2, e3⟩ := itoaB_facts e.1 e.2
  have h1 : partsOf s 32 = clW c := by
    refine partsOf_join (by simp [clW]) ?_ ?_
    · intro q hq
      simp only [clW, List.mem_cons, List.not_mem_nil, or_false] at hq
      rcases hq with rfl | rfl | rfl | rfl | rfl | rfl | rfl | rfl | rfl
      · exact name_clean f
      · decide
      · exact a2
      · decide
      · exact b2
      · decide
      · exact d2
      · decide
      · exact e2
    · have := congrArg (fun x : ByteArray => x.data.toList) (clW_join c)
      simp only at this
      rw [h] at this
      simpa using this
  refine ⟨h1, ?_⟩
  have h2 : wordsOf s = (partsOf s 32).filter nonE := (parts_words s).symm
  rw [h2, h1]
  apply List.filter_eq_self.2
  intro q hq
  rw [nonE_size]
  have hn := nameB_size f
  simp only [clW, List.mem_cons, List.not_mem_nil, or_false] at hq
  rcases hq with rfl | rfl | rfl | rfl | rfl | rfl | rfl | rfl | rfl
  · simp; omega
  · decide
  · simpa using a3
  · decide
  · simpa using b3
  · decide
  · simpa using d3
  · decide
  · simpa using e3
/-- Nine parts with right words and numbers are a text. -/
theorem clay_from {s nm d1 d2 d3 d4 : ByteArray} {n1 n2 n3 n4 : Int} (h : partsOf s 32 = [nm, ⟨#[115, 104, 114, 105, 110, 107]⟩, d1, ⟨#[108, 105, 109, 101]⟩, d2, ⟨#[115, 97, 110, 100]⟩, d3, ⟨#[112, 114, 105, 99, 101]⟩, d4])
    (h1 : numR d1.data.toList = some n1) (h2 : numR d2.data.toList = some n2) (h3 : numR d3.data.toList = some n3) (h4 : numR d4.data.toList = some n4) : clT ⟨nm, n1, n2, n3, n4⟩ = s := by
  have e : ∀ {d : ByteArray} {n : Int}, numR d.data.toList = some n → itoaB n = d := fun {d n} h => by
    apply Go.WideShapes.bytes_inj
    show (Lib.itoa n).toArray.toList = _
    rw [numR_some h]
  have hw : partsOf s 32 = clW ⟨nm, n1, n2, n3, n4⟩ := by rw [h]; simp only [clW, e h1, e h2, e h3, e h4]
  have hj := join_partsOf s 32
  rw [hw] at hj
  rw [← clW_join]
  apply Go.WideShapes.bytes_inj
  simpa using hj
/-- Two clays with one text are one. -/
theorem clay_one {c d : Cl} (hc : c.ok = true) (hd : d.ok = true) (h : clT c = clT d) : c = d := by
  have h1 := (clay_parts hc rfl).1
  have h2 := (clay_parts hd rfl).1
  rw [h, h2] at h1
  simp only [clW, List.cons.injEq, and_true, true_and] at h1
  obtain ⟨q0, q1, q2, q3, q4⟩ := h1
  obtain ⟨a, b, e, f, _⟩ := Cl.ok_small hc
  obtain ⟨a', b', e', f', _⟩ := Cl.ok_small hd
  have g : ∀ {m n : Int}, 0 ≤ m ∧ m < 1000000000000000 → 0 ≤ n ∧ n < 1000000000000000 → itoaB n = itoaB m → m = n := fun {m n} hm hn e => by
    have x := (itoaB_facts hm.1 hm.2).1
    have y := (itoaB_facts hn.1 hn.2).1
    rw [e, x] at y
    simpa using y
  cases c
  cases d
  simp only at *
  rw [q0, g a a' q1, g b b' q2, g e e' q3, g f f' q4]

/-- The clay with the text s, or none. -/
def ClRead (s : ByteArray) (e : Ending) : Prop :=
  (∃ c : Cl, c.ok = true ∧ clT c = s ∧ e = .returned (.tuple #[.agg #[.string c.name, .int .i64 c.sh, .int .i64 c.li, .int .i64 c.sa, .int .i64 c.pr], .bool true])) ∨
  ((∀ c : Cl, c.ok = true → clT c ≠ s) ∧ e = .returned (.tuple #[.agg #[.string ⟨#[]⟩, .int .i64 0, .int .i64 0, .int .i64 0, .int .i64 0], .bool false]))
/-- One text, one answer. -/
theorem clRead_one {s : ByteArray} {e e' : Ending} (h : ClRead s e) (h' : ClRead s e') : e = e' := by
  rcases h with ⟨c, h1, h2, h3⟩ | ⟨h1, h2⟩ <;> rcases h' with ⟨d, k1, k2, k3⟩ | ⟨k1, k2⟩
  · rw [h3, k3, clay_one h1 k1 (h2.trans k2.symm)]
  · exact absurd h2 (k1 c h1)
  · exact absurd k2 (h1 d k1)
  · rw [h2, k2]
theorem ClRead.form {s : ByteArray} {e : Ending} (h : ClRead s e) : ∃ (c : Cl) (b : Bool), e = .returned (.tuple #[.agg #[.string c.name, .int .i64 c.sh, .int .i64 c.li, .int .i64 c.sa, .int .i64 c.pr], .bool b]) := by
  rcases h with ⟨c, _, _, h3⟩ | ⟨_, h2⟩
  · exact ⟨c, true, h3⟩
  · exact ⟨⟨⟨#[]⟩, 0, 0, 0, 0⟩, false, h2⟩
end Go.Proofs.YtpholgfkaolfjaaDoor
