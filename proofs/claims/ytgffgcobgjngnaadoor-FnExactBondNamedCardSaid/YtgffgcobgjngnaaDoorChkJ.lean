/-
  The program's course of a word.
-/
import Derived.Test.YtgffgcobgjngnaaDoorChkI
import Derived.Test.YtgffgcobgjngnaaDoorCoL
namespace Go.Proofs.YtgffgcobgjngnaaDoor
open Go.ChangeShapes Go.WideShapes Go.ChangeAt Go.RowKit Go.Joins

theorem par_size (x : Int) : (faultVal x = .nilIface ∧ x = 0) ∨ (faultVal x = .iface 102 (.int .i64 x) ∧ ¬ x = 0) := by
  by_cases h : x = 0
  · exact .inl ⟨by rw [h]; rfl, h⟩
  · exact .inr ⟨faultVal_some h, h⟩
/-- What a word at a place other than the first gives. -/
def WordOut (s : ByteArray) (k : Nat) (w : World) (e : Ending) (w' : World) : Prop := ∃ (c : Co) (x : Int), e = .returned (.tuple #[.agg #[.string c.lead, .string c.cyc], faultVal x]) ∧ x = (if 8 < k then 6 else (wordOf s).2) ∧ (x = 0 → c = (wordOf s).1) ∧ (¬ x = 0 → c = ⟨.empty, .empty⟩) ∧ Below w.heap.size w w'
set_option maxRecDepth 100000 in
set_option maxHeartbeats 6400000 in
theorem readCourse_impl (s : ByteArray) (hs : s.size ≤ 1048576) (k : Nat) (m : Int) (w : World) (hm : w.cell? ⟨2, 0, none⟩ = some (.int .i64 m)) :
    Calls Tryd.prog 40 #[.string s, .int .i64 (k : Int)] w (WordOut s k w) := by
  by_cases hk : 8 < k
  · have hk' : (8 : Int) < (k : Int) := by omega
    have HN : Hid (∀ w', Below w.heap.size w w' → WordOut s k w (.returned (.tuple #[.agg #[.string .empty, .string .empty], .iface 102 (.int .i64 6)])) w') := fun w' hb => ⟨⟨.empty, .empty⟩, 6, rfl, by rw [if_pos hk], fun h => absurd h (by decide), fun _ => rfl, hb⟩
    clear hk hm
    go_enter Tryd.func40, Tryd.ntmps40
    go_wp2
    refine bodyPost_ret (v := .tuple #[.agg #[.string ⟨#[]⟩, .string ⟨#[]⟩], .iface 102 (.int .i64 6)]) (by simp [results, Tryd.results40, go_sem]) rfl (HN.out _ (balloc0 w _))
  have hk' : ¬ (8 : Int) < (k : Int) := by omega
  have B0 : Hid (Below w.heap.size w (w.alloc (.cells #[.string ⟨#[]⟩, .string ⟨#[]⟩] 68))) := balloc0 _ _
  have T0 : Hid ((w.alloc (.cells #[.string ⟨#[]⟩, .string ⟨#[]⟩] 68)).there w.heap.size 0 2) := there_new w _ _ 2 rfl
  have hm0 : (w.alloc (.cells #[.string ⟨#[]⟩, .string ⟨#[]⟩] 68)).cell? ⟨2, 0, none⟩ = some (.int .i64 m) := (B0.out.cell (p := ⟨2, 0, none⟩) (World.block_lt_of_cell? w _ hm)).trans hm
  have C0 := Tryd.strings_Cut s ⟨#[43]⟩ m (w.alloc (.cells #[.string ⟨#[]⟩, .string ⟨#[]⟩] 68)) (by omega) hm0
  have e43 : (⟨#[43]⟩ : ByteArray).data.toList = [43] := rfl
  rw [e43] at C0
  obtain ⟨a, b, f, sa, sb, e1, e2, e3, HT0, HF0⟩ := cut_word s
  rw [e1, e2, e3] at C0
  obtain ⟨W0, hW⟩ : ∃ W0, w.alloc (.cells #[.string ⟨#[]⟩, .string ⟨#[]⟩] 68) = W0 := ⟨_, rfl⟩
  rw [hW] at C0 B0 T0
  have HW := Lib.hid hW
  have C := Lib.hid C0
  obtain ⟨c, hc⟩ : ∃ c : Co, c = (if f = true then ⟨a, b⟩ else ⟨.empty, s⟩) := ⟨_, rfl⟩
  have HX : Hid ((c.fault f = (wordOf s).2) ∧ ((wordOf s).2 = 0 → c = (wordOf s).1)) := by
    cases f
    · rw [if_neg (by decide)] at hc
      subst hc
      obtain ⟨h1, h2⟩ := HF0 rfl
      exact ⟨h1, fun h => (h2 h).symm⟩
    · rw [if_pos rfl] at hc
      subst hc
      obtain ⟨h1, h2⟩ := HT0 rfl
      exact ⟨h1, fun h => (h2 h).symm⟩
  have hcs : c.lead.size ≤ 1048576 ∧ c.cyc.size ≤ 1048576 := by
    rw [hc]
    split
    · exact ⟨by simp; omega, by simp; omega⟩
    · exact ⟨by simp, by simp; omega⟩
  have CI := Lib.hid (fun wx => check_impl c f hcs wx)
  obtain ⟨x, hx⟩ : ∃ x, c.fault f = x := ⟨_, rfl⟩
  have HO : Hid (∀ (c' : Co) w', (x = 0 → c' = c) → (¬ x = 0 → c' = ⟨.empty, .empty⟩) → Below w.heap.size w w' → WordOut s k w (.returned (.tuple #[.agg #[.string c'.lead, .string c'.cyc], faultVal x])) w') := fun c' w' h1 h2 hb =>
    ⟨c', x, rfl, by rw [if_neg hk, ← HX.out.1, hx], fun h => (h1 h).trans (HX.out.2 (by rw [← HX.out.1, hx]; exact h)), h2, hb⟩
  rw [hx] at CI
  have FV := Lib.hid (par_size x)
  obtain ⟨q1, hq1⟩ : ∃ q, c.lead = q := ⟨_, rfl⟩
  obtain ⟨q2, hq2⟩ : ∃ q, c.cyc = q := ⟨_, rfl⟩
  rw [hq1, hq2] at CI
  have HQ := Lib.hid (And.intro hq1 hq2)
  have HD : Hid (if f = true then (a = q1 ∧ b = q2) else (q1 = ⟨#[]⟩ ∧ q2 = s)) := by
    show if f = true then (a = q1 ∧ b = q2) else (q1 = ⟨#[]⟩ ∧ q2 = s)
    rw [← hq1, ← hq2, hc]
    cases f
    · exact ⟨rfl, rfl⟩
    · exact ⟨rfl, rfl⟩
  clear hW hm hm0 hs C0 e43 e1 e2 e3 sa sb HT0 HF0 hc hcs hx hq1 hq2 hk HX
  go_enter Tryd.func40, Tryd.ntmps40
  go_wp2_with fail
  rw [HW.out]
  refine C.out.mono ?_
  rintro e w1 ⟨rfl, n, hn⟩
  have B1 : Hid (Below w.heap.size w w1) := hn ▸ below_drewN B0.out n
  have TN1 : Hid (w1.there w.heap.size 0 2) := there_below T0.out (hn ▸ below_drewN (Below.refl _ _) n)
  clear hn
  cases f
  all_goals
    first
    | (obtain ⟨d1, d2⟩ : a = q1 ∧ b = q2 := HD.out; subst d1; subst d2)
    | (obtain ⟨d1, d2⟩ : q1 = ⟨#[]⟩ ∧ q2 = s := HD.out; subst d1; subst d2)
    clear HD
    go_wp2_with fail
    refine (CI.out _).mono ?_
    rintro e w2 ⟨rfl, hb2⟩
    have B2 := Lib.hid (bnext (balloc B1.out _) hb2)
    have TN := there_below (there_below TN1.out (balloc0 w1 _)) hb2
    have z0 := (hb2.cell (p := ⟨w1.heap.size, 0, none⟩) (by simp)).trans (box2 w1 _ _ _).1
    have z1 := (hb2.cell (p := ⟨w1.heap.size, 1, none⟩) (by simp)).trans (box2 w1 _ _ _).2
    clear hb2
    obtain ⟨u0, x0, t0⟩ := there_at TN (k := 0) (by omega)
    obtain ⟨u1, x1, t1⟩ := there_at TN (k := 1) (by omega)
    clear TN
    rcases FV.out with ⟨hv, hx⟩ | ⟨hv, hx⟩
    · have HO' := Lib.hid (HO.out c)
      rw [hv, HQ.out.1, HQ.out.2] at HO'
      rw [hv]
      have HX := Lib.hid hx
      clear hv hx FV HO HQ CI C HW
      go_wp2
      refine bodyPost_ret (v := .tuple #[.agg #[.string _, .string _], .nilIface]) (by simp [results, Tryd.results40, go_sem, x0, x1]) rfl (HO'.out _ (fun _ => trivial) (fun h => absurd HX.out h) ((B2.out.setCell (Nat.le_refl _) _).setCell (Nat.le_refl _) _))
    · have HO' := Lib.hid (HO.out ⟨⟨#[]⟩, ⟨#[]⟩⟩)
      rw [hv] at HO'
      rw [hv]
      have HX := Lib.hid hx
      clear hv hx FV HO HQ CI C HW
      go_wp2
      refine bodyPost_ret (v := .tuple #[.agg #[.string ⟨#[]⟩, .string ⟨#[]⟩], .iface 102 (.int .i64 x)]) (by simp [results, Tryd.results40, go_sem, x0, x1]) rfl (HO'.out _ (fun h => absurd h HX.out) (fun _ => rfl) ((B2.out.setCell (Nat.le_refl _) _).setCell (Nat.le_refl _) _))
end Go.Proofs.YtgffgcobgjngnaaDoor
