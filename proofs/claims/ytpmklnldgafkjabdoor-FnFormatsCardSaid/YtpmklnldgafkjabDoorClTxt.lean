/-
  The text of a clay: the model's.
-/
import Derived.Test.YtpmklnldgafkjabDoorKeep5
import Derived.Test.YtpmklnldgafkjabDoorDec2
import Derived.Test.YtpmklnldgafkjabDoorClayM
import Derived.Lib.ItoaLen
import Derived.Laws.Concat
namespace Go.Proofs.YtpmklnldgafkjabDoor
open Go.ChangeShapes Go.WideShapes Go.ChangeAt Go.RowKit Go.Joins

theorem ret_strC {a b : ByteArray} (h : a = b) : Ending.returned (.string a) = .returned (.string b) := by rw [h]
def itoaB (n : Int) : ByteArray := ⟨(Lib.itoa n).toArray⟩
theorem itoaB_size (n : Int) (h0 : -9223372036854775808 ≤ n) (h1 : n ≤ 9223372036854775807) : (itoaB n).size ≤ 21 := by
  have := Lib.itoa_length_le n h0 h1
  show (Lib.itoa n).toArray.size ≤ 21
  simpa using this
/-- The text of a clay. -/
def clT (c : Cl) : ByteArray := c.name ++ ⟨#[32, 115, 104, 114, 105, 110, 107, 32]⟩ ++ itoaB c.sh ++ ⟨#[32, 108, 105, 109, 101, 32]⟩ ++ itoaB c.li ++ ⟨#[32, 115, 97, 110, 100, 32]⟩ ++ itoaB c.sa ++ ⟨#[32, 112, 114, 105, 99, 101, 32]⟩ ++ itoaB c.pr
def clS (c : Cl) : ByteArray := if c.ok = true then clT c else ⟨#[]⟩
theorem Cl.ok_i64 {c : Cl} (h : c.ok = true) : (-9223372036854775808 ≤ c.sh ∧ c.sh ≤ 9223372036854775807) ∧ (-9223372036854775808 ≤ c.li ∧ c.li ≤ 9223372036854775807) ∧ (-9223372036854775808 ≤ c.sa ∧ c.sa ≤ 9223372036854775807) ∧ (-9223372036854775808 ≤ c.pr ∧ c.pr ≤ 9223372036854775807) ∧ c.name.size ≤ 12 := by
  have h1 := Cl.ok_facts h
  have h2 := nameB_size h1.1
  omega

set_option maxRecDepth 100000 in
set_option maxHeartbeats 3200000 in
theorem cltext_spec (c : Cl) (hc : c.ok = true) (b : Nat) (w : World) (g0 : w.cell? ⟨b, 0, none⟩ = some (.string c.name)) (g1 : w.cell? ⟨b, 1, none⟩ = some (.int .i64 c.sh)) (g2 : w.cell? ⟨b, 2, none⟩ = some (.int .i64 c.li)) (g3 : w.cell? ⟨b, 3, none⟩ = some (.int .i64 c.sa)) (g4 : w.cell? ⟨b, 4, none⟩ = some (.int .i64 c.pr)) :
    Calls Tryd.prog 29 #[.pointer (some ⟨b, 0, none⟩)] w fun e w' => e = .returned (.string (clT c)) ∧ Below w.heap.size w w' := by
  obtain ⟨⟨a1, a2⟩, ⟨b1, b2⟩, ⟨c1, c2⟩, ⟨e1, e2⟩, hn⟩ := Cl.ok_i64 hc
  have D1 : Hid (∀ w, Calls Tryd.prog 52 #[.int .i64 c.sh] w fun e w' => e = .returned (.string (itoaB c.sh)) ∧ Below w.heap.size w w') := dec_spec c.sh a1 a2
  have D2 : Hid (∀ w, Calls Tryd.prog 52 #[.int .i64 c.li] w fun e w' => e = .returned (.string (itoaB c.li)) ∧ Below w.heap.size w w') := dec_spec c.li b1 b2
  have D3 : Hid (∀ w, Calls Tryd.prog 52 #[.int .i64 c.sa] w fun e w' => e = .returned (.string (itoaB c.sa)) ∧ Below w.heap.size w w') := dec_spec c.sa c1 c2
  have D4 : Hid (∀ w, Calls Tryd.prog 52 #[.int .i64 c.pr] w fun e w' => e = .returned (.string (itoaB c.pr)) ∧ Below w.heap.size w w') := dec_spec c.pr e1 e2
  have n1 := itoaB_size c.sh a1 a2
  have n2 := itoaB_size c.li b1 b2
  have n3 := itoaB_size c.sa c1 c2
  have n4 := itoaB_size c.pr e1 e2
  have HT : Hid (clT c = c.name ++ ⟨#[32, 115, 104, 114, 105, 110, 107, 32]⟩ ++ itoaB c.sh ++ ⟨#[32, 108, 105, 109, 101, 32]⟩ ++ itoaB c.li ++ ⟨#[32, 115, 97, 110, 100, 32]⟩ ++ itoaB c.sa ++ ⟨#[32, 112, 114, 105, 99, 101, 32]⟩ ++ itoaB c.pr) := rfl
  obtain ⟨nm, hnm⟩ : ∃ x, c.name = x := ⟨_, rfl⟩
  obtain ⟨s1, hs1⟩ : ∃ x, c.sh = x := ⟨_, rfl⟩
  obtain ⟨s2, hs2⟩ : ∃ x, c.li = x := ⟨_, rfl⟩
  obtain ⟨s3, hs3⟩ : ∃ x, c.sa = x := ⟨_, rfl⟩
  obtain ⟨s4, hs4⟩ : ∃ x, c.pr = x := ⟨_, rfl⟩
  rw [hnm] at g0 hn HT
  rw [hs1] at g1 D1 n1 HT
  rw [hs2] at g2 D2 n2 HT
  rw [hs3] at g3 D3 n3 HT
  rw [hs4] at g4 D4 n4 HT
  obtain ⟨T, hT⟩ : ∃ T, clT c = T := ⟨_, rfl⟩
  rw [hT] at HT ⊢
  obtain ⟨d1, q1⟩ : ∃ d, itoaB s1 = d := ⟨_, rfl⟩
  obtain ⟨d2, q2⟩ : ∃ d, itoaB s2 = d := ⟨_, rfl⟩
  obtain ⟨d3, q3⟩ : ∃ d, itoaB s3 = d := ⟨_, rfl⟩
  obtain ⟨d4, q4⟩ : ∃ d, itoaB s4 = d := ⟨_, rfl⟩
  rw [q1] at D1 n1 HT
  rw [q2] at D2 n2 HT
  rw [q3] at D3 n3 HT
  rw [q4] at D4 n4 HT
  have k1 : ¬ (9223372036854775807 < nm.size + 8) := by omega
  have k2 : ¬ (9223372036854775807 < nm.size + 8 + d1.size) := by omega
  have k3 : ¬ (9223372036854775807 < nm.size + 8 + d1.size + 6) := by omega
  have k4 : ¬ (9223372036854775807 < nm.size + 8 + d1.size + 6 + d2.size) := by omega
  have k5 : ¬ (9223372036854775807 < nm.size + 8 + d1.size + 6 + d2.size + 6) := by omega
  have k6 : ¬ (9223372036854775807 < nm.size + 8 + d1.size + 6 + d2.size + 6 + d3.size) := by omega
  have k7 : ¬ (9223372036854775807 < nm.size + 8 + d1.size + 6 + d2.size + 6 + d3.size + 7) := by omega
  have k8 : ¬ (9223372036854775807 < nm.size + 8 + d1.size + 6 + d2.size + 6 + d3.size + 7 + d4.size) := by omega
  clear hc hnm hs1 hs2 hs3 hs4 hT q1 q2 q3 q4 n1 n2 n3 n4 hn a1 a2 b1 b2 c1 c2 e1 e2
  go_enter Tryd.func29, Tryd.ntmps29
  go_wp2_with fail
  go_region_held3 (fun w' => w'.cell? ⟨b, 0, none⟩ = some (.string nm) ∧ w'.cell? ⟨b, 1, none⟩ = some (.int .i64 s1) ∧ w'.cell? ⟨b, 2, none⟩ = some (.int .i64 s2) ∧ w'.cell? ⟨b, 3, none⟩ = some (.int .i64 s3) ∧ w'.cell? ⟨b, 4, none⟩ = some (.int .i64 s4) ∧ Below w.heap.size w w')
      (first | exact keep5_call (by assumption) hb | assumption | exact keep5_drew g0 g1 g2 g3 g4 (Below.refl _ _))
      (first | (go_at_call_of 52 (Value.int .i64 s1); refine (D1.out _).mono ?_; rintro e w2 ⟨rfl, hb⟩) | (go_at_call_of 52 (Value.int .i64 s2); refine (D2.out _).mono ?_; rintro e w2 ⟨rfl, hb⟩) | (go_at_call_of 52 (Value.int .i64 s3); refine (D3.out _).mono ?_; rintro e w2 ⟨rfl, hb⟩) | (go_at_call_of 52 (Value.int .i64 s4); refine (D4.out _).mono ?_; rintro e w2 ⟨rfl, hb⟩))
  all_goals
    clear k1 k2 k3 k4 k5 k6 k7 k8
    go_wp2
    go_split_ands
    go_ret
    exact ⟨ret_strC HT.out.symm, by assumption⟩
end Go.Proofs.YtpmklnldgafkjabDoor
