/-
  Bonds as told: the model's word.
-/
import Derived.Test.YtplggghhhgmebaaDoorCo
import Derived.Deep.RegionWith
namespace Go.Proofs.YtplggghhhgmebaaDoor
open Go.ChangeShapes Go.WideShapes Go.ChangeAt Go.RowKit Go.Joins


def plainFrom (s : ByteArray) (k : Nat) : Bool := (s.data.toList.drop k).all fun x => decide (x = 83) || decide (x = 72)
def piecesFrom (s : ByteArray) (k : Nat) : Bool := (s.data.toList.drop k).all fun x => decide (qtr x ≠ 0)
theorem dropAll_end (f : UInt8 → Bool) (s : ByteArray) (k : Nat) (h : s.size ≤ k) : (s.data.toList.drop k).all f = true := by
  have : s.data.toList.drop k = [] := List.drop_eq_nil_iff.2 (by simpa using h)
  simp [this]
theorem dropAll_step (f : UInt8 → Bool) (s : ByteArray) (k : Nat) (h : k < s.size) : (s.data.toList.drop k).all f = (f (s[k]'h) && (s.data.toList.drop (k + 1)).all f) := by
  have h' : k < s.data.toList.length := by simpa using h
  have e : s.data.toList.drop k = (s[k]'h) :: s.data.toList.drop (k + 1) := by
    rw [List.drop_eq_getElem_cons h']; rfl
  simp [e]
theorem u8_eq (x : UInt8) (n : Nat) (hn : n < 256) : x = UInt8.ofNat n ↔ (x.toNat : Int) = (n : Int) := by
  constructor
  · intro h; rw [h, UInt8.toNat_ofNat']; omega
  · intro h
    have : x.toNat = n := by omega
    rw [← this]
    simp
def qtrI (k : Int) : Int := if k = 83 then 4 else if k = 84 then 3 else if k = 72 then 2 else if k = 66 then 2 else if k = 67 then 1 else 0
theorem qtr_eq (x : UInt8) : (qtr x : Int) = qtrI (x.toNat : Int) := by
  have e83 : x = 83 ↔ (x.toNat : Int) = 83 := u8_eq x 83 (by omega)
  have e84 : x = 84 ↔ (x.toNat : Int) = 84 := u8_eq x 84 (by omega)
  have e72 : x = 72 ↔ (x.toNat : Int) = 72 := u8_eq x 72 (by omega)
  have e66 : x = 66 ↔ (x.toNat : Int) = 66 := u8_eq x 66 (by omega)
  have e67 : x = 67 ↔ (x.toNat : Int) = 67 := u8_eq x 67 (by omega)
  unfold qtr qtrI
  generalize (x.toNat : Int) = y at *
  by_cases h1 : y = 83
  · rw [if_pos (e83.2 h1), if_pos h1]; rfl
  rw [if_neg (fun h => h1 (e83.1 h)), if_neg h1]
  by_cases h2 : y = 84
  · rw [if_pos (e84.2 h2), if_pos h2]; rfl
  rw [if_neg (fun h => h2 (e84.1 h)), if_neg h2]
  by_cases h3 : y = 72
  · rw [if_pos (e72.2 h3), if_pos h3]; rfl
  rw [if_neg (fun h => h3 (e72.1 h)), if_neg h3]
  by_cases h4 : y = 66
  · rw [if_pos (e66.2 h4), if_pos h4]; rfl
  rw [if_neg (fun h => h4 (e66.1 h)), if_neg h4]
  by_cases h5 : y = 67
  · rw [if_pos (e67.2 h5), if_pos h5]; rfl
  rw [if_neg (fun h => h5 (e67.1 h)), if_neg h5]
  rfl

theorem quarters_spec (k : Int) (w : World) : Calls Tryd.prog 36 #[.int .u8 k] w fun e w' => e = .returned (.int .i64 (qtrI k)) ∧ w = w' := by
  by_cases h1 : k = 83
  · subst h1
    go_enter Tryd.func36, Tryd.ntmps36
    go_wp2
    go_ret
    exact ⟨rfl, rfl⟩
  by_cases h2 : k = 84
  · subst h2
    go_enter Tryd.func36, Tryd.ntmps36
    go_wp2
    go_ret
    exact ⟨rfl, rfl⟩
  by_cases h3 : k = 72
  · subst h3
    go_enter Tryd.func36, Tryd.ntmps36
    go_wp2
    go_ret
    exact ⟨rfl, rfl⟩
  by_cases h4 : k = 66
  · subst h4
    go_enter Tryd.func36, Tryd.ntmps36
    go_wp2
    go_ret
    exact ⟨rfl, rfl⟩
  by_cases h5 : k = 67
  · subst h5
    go_enter Tryd.func36, Tryd.ntmps36
    go_wp2
    go_ret
    exact ⟨rfl, rfl⟩
  go_enter Tryd.func36, Tryd.ntmps36
  go_wp2
  go_ret
  exact ⟨ret_int (by simp [qtrI, h1, h2, h3, h4, h5]), rfl⟩

set_option maxHeartbeats 1600000 in
theorem plain_spec (s : ByteArray) (hs : s.size ≤ 1048576) (w : World) : Calls Tryd.prog 42 #[.string s] w fun e w' => e = .returned (.bool (plainB s)) ∧ w = w' := by
  go_enter Tryd.func42, Tryd.ntmps42
  go_wp2
  go_loop [3] (fun i => ∃ k : Nat, k ≤ s.size ∧ i = .int .i64 k ∧ Hid (plainFrom s k = plainB s)) (fun i => s.size - (intOf i).toNat)
  case atStart => exact ⟨0, Nat.zero_le _, rfl, rfl⟩
  case round =>
    obtain ⟨k, hk, rfl, hR⟩ := hrel
    by_cases hlt : k < s.size
    · have hlt' : (k : Int) < (s.size : Int) := by omega
      have hk0 : (0 : Int) ≤ (k : Int) := by omega
      have HS : Hid (plainFrom s k = ((decide (s[k]'hlt = 83) || decide (s[k]'hlt = 72)) && plainFrom s (k + 1))) := dropAll_step _ s k hlt
      have e83 := u8_eq (s[k]'hlt) 83 (by omega)
      have e72 := u8_eq (s[k]'hlt) 72 (by omega)
      by_cases h1 : ((s[k]'hlt).toNat : Int) = 83
      · have h1' := e83.2 h1
        go_wp2
        go_round
        case rel => exact ⟨k + 1, by omega, by go_num, by show plainFrom s (k + 1) = plainB s; rw [← hR.out, HS.out, h1']; simp⟩
        case measure => simp [intOf]; omega
      · by_cases h2 : ((s[k]'hlt).toNat : Int) = 72
        · have h2' := e72.2 h2
          go_wp2
          go_round
          case rel => exact ⟨k + 1, by omega, by go_num, by show plainFrom s (k + 1) = plainB s; rw [← hR.out, HS.out, h2']; simp⟩
          case measure => simp [intOf]; omega
        · have h1' : ¬ s[k]'hlt = 83 := fun h => h1 (e83.1 h)
          have h2' : ¬ s[k]'hlt = 72 := fun h => h2 (e72.1 h)
          have n1 : (((s[k]'hlt).toNat : Int) != 83) = true := bne_iff_ne.2 h1
          have n2 : (((s[k]'hlt).toNat : Int) != 72) = true := bne_iff_ne.2 h2
          go_wp2
          go_ret
          exact ⟨ret_bool (by rw [← hR.out, HS.out]; simp [h1', h2']), rfl⟩
    · have hge : ¬ (k : Int) < (s.size : Int) := by omega
      go_wp2
      go_ret
      exact ⟨ret_bool (by rw [← hR.out]; exact (dropAll_end _ s k (by omega)).symm), rfl⟩

set_option maxHeartbeats 1600000 in
theorem pieces_spec (s : ByteArray) (hs : s.size ≤ 1048576) (w : World) : Calls Tryd.prog 41 #[.string s] w fun e w' => e = .returned (.bool (piecesB s)) ∧ w = w' := by
  go_enter Tryd.func41, Tryd.ntmps41
  go_wp2
  go_loop [3] (fun i => ∃ k : Nat, k ≤ s.size ∧ i = .int .i64 k ∧ Hid (piecesFrom s k = piecesB s)) (fun i => s.size - (intOf i).toNat)
  case atStart => exact ⟨0, Nat.zero_le _, rfl, rfl⟩
  case round =>
    obtain ⟨k, hk, rfl, hR⟩ := hrel
    by_cases hlt : k < s.size
    · have hlt' : (k : Int) < (s.size : Int) := by omega
      have hk0 : (0 : Int) ≤ (k : Int) := by omega
      have HS : Hid (piecesFrom s k = (decide (qtr (s[k]'hlt) ≠ 0) && piecesFrom s (k + 1))) := dropAll_step _ s k hlt
      have hq := qtr_eq (s[k]'hlt)
      have C := Lib.hid (quarters_spec ((s[k]'hlt).toNat : Int))
      rw [← hq] at C
      have HQ := Lib.hid hq
      clear hq
      by_cases h1 : qtr (s[k]'hlt) = 0
      · rw [h1] at C
        go_wp2_with (go_at_call 36; refine (C.out _).mono ?_; rintro e w' ⟨rfl, rfl⟩)
        go_ret
        exact ⟨ret_bool (by rw [← hR.out, HS.out, h1]; simp), rfl⟩
      · have h1' : ¬ (qtr (s[k]'hlt) : Int) = 0 := by omega
        obtain ⟨q, hq⟩ : ∃ q : Nat, qtr (s[k]'hlt) = q := ⟨_, rfl⟩
        rw [hq] at C h1' h1 HS
        go_wp2_with (go_at_call 36; refine (C.out _).mono ?_; rintro e w' ⟨rfl, rfl⟩)
        go_round
        case rel => exact ⟨k + 1, by omega, by go_num, by show piecesFrom s (k + 1) = piecesB s; rw [← hR.out, HS.out]; simp [h1]⟩
        case measure => simp [intOf]; omega
    · have hge : ¬ (k : Int) < (s.size : Int) := by omega
      go_wp2
      go_ret
      exact ⟨ret_bool (by rw [← hR.out]; exact (dropAll_end _ s k (by omega)).symm), rfl⟩

set_option maxHeartbeats 1600000 in
theorem course_spec (c : Co) (hs : c.lead.size ≤ 1048576 ∧ c.cyc.size ≤ 1048576) (w : World) : Calls Tryd.prog 33 #[.agg #[.string c.lead, .string c.cyc]] w fun e w' => e = .returned (.bool c.ok) ∧ Below w.heap.size w w' := by
  have P1 := Lib.hid (pieces_spec c.lead hs.1)
  have P2 := Lib.hid (plain_spec c.cyc hs.2)
  obtain ⟨hs1, hs2⟩ := hs
  by_cases h0 : (c.lead.size : Int) ≤ 6 <;> cases h1 : piecesB c.lead <;> cases h2 : inB (c.cyc.size : Int) 1 8
  all_goals
    rw [h1] at P1
    go_enter Tryd.func33, Tryd.ntmps33
    go_wp2_with (first | (go_at_call 41; refine (P1.out _).mono ?_; rintro e w' ⟨rfl, rfl⟩) | (go_at_call 42; refine (P2.out _).mono ?_; rintro e w' ⟨rfl, rfl⟩) | (go_at_call 22; refine (in_any _ _ _ _).mono ?_; rintro e w' ⟨rfl, rfl⟩))
    go_ret
    exact ⟨ret_bool (by have h0' : (c.lead.size ≤ 6) ↔ (c.lead.size : Int) ≤ 6 := by omega
                        simp only [Co.ok, h0', h0, h1, h2]; first | rfl | (simp; done) | (simp; intro h; omega) | (simp; omega)), balloc0 _ _⟩

set_option maxRecDepth 100000 in
set_option maxHeartbeats 3200000 in
/-- A bond that lies at p. -/
theorem bondOk_spec (nm : ByteArray) (L : List Co) (a : Option Addr) (cap : Nat) (hl : L.length ≤ 1048576) (hs : CosLe 1048576 L) (b o : Nat) (w : World) (c0 : w.cell? ⟨b, o, none⟩ = some (.string nm)) (c1 : w.cell? ⟨b, o + 1, none⟩ = some (.slice a L.length cap)) (ha : CoArg w a L) :
    Calls Tryd.prog 21 #[.pointer (some ⟨b, o, none⟩)] w fun e w' => e = .returned (.bool (okBond nm L)) ∧ Below w.heap.size w w' := by
  have HN := Lib.hid (name_spec nm)
  have HA := Lib.hid ha
  have HS := Lib.hid hs
  have K : Hid (∀ wx, Below w.heap.size w wx → wx.cell? ⟨b, o, none⟩ = some (.string nm) ∧ wx.cell? ⟨b, o + 1, none⟩ = some (.slice a L.length cap)) := fun wx hx => ⟨(hx.cell (p := ⟨b, o, none⟩) (World.block_lt_of_cell? w _ c0)).trans c0, (hx.cell (p := ⟨b, o + 1, none⟩) (World.block_lt_of_cell? w _ c1)).trans c1⟩
  clear ha hs
  go_enter Tryd.func21, Tryd.ntmps21
  go_wp2
  clear c0 c1
  go_loopw [3] (fun i wr => ∃ (k : Nat), k ≤ L.length ∧ i = .int .i64 k ∧ Hid (okCos (L.take k) = true) ∧ Hid (Below w.heap.size w wr)) (fun i _ => L.length - (intOf i).toNat)
  case atStart => exact ⟨0, Nat.zero_le _, rfl, rfl, Below.refl _ _⟩
  case round =>
    obtain ⟨k, hk, rfl, hF, hB⟩ := hrel
    obtain ⟨c0, c1⟩ := K.out _ hB.out
    by_cases hlt : k < L.length
    · have hlt' : (k : Int) < (L.length : Int) := by omega
      have hk0 : (0 : Int) ≤ (k : Int) := by omega
      obtain ⟨b', o', c, rfl, hc, hat⟩ := (HA.out.later hB.out).at hlt
      obtain ⟨e0, e1⟩ := hat.cells hc
      have C := Lib.hid (course_spec c (HS.out k c hc))
      have HC := Lib.hid hc
      clear hc hat
      cases hok : c.ok
      · rw [hok] at C
        go_wp2_with fail
        refine (C.out _).mono ?_
        rintro e w1 ⟨rfl, hb1⟩
        have B1 := Lib.hid (bnext hB.out hb1)
        clear hb1
        go_wp2_with fail
        go_ret
        exact ⟨ret_bool (by have := okCos_bad HC.out hok; simp [okBond, this]), B1.out⟩
      · rw [hok] at C
        go_wp2_with fail
        refine (C.out _).mono ?_
        rintro e w1 ⟨rfl, hb1⟩
        have B1 := Lib.hid (bnext hB.out hb1)
        clear hb1
        go_wp2_with fail
        go_roundw
        case rel => exact ⟨k + 1, by omega, by go_num, by show okCos (L.take (k + 1)) = true; rw [okCos_take HC.out, hF.out, hok]; rfl, B1.out⟩
        case measure => simp [intOf]; omega
    · have hge : ¬ (k : Int) < (L.length : Int) := by omega
      have hkn : k = L.length := by omega
      subst hkn
      have hall : okCos L = true := by have := hF.out; rwa [List.take_length] at this
      have HO := Lib.hid hall
      clear hall
      cases hn : nameB nm
      all_goals
        rw [hn] at HN
        go_wp2_with (first | (go_at_call 34; refine (HN.out _).mono ?_; rintro e w' ⟨rfl, rfl⟩) | (go_at_call 22; refine (in_any _ _ _ _).mono ?_; rintro e w' ⟨rfl, rfl⟩))
        go_ret
        exact ⟨ret_bool (by rw [okBond, HO.out, hn]; simp), hB.out⟩

theorem box2 (w : World) (nm : ByteArray) (v : Value) (t : TypeId) : (w.alloc (.cells #[.string nm, v] t)).cell? ⟨w.heap.size, 0, none⟩ = some (.string nm) ∧ (w.alloc (.cells #[.string nm, v] t)).cell? ⟨w.heap.size, 0 + 1, none⟩ = some v := by
  refine ⟨?_, ?_⟩ <;> (rw [cell_of_row _ _ _ _ t (0, 0) (heap_alloc_new w _)]; rfl)
end Go.Proofs.YtplggghhhgmebaaDoor
