/-
  The model's reading of decimal forms.
-/
import Derived.Test.YtikjielgnlgnjaaDoorNum
import Derived.Test.YtikjielgnlgnjaaDoorDec2
import Derived.Lib.OthersKept
import Derived.Laws.Closers25b
namespace Go.Proofs.YtikjielgnlgnjaaDoor
open Go.ChangeShapes Go.WideShapes Go.ChangeAt Go.RowKit Go.Joins

theorem empty_ofN (s : ByteArray) (h : ¬ 1 ≤ s.size) : s = .empty := by
  have hz : s.data.size = 0 := by have : s.size = s.data.size := rfl; omega
  have h2 : s.data = #[] := Array.eq_empty_of_size_eq_zero hz
  cases s; simp_all [ByteArray.empty, ByteArray.emptyWithCapacity]
theorem toList_neN (s : ByteArray) (h : 1 ≤ s.size) : s.toList.isEmpty = false := by
  rw [Bool.eq_false_iff, ne_eq, List.isEmpty_iff, toList_nil_iff_emptyBytes]
  intro he; subst he; simp at h
theorem digitN_spec (n : Int) (w : World) : Calls Tryd.prog 96 #[.int .u8 n] w fun e w' => e = .returned (.bool (decide (48 ≤ n) && decide (n ≤ 57))) ∧ w = w' := by
  by_cases h1 : 48 ≤ n <;> by_cases h2 : n ≤ 57
  all_goals
    go_enter Tryd.func96, Tryd.ntmps96
    go_wp2
    go_ret
    exact ⟨ret_bool (by simp [h1, h2]), rfl⟩
theorem bytes_len (s : ByteArray) : s.data.toList.length = s.size := by simp
theorem drop_cons (s : ByteArray) (k : Nat) (h : k < s.size) : s.data.toList.drop k = (s[k]'h) :: s.data.toList.drop (k + 1) := by
  have h' : k < s.data.toList.length := by simpa using h
  rw [List.drop_eq_getElem_cons h']; rfl
theorem valF_step (s : ByteArray) (k acc : Nat) (h : k < s.size) : valF acc (s.data.toList.drop k) = if 48 ≤ (s[k]'h).toNat ∧ (s[k]'h).toNat ≤ 57 then valF (acc * 10 + ((s[k]'h).toNat - 48)) (s.data.toList.drop (k + 1)) else none := by
  rw [drop_cons s k h]; rfl
theorem valF_end (s : ByteArray) (k acc : Nat) (h : s.size ≤ k) : valF acc (s.data.toList.drop k) = some acc := by
  have : s.data.toList.drop k = [] := List.drop_eq_nil_iff.2 (by simpa using h)
  rw [this]; rfl

theorem pow_le18 (u k : Nat) (h : u + 1 ≤ 10 ^ k) (hk : k ≤ 18) : u + 1 ≤ 1000000000000000000 := by
  have h1 : 10 ^ k ≤ 10 ^ 18 := Nat.pow_le_pow_right (by omega) hk
  have h2 : (10 : Nat) ^ 18 = 1000000000000000000 := by decide
  omega
theorem pow_le17 (u k : Nat) (h : u + 1 ≤ 10 ^ k) (hk : k ≤ 17) : u + 1 ≤ 100000000000000000 := by
  have h1 : 10 ^ k ≤ 10 ^ 17 := Nat.pow_le_pow_right (by omega) hk
  have h2 : (10 : Nat) ^ 17 = 100000000000000000 := by decide
  omega
theorem itoa_eq (n : Int) (s : ByteArray) (h : Lib.itoa n = s.data.toList) : (⟨(Lib.itoa n).toArray⟩ : ByteArray) = s := by
  rw [h]
theorem numR_short (l : List UInt8) (h : ¬ (1 ≤ (tr l).length ∧ (tr l).length ≤ 18)) : numR l = none := by rw [numR, if_neg h]
theorem tr_plain (s : ByteArray) (hp : 0 < s.size) (h : ¬ ((s[0]'hp).toNat : Int) = 45) : tr s.data.toList = s.data.toList ∧ ∀ u, sg s.data.toList u = (u : Int) := by
  have e := drop_cons s 0 hp
  rw [List.drop_zero] at e
  have hn : ¬ (s[0]'hp) = 45 := fun e => h (by rw [e]; rfl)
  rw [e]
  refine ⟨by simp [tr, hn], fun u => by simp [sg, hn]⟩
theorem tr_sign (s : ByteArray) (hp : 0 < s.size) (h : ((s[0]'hp).toNat : Int) = 45) : tr s.data.toList = (s.extract 1 s.size).data.toList ∧ ∀ u, sg s.data.toList u = -(u : Int) := by
  have e := drop_cons s 0 hp
  rw [List.drop_zero] at e
  have hn : (s[0]'hp) = 45 := UInt8.toNat_inj.1 (by have : (45 : UInt8).toNat = 45 := rfl; omega)
  have e2 : (s.extract 1 s.size).data.toList = s.data.toList.drop 1 := by
    rw [ByteArray.data_extract, Array.toList_extract]
    simp [List.extract]
    show List.take _ _ = _
    rw [List.take_of_length_le]
    simp
  rw [e2, e, hn]
  refine ⟨by simp [tr], fun u => by simp [sg]⟩

set_option maxHeartbeats 3200000 in
theorem number_sign (s : ByteArray) (hp : 0 < s.size) (h45 : ((s[0]'hp).toNat : Int) = 45) (w : World) : Calls Tryd.prog 76 #[.string s] w fun e w' => e = .returned (.tuple #[.int .i64 ((numR s.data.toList).getD 0), .bool (numR s.data.toList).isSome]) ∧ Below w.heap.size w w' := by
  have hne := toList_neN s hp
  have hne' : (!s.toList.isEmpty) = true := by rw [hne]; rfl
  have hp' : (0 : Int) < (s.size : Int) := by omega
  have hp1 : (1 : Int) ≤ (s.size : Int) := by omega
  have hts : (s.extract 1 s.size).size = s.size - 1 := by simp
  have htl : (tr s.data.toList).length = s.size - 1 := by rw [(tr_sign s hp h45).1, bytes_len, hts]
  by_cases hl : 1 ≤ s.size - 1
  case neg =>
    have hl' : ((s.size - 1 : Nat) : Int) < 1 := by omega
    rw [numR_short _ (by rw [htl]; omega)]
    go_enter Tryd.func76, Tryd.ntmps76
    go_wp2
    go_ret2
    exact ⟨rfl, Below.refl _ _⟩
  have hl' : (1 : Int) ≤ ((s.size - 1 : Nat) : Int) := by omega
  by_cases hg : s.size - 1 ≤ 18
  case neg =>
    have hg' : (18 : Int) < ((s.size - 1 : Nat) : Int) := by omega
    rw [numR_short _ (by rw [htl]; omega)]
    go_enter Tryd.func76, Tryd.ntmps76
    go_wp2
    go_ret2
    exact ⟨rfl, Below.refl _ _⟩
  have hg' : ((s.size - 1 : Nat) : Int) ≤ 18 := by omega
  have NR : Hid (numR s.data.toList = match valF 0 (s.extract 1 s.size).data.toList with | some u => if Lib.itoa (sg s.data.toList u) = s.data.toList then some (sg s.data.toList u) else none | none => none) := by
    show numR s.data.toList = _
    rw [numR, htl, if_pos ⟨hl, hg⟩, (tr_sign s hp h45).1]
    rfl
  have SG := Lib.hid (tr_sign s hp h45).2
  clear htl
  go_enter Tryd.func76, Tryd.ntmps76
  go_wp2
  clear hne hne' h45 hl' hg'
  generalize s.extract 1 s.size = t at hts NR ⊢
  have hts1 : (t.size : Int) < (s.size : Int) := by omega
  have hts2 : t.size ≤ 18 := by omega
  clear hts hl hg hp' hp1

  go_loop [5, 6] (fun n i => ∃ (u k : Nat), k ≤ t.size ∧ n = .int .i64 u ∧ i = .int .i64 k ∧ u + 1 ≤ 10 ^ k ∧ Hid (valF u (t.data.toList.drop k) = valF 0 t.data.toList)) (fun _ i => t.size - (intOf i).toNat)
  case atStart => exact ⟨0, 0, Nat.zero_le _, rfl, rfl, by simp, rfl⟩
  case round =>
    obtain ⟨u, k, hk, rfl, rfl, hu, hR⟩ := hrel
    have hu18 : u + 1 ≤ 1000000000000000000 := pow_le18 u k hu (by omega)
    by_cases hlt : k < t.size
    · have hlt' : (k : Int) < (t.size : Int) := by omega
      have hk0 : (0 : Int) ≤ (k : Int) := by omega
      have hu17 : u + 1 ≤ 100000000000000000 := pow_le17 u k hu (by omega)
      have HS := Lib.hid (valF_step t k u hlt)
      clear hu18
      cases hc2 : (decide (48 ≤ ((t[k]'hlt).toNat : Int)) && decide (((t[k]'hlt).toNat : Int) ≤ 57))
      · have HN : Hid (valF 0 t.data.toList = none) := by
          show valF 0 t.data.toList = none
          rw [← hR.out, HS.out, if_neg]
          simp at hc2; omega
        clear HS hR
        go_wp2_with (go_at_call 96; refine (digitN_spec _ _).mono ?_; rintro e w' ⟨rfl, rfl⟩)
        go_ret2
        rw [NR.out, HN.out]
        exact ⟨rfl, Below.refl _ _⟩
      · have hc3 : 48 ≤ (t[k]'hlt).toNat ∧ (t[k]'hlt).toNat ≤ 57 := by simp at hc2; omega
        have HS' : Hid (valF (u * 10 + ((t[k]'hlt).toNat - 48)) (t.data.toList.drop (k + 1)) = valF 0 t.data.toList) := by
          show valF (u * 10 + ((t[k]'hlt).toNat - 48)) (t.data.toList.drop (k + 1)) = valF 0 t.data.toList
          rw [← hR.out, HS.out, if_pos hc3]
        clear HS hR
        have hc4 : (48 : Int) ≤ ((t[k]'hlt).toNat : Int) := by omega
        have hc5 : ((t[k]'hlt).toNat : Int) ≤ 57 := by omega
        have hpow : (u + 1) * 10 ≤ 10 ^ (k + 1) := by rw [Nat.pow_succ]; exact Nat.mul_le_mul_right _ hu
        clear hu
        go_wp2_with (go_at_call 96; refine (digitN_spec _ _).mono ?_; rintro e w' ⟨rfl, rfl⟩)
        go_round
        case rel => exact ⟨u * 10 + ((t[k]'hlt).toNat - 48), k + 1, by omega, by congr 1; omega, by go_num, by omega, HS'⟩
        case measure => simp [intOf]; omega
    · have hge : ¬ (k : Int) < (t.size : Int) := by omega
      have HV : Hid (valF 0 t.data.toList = some u) := by
        show valF 0 t.data.toList = some u
        rw [← hR.out, valF_end t k u (by omega)]
      have hsg : sg s.data.toList u = -(u : Int) := SG.out u
      clear hR hu hk
      obtain ⟨d, hd, C⟩ : ∃ d : ByteArray, Hid (d = ⟨(Lib.itoa (-(u : Int))).toArray⟩) ∧ Hid (∀ w, Calls Tryd.prog 91 #[.int .i64 (-(u : Int))] w fun e w' => e = .returned (.string d) ∧ Below w.heap.size w w') := ⟨_, rfl, dec_spec _ (by omega) (by omega)⟩
      have HR : Hid (numR s.data.toList = if d = s then some (-(u : Int)) else none) := by
        show numR s.data.toList = if d = s then some (-(u : Int)) else none
        rw [NR.out, HV.out]
        simp only [hsg]
        rw [hd.out]
        by_cases e : Lib.itoa (-(u : Int)) = s.data.toList
        · rw [if_pos e, if_pos (itoa_eq _ s e)]
        · rw [if_neg e, if_neg (fun h => e (by rw [← h]))]
      clear hsg NR SG HV hd
      by_cases hds : d = s
      · subst hds
        have HR2 : Hid (numR d.data.toList = some (-(u : Int))) := by
          show numR d.data.toList = some (-(u : Int))
          rw [HR.out, if_pos rfl]
        clear HR
        go_wp2_with (go_at_call 91; refine (C.out _).mono ?_; rintro e w1 ⟨rfl, hb⟩)
        go_ret2
        exact ⟨by rw [HR2.out]; rfl, hb⟩
      · have HR2 : Hid (numR s.data.toList = none) := by
          show numR s.data.toList = none
          rw [HR.out, if_neg hds]
        have hds' : (!(d.toList == s.toList)) = true := by rw [ByteArray.toList_eq, ByteArray.toList_eq]; simp; intro h; exact hds (ByteArray.ext (by simpa using h))
        clear HR hds
        go_wp2_with (go_at_call 91; refine (C.out _).mono ?_; rintro e w1 ⟨rfl, hb⟩)
        go_ret2
        exact ⟨by rw [HR2.out]; rfl, hb⟩

set_option maxHeartbeats 3200000 in
theorem number_plain (s : ByteArray) (hp : 0 < s.size) (h45 : ¬ ((s[0]'hp).toNat : Int) = 45) (w : World) : Calls Tryd.prog 76 #[.string s] w fun e w' => e = .returned (.tuple #[.int .i64 ((numR s.data.toList).getD 0), .bool (numR s.data.toList).isSome]) ∧ Below w.heap.size w w' := by
  have hne := toList_neN s hp
  have hne' : (!s.toList.isEmpty) = true := by rw [hne]; rfl
  have hp' : (0 : Int) < (s.size : Int) := by omega
  have hp1 : (1 : Int) ≤ (s.size : Int) := by omega
  have htl : (tr s.data.toList).length = s.size := by rw [(tr_plain s hp h45).1, bytes_len]
  by_cases hg : s.size ≤ 18
  case neg =>
    have hg' : (18 : Int) < (s.size : Int) := by omega
    rw [numR_short _ (by rw [htl]; omega)]
    go_enter Tryd.func76, Tryd.ntmps76
    go_wp2
    go_ret2
    exact ⟨rfl, Below.refl _ _⟩
  have hg' : (s.size : Int) ≤ 18 := by omega
  have NR : Hid (numR s.data.toList = match valF 0 s.data.toList with | some u => if Lib.itoa (sg s.data.toList u) = s.data.toList then some (sg s.data.toList u) else none | none => none) := by
    show numR s.data.toList = _
    rw [numR, htl, if_pos ⟨hp, hg⟩, (tr_plain s hp h45).1]
    rfl
  have SG := Lib.hid (tr_plain s hp h45).2
  clear htl
  go_enter Tryd.func76, Tryd.ntmps76
  go_wp2
  clear hne hne' h45 hg'
  have hts2 : s.size ≤ 18 := hg
  clear hg hp' hp1

  go_loop [5, 6] (fun n i => ∃ (u k : Nat), k ≤ s.size ∧ n = .int .i64 u ∧ i = .int .i64 k ∧ u + 1 ≤ 10 ^ k ∧ Hid (valF u (s.data.toList.drop k) = valF 0 s.data.toList)) (fun _ i => s.size - (intOf i).toNat)
  case atStart => exact ⟨0, 0, Nat.zero_le _, rfl, rfl, by simp, rfl⟩
  case round =>
    obtain ⟨u, k, hk, rfl, rfl, hu, hR⟩ := hrel
    have hu18 : u + 1 ≤ 1000000000000000000 := pow_le18 u k hu (by omega)
    by_cases hlt : k < s.size
    · have hlt' : (k : Int) < (s.size : Int) := by omega
      have hk0 : (0 : Int) ≤ (k : Int) := by omega
      have hu17 : u + 1 ≤ 100000000000000000 := pow_le17 u k hu (by omega)
      have HS := Lib.hid (valF_step s k u hlt)
      clear hu18
      cases hc2 : (decide (48 ≤ ((s[k]'hlt).toNat : Int)) && decide (((s[k]'hlt).toNat : Int) ≤ 57))
      · have HN : Hid (valF 0 s.data.toList = none) := by
          show valF 0 s.data.toList = none
          rw [← hR.out, HS.out, if_neg]
          simp at hc2; omega
        clear HS hR
        go_wp2_with (go_at_call 96; refine (digitN_spec _ _).mono ?_; rintro e w' ⟨rfl, rfl⟩)
        go_ret2
        rw [NR.out, HN.out]
        exact ⟨rfl, Below.refl _ _⟩
      · have hc3 : 48 ≤ (s[k]'hlt).toNat ∧ (s[k]'hlt).toNat ≤ 57 := by simp at hc2; omega
        have HS' : Hid (valF (u * 10 + ((s[k]'hlt).toNat - 48)) (s.data.toList.drop (k + 1)) = valF 0 s.data.toList) := by
          show valF (u * 10 + ((s[k]'hlt).toNat - 48)) (s.data.toList.drop (k + 1)) = valF 0 s.data.toList
          rw [← hR.out, HS.out, if_pos hc3]
        clear HS hR
        have hc4 : (48 : Int) ≤ ((s[k]'hlt).toNat : Int) := by omega
        have hc5 : ((s[k]'hlt).toNat : Int) ≤ 57 := by omega
        have hpow : (u + 1) * 10 ≤ 10 ^ (k + 1) := by rw [Nat.pow_succ]; exact Nat.mul_le_mul_right _ hu
        clear hu
        go_wp2_with (go_at_call 96; refine (digitN_spec _ _).mono ?_; rintro e w' ⟨rfl, rfl⟩)
        go_round
        case rel => exact ⟨u * 10 + ((s[k]'hlt).toNat - 48), k + 1, by omega, by congr 1; omega, by go_num, by omega, HS'⟩
        case measure => simp [intOf]; omega
    · have hge : ¬ (k : Int) < (s.size : Int) := by omega
      have HV : Hid (valF 0 s.data.toList = some u) := by
        show valF 0 s.data.toList = some u
        rw [← hR.out, valF_end s k u (by omega)]
      have hsg : sg s.data.toList u = (u : Int) := SG.out u
      clear hR hu hk
      obtain ⟨d, hd, C⟩ : ∃ d : ByteArray, Hid (d = ⟨(Lib.itoa ((u : Int))).toArray⟩) ∧ Hid (∀ w, Calls Tryd.prog 91 #[.int .i64 ((u : Int))] w fun e w' => e = .returned (.string d) ∧ Below w.heap.size w w') := ⟨_, rfl, dec_spec _ (by omega) (by omega)⟩
      have HR : Hid (numR s.data.toList = if d = s then some ((u : Int)) else none) := by
        show numR s.data.toList = if d = s then some ((u : Int)) else none
        rw [NR.out, HV.out]
        simp only [hsg]
        rw [hd.out]
        by_cases e : Lib.itoa ((u : Int)) = s.data.toList
        · rw [if_pos e, if_pos (itoa_eq _ s e)]
        · rw [if_neg e, if_neg (fun h => e (by rw [← h]))]
      clear hsg NR SG HV hd
      by_cases hds : d = s
      · subst hds
        have HR2 : Hid (numR d.data.toList = some ((u : Int))) := by
          show numR d.data.toList = some ((u : Int))
          rw [HR.out, if_pos rfl]
        clear HR
        go_wp2_with (go_at_call 91; refine (C.out _).mono ?_; rintro e w1 ⟨rfl, hb⟩)
        go_ret2
        exact ⟨by rw [HR2.out]; rfl, hb⟩
      · have HR2 : Hid (numR s.data.toList = none) := by
          show numR s.data.toList = none
          rw [HR.out, if_neg hds]
        have hds' : (!(d.toList == s.toList)) = true := by rw [ByteArray.toList_eq, ByteArray.toList_eq]; simp; intro h; exact hds (ByteArray.ext (by simpa using h))
        clear HR hds
        go_wp2_with (go_at_call 91; refine (C.out _).mono ?_; rintro e w1 ⟨rfl, hb⟩)
        go_ret2
        exact ⟨by rw [HR2.out]; rfl, hb⟩

theorem number_spec (s : ByteArray) (w : World) : Calls Tryd.prog 76 #[.string s] w fun e w' => e = .returned (.tuple #[.int .i64 ((numR s.data.toList).getD 0), .bool (numR s.data.toList).isSome]) ∧ Below w.heap.size w w' := by
  by_cases h0 : 1 ≤ s.size
  · by_cases h45 : ((s[0]'h0).toNat : Int) = 45
    · exact number_sign s h0 h45 w
    · exact number_plain s h0 h45 w
  · obtain rfl := empty_ofN s h0
    clear h0
    have hn : numR ByteArray.empty.data.toList = none := by decide
    rw [hn]
    go_enter Tryd.func76, Tryd.ntmps76
    go_wp2
    go_ret2
    exact ⟨rfl, Below.refl _ _⟩
end Go.Proofs.YtikjielgnlgnjaaDoor
