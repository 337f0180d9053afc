/-
  Bonds as told: the program's word.
-/
import Derived.Test.YtplggghhhgmebaaDoorCoS
import Derived.Test.YtplggghhhgmebaaDoorNameI
import Derived.Test.YtplggghhhgmebaaDoorShelfT
import Derived.Shelf.Strings.SlTrimAscii
namespace Go.Proofs.YtplggghhhgmebaaDoor
open Go.ChangeShapes Go.WideShapes Go.ChangeAt Go.RowKit Go.Joins

theorem dropWhile_nil {α : Type} (p : α → Bool) : ∀ l : List α, l.dropWhile p = [] ↔ l.all p = true
  | [] => by simp
  | x :: l => by
    by_cases h : p x = true
    · rw [List.dropWhile_cons_of_pos h, dropWhile_nil p l]; simp [h]
    · rw [List.dropWhile_cons_of_neg h]; simp [h]
theorem trimS_nil (l cs : List UInt8) : Lib.trimS l cs = [] ↔ l.all (cs.contains ·) = true := by
  unfold Lib.trimS Lib.trimLeftS Lib.trimRightS
  constructor
  · intro h
    rw [dropWhile_nil] at h
    by_cases hr : l.reverse.dropWhile (cs.contains ·) = []
    · rw [dropWhile_nil] at hr
      simpa using hr
    · exfalso
      have h2 := List.head_dropWhile_not (cs.contains ·) hr
      rw [List.all_eq_true] at h
      have h3 := h _ (List.mem_reverse.2 (List.head_mem hr))
      rw [h3] at h2
      cases h2
  · intro h
    have hr : l.reverse.dropWhile (cs.contains ·) = [] := (dropWhile_nil _ _).2 (by simpa using h)
    rw [hr]
    rfl
theorem pieces_trim (s : ByteArray) : piecesB s = (Lib.trimS s.data.toList [83, 72, 84, 66, 67]).isEmpty := by
  rw [Bool.eq_iff_iff, List.isEmpty_iff, trimS_nil, piecesB, List.all_eq_true, List.all_eq_true]
  refine forall_congr' fun x => forall_congr' fun _ => ?_
  simp only [decide_eq_true_eq, qtr, List.contains_eq_mem, List.mem_cons, List.not_mem_nil, or_false]
  constructor
  · intro h
    by_cases h1 : x = 83
    · exact .inl h1
    by_cases h2 : x = 72
    · exact .inr (.inl h2)
    by_cases h3 : x = 84
    · exact .inr (.inr (.inl h3))
    by_cases h4 : x = 66
    · exact .inr (.inr (.inr (.inl h4)))
    by_cases h5 : x = 67
    · exact .inr (.inr (.inr (.inr h5)))
    simp [h1, h2, h3, h4, h5] at h
  · rintro (rfl | rfl | rfl | rfl | rfl) <;> decide
theorem plain_trim (s : ByteArray) : plainB s = (Lib.trimS s.data.toList [83, 72]).isEmpty := by
  rw [Bool.eq_iff_iff, List.isEmpty_iff, trimS_nil, plainB, List.all_eq_true, List.all_eq_true]
  refine forall_congr' fun x => forall_congr' fun _ => ?_
  simp

theorem inf116 : (Tryd.prog.info? 93).map (fun i => (i.zero, i.size)) = some (some (.agg (Array.replicate 256 (.bool false))), 256) := by kernel_rfl
set_option maxRecDepth 1000000 in
theorem consists_impl (s cs : ByteArray) (hs : s.size ≤ 1048576) (hcs : cs.size ≤ 10) (ha : cs.data.toList.all (fun b => decide (b.toNat < 128)) = true) (w : World) :
    Calls Tryd.prog 45 #[.string s, .string cs] w fun e w' => e = .returned (.bool (Lib.trimS s.data.toList cs.data.toList).isEmpty) ∧ Below w.heap.size w w' := by
  have C := Lib.hid (fun wx => Any.strings_Trim_laid Tryd.lays160 inf116 s cs wx (by omega) (by omega) (ascii_of_all ha))
  obtain ⟨T, hT⟩ : ∃ T, Lib.trimS s.data.toList cs.data.toList = T := ⟨_, rfl⟩
  rw [hT] at C ⊢
  clear hT
  go_enter Tryd.func45, Tryd.ntmps45
  go_wp2_with fail
  refine (C.out _).mono ?_
  rintro e w1 ⟨rfl, hb⟩
  have B := Lib.hid hb
  clear hb
  cases T
  · go_wp2
    go_ret
    exact ⟨rfl, B.out⟩
  · go_wp2
    go_ret
    exact ⟨ret_bool (by simp), B.out⟩

def faultVal (n : Int) : Value := if n = 0 then .nilIface else .iface 73 (.int .i64 n)
set_option maxRecDepth 100000 in
set_option maxHeartbeats 3200000 in
theorem check_impl (c : Co) (h : Bool) (hs : c.lead.size ≤ 1048576 ∧ c.cyc.size ≤ 1048576) (w : World) :
    Calls Tryd.prog 38 #[.agg #[.string c.lead, .string c.cyc], .bool h] w fun e w' => e = .returned (faultVal (c.fault h)) ∧ Below w.heap.size w w' := by
  have I1 : Hid (∀ w, Calls Tryd.prog 45 #[.string c.lead, .string ⟨#[83, 72, 84, 66, 67]⟩] w fun e w' => e = .returned (.bool (piecesB c.lead)) ∧ Below w.heap.size w w') := fun w => by
    rw [pieces_trim]; exact consists_impl c.lead ⟨#[83, 72, 84, 66, 67]⟩ hs.1 (by decide) (by decide) w
  have I2 : Hid (∀ w, Calls Tryd.prog 45 #[.string c.cyc, .string ⟨#[83, 72]⟩] w fun e w' => e = .returned (.bool (plainB c.cyc)) ∧ Below w.heap.size w w') := fun w => by
    rw [plain_trim]; exact consists_impl c.cyc ⟨#[83, 72]⟩ hs.2 (by decide) (by decide) w
  have K : Hid (∀ wx, Below (w.alloc (.cells #[.string c.lead, .string c.cyc] 53)).heap.size (w.alloc (.cells #[.string c.lead, .string c.cyc] 53)) wx → wx.cell? ⟨w.heap.size, 0, none⟩ = some (.string c.lead) ∧ wx.cell? ⟨w.heap.size, 1, none⟩ = some (.string c.cyc)) := fun wx hx =>
    ⟨(hx.cell (p := ⟨w.heap.size, 0, none⟩) (by simp)).trans (box2 w c.lead _ _).1, (hx.cell (p := ⟨w.heap.size, 1, none⟩) (by simp)).trans (box2 w c.lead _ _).2⟩
  obtain ⟨hs1, hs2⟩ := hs
  cases hp : piecesB c.lead
  · rw [hp] at I1
    have HF : Hid (c.fault h = 3) := by show c.fault h = 3; simp [Co.fault, hp]
    go_enter Tryd.func38, Tryd.ntmps38
    go_wp2_with (go_at_call_of 45 (Value.string c.lead); refine (I1.out _).mono ?_; rintro e w1 ⟨rfl, hb1⟩; have B1 := Lib.hid (hb1); have A1 := Lib.hid (bnext (balloc0 _ _) hb1); clear hb1; obtain ⟨d0, d1⟩ := K.out _ B1.out)
    go_ret
    exact ⟨by rw [HF.out]; rfl, A1.out⟩
  rw [hp] at I1
  cases hq : plainB c.cyc
  · rw [hq] at I2
    have HF : Hid (c.fault h = 3) := by show c.fault h = 3; simp [Co.fault, hq]
    go_enter Tryd.func38, Tryd.ntmps38
    go_wp2_with (first | (go_at_call_of 45 (Value.string c.lead); refine (I1.out _).mono ?_; rintro e w1 ⟨rfl, hb1⟩; have B1 := Lib.hid (hb1); have A1 := Lib.hid (bnext (balloc0 _ _) hb1); clear hb1; obtain ⟨d0, d1⟩ := K.out _ B1.out) | (go_at_call_of 45 (Value.string c.cyc); refine (I2.out _).mono ?_; rintro e w2 ⟨rfl, hb2⟩; have B2 := Lib.hid (bnext B1.out hb2); have A2 := Lib.hid (bnext A1.out hb2); clear hb2; obtain ⟨e0, e1⟩ := K.out _ B2.out))
    go_ret
    exact ⟨by rw [HF.out]; rfl, A2.out⟩
  rw [hq] at I2
  by_cases hz : 1 ≤ c.cyc.size
  case neg =>
    have HF : Hid (c.fault h = 4) := by show c.fault h = 4; have : c.cyc.size = 0 := by omega
                                        simp [Co.fault, hp, hq, this]
    have hE : c.cyc.toList.isEmpty = true := List.isEmpty_iff.2 ((toList_nil_iff_emptyBytes _).2 (empty_of _ hz))
    go_enter Tryd.func38, Tryd.ntmps38
    go_wp2_with (first | (go_at_call_of 45 (Value.string c.lead); refine (I1.out _).mono ?_; rintro e w1 ⟨rfl, hb1⟩; have B1 := Lib.hid (hb1); have A1 := Lib.hid (bnext (balloc0 _ _) hb1); clear hb1; obtain ⟨d0, d1⟩ := K.out _ B1.out) | (go_at_call_of 45 (Value.string c.cyc); refine (I2.out _).mono ?_; rintro e w2 ⟨rfl, hb2⟩; have B2 := Lib.hid (bnext B1.out hb2); have A2 := Lib.hid (bnext A1.out hb2); clear hb2; obtain ⟨e0, e1⟩ := K.out _ B2.out))
    go_ret
    exact ⟨by rw [HF.out]; rfl, A2.out⟩
  have hE := toList_ne c.cyc hz
  have hE' : (!c.cyc.toList.isEmpty) = true := by rw [hE]; rfl
  by_cases hy : h = true ∧ ¬ 1 ≤ c.lead.size
  · obtain ⟨rfl, hy⟩ := hy
    have HF : Hid (c.fault true = 4) := by show c.fault true = 4; have : c.lead.size = 0 := by omega
                                           simp [Co.fault, hp, hq, this]
    have hL : c.lead.toList.isEmpty = true := List.isEmpty_iff.2 ((toList_nil_iff_emptyBytes _).2 (empty_of _ hy))
    go_enter Tryd.func38, Tryd.ntmps38
    go_wp2_with (first | (go_at_call_of 45 (Value.string c.lead); refine (I1.out _).mono ?_; rintro e w1 ⟨rfl, hb1⟩; have B1 := Lib.hid (hb1); have A1 := Lib.hid (bnext (balloc0 _ _) hb1); clear hb1; obtain ⟨d0, d1⟩ := K.out _ B1.out) | (go_at_call_of 45 (Value.string c.cyc); refine (I2.out _).mono ?_; rintro e w2 ⟨rfl, hb2⟩; have B2 := Lib.hid (bnext B1.out hb2); have A2 := Lib.hid (bnext A1.out hb2); clear hb2; obtain ⟨e0, e1⟩ := K.out _ B2.out))
    go_ret
    exact ⟨by rw [HF.out]; rfl, A2.out⟩
  have hh : (h && decide (c.lead.size = 0)) = false := by
    cases h
    · rfl
    · have : 1 ≤ c.lead.size := by apply Decidable.byContradiction; intro hc; exact hy ⟨rfl, hc⟩
      have : ¬ c.lead.size = 0 := by omega
      simp [this]
  have hl : h = true → c.lead.toList.isEmpty = false := by
    intro e
    exact toList_ne c.lead (by apply Decidable.byContradiction; intro hc; exact hy ⟨e, hc⟩)
  have hz0 : ¬ c.cyc.size = 0 := by omega
  by_cases h5 : 6 < c.lead.size
  · have HF : Hid (c.fault h = 5) := by show c.fault h = 5; unfold Co.fault; rw [hp, hq, hh, decide_eq_false hz0]; simp [h5]
    have h5' : (6 : Int) < (c.lead.size : Int) := by omega
    clear hh hy
    cases h
    all_goals
      try have hl2 := hl rfl
      clear hl
      go_enter Tryd.func38, Tryd.ntmps38
      go_wp2_with (first | (go_at_call_of 45 (Value.string c.lead); refine (I1.out _).mono ?_; rintro e w1 ⟨rfl, hb1⟩; have B1 := Lib.hid (hb1); have A1 := Lib.hid (bnext (balloc0 _ _) hb1); clear hb1; obtain ⟨d0, d1⟩ := K.out _ B1.out) | (go_at_call_of 45 (Value.string c.cyc); refine (I2.out _).mono ?_; rintro e w2 ⟨rfl, hb2⟩; have B2 := Lib.hid (bnext B1.out hb2); have A2 := Lib.hid (bnext A1.out hb2); clear hb2; obtain ⟨e0, e1⟩ := K.out _ B2.out))
      go_ret
      exact ⟨by rw [HF.out]; rfl, A2.out⟩
  have h5' : ¬ (6 : Int) < (c.lead.size : Int) := by omega
  by_cases h8 : 8 < c.cyc.size
  · have HF : Hid (c.fault h = 5) := by show c.fault h = 5; unfold Co.fault; rw [hp, hq, hh, decide_eq_false hz0]; simp [h8]
    have h8' : (8 : Int) < (c.cyc.size : Int) := by omega
    clear hh hy
    cases h
    all_goals
      try have hl2 := hl rfl
      clear hl
      go_enter Tryd.func38, Tryd.ntmps38
      go_wp2_with (first | (go_at_call_of 45 (Value.string c.lead); refine (I1.out _).mono ?_; rintro e w1 ⟨rfl, hb1⟩; have B1 := Lib.hid (hb1); have A1 := Lib.hid (bnext (balloc0 _ _) hb1); clear hb1; obtain ⟨d0, d1⟩ := K.out _ B1.out) | (go_at_call_of 45 (Value.string c.cyc); refine (I2.out _).mono ?_; rintro e w2 ⟨rfl, hb2⟩; have B2 := Lib.hid (bnext B1.out hb2); have A2 := Lib.hid (bnext A1.out hb2); clear hb2; obtain ⟨e0, e1⟩ := K.out _ B2.out))
      go_ret
      exact ⟨by rw [HF.out]; rfl, A2.out⟩
  have h8' : ¬ (8 : Int) < (c.cyc.size : Int) := by omega
  have HF : Hid (c.fault h = 0) := by show c.fault h = 0; unfold Co.fault; rw [hp, hq, hh, decide_eq_false hz0]; simp [h5, h8]
  clear hh hy
  cases h
  all_goals
    try have hl2 := hl rfl
    clear hl
    go_enter Tryd.func38, Tryd.ntmps38
    go_wp2_with (first | (go_at_call_of 45 (Value.string c.lead); refine (I1.out _).mono ?_; rintro e w1 ⟨rfl, hb1⟩; have B1 := Lib.hid (hb1); have A1 := Lib.hid (bnext (balloc0 _ _) hb1); clear hb1; obtain ⟨d0, d1⟩ := K.out _ B1.out) | (go_at_call_of 45 (Value.string c.cyc); refine (I2.out _).mono ?_; rintro e w2 ⟨rfl, hb2⟩; have B2 := Lib.hid (bnext B1.out hb2); have A2 := Lib.hid (bnext A1.out hb2); clear hb2; obtain ⟨e0, e1⟩ := K.out _ B2.out))
    go_ret
    exact ⟨by rw [HF.out]; rfl, A2.out⟩

theorem empty_size (s : ByteArray) : s.toList.isEmpty = decide (s.size = 0) := by
  by_cases h : 1 ≤ s.size
  · rw [toList_ne s h]
    have : ¬ s.size = 0 := by omega
    simp [this]
  · rw [empty_of s h]
    rw [List.isEmpty_iff.2 ((toList_nil_iff_emptyBytes _).2 rfl)]
    rfl
theorem wa_impl (n low high : Int) (w : World) : Calls Tryd.prog 28 #[.int .i64 n, .int .i64 low, .int .i64 high] w fun e w' => e = .returned (.bool (inB n low high)) ∧ w = w' := by
  by_cases h1 : low ≤ n <;> by_cases h2 : n ≤ high
  all_goals
    go_enter Tryd.func28, Tryd.ntmps28
    go_wp2
    go_ret
    exact ⟨ret_bool (by simp [inB, h1, h2]), rfl⟩

set_option maxRecDepth 100000 in
set_option maxHeartbeats 3200000 in
theorem validBond_impl (nm : ByteArray) (L : List Co) (a : Option Addr) (cap : Nat) (hl : L.length ≤ 1048576) (hs : CosLe 1048576 L) (w : World) (ha : CoArg w a L) :
    Calls Tryd.prog 27 #[.agg #[.string nm, .slice a L.length cap]] w fun e w' => e = .returned (.bool (okBond nm L)) ∧ Below w.heap.size w w' := by
  have HN := Lib.hid (name_impl nm)
  have HA := Lib.hid ha
  have HS := Lib.hid hs
  have K : Hid (∀ wx, Below (w.heap.size + 1) (w.alloc (.cells #[.string nm, .slice a L.length cap] 30)) wx → wx.cell? ⟨w.heap.size, 0, none⟩ = some (.string nm) ∧ wx.cell? ⟨w.heap.size, 1, none⟩ = some (.slice a L.length cap)) := fun wx hx =>
    ⟨(hx.cell (p := ⟨w.heap.size, 0, none⟩) (Nat.lt_succ_self _)).trans (box2 w nm _ _).1, (hx.cell (p := ⟨w.heap.size, 1, none⟩) (Nat.lt_succ_self _)).trans (box2 w nm _ _).2⟩
  have c0 := (box2 w nm (.slice a L.length cap) 30).1
  have c1 := (box2 w nm (.slice a L.length cap) 30).2
  have E0 : Hid (∀ wx, Below (w.heap.size + 1) (w.alloc (.cells #[.string nm, .slice a L.length cap] 30)) wx → Below w.heap.size w wx) := fun wx hx => (balloc0 w _).trans (hx.mono (Nat.le_succ _))
  clear ha hs
  go_enter Tryd.func27, Tryd.ntmps27
  go_wp2
  clear c0 c1
  go_loopw [8] (fun i wr => ∃ (k : Nat), k ≤ L.length ∧ i = .int .i64 k ∧ Hid (okCos (L.take k) = true) ∧ Hid (Below (w.heap.size + 1) (w.alloc (.cells #[.string nm, .slice a L.length cap] 30)) wr) ∧ w.heap.size + 1 ≤ wr.heap.size) (fun i _ => L.length - (intOf i).toNat)
  case atStart => exact ⟨0, Nat.zero_le _, rfl, rfl, Below.refl _ _, by simp⟩
  case round =>
    obtain ⟨k, hk, rfl, hF, hB, hsz⟩ := hrel
    by_cases hlt : k < L.length
    · have hlt' : (k : Int) < (L.length : Int) := by omega
      have hk0 : (0 : Int) ≤ (k : Int) := by omega
      obtain ⟨b', o', c, rfl, hc, hat⟩ := (HA.out.later (E0.out _ hB.out)).at hlt
      obtain ⟨e0, e1⟩ := hat.cells hc
      have HC := Lib.hid hc
      have hf := fault_ok c
      obtain ⟨bb, hle, hd⟩ : ∃ bb, (!c.lead.toList.isEmpty) = bb ∧ (!decide (c.lead.size = 0)) = bb := ⟨_, rfl, by rw [empty_size]⟩
      rw [hd] at hf
      have C := Lib.hid (fun wx => check_impl c bb (HS.out k c HC.out) wx)
      clear hd hc hat
      cases hok : c.ok
      · have hnz : ¬ c.fault bb = 0 := fun h => by have := hf.1 h; rw [hok] at this; cases this
        obtain ⟨q, hq⟩ : ∃ q, c.fault bb = q := ⟨_, rfl⟩
        rw [hq] at hnz C
        have hv : faultVal q = .iface 73 (.int .i64 q) := if_neg hnz
        rw [hv] at C
        clear hq hv hf
        go_wp2_with fail
        refine (C.out _).mono ?_
        rintro e w1 ⟨rfl, hb1⟩
        have B1 := Lib.hid ((hB.out.trans ((balloc0 wr _).mono hsz)).trans (hb1.mono (by simp; omega)))
        clear hb1
        go_wp2_with fail
        go_ret
        exact ⟨ret_bool (by have := okCos_bad HC.out hok; simp [okBond, this]), E0.out _ B1.out⟩
      · have hv : faultVal (c.fault bb) = .nilIface := if_pos (hf.2 hok)
        rw [hv] at C
        clear hv hf
        go_wp2_with fail
        refine (C.out _).mono ?_
        rintro e w1 ⟨rfl, hb1⟩
        have B1 := Lib.hid ((hB.out.trans ((balloc0 wr _).mono hsz)).trans (hb1.mono (by simp; omega)))
        have z1 : w.heap.size + 1 ≤ w1.heap.size := by have := hb1.size; simp at this; omega
        clear hb1
        go_wp2_with fail
        go_roundw
        case rel => exact ⟨k + 1, by omega, by go_num, by show okCos (L.take (k + 1)) = true; rw [okCos_take HC.out, hF.out, hok]; rfl, B1.out, z1⟩
        case measure => simp [intOf]; omega
    · have hge : ¬ (k : Int) < (L.length : Int) := by omega
      have hkn : k = L.length := by omega
      subst hkn
      have hall : okCos L = true := by have := hF.out; rwa [List.take_length] at this
      have HO := Lib.hid hall
      obtain ⟨c0, c1⟩ := K.out _ hB.out
      clear hall
      cases hn : nameB nm
      all_goals
        rw [hn] at HN
        have HH := Lib.hid hn
        clear hn
        go_wp2_with (first | (go_at_call 39; refine (HN.out _).mono ?_; rintro e w1 ⟨rfl, hb1⟩; have B1 := Lib.hid (hB.out.trans (hb1.mono hsz)); clear hb1; obtain ⟨d0, d1⟩ := K.out _ B1.out) | (go_at_call 28; refine (wa_impl _ _ _ _).mono ?_; rintro e w' ⟨rfl, rfl⟩))
        go_ret
        exact ⟨ret_bool (by rw [okBond, HO.out, HH.out]; simp), E0.out _ B1.out⟩
end Go.Proofs.YtplggghhhgmebaaDoor
