/-
  The program's blends that are kept: its walk.
-/
import Derived.Test.YtpmklnldgafkjaaKeepB
import Derived.Deep.RegionWith
import Derived.Deep.RegionLaw
import Derived.Deep.DeepMust
namespace Go.Proofs.Ytpmklnldgafkjaa
open Go.ChangeShapes Go.WideShapes Go.ChangeAt Go.RowKit Go.Joins

set_option maxRecDepth 100000 in
set_option maxHeartbeats 800000 in
/-- A copy of numbers in a new row. -/
theorem clone_impl (Q : List Int) (g cp : Nat) (h1 : 1 ≤ Q.length) (hl : Q.length ≤ 1048576) (w : World) (h : IntAt w g 0 Q) :
    Calls Try.prog 115 #[.slice (some ⟨g, 0, none⟩) Q.length cp] w fun e w' => ∃ g' cp', e = .returned (.slice (some ⟨g', 0, none⟩) Q.length cp') ∧ IntOwn w.heap.size Q g' w' ∧ Below w.heap.size w w' := by
  have HC := Lib.hid (int_cells (h.later (balloc0 w (.cells #[] 2))))
  have HS := Lib.hid (nums_start w).1
  have hql : (intVals Q).length = Q.length * 1 := by simp [intVals]
  have hone := Lib.hid (intVals_one Q)
  have m1 : Hid (0 + Q.length ≤ maxLen) := by show 0 + Q.length ≤ maxLen; unfold maxLen; omega
  obtain ⟨i0, hi, hz0, hz1, hz2⟩ := info_parts infoInt
  have hnil : ∀ (w : World) (p : Addr) (n c : Nat), (binOp .eql 39 (.slice (some p) n c) (.slice none 0 0)).run Try.prog w = .ok (.bool false) w := fun w p n c => Lib.run_eql_slice_nil (P := Try.prog) w 39 2 (some p) n c 0 0 Try.underlying39
  clear h
  go_enter Try.func115, Try.ntmps115
  go_wp2_with (at_builtin; (refine wpList_append_own _ rfl _ _ 39 rfl w.heap.size 2 i0 (.int .i64 0) 1 8 Try.underlying39 hi hz0 hz1 hz2 rfl (by decide) (.slice (some ⟨w.heap.size, 0, none⟩) 0 0) 0 [] rfl HS.out ⟨g, 0, none⟩ Q.length cp (intVals Q) rfl hql HC.out hone.out m1.out (by omega) (by simp) ?_); intro v1 w1 hown hgrow _)
  have hown1 : w1.ownsRow w.heap.size 2 1 v1 Q.length (intVals Q) := by simpa using hown
  obtain ⟨g1, c1, hv⟩ := own_form8 hown1 (by omega)
  subst hv
  go_ret
  exact ⟨g1, c1, rfl, own_of_row hown1, (balloc0 w _).grown hgrow (by simp) (fun k hk => by cases hk; exact Nat.le_refl _)⟩

theorem IntOwn.mono' {B B' : Nat} {P : List Int} {g : Nat} {w : World} (h : IntOwn B P g w) (hb : B' ≤ B) : IntOwn B' P g w := ⟨Nat.le_trans hb h.1, h.2⟩
theorem Keep.drewI {w0 : World} {L : List Cl} {a : Option Addr} {cap : Nat} {x : Li} {Q : List Int} {K : List (List Int)} {vk : Value} {w : World} (h : Keep w0 L a cap x Q K vk w) : IntAt w.drew (w0.heap.size + 1 + 1 + 1) 0 Q := h.ints.later (Below.refl _ _).drew
def KeepE (w0 : World) (L : List Cl) (a : Option Addr) (cap : Nat) (x : Li) (Q : List Int) (K : List (List Int)) (e : Ending) (w' : World) : Prop := e = .returned (.tuple #[]) ∧ ∃ vk, Keep w0 L a cap x Q K vk w'
theorem lit24 (base : Nat) (wr : World) (c : Value) (hb : base ≤ wr.heap.size) : (wr.alloc (.cells #[c] 39)).ownsRow base 39 1 (.slice (some ⟨wr.heap.size, 0, none⟩) 1 1) 1 [c] :=
  ⟨rfl, .inr ⟨wr.heap.size, 1, #[c], rfl, hb, heap_alloc_new wr _, Nat.le_refl _, by decide, rfl, rfl⟩⟩

set_option maxRecDepth 100000 in
set_option maxHeartbeats 3200000 in
theorem visit_impl (w0 : World) (L : List Cl) (a : Option Addr) (cap : Nat) (x : Li) (Q : List Int) (K : List (List Int)) (hK : K.length ≤ 5000000) (hc : codeP L Q x.ok = 0) (K' : List (List Int)) (hK' : (if okK L x Q = true then K ++ [Q] else K) = K') (vk : Value) (w : World) (h : Keep w0 L a cap x Q K vk w) (ha : ClArg w0 a L) :
    Calls Try.prog 114 #[.slice (some ⟨w0.heap.size + 1 + 1 + 1, 0, none⟩) L.length L.length, .pointer (some ⟨w0.heap.size, 0, none⟩), .pointer (some ⟨w0.heap.size + 1, 0, none⟩), .pointer (some ⟨w0.heap.size + 1 + 1, 0, none⟩)] w fun e w' => KeepE w0 L a cap x Q K' e w' := by
  obtain ⟨hL, hn, hP, -⟩ := codeP_facts hc
  have h6 := (okCls_all hL).1
  have hQ1 : 1 ≤ Q.length := by
    have h1 := (codeP_sum hc).1
    by_cases e : Q.length = 0
    · unfold sumP at h1; rw [e] at h1; simp [sumTo] at h1
    · omega
  have H := Lib.hid h
  obtain ⟨c0, l0, l1, l2, l3, b0⟩ := h.cells
  have C := Lib.hid (fault_impl L a cap Q (some ⟨w0.heap.size + 1 + 1 + 1, 0, none⟩) L.length x hc (by omega) w (ha.later h.bel) (.inr ⟨_, 0, rfl, h.ints⟩))
  rw [hn] at C
  have hFk : okK L x Q = decide (faultV L Q x = noneB) := rfl
  obtain ⟨F, hF⟩ : ∃ F, faultV L Q x = F := ⟨_, rfl⟩
  rw [hF] at C hFk
  by_cases hFn : F = noneB
  · have HR : Hid (K ++ [Q] = K') := by show _ = _; rw [← hK', hFk]; simp [hFn]
    subst hFn
    have hF2 : (noneB.toList == [110, 111, 110, 101]) = true := by rw [noneB_list]; rfl
    obtain ⟨i0, hi, hz0, hz1, hz2⟩ := info_parts infoRow
    have m3 : Hid (K.length + 1 ≤ maxLen) := by show K.length + 1 ≤ maxLen; unfold maxLen; omega
    have HQ := Lib.hid hn
    have CL : Hid (∀ wx, IntAt wx (w0.heap.size + 1 + 1 + 1) 0 Q → Calls Try.prog 115 #[.slice (some ⟨w0.heap.size + 1 + 1 + 1, 0, none⟩) L.length L.length] wx fun e w' => ∃ g' cp', e = .returned (.slice (some ⟨g', 0, none⟩) L.length cp') ∧ IntOwn wx.heap.size Q g' w' ∧ Below wx.heap.size wx w') := by
      intro wx hx
      have := clone_impl Q (w0.heap.size + 1 + 1 + 1) L.length hQ1 (by omega) wx hx
      rw [hn] at this
      exact this
    clear h hc ha hL hn hP hFk hF hK' c0 l0 l1 l2 l3 b0
    have H0 := H.out.cells
    obtain ⟨c0, l0, l1, l2, l3, b0⟩ := H0
    go_enter Try.func114, Try.ntmps114
    go_wp2_with fail
    refine C.out.mono ?_
    rintro e w1 ⟨rfl, hb1⟩
    have H1 := Lib.hid (H.out.later hb1)
    clear hb1 c0 l0 l1 l2 l3 b0
    obtain ⟨-, -, -, -, -, b0⟩ := H1.out.cells
    go_wp2
    go_region_law (first
      | (refine step_append_own2 rfl (.tmp 10) (.tmp 13) 100 rfl (w0.heap.size + 4) 39 i0 (.slice none 0 0) 1 24 Try.underlying100 hi hz0 hz1 hz2 rfl (by decide) vk K.length rows (by simp [Act.eval]) (k1.out.alloc _) ⟨w2.heap.size, 0, none⟩ 1 1 [.slice (some ⟨g', 0, none⟩) L.length cp'] (by simp [Act.eval]) rfl ((lit24 (w0.heap.size + 4) w2 _ hz2').cells rfl) (by simp [Value.oneCell']) m3.out (by omega) (by simp; omega) ?_
         intro v1 w3 hown hgrow hf
         obtain ⟨g1, cp1, hv⟩ := own_form8 hown (by omega)
         subst hv
         obtain ⟨d3, e3, N⟩ := H2.out.more rows k1.out k2.out ho.out hne.out _ (by rw [HQ.out]; exact hown) hgrow hf
         have HN := Lib.hid N
         clear N hown hgrow hf b0 b2 b3)
      | (go_simp
         go_wp2_with (go_at_call 115; refine (CL.out _ H1.out.drewI).mono ?_; rintro e w2 ⟨g', cp', rfl, ho', hb2⟩; have H2 := Lib.hid (H1.out.later (bnext (Below.refl _ _).drew hb2)); have ho := Lib.hid (ho'.mono' H1.out.hz); have hne := Lib.hid (H1.out.fresh ho'.1); have hz2' := H2.out.hz; clear hb2 ho'; obtain ⟨rows, k1', k2'⟩ := H2.out.kept; have k1 := Lib.hid k1'; have k2 := Lib.hid k2'; clear k1' k2'; obtain ⟨-, -, -, -, -, b2⟩ := H2.out.cells; have b3 : (w2.alloc (.cells #[.slice (some ⟨g', 0, none⟩) L.length cp'] 39)).cell? ⟨w0.heap.size + 1 + 1, 0, none⟩ = some vk := (World.cell?_alloc_lt _ _ _ (by show w0.heap.size + 1 + 1 < w2.heap.size; omega)).trans b2)))
    all_goals
      go_end0
      unfold KeepE
      rw [← HR.out]
      exact And.intro rfl (Exists.intro _ HN.out)
  · have HR : Hid (K = K') := by show _ = _; rw [← hK', hFk]; simp [hFn]
    have hF2 : (F.toList == [110, 111, 110, 101]) = false := by rw [← noneB_list]; exact sneB hFn
    clear h hc ha hL hn hP hFk hF hFn hK'
    go_enter Try.func114, Try.ntmps114
    go_wp2_with fail
    refine C.out.mono ?_
    rintro e w1 ⟨rfl, hb1⟩
    have H1 := Lib.hid (H.out.later hb1)
    clear hb1
    go_wp2
    go_end0
    unfold KeepE
    rw [← HR.out]
    exact And.intro rfl (Exists.intro vk H1.out)

set_option maxRecDepth 100000 in
set_option maxHeartbeats 3200000 in
theorem each_leaf (w0 : World) (L : List Cl) (a : Option Addr) (cap : Nat) (x : Li) (Q : List Int) (K : List (List Int)) (r : Nat) (hK : K.length ≤ 5000000) (hn : Q.length = L.length) (hc : r = 0 → codeP L Q x.ok = 0) (vk : Value) (w : World) (h : Keep w0 L a cap x Q K vk w) (ha : ClArg w0 a L) :
    Calls Try.prog 113 #[.slice (some ⟨w0.heap.size + 1 + 1 + 1, 0, none⟩) L.length L.length, .int .i64 (Q.length : Nat), .int .i64 (r : Nat), .func (.func 114) #[] #[.pointer (some ⟨w0.heap.size, 0, none⟩), .pointer (some ⟨w0.heap.size + 1, 0, none⟩), .pointer (some ⟨w0.heap.size + 1 + 1, 0, none⟩)]] w fun e w' => KeepE w0 L a cap x Q (K ++ kp (okK L x) Q 0 r) e w' := by
  rw [kp_zero, hn]
  by_cases h0 : r = 0
  · have C := Lib.hid (visit_impl w0 L a cap x Q K hK (hc h0) _ rfl vk w h ha)
    have HR : Hid ((if okK L x Q = true then K ++ [Q] else K) = K ++ (if r = 0 then (if okK L x Q = true then [Q] else []) else [])) := by
      show _ = _
      rw [if_pos h0]
      split <;> simp
    rw [HR.out] at C
    obtain ⟨K', hK'⟩ : ∃ K', K ++ (if r = 0 then (if okK L x Q = true then [Q] else []) else []) = K' := ⟨_, rfl⟩
    rw [hK'] at C ⊢
    subst h0
    clear h ha hc hK' HR hn
    go_enter Try.func113, Try.ntmps113
    go_wp2_with fail
    refine C.out.mono ?_
    intro e w1 hE
    unfold KeepE at hE
    obtain ⟨rfl, vk1, hE⟩ := hE
    have H1 := Lib.hid hE
    clear hE
    go_wp2
    exact bodyPost_ret (v := .tuple #[]) (by simp [results, Try.results113, go_sem]) rfl (And.intro rfl (Exists.intro vk1 H1.out))
  · have hr' : ((r : Int) == 0) = false := by simpa using h0
    have hr2 : ¬ (r : Int) = 0 := by omega
    rw [if_neg h0, List.append_nil]
    have H := Lib.hid h
    clear h ha hc h0 hn
    go_enter Try.func113, Try.ntmps113
    go_wp2
    exact bodyPost_ret (v := .tuple #[]) (by simp [results, Try.results113, go_sem]) rfl (And.intro rfl (Exists.intro vk H.out))

set_option maxRecDepth 100000 in
set_option maxHeartbeats 3200000 in
theorem each_walk (w0 : World) (L : List Cl) (a : Option Addr) (cap : Nat) (x : Li) (t : Nat) (ht : 1 ≤ t) (ht2 : t ≤ 12) (hL : okCls L = true) (hx : x.ok = true) (ha : ClArg w0 a L) :
    ∀ (m r : Nat) (Q : List Int) (K : List (List Int)) (vk : Value) (w : World), Q.length + m = L.length → okParts Q = true → 0 ≤ sumP Q → sumP Q + r = t → K.length + (combs m r).length ≤ 5000000 → Keep w0 L a cap x Q K vk w →
    Calls Try.prog 113 #[.slice (some ⟨w0.heap.size + 1 + 1 + 1, 0, none⟩) L.length L.length, .int .i64 (Q.length : Nat), .int .i64 (r : Nat), .func (.func 114) #[] #[.pointer (some ⟨w0.heap.size, 0, none⟩), .pointer (some ⟨w0.heap.size + 1, 0, none⟩), .pointer (some ⟨w0.heap.size + 1 + 1, 0, none⟩)]] w fun e w' => KeepE w0 L a cap x Q (K ++ kp (okK L x) Q m r) e w' := by
  intro m
  induction m with
  | zero => exact fun r Q K vk w hn hP _ hs hK h => each_leaf w0 L a cap x Q K r (by omega) (by omega) (fun h0 => codeP_full hL hx hP (by omega) (by omega)) vk w h ha
  | succ m ih =>
    intro r Q K vk w hn hP hs0 hs hK h
    have IH := Lib.hid ih
    have H6 := (okCls_all hL).1
    have HP := Lib.hid hP
    have HS := Lib.hid hs
    have HK := Lib.hid hK
    have HN := Lib.hid hn
    have H := Lib.hid h
    have hr12 : r ≤ 12 := by omega
    have hne : ¬ (Q.length : Int) = (L.length : Int) := by omega
    have hneb : ((Q.length : Int) == (L.length : Int)) = false := by simpa using hne
    have hQ6 : Q.length < L.length := by omega
    have hQi : (Q.length : Int) < (L.length : Int) := by omega
    have hQ0 : (0 : Int) ≤ (Q.length : Int) := by omega
    clear ih hP hs hK hn h ha hL hx ht ht2
    go_enter Try.func113, Try.ntmps113
    go_wp2
    go_loopw [8] (fun i wr => ∃ n : Nat, n ≤ r + 1 ∧ i = .int .i64 n ∧ Hid (∃ vk, Keep w0 L a cap x Q (K ++ kpTo (okK L x) Q m r n) vk wr)) (fun i _ => r + 1 - (intOf i).toNat)
    case atStart => exact ⟨0, Nat.zero_le _, rfl, by show ∃ vk, Keep w0 L a cap x Q _ vk _; rw [kpTo_zero, List.append_nil]; exact ⟨vk, H.out⟩⟩
    case round =>
      obtain ⟨n, hn, rfl, hE⟩ := hrel
      by_cases hlt : n ≤ r
      · have hlt' : (n : Int) ≤ (r : Int) := by omega
        have hn0 : (0 : Int) ≤ (n : Int) := by omega
        have hn12 : (n : Int) ≤ 12 := by omega
        obtain ⟨vk1, h⟩ := hE.out
        have HH := Lib.hid (h.store hQ6 (n : Int))
        obtain ⟨u, d1, d2⟩ := h.spot hQ6
        have HSub : Hid ((r : Int) - (n : Int) = ((r - n : Nat) : Int)) := by show (r : Int) - (n : Int) = ((r - n : Nat) : Int); omega
        have HL1 : Hid (((Q ++ [(n : Int)]).length : Int) = (Q.length : Int) + 1) := by show ((Q ++ [(n : Int)]).length : Int) = (Q.length : Int) + 1; simp
        have C := Lib.hid (IH.out (r - n) (Q ++ [(n : Int)]) (K ++ kpTo (okK L x) Q m r n) vk1 _ (by have := HN.out; rw [List.length_append]; simp; omega) (okParts_snoc HP.out hn0 (by omega)) (by rw [sumP_snoc]; omega) (by rw [sumP_snoc]; have := HS.out; omega) (by have := HK.out; have := room (okK L x) Q m r n hlt; rw [List.length_append]; omega) HH.out)
        rw [HL1.out, ← HSub.out] at C
        clear h
        go_wp2_with fail
        refine C.out.mono ?_
        intro e w3 hE3
        unfold KeepE at hE3
        obtain ⟨rfl, vk3, hE3⟩ := hE3
        have H3 := Lib.hid hE3
        clear hE3 d1 d2
        go_wp2
        go_roundw
        case rel =>
          refine ⟨n + 1, by omega, by go_num, ?_⟩
          show ∃ vk, Keep w0 L a cap x Q _ vk _
          rw [kpTo_succ, ← List.append_assoc]
          exact ⟨_, H3.out.cut⟩
        case measure => simp [intOf]; omega
      · have hge : ¬ (n : Int) ≤ (r : Int) := by omega
        have hnr : n = r + 1 := by omega
        go_wp2
        go_end0
        unfold KeepE
        rw [kp_succ, ← hnr]
        exact And.intro rfl hE.out
end Go.Proofs.Ytpmklnldgafkjaa
