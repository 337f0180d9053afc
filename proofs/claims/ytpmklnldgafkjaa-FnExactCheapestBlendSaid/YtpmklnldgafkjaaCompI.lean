/-
  The program's order of blends: by price, and then number by number.
-/
import Derived.Test.YtpmklnldgafkjaaWsumC
import Derived.Test.YtpmklnldgafkjaaComb
import Derived.Deep.DeepMust
namespace Go.Proofs.Ytpmklnldgafkjaa
open Go.ChangeShapes Go.WideShapes Go.ChangeAt Go.RowKit Go.Joins

def cmpI (a b : Int) : Int := if a < b then -1 else if b < a then 1 else 0
theorem cmpI_lt {a b : Int} (h : a < b) : cmpI a b = -1 := by simp [cmpI, h]
theorem cmpI_gt {a b : Int} (h : b < a) : cmpI a b = 1 := by have : ¬ a < b := by omega
                                                             simp [cmpI, h, this]
theorem cmpI_eq {a b : Int} (h : a = b) : cmpI a b = 0 := by simp [cmpI, h]
set_option maxHeartbeats 800000 in
theorem cmp_impl (a b : Int) (w : World) : Calls Try.prog 118 #[.int .i64 a, .int .i64 b] w fun e w' => e = .returned (.int .i64 (cmpI a b)) ∧ w = w' := by
  by_cases h1 : a < b
  · go_enter Try.func118, Try.ntmps118
    go_wp2
    go_ret
    exact ⟨ret_int (cmpI_lt h1).symm, rfl⟩
  by_cases h2 : b < a
  · go_enter Try.func118, Try.ntmps118
    go_wp2
    go_ret
    exact ⟨ret_int (cmpI_gt h2).symm, rfl⟩
  · go_enter Try.func118, Try.ntmps118
    go_wp2
    go_ret
    exact ⟨ret_int (cmpI_eq (by omega)).symm, rfl⟩

theorem lexC_step {P B : List Int} {k : Nat} {p b : Int} (hp : P[k]? = some p) (hb : B[k]? = some b) : lexC (P.drop k) (B.drop k) = if cmpI p b = 0 then lexC (P.drop (k + 1)) (B.drop (k + 1)) else cmpI p b := by
  obtain ⟨h1, rfl⟩ := List.getElem?_eq_some_iff.1 hp
  obtain ⟨h2, rfl⟩ := List.getElem?_eq_some_iff.1 hb
  rw [List.drop_eq_getElem_cons h1, List.drop_eq_getElem_cons h2]
  show (if P[k] < B[k] then (-1 : Int) else if B[k] < P[k] then 1 else _) = _
  unfold cmpI
  by_cases h3 : P[k] < B[k]
  · simp [h3]
  · by_cases h4 : B[k] < P[k] <;> simp [h3, h4]

set_option maxRecDepth 100000 in
set_option maxHeartbeats 1600000 in
theorem lex_impl (P B : List Int) (a a' : Option Addr) (cap cap' : Nat) (hn : P.length = B.length) (hl : P.length ≤ 1048576) (w : World) (ha : IntArg w a P) (ha' : IntArg w a' B) :
    Calls Try.prog 119 #[.slice a P.length cap, .slice a' B.length cap'] w fun e w' => e = .returned (.int .i64 (lexC P B)) ∧ w = w' := by
  have HA := Lib.hid ha
  have HA' := Lib.hid ha'
  have HN := Lib.hid hn
  clear ha ha' hn
  go_enter Try.func119, Try.ntmps119
  go_wp2
  go_loop [11] (fun i => ∃ k : Nat, k ≤ P.length ∧ i = .int .i64 k ∧ Hid (lexC P B = lexC (P.drop k) (B.drop k))) (fun i => P.length - (intOf i).toNat)
  case atStart => exact ⟨0, Nat.zero_le _, rfl, rfl⟩
  case round =>
    obtain ⟨k, hk, rfl, hE⟩ := hrel
    by_cases hlt : k < P.length
    · have hlt' : (k : Int) < (P.length : Int) := by omega
      have hk0 : (0 : Int) ≤ (k : Int) := by omega
      have hltB : (k : Int) < (B.length : Int) := by have := HN.out; omega
      obtain ⟨b, o, z, rfl, hz, hat⟩ := HA.out.at hlt
      obtain ⟨b', o', z', rfl, hz', hat'⟩ := HA'.out.at (k := k) (by have := HN.out; omega)
      have c0 := hat k z hz
      have d0 := hat' k z' hz'
      have HZ := Lib.hid (lexC_step hz hz')
      clear hz hz' hat hat'
      obtain ⟨q, hq⟩ : ∃ q, cmpI z z' = q := ⟨_, rfl⟩
      have C := Lib.hid (cmp_impl z z' w)
      rw [hq] at HZ C
      clear hq
      by_cases h0 : q = 0
      · have HZ2 := HZ.out
        rw [if_pos h0] at HZ2
        have HZ2 := Lib.hid HZ2
        subst h0
        go_wp2_with fail
        refine C.out.mono ?_
        rintro e w1 ⟨rfl, rfl⟩
        go_wp2
        go_round
        case rel => exact ⟨k + 1, by omega, by go_num, by show lexC P B = _; rw [hE.out, HZ2.out]⟩
        case measure => simp [intOf]; omega
      · have HZ2 := HZ.out
        rw [if_neg h0] at HZ2
        have HZ2 := Lib.hid HZ2
        go_wp2_with fail
        refine C.out.mono ?_
        rintro e w1 ⟨rfl, rfl⟩
        go_wp2
        go_ret
        exact ⟨ret_int (by rw [hE.out, HZ2.out]), rfl⟩
    · have hge : ¬ (k : Int) < (P.length : Int) := by omega
      have hgeB : ¬ (P.length : Int) < (B.length : Int) := by have := HN.out; omega
      have hkn : k = P.length := by omega
      have HE : Hid (lexC P B = 0) := by
        show lexC P B = 0
        rw [hE.out, List.drop_eq_nil_of_le (by omega), List.drop_eq_nil_of_le (by have := HN.out; omega)]
        rfl
      subst hkn
      go_wp2
      go_ret
      exact ⟨ret_int HE.out.symm, rfl⟩

set_option maxHeartbeats 800000 in
theorem or_impl (u v r : Int) (hr : (if u = 0 then v else u) = r) (g : Nat) (w : World) (c0 : w.cell? ⟨g, 0, none⟩ = some (.int .i64 u)) (c1 : w.cell? ⟨g, 1, none⟩ = some (.int .i64 v)) :
    Calls Try.prog 117 #[.slice (some ⟨g, 0, none⟩) 2 2] w fun e w' => e = .returned (.int .i64 r) ∧ w = w' := by
  have HC := Lib.hid (And.intro c0 c1)
  have HR := Lib.hid hr
  clear c0 c1 hr
  go_enter Try.func117, Try.ntmps117
  go_wp2
  go_loop [8] (fun i => ∃ k : Nat, i = .int .i64 k ∧ k ≤ 2 ∧ Hid (1 ≤ k → u = 0) ∧ Hid (2 ≤ k → v = 0)) (fun i => 2 - (intOf i).toNat)
  case atStart => exact ⟨0, rfl, by omega, (by intro h; omega), (by intro h; omega)⟩
  case round =>
    obtain ⟨k, rfl, hk, hE, hE2⟩ := hrel
    obtain ⟨c0, c1⟩ := HC.out
    have hk3 : k = 0 ∨ k = 1 ∨ k = 2 := by omega
    rcases hk3 with rfl | rfl | rfl
    · by_cases h0 : u = 0
      · have H0 := Lib.hid h0
        rw [h0] at c0
        clear h0
        go_wp2
        go_round
        case rel => exact ⟨1, rfl, by omega, fun _ => H0.out, (by intro h; omega)⟩
        case measure => simp [intOf]
      · have HU : Hid (u = r) := by show u = r; rw [← HR.out, if_neg h0]
        go_wp2
        go_ret
        exact ⟨ret_int HU.out, rfl⟩
    · have H0 := Lib.hid (hE.out (by omega))
      by_cases h1 : v = 0
      · have H1 := Lib.hid h1
        rw [h1] at c1
        clear h1
        go_wp2
        go_round
        case rel => exact ⟨2, rfl, by omega, fun _ => H0.out, fun _ => H1.out⟩
        case measure => simp [intOf]
      · have HV : Hid (v = r) := by show v = r; rw [← HR.out, if_pos H0.out]
        go_wp2
        go_ret
        exact ⟨ret_int HV.out, rfl⟩
    · have HV : Hid ((0 : Int) = r) := by show (0 : Int) = r; rw [← HR.out, if_pos (hE.out (by omega)), hE2.out (by omega)]
      go_wp2
      go_ret
      exact ⟨ret_int HV.out, rfl⟩

/-- Two blends, the one behind the other in order: by price alone. -/
def priceR (f : List Int → Int) (P B : List Int) : Int := if f P < f B then -1 else 1
theorem priceR_or {f : List Int → Int} {P B : List Int} : (if cmpI (f P) (f B) = 0 then 1 else cmpI (f P) (f B)) = priceR f P B := by
  unfold priceR cmpI
  by_cases h1 : f P < f B
  · simp [h1]
  · by_cases h2 : f B < f P <;> simp [h1, h2]

set_option maxRecDepth 100000 in
set_option maxHeartbeats 1600000 in
theorem comp_impl (L : List Cl) (a : Option Addr) (cap : Nat) (P B : List Int) (a1 a2 : Option Addr) (cap1 cap2 : Nat) (hL : okCls L = true) (hP : okParts P = true) (hB : okParts B = true) (hPL : P.length = L.length) (hBL : B.length = L.length) (hlex : lexC P B = 1) (w : World) (ha : ClArg w a L) (h1 : IntArg w a1 P) (h2 : IntArg w a2 B) :
    Calls Try.prog 86 #[.slice a L.length cap, .slice a1 P.length cap1, .slice a2 B.length cap2] w fun e w' => e = .returned (.int .i64 (priceR (total Cl.pr L) P B)) ∧ Below w.heap.size w w' := by
  have H6 := (okCls_all hL).1
  have C1 := Lib.hid (weighted_comp L a cap P a1 cap1 hL hP hPL w ha h1)
  have C2 := Lib.hid (fun wx (h : Below w.heap.size w wx) => weighted_comp L a cap B a2 cap2 hL hB hBL wx (ha.later h) (h2.later h))
  have C3 := Lib.hid (fun wx (h : Below w.heap.size w wx) => lex_impl P B a1 a2 cap1 cap2 (by omega) (by omega) wx (h1.later h) (h2.later h))
  have HR := Lib.hid (priceR_or (f := total Cl.pr L) (P := P) (B := B))
  rw [hlex] at C3
  obtain ⟨p, hp⟩ : ∃ p, total Cl.pr L P = p := ⟨_, rfl⟩
  obtain ⟨b, hb⟩ : ∃ b, total Cl.pr L B = b := ⟨_, rfl⟩
  obtain ⟨r, hr⟩ : ∃ r, priceR (total Cl.pr L) P B = r := ⟨_, rfl⟩
  rw [hp] at C1 HR
  rw [hb] at C2 HR
  rw [hr] at HR ⊢
  have C4 := Lib.hid (cmp_impl p b)
  have C5 := Lib.hid (fun g wx => or_impl (cmpI p b) 1 r HR.out g wx)
  obtain ⟨q, hq⟩ : ∃ q, cmpI p b = q := ⟨_, rfl⟩
  rw [hq] at C4 C5
  clear hp hb hr hq HR hlex ha h1 h2 hL hP hB hPL hBL
  go_enter Try.func86, Try.ntmps86
  go_wp2_with fail
  refine C1.out.mono ?_
  rintro e w1 ⟨rfl, hb1⟩
  have B1 := Lib.hid hb1
  clear hb1
  go_wp2_with fail
  refine (C2.out _ B1.out).mono ?_
  rintro e w2 ⟨rfl, hb2⟩
  have B2 := Lib.hid (bnext B1.out hb2)
  clear hb2
  go_wp2_with fail
  refine (C4.out _).mono ?_
  rintro e w3 ⟨rfl, rfl⟩
  go_wp2_with fail
  refine (C3.out _ B2.out).mono ?_
  rintro e w4 ⟨rfl, rfl⟩
  go_wp2_with fail
  have c := range_new w2 #[.int .i64 q, .int .i64 1] 3
  refine (C5.out _ _ (c 0 _ rfl) (c 1 _ rfl)).mono ?_
  rintro e w5 ⟨rfl, rfl⟩
  clear c
  go_wp2
  go_ret
  exact ⟨rfl, balloc B2.out _⟩
end Go.Proofs.Ytpmklnldgafkjaa
