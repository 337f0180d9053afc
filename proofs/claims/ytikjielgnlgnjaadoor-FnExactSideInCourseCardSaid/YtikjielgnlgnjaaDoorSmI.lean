/-
  IsSimple: the program, told what sides() hands back.
-/
import Derived.Test.YtikjielgnlgnjaaDoorSmS
import Derived.Test.YtikjielgnlgnjaaDoorSd
import Derived.WalkMore
namespace Go.Proofs.YtikjielgnlgnjaaDoor
open Go.ChangeShapes Go.WideShapes Go.ChangeAt Go.RowKit Go.Joins

/-- The sides of a plan are handed back. -/
def SdOut (P : List Int) (T : ByteArray) (w : World) (e : Ending) (w' : World) : Prop := ∃ g cp, e = .returned (.slice (some ⟨g, 0, none⟩) P.length cp) ∧ (∀ k, k < P.length → ∃ v, w'.cell? ⟨g, k, none⟩ = some v ∧ SideIs v (min (spot P T k).x (spot P T (k + 1)).x) (max (spot P T k).x (spot P T (k + 1)).x) (min (spot P T k).y (spot P T (k + 1)).y) (max (spot P T k).y (spot P T (k + 1)).y)) ∧ Below w.heap.size w w'
def SdSays (P : List Int) (T : ByteArray) (a : Option Addr) (cap : Nat) : Prop := okHo P T = true → ∀ w, IntArg w a P → DirAt w → Calls Tryd.prog 80 #[.agg #[.slice a P.length cap, .string T]] w (SdOut P T w)
set_option maxRecDepth 100000 in
set_option maxHeartbeats 6400000 in
theorem isSimple_told (P : List Int) (T : ByteArray) (a : Option Addr) (cap : Nat) (hl : P.length ≤ 1048576) (hs : T.size ≤ 1048576) (HSD : SdSays P T a cap) (b : Bool) (hV : SiVal P T b) (w : World) (ha : IntArg w a P) (hd : DirAt w) :
    Calls Tryd.prog 49 #[.agg #[.slice a P.length cap, .string T]] w (SiAns w b P T) := by
  have K := house_new w (.slice a P.length cap) T 27
  obtain ⟨W0, hW⟩ : ∃ W0, w.alloc (.cells #[.slice a P.length cap, .string T] 27) = W0 := ⟨_, rfl⟩
  have E0 : Hid (Below w.heap.size w W0) := by show Below w.heap.size w W0; rw [← hW]; exact balloc0 _ _
  rw [hW] at K
  have HA := Lib.hid (ha.later E0.out)
  have HD := Lib.hid (hd.later E0.out)
  have HW := Lib.hid hW
  have HVAL := Lib.hid hV
  have HSDS := Lib.hid HSD
  obtain ⟨d0, d1⟩ := K.out _ (Below.refl _ _)
  have C := Lib.hid (validHouse_impl P T a cap hl hs W0 HA.out HD.out)
  clear hW ha hd hV HSD
  unfold SiAns
  cases h : okHo P T
  · have HE := Lib.hid (HVAL.out.no h)
    rw [hoC_bad h]
    rw [h] at C
    clear h
    go_enter Tryd.func49, Tryd.ntmps49
    go_wp2_with fail
    rw [HW.out]
    go_step3
    go_wp2_with fail
    refine C.out.mono ?_
    rintro e w1 ⟨rfl, hb1⟩
    have B1 := Lib.hid (bnext E0.out hb1)
    clear hb1
    go_wp2
    rw [Exit.noGoto_ret]
    refine bodyPost_ret (v := .tuple #[.bool false, .int .i64 1]) (by simp [results, Tryd.results49, go_sem]) rfl ⟨by rw [HE.out], B1.out⟩
  · rw [hoC_good h]
    rw [h] at C
    have HOK := Lib.hid h
    obtain ⟨h4, h12, hT, hr⟩ := okHo_size h
    clear h hr hT
    go_enter Tryd.func49, Tryd.ntmps49
    go_wp2_with fail
    rw [HW.out]
    go_step3
    go_wp2_with fail
    refine C.out.mono ?_
    rintro e w1 ⟨rfl, hb1⟩
    have B1 := Lib.hid (bnext E0.out hb1)
    have S := Lib.hid (HSDS.out HOK.out w1 (HA.out.later hb1) (HD.out.later hb1))
    obtain ⟨f0, f1⟩ := K.out _ hb1
    clear hb1 d0 d1
    unfold SdOut at S
    go_wp2_with fail
    refine S.out.mono ?_
    rintro e w2 ⟨g, cp, rfl, hS, hb2⟩
    have B2 := Lib.hid (bnext B1.out hb2)
    have HS := Lib.hid hS
    clear hb2 hS f0 f1
    go_wp2_with fail
    go_step3
    go_wp2
    go_loopw [4, 17] (fun t i wr => ∃ (k : Nat), t = .bool true ∧ k ≤ P.length ∧ i = .int .i64 (k : Int) ∧ Hid (∀ i' k', i' < k → i' + 2 ≤ k' → k' < P.length → hitS P T i' k' = false) ∧ Hid (Below w2.heap.size w2 wr)) (fun _ i _ => P.length - (intOf i).toNat)
    case atStart => exact ⟨0, rfl, Nat.zero_le _, rfl, fun i' k' h => by omega, Below.refl _ _⟩
    case round =>
      obtain ⟨k, rfl, hk, rfl, hN, hB⟩ := hrel
      by_cases hlt : k < P.length
      · have hlt' : (k : Int) < (P.length : Int) := by omega
        have hk0 : (0 : Int) ≤ (k : Int) := by omega
        obtain ⟨v1, hv1, hs1⟩ := HS.out k hlt
        have c1 : wr.cell? ⟨g, k, none⟩ = some v1 := (hB.out.cell (World.block_lt_of_cell? _ _ hv1)).trans hv1
        obtain ⟨u, hu, hu1, hu2, hu3⟩ : ∃ u : Nat, min (P.length : Int) ((P.length : Int) - 1 + (k : Int)) = (u : Int) ∧ u ≤ P.length ∧ (∀ m, m < u → ¬ (k = 0 ∧ m + 1 = P.length)) ∧ (∀ m, u ≤ m → m < P.length → k = 0 ∧ m + 1 = P.length) := by
          by_cases e : k = 0
          · exact ⟨P.length - 1, by omega, by omega, fun m h h2 => by omega, fun m h h2 => by omega⟩
          · exact ⟨P.length, by omega, by omega, fun m h h2 => by omega, fun m h h2 => by omega⟩
        have HU2 := Lib.hid hu2
        have HU3 := Lib.hid hu3
        have HV1 := Lib.hid hv1
        have HS1 := Lib.hid hs1
        clear hu2 hu3 hv1 hs1
        go_wp2
        go_loopw [4, 9] (fun t j wq => ∃ (m : Nat), t = .bool true ∧ k + 2 ≤ m ∧ m ≤ P.length + 1 ∧ j = .int .i64 (m : Int) ∧ Hid (∀ k', k + 2 ≤ k' → k' < m → k' < P.length → hitS P T k k' = false) ∧ Hid (Below w2.heap.size w2 wq)) (fun _ j _ => P.length - (intOf j).toNat)
        case atStart => exact ⟨k + 2, rfl, Nat.le_refl _, by omega, by go_num, fun k' h1 h2 => by omega, hB.out⟩
        case round =>
          clear hB c1
          obtain ⟨m, rfl, hm1, hm2, rfl, hM, hB⟩ := hrel
          by_cases hmt : m < u
          · have hmt' : (m : Int) < (u : Int) := by omega
            have hm0 : (0 : Int) ≤ (m : Int) := by omega
            have hml : (m : Int) < (P.length : Int) := by omega
            obtain ⟨v2, hv2, hs2⟩ := HS.out m (by omega)
            have c2 : wr.cell? ⟨g, m, none⟩ = some v2 := (hB.out.cell (World.block_lt_of_cell? _ _ hv2)).trans hv2
            have H := Lib.hid (haveCommon_impl HS1.out hs2 wr)
            have HIT : hitS P T k m = ((decide (min (spot P T k).x (spot P T (k + 1)).x ≤ max (spot P T m).x (spot P T (m + 1)).x) && decide (min (spot P T m).x (spot P T (m + 1)).x ≤ max (spot P T k).x (spot P T (k + 1)).x)) && (decide (min (spot P T k).y (spot P T (k + 1)).y ≤ max (spot P T m).y (spot P T (m + 1)).y) && decide (min (spot P T m).y (spot P T (m + 1)).y ≤ max (spot P T k).y (spot P T (k + 1)).y))) := by
              have e : (decide (k = 0) && decide (m + 1 = P.length)) = false := by simpa using HU2.out m hmt
              unfold hitS
              rw [e]
              rfl
            rw [← HIT] at H
            clear hv2 hs2
            cases M : hitS P T k m
            · rw [M] at H
              have HM2 : Hid (∀ k', k + 2 ≤ k' → k' < m + 1 → k' < P.length → hitS P T k k' = false) := fun k' h1 h2 h3 => by
                by_cases e : k' = m
                · rw [e]; exact M
                · exact hM.out k' h1 (by omega) h3
              clear HIT M hu
              go_wp2_with fail
              refine H.out.mono ?_
              rintro e w3 ⟨rfl, hb3⟩
              have B3 := Lib.hid (hB.out.trans (hb3.mono hB.out.size))
              clear hb3 c2
              go_wp2
              go_roundw
              case rel => exact ⟨m + 1, rfl, by omega, by omega, by go_num, HM2.out, B3.out⟩
              case measure => simp [intOf]; omega
            · rw [M] at H
              have HE := Lib.hid (HVAL.out.hit k m HOK.out hm1 (by omega) M)
              clear HIT M hu
              go_wp2_with fail
              refine H.out.mono ?_
              rintro e w3 ⟨rfl, hb3⟩
              have B3 := Lib.hid (bnext B2.out (hB.out.trans (hb3.mono hB.out.size)))
              clear hb3 c2
              go_wp2
              try rw [Exit.noGoto_ret]
              refine bodyPost_ret (v := .tuple #[.bool false, .int .i64 0]) (by simp [results, Tryd.results49, go_sem]) rfl ⟨by rw [HE.out], B3.out⟩
          · have hmt' : ¬ (m : Int) < (u : Int) := by omega
            have HN2 : Hid (∀ i' k', i' < k + 1 → i' + 2 ≤ k' → k' < P.length → hitS P T i' k' = false) := fun i' k' h1 h2 h3 => by
              by_cases e : i' = k
              · rw [e] at h2 ⊢
                by_cases h5 : k' < m
                · exact hM.out k' h2 h5 h3
                · obtain ⟨a1, a2⟩ := HU3.out k' (by omega) h3
                  simp [hitS, a1, a2]
              · exact hN.out i' k' (by omega) h2 h3
            clear hu
            go_wp2
            go_roundw
            case rel => exact ⟨k + 1, rfl, by omega, by go_num, HN2.out, hB.out⟩
            case measure => simp [intOf]; omega
      · have hge : ¬ (k : Int) < (P.length : Int) := by omega
        obtain rfl : k = P.length := by omega
        have HE := Lib.hid (HVAL.out.yes HOK.out (fun i' k' h1 h2 => hN.out i' k' (by omega) h1 h2))
        have HF := Lib.hid (bnext B2.out hB.out)
        go_wp2
        try rw [Exit.noGoto_ret]
        refine bodyPost_ret (v := .tuple #[.bool true, .int .i64 0]) (by simp [results, Tryd.results49, go_sem]) rfl ⟨by rw [HE.out], HF.out⟩
end Go.Proofs.YtikjielgnlgnjaaDoor
