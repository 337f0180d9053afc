/-
  Bricks of one wall and of all walls, with their codes: the model's word and the program's.
-/
import Derived.Test.YtmbmbkagmkmhlabQb
namespace Go.Proofs.Ytmbmbkagmkmhlab
open Go.ChangeShapes Go.WideShapes Go.ChangeAt Go.RowKit Go.Joins
def allB (l wd ht j : Int) (L : List Pc) : Bool := okB l wd ht j && pcsB L
def allQ (l wd ht j : Int) (L : List Pc) : Int := if allB l wd ht j L = true then (brL l ht j L).sum else 0
def allC (l wd ht j : Int) (L : List Pc) : Int := if allB l wd ht j L = true then 0 else 1
set_option maxRecDepth 100000 in
set_option maxHeartbeats 6400000 in
theorem bricksAll_spec (l wd ht j : Int) (L : List Pc) (a : Option Addr) (cap : Nat) (hl : L.length ≤ 1048576) (w : World) (ha : PcArg w a L) :
    Calls Try.prog 21 #[.agg #[.int .i64 l, .int .i64 wd, .int .i64 ht, .int .i64 j], .slice a L.length cap] w fun e w' => e = .returned (.tuple #[.int .i64 (allQ l wd ht j L), .int .i64 (allC l wd ht j L)]) ∧ Below w.heap.size w w' := by
  have F0 := FmBox.new w l wd ht j 35
  have HA := Lib.hid (ha.later (balloc0 w (.cells #[.int .i64 l, .int .i64 wd, .int .i64 ht, .int .i64 j] 35)))
  have E0 := Lib.hid (balloc0 w (.cells #[.int .i64 l, .int .i64 wd, .int .i64 ht, .int .i64 j] 35))
  obtain ⟨W0, hW⟩ : ∃ W0, w.alloc (.cells #[.int .i64 l, .int .i64 wd, .int .i64 ht, .int .i64 j] 35) = W0 := ⟨_, rfl⟩
  rw [hW] at F0 HA E0
  have K : Hid (∀ wx, Below W0.heap.size W0 wx → FmBox w.heap.size l wd ht j wx) := fun wx hx => F0.later hx
  have E0 : Hid (Below w.heap.size w W0) := E0.out
  have HW := Lib.hid hW
  clear ha hW F0
  cases h1 : okB l wd ht j
  · obtain ⟨f0, f1, f2, f3⟩ := K.out _ (Below.refl _ _)
    go_enter Try.func21, Try.ntmps21
    go_wp2_with fail
    rw [HW.out]
    try go_wp2_with fail
    refine (l02ok l wd ht j _).mono ?_
    rintro e w1 ⟨rfl, hb1⟩
    go_wp2
    go_ret2
    exact ⟨qtup2 (by simp [allQ, allB, h1]) (by simp [allC, allB, h1]), bnext E0.out hb1⟩
  cases h2 : pcsB L
  · obtain ⟨f0, f1, f2, f3⟩ := K.out _ (Below.refl _ _)
    go_enter Try.func21, Try.ntmps21
    go_wp2_with fail
    rw [HW.out]
    try go_wp2_with fail
    refine (l02ok l wd ht j _).mono ?_
    rintro e w1 ⟨rfl, hb1⟩
    have B1 := Lib.hid hb1
    clear hb1 f0 f1 f2 f3
    go_wp2_with fail
    refine (validPcs_spec' L a cap hl _ (HA.out.later B1.out)).mono ?_
    rintro e w2 ⟨rfl, hb2⟩
    go_wp2
    go_ret2
    exact ⟨qtup2 (by simp [allQ, allB, h2]) (by simp [allC, allB, h2]), bnext E0.out (bnext B1.out hb2)⟩
  have HV : Hid (allB l wd ht j L = true) := by show _ = _; simp [allB, h1, h2]
  have h20 := pcsB_len h2
  obtain ⟨f0, f1, f2, f3⟩ := K.out _ (Below.refl _ _)
  go_enter Try.func21, Try.ntmps21
  go_wp2_with fail
  rw [HW.out]
  try go_wp2_with fail
  refine (l02ok l wd ht j _).mono ?_
  rintro e w1 ⟨rfl, hb1⟩
  have B1 := Lib.hid hb1
  clear hb1 f0 f1 f2 f3
  go_wp2_with fail
  refine (validPcs_spec' L a cap hl _ (HA.out.later B1.out)).mono ?_
  rintro e w2 ⟨rfl, hb2⟩
  have B2 := Lib.hid (bnext B1.out hb2)
  clear hb2
  obtain ⟨f0, f1, f2, f3⟩ := K.out _ B2.out
  have H1 := Lib.hid h1
  have H2 := Lib.hid h2
  go_wp2_with fail
  refine (all_spec l wd ht j H1.out L H2.out a cap _ (HA.out.later B2.out)).mono ?_
  rintro e w3 ⟨rfl, hb3⟩
  have B3 := Lib.hid (bnext B2.out hb3)
  clear hb3 f0 f1 f2 f3
  go_wp2
  go_ret2
  exact ⟨qtup2 (by simp [allQ, HV.out]) (by simp [allC, HV.out]), bnext E0.out B3.out⟩
set_option maxRecDepth 100000 in
set_option maxHeartbeats 6400000 in
theorem bricksAll_impl (l wd ht j : Int) (L : List Pc) (a : Option Addr) (cap : Nat) (hl : L.length ≤ 1048576) (w : World) (ha : PcArg w a L) :
    Calls Try.prog 22 #[.agg #[.int .i64 l, .int .i64 wd, .int .i64 ht, .int .i64 j], .slice a L.length cap] w fun e w' => e = .returned (.tuple #[.int .i64 (allQ l wd ht j L), .int .i64 (allC l wd ht j L)]) ∧ Below w.heap.size w w' := by
  have F0 := FmBox.new w l wd ht j 35
  have HA := Lib.hid (ha.later (balloc0 w (.cells #[.int .i64 l, .int .i64 wd, .int .i64 ht, .int .i64 j] 35)))
  have E0 := Lib.hid (balloc0 w (.cells #[.int .i64 l, .int .i64 wd, .int .i64 ht, .int .i64 j] 35))
  obtain ⟨W0, hW⟩ : ∃ W0, w.alloc (.cells #[.int .i64 l, .int .i64 wd, .int .i64 ht, .int .i64 j] 35) = W0 := ⟨_, rfl⟩
  rw [hW] at F0 HA E0
  have K : Hid (∀ wx, Below W0.heap.size W0 wx → FmBox w.heap.size l wd ht j wx) := fun wx hx => F0.later hx
  have E0 : Hid (Below w.heap.size w W0) := E0.out
  have HW := Lib.hid hW
  clear ha hW F0
  cases h1 : okB l wd ht j
  · obtain ⟨f0, f1, f2, f3⟩ := K.out _ (Below.refl _ _)
    go_enter Try.func22, Try.ntmps22
    go_wp2_with fail
    rw [HW.out]
    try go_wp2_with fail
    refine (vf_any l wd ht j _).mono ?_
    rintro e w1 ⟨rfl, hb1⟩
    go_wp2
    go_ret2
    exact ⟨qtup2 (by simp [allQ, allB, h1]) (by simp [allC, allB, h1]), bnext E0.out hb1⟩
  cases h2 : pcsB L
  · obtain ⟨f0, f1, f2, f3⟩ := K.out _ (Below.refl _ _)
    go_enter Try.func22, Try.ntmps22
    go_wp2_with fail
    rw [HW.out]
    try go_wp2_with fail
    refine (vf_any l wd ht j _).mono ?_
    rintro e w1 ⟨rfl, hb1⟩
    have B1 := Lib.hid hb1
    clear hb1 f0 f1 f2 f3
    go_wp2_with fail
    refine (validPcs_impl L a cap hl _ (HA.out.later B1.out)).mono ?_
    rintro e w2 ⟨rfl, hb2⟩
    go_wp2
    go_ret2
    exact ⟨qtup2 (by simp [allQ, allB, h2]) (by simp [allC, allB, h2]), bnext E0.out (bnext B1.out hb2)⟩
  have HV : Hid (allB l wd ht j L = true) := by show _ = _; simp [allB, h1, h2]
  have h20 := pcsB_len h2
  obtain ⟨f0, f1, f2, f3⟩ := K.out _ (Below.refl _ _)
  go_enter Try.func22, Try.ntmps22
  go_wp2_with fail
  rw [HW.out]
  try go_wp2_with fail
  refine (vf_any l wd ht j _).mono ?_
  rintro e w1 ⟨rfl, hb1⟩
  have B1 := Lib.hid hb1
  clear hb1 f0 f1 f2 f3
  go_wp2_with fail
  refine (validPcs_impl L a cap hl _ (HA.out.later B1.out)).mono ?_
  rintro e w2 ⟨rfl, hb2⟩
  have B2 := Lib.hid (bnext B1.out hb2)
  clear hb2
  obtain ⟨f0, f1, f2, f3⟩ := K.out _ B2.out
  have H1 := Lib.hid h1
  have H2 := Lib.hid h2
  go_wp2_with fail
  refine (each_impl l wd ht j H1.out L H2.out a cap _ (HA.out.later B2.out)).mono ?_
  rintro e w4 ⟨ao, cp, rfl, o4, hb4⟩
  have B4 := Lib.hid (bnext B2.out hb4)
  have O4 := Lib.hid o4.res.arg
  clear hb4 f0 f1 f2 f3 o4
  go_wp2_with fail
  refine (sumQ_impl (brL l ht j L) (fun z hz => by have := brL_mem H1.out H2.out z hz; omega) (by rw [brL_length]; omega) ao cp _ O4.out).mono ?_
  rintro e w3 ⟨rfl, hw3⟩
  subst hw3
  have B3 := B4
  go_wp2
  go_ret2
  exact ⟨qtup2 (by simp [allQ, HV.out]) (by simp [allC, HV.out]), bnext E0.out B3.out⟩
def oneB (l wd ht j : Int) (p : Pc) : Bool := okB l wd ht j && pcB p
def oneQ (l wd ht j : Int) (p : Pc) : Int := if oneB l wd ht j p = true then brQ l ht j p else 0
def oneC (l wd ht j : Int) (p : Pc) : Int := if oneB l wd ht j p = true then 0 else 1
set_option maxRecDepth 100000 in
set_option maxHeartbeats 6400000 in
theorem bricksOne_spec (l wd ht j : Int) (p : Pc) (w : World) :
    Calls Try.prog 17 #[.agg #[.int .i64 l, .int .i64 wd, .int .i64 ht, .int .i64 j], .agg #[.int .i64 p.le, .int .i64 p.he, .int .i64 p.ha]] w fun e w' => e = .returned (.tuple #[.int .i64 (oneQ l wd ht j p), .int .i64 (oneC l wd ht j p)]) ∧ Below w.heap.size w w' := by
  have F0 := (FmBox.new w l wd ht j 35).later (balloc0 _ (.cells #[.int .i64 p.le, .int .i64 p.he, .int .i64 p.ha] 37))
  have T0 := TrBox.new (w.alloc (.cells #[.int .i64 l, .int .i64 wd, .int .i64 ht, .int .i64 j] 35)) p.le p.he p.ha 37
  rw [World.size_alloc] at T0
  have E0 := Lib.hid (balloc (balloc0 w (.cells #[.int .i64 l, .int .i64 wd, .int .i64 ht, .int .i64 j] 35)) (.cells #[.int .i64 p.le, .int .i64 p.he, .int .i64 p.ha] 37))
  obtain ⟨W0, hW⟩ : ∃ W0, (w.alloc (.cells #[.int .i64 l, .int .i64 wd, .int .i64 ht, .int .i64 j] 35)).alloc (.cells #[.int .i64 p.le, .int .i64 p.he, .int .i64 p.ha] 37) = W0 := ⟨_, rfl⟩
  rw [hW] at F0 T0 E0
  have K : Hid (∀ wx, Below W0.heap.size W0 wx → FmBox w.heap.size l wd ht j wx ∧ TrBox (w.heap.size + 1) p.le p.he p.ha wx) := fun wx hx => ⟨F0.later hx, T0.later hx⟩
  have E0 : Hid (Below w.heap.size w W0) := E0.out
  have HW := Lib.hid hW
  clear hW F0 T0
  cases h1 : okB l wd ht j
  · obtain ⟨⟨f0, f1, f2, f3⟩, t0, t1, t2⟩ := K.out _ (Below.refl _ _)
    go_enter Try.func17, Try.ntmps17
    go_wp2_with fail
    rw [HW.out]
    try go_wp2_with fail
    refine (l02ok l wd ht j _).mono ?_
    rintro e w1 ⟨rfl, hb1⟩
    go_wp2
    go_ret2
    exact ⟨qtup2 (by simp [oneQ, oneB, h1]) (by simp [oneC, oneB, h1]), bnext E0.out hb1⟩
  cases h2 : pcB p
  · obtain ⟨⟨f0, f1, f2, f3⟩, t0, t1, t2⟩ := K.out _ (Below.refl _ _)
    go_enter Try.func17, Try.ntmps17
    go_wp2_with fail
    rw [HW.out]
    try go_wp2_with fail
    refine (l02ok l wd ht j _).mono ?_
    rintro e w1 ⟨rfl, hb1⟩
    have B1 := Lib.hid hb1
    clear hb1 f0 f1 f2 f3 t0 t1 t2
    obtain ⟨-, t0, t1, t2⟩ := K.out _ B1.out
    have ONE := Lib.hid (one_spec p (w.heap.size + 1) 0 w1 t0 t1 t2)
    clear t0 t1 t2
    go_wp2_with fail
    refine ONE.out.mono ?_
    rintro e w2 ⟨rfl, rfl⟩
    go_wp2
    go_ret2
    exact ⟨qtup2 (by simp [oneQ, oneB, h2]) (by simp [oneC, oneB, h2]), bnext E0.out B1.out⟩
  have HV : Hid (oneB l wd ht j p = true) := by show _ = _; simp [oneB, h1, h2]
  obtain ⟨⟨f0, f1, f2, f3⟩, t0, t1, t2⟩ := K.out _ (Below.refl _ _)
  go_enter Try.func17, Try.ntmps17
  go_wp2_with fail
  rw [HW.out]
  try go_wp2_with fail
  refine (l02ok l wd ht j _).mono ?_
  rintro e w1 ⟨rfl, hb1⟩
  have B1 := Lib.hid hb1
  clear hb1 f0 f1 f2 f3 t0 t1 t2
  obtain ⟨⟨f0, f1, f2, f3⟩, t0, t1, t2⟩ := K.out _ B1.out
  have ONE := Lib.hid (one_spec p (w.heap.size + 1) 0 w1 t0 t1 t2)
  have BR := Lib.hid (bricks_spec l wd ht j h1 p h2 (w.heap.size + 1) 0 w1 t0 t1 t2)
  clear t0 t1 t2
  go_wp2_with fail
  refine ONE.out.mono ?_
  rintro e w2 ⟨rfl, rfl⟩
  go_wp2_with fail
  refine BR.out.mono ?_
  rintro e w3 ⟨rfl, hb3⟩
  go_wp2
  go_ret2
  exact ⟨qtup2 (by simp [oneQ, HV.out]) (by simp [oneC, HV.out]), bnext E0.out (bnext B1.out hb3)⟩
theorem all_one (l wd ht j : Int) (p : Pc) : allQ l wd ht j [p] = oneQ l wd ht j p ∧ allC l wd ht j [p] = oneC l wd ht j p := by
  have e : allB l wd ht j [p] = oneB l wd ht j p := by simp [allB, oneB, pcsB]
  simp [allQ, allC, oneQ, oneC, e, brL]
set_option maxRecDepth 100000 in
set_option maxHeartbeats 6400000 in
theorem bricksOne_impl (l wd ht j : Int) (p : Pc) (w : World) :
    Calls Try.prog 20 #[.agg #[.int .i64 l, .int .i64 wd, .int .i64 ht, .int .i64 j], .agg #[.int .i64 p.le, .int .i64 p.he, .int .i64 p.ha]] w fun e w' => e = .returned (.tuple #[.int .i64 (oneQ l wd ht j p), .int .i64 (oneC l wd ht j p)]) ∧ Below w.heap.size w w' := by
  have F0 := (FmBox.new w l wd ht j 35).later (balloc0 _ (.cells #[.int .i64 p.le, .int .i64 p.he, .int .i64 p.ha] 37))
  have T0 := TrBox.new (w.alloc (.cells #[.int .i64 l, .int .i64 wd, .int .i64 ht, .int .i64 j] 35)) p.le p.he p.ha 37
  rw [World.size_alloc] at T0
  have E0 := Lib.hid (balloc (balloc0 w (.cells #[.int .i64 l, .int .i64 wd, .int .i64 ht, .int .i64 j] 35)) (.cells #[.int .i64 p.le, .int .i64 p.he, .int .i64 p.ha] 37))
  obtain ⟨W0, hW⟩ : ∃ W0, (w.alloc (.cells #[.int .i64 l, .int .i64 wd, .int .i64 ht, .int .i64 j] 35)).alloc (.cells #[.int .i64 p.le, .int .i64 p.he, .int .i64 p.ha] 37) = W0 := ⟨_, rfl⟩
  rw [hW] at F0 T0 E0
  have K : Hid (∀ wx, Below W0.heap.size W0 wx → FmBox w.heap.size l wd ht j wx ∧ TrBox (w.heap.size + 1) p.le p.he p.ha wx) := fun wx hx => ⟨F0.later hx, T0.later hx⟩
  have E0 : Hid (Below w.heap.size w W0) := E0.out
  have HW := Lib.hid hW
  clear hW F0 T0
  have hz : W0.heap.size = w.heap.size + 1 + 1 := by rw [← HW.out]; simp
  have RN : PcArg (W0.alloc (.cells #[.int .i64 p.le, .int .i64 p.he, .int .i64 p.ha] 37)) (some ⟨W0.heap.size, 0, none⟩) [p] := .inr ⟨_, _, rfl, one_pc (range_new W0 #[.int .i64 p.le, .int .i64 p.he, .int .i64 p.ha] 37)⟩
  rw [hz] at RN
  have CA : Hid (∀ cap, Calls Try.prog 22 #[.agg #[.int .i64 l, .int .i64 wd, .int .i64 ht, .int .i64 j], .slice (some ⟨w.heap.size + 1 + 1, 0, none⟩) 1 cap] (W0.alloc (.cells #[.int .i64 p.le, .int .i64 p.he, .int .i64 p.ha] 37)) fun e w' => e = .returned (.tuple #[.int .i64 (allQ l wd ht j [p]), .int .i64 (allC l wd ht j [p])]) ∧ Below (W0.alloc (.cells #[.int .i64 p.le, .int .i64 p.he, .int .i64 p.ha] 37)).heap.size (W0.alloc (.cells #[.int .i64 p.le, .int .i64 p.he, .int .i64 p.ha] 37)) w') := fun cap => by
    have h := bricksAll_impl l wd ht j [p] (some ⟨w.heap.size + 1 + 1, 0, none⟩) cap (by simp) (W0.alloc (.cells #[.int .i64 p.le, .int .i64 p.he, .int .i64 p.ha] 37)) RN
    rw [show ([p] : List Pc).length = 1 from rfl] at h
    exact h
  rw [(all_one l wd ht j p).1, (all_one l wd ht j p).2] at CA
  clear RN hz
  obtain ⟨⟨f0, f1, f2, f3⟩, t0, t1, t2⟩ := K.out _ (Below.refl _ _)
  go_enter Try.func20, Try.ntmps20
  go_wp2_with fail
  try rw [HW.out]
  try go_wp2_with fail
  refine (CA.out _).mono ?_
  rintro e w1 ⟨rfl, hb1⟩
  go_wp2
  go_ret2
  exact ⟨rfl, bnext (balloc E0.out _) hb1⟩
end Go.Proofs.Ytmbmbkagmkmhlab
