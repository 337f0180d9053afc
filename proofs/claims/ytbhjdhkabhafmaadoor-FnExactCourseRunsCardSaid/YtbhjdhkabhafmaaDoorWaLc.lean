/-
  LayCourse: what it tells, and the model's word.
-/
import Derived.Test.YtbhjdhkabhafmaaDoorWaL
namespace Go.Proofs.YtbhjdhkabhafmaaDoor
open Go.ChangeShapes Go.WideShapes Go.ChangeAt Go.RowKit Go.Joins

def lyL (L : List Co) (c t : Int) : List UInt8 := layL (crs L c.toNat) t.toNat
def lyC (nm : ByteArray) (L : List Co) (c t : Int) : Int := if bCode nm L c t = 0 then (if (lyL L c t).length ≤ 60 then 0 else 5) else bCode nm L c t
def lyB (nm : ByteArray) (L : List Co) (c t : Int) : ByteArray := if lyC nm L c t = 0 then ⟨(lyL L c t).toArray⟩ else ⟨#[]⟩
theorem ly_bad {nm : ByteArray} {L : List Co} {c t : Int} (h : ¬ bCode nm L c t = 0) : lyC nm L c t = bCode nm L c t ∧ lyB nm L c t = ⟨#[]⟩ := by
  have h1 : lyC nm L c t = bCode nm L c t := by unfold lyC; rw [if_neg h]
  exact ⟨h1, by unfold lyB; rw [h1, if_neg h]⟩
theorem ly_full {nm : ByteArray} {L : List Co} {c t : Int} (h : bCode nm L c t = 0) (hl : ¬ (lyL L c t).length ≤ 60) : lyC nm L c t = 5 ∧ lyB nm L c t = ⟨#[]⟩ := by
  have h1 : lyC nm L c t = 5 := by unfold lyC; rw [if_pos h, if_neg hl]
  exact ⟨h1, by unfold lyB; rw [h1, if_neg (by omega)]⟩
theorem ly_good {nm : ByteArray} {L : List Co} {c t : Int} (h : bCode nm L c t = 0) (hl : (lyL L c t).length ≤ 60) : lyC nm L c t = 0 ∧ lyB nm L c t = ⟨(lyL L c t).toArray⟩ := by
  have h1 : lyC nm L c t = 0 := by unfold lyC; rw [if_pos h, if_pos hl]
  exact ⟨h1, by unfold lyB; rw [h1, if_pos rfl]⟩
theorem lyL_nat (L : List Co) (k u : Nat) : lyL L (k : Int) (u : Int) = layL (crs L k) u := by simp [lyL]

set_option maxRecDepth 100000 in
set_option maxHeartbeats 3200000 in
theorem layCourse_spec (nm : ByteArray) (L : List Co) (a : Option Addr) (cap : Nat) (hl : L.length ≤ 1048576) (hs : CosLe 1048576 L) (course til : Int) (w : World) (ha : CoArg w a L) :
    Calls Tryd.prog 29 #[.agg #[.string nm, .slice a L.length cap], .int .i64 course, .int .i64 til] w fun e w' => e = .returned (.tuple #[.string (lyB nm L course til), .int .i64 (lyC nm L course til)]) ∧ Below w.heap.size w w' := by
  have hbd := bd_new w nm L a cap 39 ha
  obtain ⟨W0, hW⟩ : ∃ W0, w.alloc (.cells #[.string nm, .slice a L.length cap] 39) = W0 := ⟨_, rfl⟩
  have E0 : Hid (Below w.heap.size w W0) := by show Below w.heap.size w W0; rw [← hW]; exact balloc0 _ _
  rw [hW] at hbd
  have HW := Lib.hid hW
  have C := Lib.hid (code_spec nm L a cap hl hs w.heap.size course til W0 hbd)
  by_cases hc : bCode nm L course til = 0
  case neg =>
    obtain ⟨e1, e2⟩ := ly_bad hc
    rw [e1, e2]
    obtain ⟨q, hq⟩ : ∃ q, bCode nm L course til = q := ⟨_, rfl⟩
    rw [hq] at C hc ⊢
    clear hW hbd hq ha e1 e2
    go_enter Tryd.func29, Tryd.ntmps29
    go_wp2_with fail
    rw [HW.out]
    refine C.out.mono ?_
    rintro e w1 ⟨rfl, hb1⟩
    have B1 := Lib.hid (bnext E0.out hb1)
    clear hb1
    go_wp2_with fail
    go_ret2
    exact ⟨rfl, B1.out⟩
  obtain ⟨hok, ⟨k0, k1⟩, u0, u1⟩ := bCode_facts hc
  obtain ⟨k, rfl⟩ := Int.eq_ofNat_of_zero_le k0
  obtain ⟨u, rfl⟩ := Int.eq_ofNat_of_zero_le (show 0 ≤ til by omega)
  have A1 := Lib.hid (fun wx (hx : Below W0.heap.size W0 wx) => lay_spec hok a cap w.heap.size k u (by omega) (by omega) wx (hbd.later hx))
  have hV := lyL_nat L k u
  have hVl := layL_length (crs_ok hok k) u
  by_cases h60 : (lyL L (k : Int) (u : Int)).length ≤ 60
  · obtain ⟨e1, e2⟩ := ly_good hc h60
    rw [e1, e2]
    rw [hV] at h60 ⊢
    rw [hc] at C
    obtain ⟨V, hVe⟩ : ∃ V, layL (crs L k) u = V := ⟨_, rfl⟩
    rw [hVe] at A1 h60 ⊢
    have hsz : ((⟨V.toArray⟩ : ByteArray).size : Int) = (V.length : Int) := by simp [ByteArray.size]
    have hle : ¬ (60 : Int) < ((⟨V.toArray⟩ : ByteArray).size : Int) := by omega
    obtain ⟨VB, hVB⟩ : ∃ VB : ByteArray, (⟨V.toArray⟩ : ByteArray) = VB := ⟨_, rfl⟩
    rw [hVB] at A1 hle ⊢
    clear hW hbd ha hc hVe e1 e2 hV hVl hsz hVB h60
    go_enter Tryd.func29, Tryd.ntmps29
    go_wp2_with fail
    rw [HW.out]
    refine C.out.mono ?_
    rintro e w1 ⟨rfl, hb1⟩
    have B1 := Lib.hid hb1
    clear hb1
    go_wp2_with fail
    refine (A1.out _ B1.out).mono ?_
    rintro e w2 ⟨rfl, hb2⟩
    have B2 := Lib.hid (bnext B1.out hb2)
    clear hb2
    go_wp2
    go_ret2
    exact ⟨rfl, E0.out.trans (B2.out.mono E0.out.size)⟩
  · obtain ⟨e1, e2⟩ := ly_full hc h60
    rw [e1, e2]
    rw [hV] at h60
    rw [hc] at C
    obtain ⟨V, hVe⟩ : ∃ V, layL (crs L k) u = V := ⟨_, rfl⟩
    rw [hVe] at A1 h60
    have hsz : ((⟨V.toArray⟩ : ByteArray).size : Int) = (V.length : Int) := by simp [ByteArray.size]
    have hle : (60 : Int) < ((⟨V.toArray⟩ : ByteArray).size : Int) := by omega
    obtain ⟨VB, hVB⟩ : ∃ VB : ByteArray, (⟨V.toArray⟩ : ByteArray) = VB := ⟨_, rfl⟩
    rw [hVB] at A1 hle
    clear hW hbd ha hc hVe e1 e2 hV hVl hsz hVB h60
    go_enter Tryd.func29, Tryd.ntmps29
    go_wp2_with fail
    rw [HW.out]
    refine C.out.mono ?_
    rintro e w1 ⟨rfl, hb1⟩
    have B1 := Lib.hid hb1
    clear hb1
    go_wp2_with fail
    refine (A1.out _ B1.out).mono ?_
    rintro e w2 ⟨rfl, hb2⟩
    have B2 := Lib.hid (bnext B1.out hb2)
    clear hb2
    go_wp2
    go_ret2
    exact ⟨rfl, E0.out.trans (B2.out.mono E0.out.size)⟩
end Go.Proofs.YtbhjdhkabhafmaaDoor
