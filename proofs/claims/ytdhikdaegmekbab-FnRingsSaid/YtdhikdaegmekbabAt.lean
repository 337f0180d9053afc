/-
  Laws on one slice of bytes: too many bytes, numbers that depend on a byte; the bytes stay as they were.
-/
import Derived.Test.YtdhikdaegmekbabSrc
namespace Go.Proofs.Ytdhikdaegmekbab
open Go.ChangeShapes Go.WideShapes Go.ChangeAt Go.RowKit Go.Joins

/-- Too many bytes: what the law asks first. -/
theorem long_any (a : Option Addr) (len cap : Nat) (w : World) : Calls Try.prog 44 #[.slice a len cap, .slice none 0 0] w fun e w' => e = .returned (.bool (decide ((3000 : Int) < (len : Int)))) ∧ w = w' := by
  by_cases h : (3000 : Int) < (len : Int)
  all_goals
    go_enter Try.func44, Try.ntmps44
    go_wp2_with fail
    go_ret
    exact ⟨ret_bool (by simp [h]), rfl⟩
def AtPost (w : World) (n : Int) (e : Ending) (w' : World) : Prop := ∃ r : Int, 0 ≤ r ∧ r ≤ n - 1 ∧ e = .returned (.int .i64 r) ∧ w = w'
/-- A number from 0 to n - 1 that depends on a byte. -/
theorem at_any (w : World) (B : Nat) (a : Option Addr) (len cap : Nat) (at' n : Int) (h0 : 0 ≤ at') (h0' : at' ≤ 1000000) (hn : 1 ≤ n) (hn' : n ≤ 1000000) (hc : CodeAt w B (.slice a len cap)) (hl : len ≤ 9223372036854775807) :
    Calls Try.prog 50 #[.slice a len cap, .int .i64 at', .int .i64 n] w (AtPost w n) := by
  have hz : ¬ n = 0 := by omega
  by_cases h : at' < (len : Int)
  · have hx : ∃ (b o : Nat) (z : Int), a = some ⟨b, o, none⟩ ∧ w.cell? ⟨b, o + at'.toNat, none⟩ = some (.int .u8 z) ∧ 0 ≤ z ∧ z ≤ 255 := by
      rcases hc with hc | ⟨b, o, len', cap', z, h1, h2, h3, h4⟩
      · obtain ⟨_, _, hc⟩ := hc
        simp at hc; omega
      · simp at h1
        obtain ⟨rfl, rfl, rfl⟩ := h1
        exact ⟨b, o, z at'.toNat, rfl, h4 at'.toNat (by omega)⟩
    obtain ⟨b, o, z, rfl, hcell, hz0, hz1⟩ := hx
    obtain ⟨k, hk⟩ := Int.eq_ofNat_of_zero_le h0
    subst hk
    have hcell' : w.cell? ⟨b, o + k, none⟩ = some (.int .u8 z) := hcell
    clear hcell hc
    go_enter Try.func50, Try.ntmps50
    go_wp2_with fail
    go_ret
    have m1 := Int.emod_nonneg z hz
    have m2 := Int.emod_lt_of_pos z (show 0 < n by omega)
    exact ⟨_, m1, by omega, rfl, rfl⟩
  · clear hc
    go_enter Try.func50, Try.ntmps50
    go_wp2_with fail
    go_ret
    exact ⟨0, by omega, by omega, rfl, rfl⟩
theorem CodeAt.stays {w w' : World} {cv : Value} (h : CodeAt w w.heap.size cv) (hb : Below w.heap.size w w') : CodeAt w' w.heap.size cv := by
  rcases h with h | ⟨b, o, len', cap', z, e1, e2, e3, e4⟩
  · exact .inl h
  · exact .inr ⟨b, o, len', cap', z, e1, e2, e3, fun i hi => ⟨(hb.cell (p := ⟨b, o + i, none⟩) e2).trans (e4 i hi).1, (e4 i hi).2⟩⟩
end Go.Proofs.Ytdhikdaegmekbab
