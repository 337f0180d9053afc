/-
  A running total grows to a number: what the deferred closure leaves.
-/
import Derived.Test.YtmbmbkagmkmhlaaIRow
import Derived.Defers
import Derived.FnLit
import Derived.Deep.QuietTactic
import Derived.BigQuiet
import Derived.Deep.RegionWith
import Derived.Deep.RegionHeld3
namespace Go.Proofs.Ytmbmbkagmkmhlaa
open Go.ChangeShapes Go.WideShapes Go.ChangeAt Go.RowKit Go.Joins

def RunAt (b : Nat) (t : Int) (w : World) : Prop := w.cell? ⟨b, 0, none⟩ = some (.int .i64 t) ∧ w.frozen? ⟨b, 0, none⟩ = false
theorem RunAt.later {b : Nat} {t : Int} {w w' : World} (h : RunAt b t w) (hb : Below w.heap.size w w') : RunAt b t w' :=
  ⟨(hb.cell (World.block_lt_of_cell? w _ h.1)).trans h.1, (hb.frozen (World.block_lt_of_cell? w _ h.1)).trans h.2⟩
theorem RunAt.lt {b : Nat} {t : Int} {w : World} (h : RunAt b t w) : b < w.heap.size := World.block_lt_of_cell? w _ h.1
theorem RunAt.grown {b : Nat} {t : Int} {w w' : World} {r : Option Nat} (h : RunAt b t w) (hg : w.grownBy w' r) (hne : r ≠ some b) : RunAt b t w' :=
  ⟨hg.cell h.1 (fun e => hne e.symm), by
    have h1 := hg.block b h.lt (fun e => hne e.symm)
    have h2 := h.2
    simp only [World.frozen?] at h2 ⊢
    rw [h1]
    exact h2⟩
theorem RunAt.new (w : World) (t : Int) (ty : TypeId) : RunAt w.heap.size t (w.alloc (.cells #[.int .i64 t] ty)) :=
  ⟨range_new w #[.int .i64 t] ty 0 _ rfl, World.frozen?_alloc_at _ _ _ _ rfl⟩
theorem IRow.only {B b : Nat} {D : List Int} {a : Option Addr} {cp : Nat} {w w' : World} (h : IRow B D a cp w) (hO : Only b w w') (hb : b < B) : IRow B D a cp w' := by
  refine ⟨h.1, ?_⟩
  rcases h.2 with hn | ⟨g, cap, cur, hv, hB, hgg, rest⟩
  · exact .inl hn
  · exact .inr ⟨g, cap, cur, hv, hB, (hO.block g (Array.getElem?_eq_some_iff.1 hgg).1 (fun e => by cases e; omega)).trans hgg, rest⟩
theorem grow_closure (t : Int) (x y g : Nat) (p : Int) (u : FrameMode) (w : World) (h0 : w.cell? ⟨x, 0, none⟩ = some (.int .i64 t)) (h1 : w.cell? ⟨y, 0, none⟩ = some (.pointer (some ⟨g, 0, none⟩))) (h2 : w.cell? ⟨g, 0, none⟩ = some (.int .i64 p)) (h3 : w.frozen? ⟨g, 0, none⟩ = false) :
    CallsD Try.prog 90 #[.pointer (some ⟨x, 0, none⟩), .pointer (some ⟨y, 0, none⟩)] u w fun e u' w' => u' = u ∧ (e = .returned (.tuple #[]) ∧ w' = w.setCell ⟨g, 0, none⟩ (.int .i64 t)) := by
  go_enter_d Try.func90, Try.ntmps90
  go_wp2
  go_end0
  exact ⟨rfl, rfl⟩
set_option maxRecDepth 100000 in
set_option maxHeartbeats 6400000 in
theorem growTo_impl (b : Nat) (t p : Int) (h0 : 0 ≤ t) (h1 : t ≤ 1000000000000000) (h2 : 0 ≤ p) (h3 : p ≤ 1000000000000000) (w : World) (h : RunAt b p w) :
    Calls Try.prog 72 #[.pointer (some ⟨b, 0, none⟩), .int .i64 t] w fun e w' => e = .returned (.int .i64 (t - p)) ∧ RunAt b t w' ∧ Only b w w' := by
  have hmf : ∀ (fn : Fn) (first cap : Array Value) (w : World), (Instr.makeFunc fn first cap).run Try.prog w = .ok (.func fn first cap) w := fun _ _ _ _ => rfl
  have hb := h.lt
  have hne1 : ¬ b = w.heap.size := by omega
  have hne2 : ¬ b = w.heap.size + 1 := by omega
  go_enter_defers Try.func72, Try.ntmps72
  go_wp2
  have A0 := balloc0 w (.cells #[.pointer (some ⟨b, 0, none⟩)] 88)
  have A1 := balloc A0 (.cells #[.int .i64 t] 2)
  have R1 := h.later A1
  have cc := (range_below (range_new w #[.pointer (some ⟨b, 0, none⟩)] 88) (balloc0 _ (.cells #[.int .i64 t] 2))) 0 _ rfl
  have cd := range_new (w.alloc (.cells #[.pointer (some ⟨b, 0, none⟩)] 88)) #[.int .i64 t] 2 0 _ rfl
  rw [World.size_alloc] at cd
  simp only [Nat.zero_add] at cc cd
  obtain ⟨V, hV⟩ : ∃ V, (w.alloc (.cells #[.pointer (some ⟨b, 0, none⟩)] 88)).alloc (.cells #[.int .i64 t] 2) = V := ⟨_, rfl⟩
  rw [hV] at A1 R1 cc cd
  try rw [hV]
  clear hV A0
  have c0 := cc
  have c1 := cd
  obtain ⟨c2, z2⟩ := R1
  have Z2 := Lib.hid z2
  clear z2
  have hsub : IntKind.i64.wrap (t - p) = t - p := IntWalk.i64_in _ (by omega)
  go_region
  go_wp2
  refine leaves_cons (f := 90) (args := #[.pointer (some ⟨w.heap.size + 1, 0, none⟩), .pointer (some ⟨w.heap.size, 0, none⟩)]) (by simp) (by simp [go_sem]) ?_
  refine (grow_closure t (w.heap.size + 1) w.heap.size b p .returning V.drew c1 c0 c2 Z2.out).mono ?_
  rintro e u' w2 ⟨rfl, rfl, rfl⟩
  have T : V.there b 0 1 := fun j hj => by
    have : j = 0 := by omega
    subst this
    exact ⟨by rw [Nat.zero_add, c2]; rfl, Z2.out⟩
  have IS := int_store T (show 0 < 1 by omega) (.int .i64 t)
  obtain ⟨v9, h9, z9⟩ := there_at IS.1 (show 0 < 1 by omega)
  exact ⟨_, results_tmp rfl _ _ _, rfl, ⟨IS.2.1, z9⟩, ((Only.refl b w).below A1.drew).set 0 _⟩
end Go.Proofs.Ytmbmbkagmkmhlaa
