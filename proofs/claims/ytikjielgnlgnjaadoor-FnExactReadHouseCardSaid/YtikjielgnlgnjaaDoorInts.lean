/-
  Rows of numbers of the call's own, and the marks that the laws write into them (out of the texts on clays, without clays).
-/
import Derived.Test.YtikjielgnlgnjaaDoorRow
import Derived.Test.YtikjielgnlgnjaaDoorDecI
import Derived.Deep.RegionWith
import Derived.Deep.OwnRows
import Derived.OwnWalk
import Derived.Deep.MidRow
import Derived.Deep.DeepMust
import Derived.Laws.OwnMore
namespace Go.Proofs.YtikjielgnlgnjaaDoor
open Go.ChangeShapes Go.WideShapes Go.ChangeAt Go.RowKit Go.Joins

/-- Numbers lie in block b from offset o on. -/
def IntAt (w : World) (b o : Nat) (P : List Int) : Prop := ∀ (k : Nat) (z : Int), P[k]? = some z → w.cell? ⟨b, o + k, none⟩ = some (.int .i64 z)
theorem IntAt.later {w w' : World} {b o : Nat} {P : List Int} (h : IntAt w b o P) (hb : Below w.heap.size w w') : IntAt w' b o P := fun k z hk => by
  have h1 := h k z hk
  rw [hb.cell (p := ⟨b, o + k, none⟩) (World.block_lt_of_cell? w _ h1)]
  exact h1
/-- What is told of a slice of numbers: nothing is in it, or they lie there. -/
def IntArg (w : World) (a : Option Addr) (P : List Int) : Prop := P = [] ∨ ∃ b o, a = some ⟨b, o, none⟩ ∧ IntAt w b o P
theorem IntArg.later {w w' : World} {a : Option Addr} {P : List Int} (h : IntArg w a P) (hb : Below w.heap.size w w') : IntArg w' a P := by
  rcases h with h | ⟨b, o, h1, h2⟩
  · exact .inl h
  · exact .inr ⟨b, o, h1, h2.later hb⟩
theorem IntArg.at {w : World} {a : Option Addr} {P : List Int} (h : IntArg w a P) {k : Nat} (hk : k < P.length) : ∃ b o z, a = some ⟨b, o, none⟩ ∧ P[k]? = some z ∧ IntAt w b o P := by
  rcases h with h | ⟨b, o, h1, h2⟩
  · subst h; simp at hk
  · exact ⟨b, o, _, h1, List.getElem?_eq_getElem hk, h2⟩
theorem IntArg.lies {w : World} {b o : Nat} {P : List Int} (h : IntArg w (some ⟨b, o, none⟩) P) : IntAt w b o P := by
  rcases h with h | ⟨b', o', h1, h2⟩
  · subst h; intro k c hk; simp at hk
  · cases h1; exact h2
/-- A row of the call's own that holds these numbers: it may be written. -/
def IntOwn (B : Nat) (P : List Int) (g : Nat) (w : World) : Prop := B ≤ g ∧ IntAt w g 0 P ∧ w.there g 0 P.length ∧ g < w.heap.size
theorem IntOwn.arg {B : Nat} {P : List Int} {g : Nat} {w : World} (h : IntOwn B P g w) : IntArg w (some ⟨g, 0, none⟩) P := .inr ⟨g, 0, rfl, h.2.1⟩
theorem IntOwn.later {B : Nat} {P : List Int} {g : Nat} {w w' : World} (h : IntOwn B P g w) (hb : Below w.heap.size w w') : IntOwn B P g w' := ⟨h.1, h.2.1.later hb, there_below h.2.2.1 hb, Nat.lt_of_lt_of_le h.2.2.2 hb.size⟩
theorem infoInt : (Tryd.prog.info? 2).map (fun i => (i.zero, i.size, i.bytes)) = some (some (.int .i64 0), 1, 8) := by kernel_rfl
set_option maxRecDepth 100000 in
set_option maxHeartbeats 1600000 in
theorem eq_ints (P : List Int) (a a' : Option Addr) (cap cap' : Nat) (hl : P.length ≤ 1048577) (w : World) (ha : IntArg w a P) (ha' : IntArg w a' P) :
    Calls Tryd.prog 28 #[.slice a P.length cap, .slice a' P.length cap'] w fun e w' => e = .returned (.bool true) ∧ Below w.heap.size w w' := by
  have HA := Lib.hid ha
  have HA' := Lib.hid ha'
  clear ha ha'
  go_enter Tryd.func28, Tryd.ntmps28
  go_wp2
  go_loopw [5] (fun i wr => ∃ k : Nat, k ≤ P.length ∧ i = .int .i64 k ∧ Hid (Below w.heap.size w wr)) (fun i _ => P.length - (intOf i).toNat)
  case atStart => exact ⟨0, Nat.zero_le _, rfl, Below.refl _ _⟩
  case round =>
    obtain ⟨k, hk, rfl, hB⟩ := hrel
    by_cases hlt : k < P.length
    · have hlt' : (k : Int) < (P.length : Int) := by omega
      have hk0 : (0 : Int) ≤ (k : Int) := by omega
      obtain ⟨b, o, z, rfl, hz, hat⟩ := (HA.out.later hB.out).at hlt
      obtain ⟨b', o', z', rfl, hz', hat'⟩ := (HA'.out.later hB.out).at hlt
      rw [hz] at hz'
      cases hz'
      have c0 := hat k z hz
      have d0 := hat' k z hz
      clear hz hat hat'
      go_wp2
      go_region
      go_wp2
      go_roundw
      case rel => exact ⟨k + 1, by omega, by go_num, hB.out.drew⟩
      case measure => simp [intOf]; omega
    · have hge : ¬ (k : Int) < (P.length : Int) := by omega
      go_wp2
      go_ret
      exact ⟨rfl, hB.out⟩
def intVals (P : List Int) : List Value := P.map (Value.int .i64)
theorem intVals_one (P : List Int) : ∀ u ∈ intVals P, u.oneCell' = true := by
  intro u hu
  obtain ⟨c, _, rfl⟩ := List.mem_map.1 hu
  rfl
/-- What a row of numbers that grows holds. -/
def NumsAt (w : World) (ps : List Int) (g cap : Nat) (wr : World) : Prop :=
  wr.ownsRow w.heap.size 2 1 (.slice (some ⟨g, 0, none⟩) ps.length cap) ps.length (intVals ps) ∧ Below w.heap.size w wr ∧ w.heap.size + 1 ≤ wr.heap.size
theorem own_base8 {w : World} {B : Nat} {e : TypeId} {size n m cap g : Nat} {xs : List Value} (h : w.ownsRow B e size (.slice (some ⟨g, 0, none⟩) m cap) n xs) : B ≤ g := by
  obtain ⟨_, h | ⟨b, c, cs, hv, hb, _⟩⟩ := h
  · simp at h
  · simp at hv
    omega
theorem own_form8 {w : World} {B : Nat} {e : TypeId} {size n : Nat} {v : Value} {xs : List Value} (h : w.ownsRow B e size v n xs) (hn : n ≠ 0) : ∃ g cap, v = .slice (some ⟨g, 0, none⟩) n cap := by
  rcases h.2 with ⟨_, h0⟩ | ⟨g, cap, cur, hv, _⟩
  · exact absurd h0 hn
  · exact ⟨g, cap, hv⟩
theorem nums_step {w wr w1 : World} {ps : List Int} {g cap : Nat} {x : Int} {v1 : Value} (h : NumsAt w ps g cap wr) (hown : w1.ownsRow w.heap.size 2 1 v1 (ps.length + 1) (intVals ps ++ [.int .i64 x])) (hg : (wr.alloc (.cells #[.int .i64 x] 2)).grownBy w1 (some g)) :
    ∃ g' cap', v1 = .slice (some ⟨g', 0, none⟩) (ps ++ [x]).length cap' ∧ NumsAt w (ps ++ [x]) g' cap' w1 := by
  obtain ⟨h1, h2, h3⟩ := h
  have hgb := own_base8 h1
  have e : intVals (ps ++ [x]) = intVals ps ++ [Value.int .i64 x] := by simp [intVals]
  obtain ⟨g', cap', hv⟩ := own_form8 hown (by omega)
  have hB : Below w.heap.size w (wr.alloc (.cells #[.int .i64 x] 2)) := balloc h2 _
  have hB1 : Below w.heap.size w w1 := hB.grown hg (by simp; omega) (fun k hk => by cases hk; exact hgb)
  refine ⟨g', cap', by rw [hv]; simp, ?_, hB1, ?_⟩
  · rw [e, List.length_append]
    rw [hv] at hown
    exact hown
  · have := hB1.size
    have h4 := hg.size
    simp at h4
    omega
theorem nums_start (w : World) : NumsAt w [] w.heap.size 0 (w.alloc (.cells #[] 2)) :=
  ⟨⟨rfl, .inr ⟨w.heap.size, 0, #[], rfl, Nat.le_refl _, heap_alloc_new w _, Nat.le_refl _, by decide, rfl, rfl⟩⟩, balloc0 _ _, by simp⟩
theorem NumsAt.own {w wr : World} {ps : List Int} {g cap : Nat} (h : NumsAt w ps g cap wr) : IntOwn w.heap.size ps g wr := by
  refine ⟨own_base8 h.1, fun k z hk => ?_, fun j hj => ?_, ?_⟩
  · have hl := (List.getElem?_eq_some_iff.1 hk).1
    rw [Nat.zero_add, World.ownsRow.cellAt h.1 k (by omega)]
    simp [intVals, hk]
  · rw [Nat.zero_add]
    refine ⟨?_, World.ownsRow.frozenAt h.1 j⟩
    rw [World.ownsRow.cellAt h.1 j (by omega), List.getElem?_eq_getElem (by simpa [intVals] using hj)]
    rfl
  · obtain ⟨_, h0 | ⟨b, c, cs, hv, _, hh, _⟩⟩ := h.1
    · simp at h0
    · simp at hv
      rw [hv.1]
      exact (Array.getElem?_eq_some_iff.1 hh).1
theorem lit8 (base : Nat) (wr : World) (c : Value) (hb : base ≤ wr.heap.size) : (wr.alloc (.cells #[c] 2)).ownsRow base 2 1 (.slice (some ⟨wr.heap.size, 0, none⟩) 1 1) 1 [c] :=
  ⟨rfl, .inr ⟨wr.heap.size, 1, #[c], rfl, hb, heap_alloc_new wr _, Nat.le_refl _, by decide, rfl, rfl⟩⟩
/-- The marks from K on. -/
def marksL (K n : Nat) : List Int := (List.range n).map fun j => ((K + j : Nat) : Int)
theorem marksL_length (K n : Nat) : (marksL K n).length = n := by simp [marksL]
theorem marksL_at {K n k : Nat} (h : k < n) : (marksL K n)[k]? = some ((K + k : Nat) : Int) := by simp [marksL, h]
set_option maxRecDepth 100000 in
set_option maxHeartbeats 1600000 in
theorem mark_ints (P : List Int) (hn : P.length ≤ 1048577) (K : Nat) (hK2 : K ≤ 100000000) (B g cap : Nat) (w : World) (h : IntOwn B P g w) :
    Calls Tryd.prog 30 #[.slice (some ⟨g, 0, none⟩) P.length cap, .int .i64 K] w fun e w' => e = .returned (.int .i64 ((K + P.length : Nat) : Int)) ∧ Only g w w' ∧ IntOwn B (marksL K P.length) g w' := by
  have HG := Lib.hid h.1
  have HT := Lib.hid h.2.2.1
  have HZ := Lib.hid h.2.2.2
  clear h
  go_enter Tryd.func30, Tryd.ntmps30
  go_wp2
  go_loopw [1, 5] (fun u i wr => ∃ (k : Nat), k ≤ P.length ∧ u = .int .i64 ((K + k : Nat) : Int) ∧ i = .int .i64 k ∧ Hid (∀ j, j < k → wr.cell? ⟨g, j, none⟩ = some (.int .i64 ((K + j : Nat) : Int))) ∧ Hid (wr.there g 0 P.length) ∧ Hid (Only g w wr)) (fun _ i _ => P.length - (intOf i).toNat)
  case atStart => exact ⟨0, Nat.zero_le _, rfl, rfl, fun j hj => by omega, HT.out, Only.refl _ _⟩
  case round =>
    obtain ⟨k, hk, rfl, rfl, hR, hT, hb⟩ := hrel
    by_cases hlt : k < P.length
    · have hlt' : (k : Int) < (P.length : Int) := by omega
      have hk0 : (0 : Int) ≤ (k : Int) := by omega
      obtain ⟨u, v0, v1⟩ := there_at hT.out hlt
      have IS := Lib.hid (int_store hT.out hlt (.int .i64 ((K + k : Nat) : Int)))
      have BS : Hid (Only g w (wr.setCell ⟨g, k, none⟩ (.int .i64 ((K + k : Nat) : Int)))) := hb.out.set _ _
      go_wp2
      go_roundw
      case rel =>
        refine ⟨k + 1, by omega, by go_num, by go_num, fun j hj => ?_, ?_, ?_⟩
        · by_cases e : j = k
          · subst e
            simpa using IS.out.2.1
          · have := IS.out.2.2 ⟨g, j, none⟩ (fun h => e (by cases h; rfl))
            simp at this ⊢
            rw [this]
            simpa using hR.out j (by omega)
        · refine Lib.hid ?_
          simpa using IS.out.1
        · refine Lib.hid ?_
          simpa using BS.out
      case measure => simp [intOf]; omega
    · have hge : ¬ (k : Int) < (P.length : Int) := by omega
      have hkn : k = P.length := by omega
      subst hkn
      go_wp2
      go_ret
      refine ⟨rfl, hb.out, HG.out, fun j z hj => ?_, ?_, Nat.lt_of_lt_of_le HZ.out hb.out.size⟩
      · have hl := (List.getElem?_eq_some_iff.1 hj).1
        rw [marksL_length] at hl
        rw [marksL_at hl] at hj
        cases hj
        rw [Nat.zero_add]
        exact hR.out j hl
      · rw [marksL_length]
        exact hT.out
set_option maxRecDepth 100000 in
set_option maxHeartbeats 1600000 in
theorem held_ints (n : Nat) (hn : n ≤ 1048577) (K : Nat) (hK2 : K ≤ 100000000) (g cap : Nat) (w : World) (h : IntAt w g 0 (marksL K n)) :
    Calls Tryd.prog 31 #[.slice (some ⟨g, 0, none⟩) n cap, .int .i64 K] w fun e w' => e = .returned (.int .i64 ((K + n : Nat) : Int)) ∧ Below w.heap.size w w' := by
  have H := Lib.hid h
  clear h
  go_enter Tryd.func31, Tryd.ntmps31
  go_wp2
  go_loopw [1, 5] (fun u i wr => ∃ (k : Nat), k ≤ n ∧ u = .int .i64 ((K + k : Nat) : Int) ∧ i = .int .i64 k ∧ Hid (Below w.heap.size w wr)) (fun _ i _ => n - (intOf i).toNat)
  case atStart => exact ⟨0, Nat.zero_le _, rfl, rfl, Below.refl _ _⟩
  case round =>
    obtain ⟨k, hk, rfl, rfl, hb⟩ := hrel
    by_cases hlt : k < n
    · have hlt' : (k : Int) < (n : Int) := by omega
      have hk0 : (0 : Int) ≤ (k : Int) := by omega
      have c0 := (H.out.later hb.out) k _ (marksL_at hlt)
      rw [Nat.zero_add] at c0
      go_wp2
      go_roundw
      case rel => exact ⟨k + 1, by omega, by go_num, by go_num, hb.out⟩
      case measure => simp [intOf]; omega
    · have hge : ¬ (k : Int) < (n : Int) := by omega
      have hkn : k = n := by omega
      subst hkn
      go_wp2
      go_ret
      exact ⟨rfl, hb.out⟩
set_option maxRecDepth 100000 in
theorem mark_nil (a : Option Addr) (cap K : Nat) (w : World) :
    Calls Tryd.prog 30 #[.slice a 0 cap, .int .i64 K] w fun e w' => e = .returned (.int .i64 (K : Int)) ∧ w = w' := by
  go_enter Tryd.func30, Tryd.ntmps30
  go_wp2
  go_loopw [1, 5] (fun u i wr => u = .int .i64 (K : Int) ∧ i = .int .i64 0 ∧ w = wr) (fun _ _ _ => 0)
  case atStart => exact ⟨rfl, rfl, rfl⟩
  case round =>
    obtain ⟨rfl, rfl, rfl⟩ := hrel
    go_wp2
    go_ret
    exact ⟨rfl, rfl⟩
set_option maxRecDepth 100000 in
theorem held_nil (a : Option Addr) (cap K : Nat) (w : World) :
    Calls Tryd.prog 31 #[.slice a 0 cap, .int .i64 K] w fun e w' => e = .returned (.int .i64 (K : Int)) ∧ w = w' := by
  go_enter Tryd.func31, Tryd.ntmps31
  go_wp2
  go_loopw [1, 5] (fun u i wr => u = .int .i64 (K : Int) ∧ i = .int .i64 0 ∧ w = wr) (fun _ _ _ => 0)
  case atStart => exact ⟨rfl, rfl, rfl⟩
  case round =>
    obtain ⟨rfl, rfl, rfl⟩ := hrel
    go_wp2
    go_ret
    exact ⟨rfl, rfl⟩
/-- A slice of numbers that is handed back: nothing is in it, or it is a row of the call's own. -/
def IntRes (B : Nat) (Q : List Int) (a : Option Addr) (w : World) : Prop := Q = [] ∨ ∃ g, a = some ⟨g, 0, none⟩ ∧ IntOwn B Q g w
theorem IntRes.later {B : Nat} {Q : List Int} {a : Option Addr} {w w' : World} (h : IntRes B Q a w) (hb : Below w.heap.size w w') : IntRes B Q a w' := by
  rcases h with h | ⟨g, h1, h2⟩
  · exact .inl h
  · exact .inr ⟨g, h1, h2.later hb⟩
theorem IntRes.arg {B : Nat} {Q : List Int} {a : Option Addr} {w : World} (h : IntRes B Q a w) : IntArg w a Q := by
  rcases h with h | ⟨g, h1, h2⟩
  · exact .inl h
  · rw [h1]; exact h2.arg
/-- It is not the row that was written. -/
theorem IntRes.only {B b : Nat} {Q : List Int} {a : Option Addr} {w w' : World} (h : IntRes B Q a w) (hb : Only b w w') (hne : b < B) : IntRes B Q a w' := by
  rcases h with h | ⟨g, h1, h2⟩
  · exact .inl h
  · have hgb : g ≠ b := by have := h2.1; omega
    refine .inr ⟨g, h1, h2.1, fun k z hk => ?_, hb.there hgb h2.2.2.1, Nat.lt_of_lt_of_le h2.2.2.2 hb.size⟩
    have h3 := h2.2.1 k z hk
    rw [World.cell?_of_block (w := w) (a := ⟨g, 0 + k, none⟩) (hb.block g h2.2.2.2 (fun e => hgb (by cases e; rfl)))]
    exact h3
theorem mark_res (Q : List Int) (hn : Q.length ≤ 1048577) (K : Nat) (hK2 : K ≤ 100000000) (B cap : Nat) (a : Option Addr) (w : World) (hB : B ≤ w.heap.size) (h : IntRes B Q a w) :
    Calls Tryd.prog 30 #[.slice a Q.length cap, .int .i64 K] w fun e w' => e = .returned (.int .i64 ((K + Q.length : Nat) : Int)) ∧ Below B w w' ∧ IntRes B (marksL K Q.length) a w' := by
  rcases h with h | ⟨g, h1, h2⟩
  · subst h
    refine (mark_nil a cap K w).mono ?_
    rintro e w' ⟨h1, h2⟩
    subst h2
    exact ⟨h1, Below.refl _ _, .inl rfl⟩
  · subst h1
    refine (mark_ints Q hn K hK2 B g cap w h2).mono ?_
    rintro e w' ⟨h3, h4, h5⟩
    exact ⟨h3, h4.base h2.1 hB, .inr ⟨g, rfl, h5⟩⟩
theorem held_res (n : Nat) (hn : n ≤ 1048577) (K : Nat) (hK2 : K ≤ 100000000) (cap : Nat) (a : Option Addr) (w : World) (B : Nat) (h : IntRes B (marksL K n) a w) :
    Calls Tryd.prog 31 #[.slice a n cap, .int .i64 K] w fun e w' => e = .returned (.int .i64 ((K + n : Nat) : Int)) ∧ Below w.heap.size w w' := by
  rcases h with h | ⟨g, h1, h2⟩
  · have hn0 : n = 0 := by have := congrArg List.length h; simpa [marksL_length] using this
    subst hn0
    refine (held_nil a cap K w).mono ?_
    rintro e w' ⟨h1, h2⟩
    subst h2
    exact ⟨h1, Below.refl _ _⟩
  · subst h1
    exact held_ints n hn K hK2 g cap w h2.2.1
end Go.Proofs.YtikjielgnlgnjaaDoor
