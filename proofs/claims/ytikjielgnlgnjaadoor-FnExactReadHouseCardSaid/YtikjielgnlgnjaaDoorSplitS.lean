/-
  The model's splitting of a text at a byte: the walk.
-/
import Derived.Test.YtikjielgnlgnjaaDoorDecI
import Derived.Test.YtikjielgnlgnjaaDoorSplitP
import Derived.Laws.AppendOwn
import Derived.Laws.OwnMore
import Derived.OwnWalk
import Derived.Deep.DeepMust
import Derived.Lib.OthersKept
import Derived.Laws.Closers25b
namespace Go.Proofs.YtikjielgnlgnjaaDoor
open Go.ChangeShapes Go.WideShapes Go.ChangeAt Go.RowKit Go.Joins

theorem infoStr : (Tryd.prog.info? 9).map (fun i => (i.zero, i.size, i.bytes)) = some (some (.string ⟨#[]⟩), 1, 16) := by kernel_rfl
theorem litS_row (base : Nat) (wr : World) (c : Value) (hb : base ≤ wr.heap.size) : (wr.alloc (.cells #[c] 9)).ownsRow base 9 1 (.slice (some ⟨wr.heap.size, 0, none⟩) 1 1) 1 [c] :=
  ⟨rfl, .inr ⟨wr.heap.size, 1, #[c], rfl, hb, heap_alloc_new wr _, Nat.le_refl _, by decide, rfl, rfl⟩⟩
/-- What a row of parts holds. -/
def partVals (ps : List ByteArray) : List Value := ps.map Value.string
theorem partVals_one (ps : List ByteArray) : ∀ u ∈ partVals ps, u.oneCell' = true := by
  intro u hu
  obtain ⟨c, _, rfl⟩ := List.mem_map.1 hu
  rfl
/-- An own row of parts. -/
def PartsAt (w : World) (ps : List ByteArray) (g cap : Nat) (wr : World) : Prop :=
  wr.ownsRow w.heap.size 9 1 (.slice (some ⟨g, 0, none⟩) ps.length cap) ps.length (partVals ps) ∧ Below w.heap.size w wr ∧ w.heap.size + 1 ≤ wr.heap.size
theorem own_base {w : World} {B : Nat} {e : TypeId} {size n m cap g : Nat} {xs : List Value} (h : w.ownsRow B e size (.slice (some ⟨g, 0, none⟩) m cap) n xs) : B ≤ g := by
  obtain ⟨_, h | ⟨b, c, cs, hv, hb, _⟩⟩ := h
  · simp at h
  · simp at hv
    omega
theorem parts_start (w : World) : PartsAt w [] w.heap.size 0 (w.alloc (.cells #[] 9)) :=
  ⟨⟨rfl, .inr ⟨w.heap.size, 0, #[], rfl, Nat.le_refl _, heap_alloc_new w _, Nat.le_refl _, Nat.zero_le _, rfl, rfl⟩⟩, balloc0 _ _, by simp⟩
theorem parts_step {w wr w1 : World} {ps : List ByteArray} {g cap : Nat} {x : ByteArray} {v1 : Value} (h : PartsAt w ps g cap wr)
    (hown : w1.ownsRow w.heap.size 9 1 v1 (ps.length + 1) (partVals ps ++ [Value.string x])) (hg : (wr.alloc (.cells #[.string x] 9)).grownBy w1 (some g)) :
    ∃ g' cap', v1 = .slice (some ⟨g', 0, none⟩) (ps ++ [x]).length cap' ∧ PartsAt w (ps ++ [x]) g' cap' w1 := by
  obtain ⟨h1, h2, h3⟩ := h
  have hgb := own_base h1
  have hown' : w1.ownsRow w.heap.size 9 1 v1 (ps ++ [x]).length (partVals (ps ++ [x])) := by
    have e : partVals (ps ++ [x]) = partVals ps ++ [Value.string x] := by simp [partVals]
    rw [e, List.length_append]; exact hown
  obtain ⟨g', cap', rfl⟩ := ownsRow_form hown' (by simp)
  have hB : Below w.heap.size w (wr.alloc (.cells #[.string x] 9)) := balloc h2 _
  have hB1 : Below w.heap.size w w1 := hB.grown hg (by simp; omega) (fun k hk => by cases hk; exact hgb)
  refine ⟨g', cap', rfl, hown', hB1, ?_⟩
  have := hB1.size
  have h4 := hg.size
  simp at h4
  omega
theorem byt_at (s : ByteArray) (k : Nat) (h : k < s.size) : byt s k = (s[k]'h).toNat := by
  unfold byt
  simp [ByteArray.get!, getElem!_pos, h]; rfl

/-- The parts before the place. -/
def cutParts (s : ByteArray) (l : List (Nat × Nat)) : List ByteArray := l.map fun x => s.extract x.1 x.2

set_option maxRecDepth 100000 in
set_option maxHeartbeats 1600000 in
theorem split_spec (s : ByteArray) (hs : s.size ≤ 1048576) (c : Nat) (w : World) : Calls Tryd.prog 75 #[.string s, .int .u8 c] w fun e w' => ∃ g cap, e = .returned (.slice (some ⟨g, 0, none⟩) (cutParts s (cutsC s c s.size 0 0)).length cap) ∧ PartsAt w (cutParts s (cutsC s c s.size 0 0)) g cap w' := by
  obtain ⟨i0, hi, hz0, hz1, hz2⟩ := info_parts infoStr
  go_enter Tryd.func75, Tryd.ntmps75
  go_wp2
  go_loopw [5, 6, 7] (fun v f i wr => ∃ (ac : List (Nat × Nat)) (g cap b k : Nat), v = .slice (some ⟨g, 0, none⟩) (cutParts s ac).length cap ∧ f = .int .i64 b ∧ i = .int .i64 k ∧ b ≤ k ∧ k ≤ s.size ∧ ac.length ≤ k ∧ Hid (ac ++ cutsC s c (s.size - k) k b = cutsC s c s.size 0 0) ∧ Hid (PartsAt w (cutParts s ac) g cap wr)) (fun _ _ i _ => s.size - (intOf i).toNat)
  case atStart => exact ⟨[], w.heap.size, 0, 0, 0, rfl, rfl, rfl, Nat.le_refl _, Nat.zero_le _, Nat.le_refl _, rfl, parts_start w⟩
  case round =>
    obtain ⟨ac, g, cap, b, k, rfl, rfl, rfl, hbk, hk, hac, hC, hD⟩ := hrel
    have hbase : w.heap.size ≤ wr.heap.size := by have := hD.out.2.2; omega
    have hlen : (cutParts s ac).length = ac.length := by simp [cutParts]
    have c3 : Hid ((cutParts s ac).length + 1 ≤ maxLen) := by show (cutParts s ac).length + 1 ≤ maxLen; unfold maxLen; omega
    by_cases hlt : k < s.size
    · have hlt' : (k : Int) < (s.size : Int) := by omega
      have hk0 : (0 : Int) ≤ (k : Int) := by omega
      have hstep : cutsC s c (s.size - k) k b = if byt s k = c then (b, k) :: cutsC s c (s.size - (k + 1)) (k + 1) (k + 1) else cutsC s c (s.size - (k + 1)) (k + 1) b := by
        rw [show s.size - k = (s.size - (k + 1)) + 1 by omega]; rfl
      by_cases hc : byt s k = c
      · have hc' : ((s[k]'hlt).toNat : Int) = (c : Int) := by rw [← byt_at s k hlt, hc]
        rw [if_pos hc] at hstep
        have HC : Hid ((ac ++ [(b, k)]) ++ cutsC s c (s.size - (k + 1)) (k + 1) (k + 1) = cutsC s c s.size 0 0) := by
          show (ac ++ [(b, k)]) ++ cutsC s c (s.size - (k + 1)) (k + 1) (k + 1) = cutsC s c s.size 0 0
          rw [← hC.out, hstep]; simp
        have HP : Hid (cutParts s (ac ++ [(b, k)]) = cutParts s ac ++ [s.extract b k]) := by
          show cutParts s (ac ++ [(b, k)]) = _
          simp [cutParts]
        clear hstep hC hc
        go_wp2_with (at_builtin; go_must ((refine wpList_append_own _ rfl _ _ 79 rfl w.heap.size 9 i0 (.string ⟨#[]⟩) 1 16 Tryd.underlying79 hi hz0 hz1 hz2 rfl (by decide) (.slice (some ⟨g, 0, none⟩) (cutParts s ac).length cap) (cutParts s ac).length (partVals (cutParts s ac)) rfl (hD.out.1.alloc _) ⟨wr.heap.size, 0, none⟩ 1 1 [.string (s.extract b k)] rfl rfl ((litS_row w.heap.size wr _ hbase).cells rfl) (by simp [Value.oneCell']) c3.out (by omega) (by simp; omega) ?_; intro v1 w1 hown1 hgrow1 _)))
        obtain ⟨g', cap', hv, hD'⟩ := parts_step hD.out hown1 hgrow1
        subst hv
        go_roundw
        case rel => exact ⟨ac ++ [(b, k)], g', cap', k + 1, k + 1, by rw [HP.out], by go_num, by go_num, Nat.le_refl _, by omega, by simp; omega, HC, by rw [HP.out]; exact hD'⟩
        case measure => simp [intOf]; omega
      · have hc' : ¬ ((s[k]'hlt).toNat : Int) = (c : Int) := by rw [byt_at s k hlt] at hc; omega
        rw [if_neg hc] at hstep
        have HC : Hid (ac ++ cutsC s c (s.size - (k + 1)) (k + 1) b = cutsC s c s.size 0 0) := by
          show ac ++ cutsC s c (s.size - (k + 1)) (k + 1) b = cutsC s c s.size 0 0
          rw [← hC.out, hstep]
        clear hstep hC hc
        go_wp2
        go_roundw
        case rel => exact ⟨ac, g, cap, b, k + 1, rfl, rfl, by go_num, by omega, by omega, by omega, HC, hD⟩
        case measure => simp [intOf]; omega
    · have hge : ¬ (k : Int) < (s.size : Int) := by omega
      have hkk : k = s.size := by omega
      have HP : Hid (cutParts s (cutsC s c s.size 0 0) = cutParts s ac ++ [s.extract b s.size]) := by
        show cutParts s (cutsC s c s.size 0 0) = _
        rw [← hC.out, show s.size - k = 0 by omega]
        simp [cutParts, cutsC, hkk]
      clear hC
      go_wp2_with (at_builtin; go_must ((refine wpList_append_own _ rfl _ _ 79 rfl w.heap.size 9 i0 (.string ⟨#[]⟩) 1 16 Tryd.underlying79 hi hz0 hz1 hz2 rfl (by decide) (.slice (some ⟨g, 0, none⟩) (cutParts s ac).length cap) (cutParts s ac).length (partVals (cutParts s ac)) rfl (hD.out.1.alloc _) ⟨wr.heap.size, 0, none⟩ 1 1 [.string (s.extract b s.size)] rfl rfl ((litS_row w.heap.size wr _ hbase).cells rfl) (by simp [Value.oneCell']) c3.out (by omega) (by simp; omega) ?_; intro v1 w1 hown1 hgrow1 _)))
      obtain ⟨g', cap', hv, hD'⟩ := parts_step hD.out hown1 hgrow1
      subst hv
      go_ret
      exact ⟨g', cap', by rw [HP.out]; rfl, by rw [HP.out]; exact hD'⟩
end Go.Proofs.YtikjielgnlgnjaaDoor
