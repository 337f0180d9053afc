/-
  The model's words of a text: the walk.
-/
import Derived.Test.YtjheklkgilelkabSplitS
namespace Go.Proofs.Ytjheklkgilelkab
open Go.ChangeShapes Go.WideShapes Go.ChangeAt Go.RowKit Go.Joins

/-- A part that is not empty. -/
def nonE (x : ByteArray) : Bool := !x.toList.isEmpty
theorem nonE_size (x : ByteArray) : nonE x = decide (0 < x.size) := by
  unfold nonE
  rw [ByteArray.toList_eq]
  obtain ⟨⟨l⟩⟩ := x
  cases l <;> simp [ByteArray.size]
theorem cuts_range (s : ByteArray) (c : Nat) : ∀ (n pos b : Nat), b ≤ pos → ∀ x ∈ cutsC s c n pos b, x.1 ≤ x.2 ∧ x.2 ≤ pos + n
  | 0, pos, b, h, x, hx => by
    simp [cutsC] at hx
    subst hx
    exact ⟨h, by simp⟩
  | n + 1, pos, b, h, x, hx => by
    simp only [cutsC] at hx
    split at hx
    · rcases List.mem_cons.1 hx with rfl | hx
      · exact ⟨h, by simp⟩
      · have := cuts_range s c n (pos + 1) (pos + 1) (Nat.le_refl _) x hx
        omega
    · have := cuts_range s c n (pos + 1) b (by omega) x hx
      omega
theorem cuts_length (s : ByteArray) (c : Nat) : ∀ (n pos b : Nat), (cutsC s c n pos b).length ≤ n + 1
  | 0, pos, b => by simp [cutsC]
  | n + 1, pos, b => by
    simp only [cutsC]
    split
    · have := cuts_length s c n (pos + 1) (pos + 1)
      simp; omega
    · have := cuts_length s c n (pos + 1) b
      omega
theorem parts_words (s : ByteArray) : (cutParts s (cutsC s 32 s.size 0 0)).filter nonE = wordsOf s := by
  unfold cutParts wordsOf
  rw [List.filter_map]
  congr 1
  apply List.filter_congr
  intro x hx
  have h := cuts_range s 32 s.size 0 0 (Nat.le_refl _) x hx
  show nonE (s.extract x.1 x.2) = _
  rw [nonE_size, ByteArray.size_extract]
  congr 1
  exact propext ⟨fun h => by omega, fun h => by omega⟩
theorem parts_weaken {w wl wr : World} {L ps : List ByteArray} {gl capl g cap : Nat} (hl : PartsAt w L gl capl wl) (h : PartsAt wl ps g cap wr) : PartsAt w ps g cap wr := by
  obtain ⟨h1, h2, h3⟩ := h
  have hs := hl.2.1.size
  refine ⟨⟨h1.1, ?_⟩, bnext hl.2.1 h2, by omega⟩
  rcases h1.2 with h | ⟨a, c, cur, e1, e2, e3⟩
  · exact .inl h
  · exact .inr ⟨a, c, cur, e1, by omega, e3⟩
theorem parts_cell {w wl wr : World} {L : List ByteArray} {gl capl : Nat} (hl : PartsAt w L gl capl wl) (hb : Below wl.heap.size wl wr) (k : Nat) (x : ByteArray) (hx : L[k]? = some x) : wr.cell? ⟨gl, k, none⟩ = some (.string x) := by
  have h1 := hl.1.cells rfl k (.string x) (by simp [partVals, hx])
  have e : ((⟨gl, 0, none⟩ : Addr).add k) = ⟨gl, k, none⟩ := by simp [Addr.add]; omega
  rw [e] at h1
  have hlt : gl < wl.heap.size := World.block_lt_of_cell? wl _ h1
  exact (hb.cell (p := ⟨gl, k, none⟩) hlt).trans h1

set_option maxRecDepth 100000 in
set_option maxHeartbeats 1600000 in
theorem words_spec (s : ByteArray) (hs : s.size ≤ 1048576) (w : World) : Calls Try.prog 4 #[.string s] w fun e w' => ∃ g cap, e = .returned (.slice (some ⟨g, 0, none⟩) (wordsOf s).length cap) ∧ PartsAt w (wordsOf s) g cap w' := by
  obtain ⟨i0, hi, hz0, hz1, hz2⟩ := info_parts infoStr
  obtain ⟨L, hlen, HW, C⟩ : ∃ L : List ByteArray, L.length ≤ 1048577 ∧ Hid (L.filter nonE = wordsOf s) ∧ Hid (∀ w, Calls Try.prog 9 #[.string s, .int .u8 32] w fun e w' => ∃ g cap, e = .returned (.slice (some ⟨g, 0, none⟩) L.length cap) ∧ PartsAt w L g cap w') :=
    ⟨cutParts s (cutsC s 32 s.size 0 0), by have h1 := cuts_length s 32 s.size 0 0; have h2 : (cutParts s (cutsC s 32 s.size 0 0)).length = (cutsC s 32 s.size 0 0).length := List.length_map _; omega, parts_words s, fun w => split_spec s hs 32 w⟩
  clear hs
  go_enter Try.func4, Try.ntmps4
  go_wp2_with fail
  refine (C.out _).mono ?_
  rintro e wl ⟨gl, capl, rfl, hl⟩
  have HL := Lib.hid hl
  clear C hl
  go_wp2
  go_loopw [4, 5] (fun v i wr => ∃ (ps : List ByteArray) (g cap k : Nat), v = .slice (some ⟨g, 0, none⟩) ps.length cap ∧ i = .int .i64 k ∧ k ≤ L.length ∧ ps.length ≤ k ∧ Hid (ps ++ (L.drop k).filter nonE = wordsOf s) ∧ Hid (PartsAt wl ps g cap wr)) (fun _ i _ => L.length - (intOf i).toNat)
  case atStart => exact ⟨[], wl.heap.size, 0, 0, rfl, rfl, Nat.zero_le _, Nat.le_refl _, HW.out, parts_start wl⟩
  case round =>
    obtain ⟨ps, g, cap, k, rfl, rfl, hk, hps, hC, hD⟩ := hrel
    have hbase : wl.heap.size ≤ wr.heap.size := by have := hD.out.2.2; omega
    have c3 : Hid (ps.length + 1 ≤ maxLen) := by show ps.length + 1 ≤ maxLen; unfold maxLen; omega
    by_cases hlt : k < L.length
    · have hlt' : (k : Int) < (L.length : Int) := by omega
      have hk0 : (0 : Int) ≤ (k : Int) := by omega
      obtain ⟨x, hx⟩ : ∃ x, L[k]? = some x := ⟨_, List.getElem?_eq_getElem hlt⟩
      have hcell := parts_cell HL.out hD.out.2.1 k x hx
      have hdrop : L.drop k = x :: L.drop (k + 1) := by
        rw [List.drop_eq_getElem_cons hlt]
        rw [List.getElem?_eq_getElem hlt] at hx
        rw [Option.some.inj hx]
      cases hx1 : x.toList.isEmpty
      · have hx2 : (!x.toList.isEmpty) = true := by rw [hx1]; rfl
        have HC : Hid ((ps ++ [x]) ++ (L.drop (k + 1)).filter nonE = wordsOf s) := by
          show (ps ++ [x]) ++ (L.drop (k + 1)).filter nonE = wordsOf s
          rw [← hC.out, hdrop, List.filter_cons, if_pos (show nonE x = true from hx2)]; simp
        clear hdrop hC hx
        go_wp2_with (at_builtin; go_must ((refine wpList_append_own _ rfl _ _ 22 rfl wl.heap.size 9 i0 (.string ⟨#[]⟩) 1 16 Try.underlying22 hi hz0 hz1 hz2 rfl (by decide) (.slice (some ⟨g, 0, none⟩) ps.length cap) ps.length (partVals ps) rfl (hD.out.1.alloc _) ⟨wr.heap.size, 0, none⟩ 1 1 [.string x] rfl rfl ((litS_row wl.heap.size wr _ hbase).cells rfl) (by simp [Value.oneCell']) c3.out (by omega) (by simp; omega) ?_; intro v1 w1 hown1 hgrow1 _)))
        obtain ⟨g', cap', hv, hD'⟩ := parts_step hD.out hown1 hgrow1
        subst hv
        go_roundw
        case rel => exact ⟨ps ++ [x], g', cap', k + 1, rfl, by go_num, by omega, by simp; omega, HC, hD'⟩
        case measure => simp [intOf]; omega
      · have hx2 : (!x.toList.isEmpty) = false := by rw [hx1]; rfl
        have HC : Hid (ps ++ (L.drop (k + 1)).filter nonE = wordsOf s) := by
          show ps ++ (L.drop (k + 1)).filter nonE = wordsOf s
          rw [← hC.out, hdrop, List.filter_cons, if_neg (by rw [show nonE x = false from hx2]; decide)]
        clear hdrop hC hx
        go_wp2
        go_roundw
        case rel => exact ⟨ps, g, cap, k + 1, rfl, by go_num, by omega, by omega, HC, hD⟩
        case measure => simp [intOf]; omega
    · have hge : ¬ (k : Int) < (L.length : Int) := by omega
      have HE : Hid (ps = wordsOf s) := by
        show ps = wordsOf s
        rw [← hC.out, List.drop_of_length_le (by omega)]; simp
      clear hC
      go_wp2
      go_ret
      refine ⟨g, cap, by rw [← HE.out]; rfl, by rw [← HE.out]; exact parts_weaken HL.out hD.out⟩
end Go.Proofs.Ytjheklkgilelkab
