/-
  strings.Builder: WriteByte at this program, and what it leaves as it was: blocks of other types.
-/
import Derived.Test.YtplggghhhgmebaaDoorBuild
import Derived.Test.YtplggghhhgmebaaDoorInts
namespace Go.Proofs.YtplggghhhgmebaaDoor
open Go.ChangeShapes Go.WideShapes Go.ChangeAt Go.RowKit Go.Joins

/-- Blocks of other types than these are as they were. -/
def KeepT (ts : List TypeId) (w w' : World) : Prop := ∀ (k : Nat) (T : TypeId) (cs : Array Value) (fr : Nat × Nat), w.heap[k]? = some (.cells cs T fr) → T ∉ ts → w'.heap[k]? = some (.cells cs T fr)
theorem KeepT.refl (ts : List TypeId) (w : World) : KeepT ts w w := fun _ _ _ _ h _ => h
theorem KeepT.trans {ts : List TypeId} {a b c : World} (h : KeepT ts a b) (k : KeepT ts b c) : KeepT ts a c := fun i T cs fr h1 h2 => k i T cs fr (h i T cs fr h1 h2) h2
theorem KeepT.below {ts : List TypeId} {a b : World} (h : Below a.heap.size a b) : KeepT ts a b := fun i _ _ _ h1 _ => (h.block i (Array.getElem?_eq_some_iff.1 h1).1).trans h1
theorem KeepT.set {ts : List TypeId} {w : World} {b o : Nat} {v : Value} {T0 : TypeId} {c0 : Array Value} {f0 : Nat × Nat} (hb : w.heap[b]? = some (.cells c0 T0 f0)) (ht : T0 ∈ ts) : KeepT ts w (w.setCell ⟨b, o, none⟩ v) := fun i T cs fr h1 h2 => by
  have hne : i ≠ b := fun e => by subst e; rw [hb] at h1; cases h1; exact h2 ht
  exact (Below.heap_setCell _ _ _ _ hne).trans h1
theorem KeepT.grown {ts : List TypeId} {w w' : World} {v : Value} {B n : Nat} {xs : List Value} {e : TypeId} (hg : w.grownBy w' v.ownBlock) (ho : w.ownsRow B e 1 v n xs) (he : e ∈ ts) : KeepT ts w w' := fun i _ _ _ h1 h2 =>
  (hg.block i (Array.getElem?_eq_some_iff.1 h1).1 (fun h3 => Lib.ownBlock_ne ho h1 (fun h4 => h2 (h4 ▸ he)) h3.symm)).trans h1
theorem own_keep {ts : List TypeId} {w w' : World} {B e n : Nat} {v : Value} {xs : List Value} (h : w.ownsRow B e 1 v n xs) (hk : KeepT ts w w') (he : e ∉ ts) : w'.ownsRow B e 1 v n xs := by
  refine ⟨h.1, ?_⟩
  rcases h.2 with hn | ⟨g, cap, cur, hv, hB, hgg, rest⟩
  · exact .inl hn
  · exact .inr ⟨g, cap, cur, hv, hB, hk _ _ _ _ hgg he, rest⟩
theorem bat_keep {ts : List TypeId} {B b : Nat} {p : Value} {bs : List Value} {w w' : World} (h : Lib.BuilderAt 78 5 B b p bs w) (hk : KeepT ts w w') (h1 : 78 ∉ ts) (h2 : 5 ∉ ts) : Lib.BuilderAt 78 5 B b p bs w' := by
  obtain ⟨hB, v, hbk, hown, hne⟩ := h
  exact ⟨hB, v, hk _ _ _ _ hbk h1, own_keep hown hk h2, hne⟩
theorem isb_keep {ts : List TypeId} {B b : Nat} {bs : List Value} {w w' : World} (h : IsB B b bs w) (hk : KeepT ts w w') (h1 : 78 ∉ ts) (h2 : 5 ∉ ts) : IsB B b bs w' := by
  rcases h with h | h
  · exact .inl (bat_keep h hk h1 h2)
  · exact .inr (bat_keep h hk h1 h2)

theorem check_impl2 (B b : Nat) (bs : List Value) (w : World) (h : IsB B b bs w) :
    Calls Tryd.prog 54 #[.pointer (some ⟨b, 0, none⟩)] w fun e w' => e = .returned (.tuple #[]) ∧ BAt B b bs w' ∧ Below B w w' ∧ KeepT [78, 5] w w' := by
  rcases h with h | h
  · refine (check_fresh b w h.cell0 h.shape h.frozen0).mono ?_
    rintro e w' ⟨rfl, rfl⟩
    obtain ⟨hB, v, hbk, _, _⟩ := id h
    exact ⟨rfl, h.used _, (Below.refl B w).setCell (p := ⟨b, 0, none⟩) h.1 _, KeepT.set hbk (by simp)⟩
  · refine (check_used b w h.cell0).mono ?_
    rintro e w' ⟨rfl, rfl⟩
    exact ⟨rfl, h, Below.refl B _, KeepT.refl _ _⟩

theorem lit8B (base : Nat) (wr : World) (c : Value) (hb : base ≤ wr.heap.size) : (wr.alloc (.cells #[c] 5)).ownsRow base 5 1 (.slice (some ⟨wr.heap.size, 0, none⟩) 1 1) 1 [c] :=
  ⟨rfl, .inr ⟨wr.heap.size, 1, #[c], rfl, hb, heap_alloc_new wr _, Nat.le_refl _, by decide, rfl, rfl⟩⟩
set_option maxRecDepth 100000 in
set_option maxHeartbeats 800000 in
theorem writeByte_impl (B b : Nat) (bs : List Value) (x : Int) (w : World) (h : IsB B b bs w) (hlen : bs.length + 1 ≤ 140737488355328) (hBw : B ≤ w.heap.size) :
    Calls Tryd.prog 49 #[.pointer (some ⟨b, 0, none⟩), .int .u8 x] w fun e w' => e = .returned .nilIface ∧ BAt B b (bs ++ [.int .u8 x]) w' ∧ Below B w w' ∧ KeepT [78, 5] w w' := by
  obtain ⟨i0, hi, hz0, hz1, hz2⟩ := info_parts infoByteB
  have C := Lib.hid (check_impl2 B b bs w h)
  clear h
  go_enter Tryd.func49, Tryd.ntmps49
  go_wp2_with fail
  refine C.out.mono ?_
  rintro e w1 ⟨rfl, h1, hb1, hk1⟩
  obtain ⟨hB, v, hbk, hown, hne⟩ := h1
  have c1 : w1.cell? ⟨b, 1, none⟩ = some v := by rw [Lib.cell_of_heap hbk]; rfl
  have HB := Lib.hid hb1
  have HK := Lib.hid hbk
  have HN := Lib.hid hne
  have KK := Lib.hid hk1
  have z1 := hb1.size
  have hbase : B ≤ w1.heap.size := by omega
  clear hb1 hbk hne hk1
  go_wp2_with (at_builtin; refine wpList_append_own _ rfl _ _ 76 rfl B 5 i0 (.int .u8 0) 1 1 Tryd.underlying76 hi hz0 hz1 hz2 rfl (by decide) v bs.length bs rfl (hown.alloc _) ⟨w1.heap.size, 0, none⟩ 1 1 [.int .u8 x] rfl rfl ((lit8B B w1 _ hbase).cells rfl) (by simp [Value.oneCell']) ?c3 ?c4 ?c5 ?_)
  case c3 => unfold maxLen; omega
  case c4 => omega
  case c5 => simp; omega
  intro v' w2 hown' hgrow _
  have hlt : b < w1.heap.size := (Array.getElem?_eq_some_iff.1 HK.out).1
  have hbk1 : (w1.alloc (.cells #[.int .u8 x] 5)).heap[b]? = some (.cells #[.pointer (some ⟨b, 0, none⟩), v] 78 (0, 0)) := (Below.heap_alloc w1 _ b hlt).trans HK.out
  have hk2 : KeepT [78, 5] (w1.alloc (.cells #[.int .u8 x] 5)) w2 := KeepT.grown hgrow (hown.alloc _) (by simp)
  have hb2 : w2.heap[b]? = some (.cells #[.pointer (some ⟨b, 0, none⟩), v] 78 (0, 0)) := by
    rw [hgrow.block b (by simp; omega) (fun e => HN.out e.symm)]
    exact hbk1
  have HB2 := Lib.hid hb2
  have HG := Lib.hid hgrow
  have HK2 := Lib.hid hk2
  have d1 : w2.cell? ⟨b, 1, none⟩ = some v := by rw [Lib.cell_of_heap hb2]; rfl
  have f1 : w2.frozen? ⟨b, 1, none⟩ = false := Lib.frozen_of_heap hb2 1
  obtain ⟨ao, n', cap, rfl⟩ : ∃ ao n' cap, v' = .slice ao n' cap := by
    rcases hown'.2 with ⟨hv, _⟩ | ⟨g, cap, cur, hv, _⟩
    · exact ⟨_, _, _, hv⟩
    · exact ⟨_, _, _, hv⟩
  have HO := Lib.hid hown
  have HO' := Lib.hid hown'
  clear hb2 hgrow hown hown' hbk1 hk2
  go_wp2
  go_ret
  refine ⟨rfl, ?_, ?_, ?_⟩
  · exact Lib.BuilderAt.put (T := 78) (e := 5) hB HB2.out (bs' := bs ++ [.int .u8 x]) (by simpa using HO'.out) (by decide)
  · exact ((((HB.out.alloc hbase _).grown HG.out (by simp; omega) (fun k hk => (HO.out.lt k hk).1))).setCell (p := ⟨b, 1, none⟩) hB _)
  · exact ((KK.out.trans (KeepT.below (balloc0 _ _))).trans HK2.out).trans (KeepT.set HB2.out (by simp))
end Go.Proofs.YtplggghhhgmebaaDoor
