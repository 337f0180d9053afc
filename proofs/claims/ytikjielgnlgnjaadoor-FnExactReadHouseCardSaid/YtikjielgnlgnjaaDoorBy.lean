/-
  strings.Builder: WriteByte at this program, and what it leaves as it was: blocks of other types.
-/
import Derived.Test.YtikjielgnlgnjaaDoorBuild
import Derived.Test.YtikjielgnlgnjaaDoorInts
import Derived.Test.YtikjielgnlgnjaaDoorDec
namespace Go.Proofs.YtikjielgnlgnjaaDoor
open Go.ChangeShapes Go.WideShapes Go.ChangeAt Go.RowKit Go.Joins


/-- Blocks of other types than these are as they were. -/
def KeepT (ts : List TypeId) (w w' : World) : Prop := ∀ (k : Nat) (T : TypeId) (cs : Array Value) (fr : Nat × Nat), w.heap[k]? = some (.cells cs T fr) → T ∉ ts → w'.heap[k]? = some (.cells cs T fr)
theorem KeepT.refl (ts : List TypeId) (w : World) : KeepT ts w w := fun _ _ _ _ h _ => h
theorem KeepT.trans {ts : List TypeId} {a b c : World} (h : KeepT ts a b) (k : KeepT ts b c) : KeepT ts a c := fun i T cs fr h1 h2 => k i T cs fr (h i T cs fr h1 h2) h2
theorem KeepT.below {ts : List TypeId} {a b : World} (h : Below a.heap.size a b) : KeepT ts a b := fun i _ _ _ h1 _ => (h.block i (Array.getElem?_eq_some_iff.1 h1).1).trans h1
theorem KeepT.set {ts : List TypeId} {w : World} {b o : Nat} {v : Value} {T0 : TypeId} {c0 : Array Value} {f0 : Nat × Nat} (hb : w.heap[b]? = some (.cells c0 T0 f0)) (ht : T0 ∈ ts) : KeepT ts w (w.setCell ⟨b, o, none⟩ v) := fun i T cs fr h1 h2 => by
  have hne : i ≠ b := fun e => by subst e; rw [hb] at h1; cases h1; exact h2 ht
  exact (Below.heap_setCell _ _ _ _ hne).trans h1
theorem KeepT.grown {ts : List TypeId} {w w' : World} {v : Value} {B n : Nat} {xs : List Value} {e : TypeId} (hg : w.grownBy w' v.ownBlock) (ho : w.ownsRow B e 1 v n xs) (he : e ∈ ts) : KeepT ts w w' := fun i _ _ _ h1 h2 =>
  (hg.block i (Array.getElem?_eq_some_iff.1 h1).1 (fun h3 => Lib.ownBlock_ne ho h1 (fun h4 => h2 (h4 ▸ he)) h3.symm)).trans h1
theorem own_keep {ts : List TypeId} {w w' : World} {B e n : Nat} {v : Value} {xs : List Value} (h : w.ownsRow B e 1 v n xs) (hk : KeepT ts w w') (he : e ∉ ts) : w'.ownsRow B e 1 v n xs := by
  refine ⟨h.1, ?_⟩
  rcases h.2 with hn | ⟨g, cap, cur, hv, hB, hgg, rest⟩
  · exact .inl hn
  · exact .inr ⟨g, cap, cur, hv, hB, hk _ _ _ _ hgg he, rest⟩
theorem bat_keep {ts : List TypeId} {B b : Nat} {p : Value} {bs : List Value} {w w' : World} (h : Lib.BuilderAt 109 5 B b p bs w) (hk : KeepT ts w w') (h1 : 109 ∉ ts) (h2 : 5 ∉ ts) : Lib.BuilderAt 109 5 B b p bs w' := by
  obtain ⟨hB, v, hbk, hown, hne⟩ := h
  exact ⟨hB, v, hk _ _ _ _ hbk h1, own_keep hown hk h2, hne⟩
theorem isb_keep {ts : List TypeId} {B b : Nat} {bs : List Value} {w w' : World} (h : IsB B b bs w) (hk : KeepT ts w w') (h1 : 109 ∉ ts) (h2 : 5 ∉ ts) : IsB B b bs w' := by
  rcases h with h | h
  · exact .inl (bat_keep h hk h1 h2)
  · exact .inr (bat_keep h hk h1 h2)

theorem check_impl2 (B b : Nat) (bs : List Value) (w : World) (h : IsB B b bs w) :
    Calls Tryd.prog 111 #[.pointer (some ⟨b, 0, none⟩)] w fun e w' => e = .returned (.tuple #[]) ∧ BAt B b bs w' ∧ Below B w w' ∧ KeepT [109, 5] w w' := by
  rcases h with h | h
  · refine (check_fresh b w h.cell0 h.shape h.frozen0).mono ?_
    rintro e w' ⟨rfl, rfl⟩
    obtain ⟨hB, v, hbk, _, _⟩ := id h
    exact ⟨rfl, h.used _, (Below.refl B w).setCell (p := ⟨b, 0, none⟩) h.1 _, KeepT.set hbk (by simp)⟩
  · refine (check_used b w h.cell0).mono ?_
    rintro e w' ⟨rfl, rfl⟩
    exact ⟨rfl, h, Below.refl B _, KeepT.refl _ _⟩

theorem lit8B (base : Nat) (wr : World) (c : Value) (hb : base ≤ wr.heap.size) : (wr.alloc (.cells #[c] 5)).ownsRow base 5 1 (.slice (some ⟨wr.heap.size, 0, none⟩) 1 1) 1 [c] :=
  ⟨rfl, .inr ⟨wr.heap.size, 1, #[c], rfl, hb, heap_alloc_new wr _, Nat.le_refl _, by decide, rfl, rfl⟩⟩
end Go.Proofs.YtikjielgnlgnjaaDoor
/-
  A row of bytes that grows, byte by byte, and the text of it.
-/
namespace Go.Proofs.YtikjielgnlgnjaaDoor
open Go.ChangeShapes Go.WideShapes Go.ChangeAt Go.RowKit Go.Joins

/-- What a row of bytes that grows holds. -/
def BytesAt (w : World) (ds : List UInt8) (g cap : Nat) (wr : World) : Prop :=
  wr.ownsRow w.heap.size 5 1 (.slice (some ⟨g, 0, none⟩) ds.length cap) ds.length (byteVals ds) ∧ Below w.heap.size w wr ∧ w.heap.size + 1 ≤ wr.heap.size
theorem bytes_start (w : World) : BytesAt w [] w.heap.size 0 (w.alloc (.cells #[] 5)) :=
  ⟨⟨rfl, .inr ⟨w.heap.size, 0, #[], rfl, Nat.le_refl _, heap_alloc_new w _, Nat.le_refl _, by decide, rfl, rfl⟩⟩, balloc0 _ _, by simp⟩
theorem bytes_step {w wr w1 : World} {ds : List UInt8} {g cap : Nat} {x : UInt8} {v1 : Value} (h : BytesAt w ds g cap wr) (hown : w1.ownsRow w.heap.size 5 1 v1 (ds.length + 1) (byteVals ds ++ [.int .u8 (x.toNat : Int)])) (hg : (wr.alloc (.cells #[.int .u8 (x.toNat : Int)] 5)).grownBy w1 (some g)) :
    ∃ g' cap', v1 = .slice (some ⟨g', 0, none⟩) (ds ++ [x]).length cap' ∧ BytesAt w (ds ++ [x]) g' cap' w1 := by
  obtain ⟨h1, h2, h3⟩ := h
  have hgb := own_base8 h1
  have e : byteVals (ds ++ [x]) = byteVals ds ++ [Value.int .u8 (x.toNat : Int)] := by simp [byteVals]
  obtain ⟨g', cap', hv⟩ := own_form8 hown (by omega)
  have hB : Below w.heap.size w (wr.alloc (.cells #[.int .u8 (x.toNat : Int)] 5)) := balloc h2 _
  have hB1 : Below w.heap.size w w1 := hB.grown hg (by simp; omega) (fun k hk => by cases hk; exact hgb)
  refine ⟨g', cap', by rw [hv]; simp, ?_, hB1, ?_⟩
  · rw [e, List.length_append]
    rw [hv] at hown
    exact hown
  · have := hB1.size
    have h4 := hg.size
    simp at h4
    omega
theorem bytes_stepN {w wr w1 : World} {ds : List UInt8} {g cap : Nat} {n : Int} {v1 : Value} (x : UInt8) (hn : n = (x.toNat : Int)) (h : BytesAt w ds g cap wr) (hown : w1.ownsRow w.heap.size 5 1 v1 (ds.length + 1) (byteVals ds ++ [.int .u8 n])) (hg : (wr.alloc (.cells #[.int .u8 n] 5)).grownBy w1 (some g)) :
    ∃ g' cap', v1 = .slice (some ⟨g', 0, none⟩) (ds ++ [x]).length cap' ∧ BytesAt w (ds ++ [x]) g' cap' w1 := by
  subst hn
  exact bytes_step h hown hg
theorem bytes_on {W0 w w' : World} {ds : List UInt8} {g cap : Nat} (h : BytesAt W0 ds g cap w) (hb : Below w.heap.size w w') : BytesAt W0 ds g cap w' := by
  refine ⟨⟨h.1.1, ?_⟩, h.2.1.trans (hb.mono (Nat.le_of_succ_le h.2.2)), Nat.le_trans h.2.2 hb.size⟩
  rcases h.1.2 with hn | ⟨g1, cap1, cur, hv, hB, hgg, rest⟩
  · exact .inl hn
  · exact .inr ⟨g1, cap1, cur, hv, hB, (hb.block g1 (Array.getElem?_eq_some_iff.1 hgg).1).trans hgg, rest⟩
/-- The text of the bytes. -/
theorem bytes_string {w wr : World} {g cap : Nat} {ds : List UInt8} (h : BytesAt w ds g cap wr) : (convert 83 9 (.slice (some ⟨g, 0, none⟩) ds.length cap)).run Tryd.prog wr = .ok (.string ⟨ds.toArray⟩) wr :=
  run_convert_bytes_back (P := Tryd.prog) wr 83 9 5 ⟨g, 0, none⟩ cap ds Tryd.underlying83 Tryd.underlying5 Tryd.underlying9 (fun j hj => h.1.cells rfl j _ (by simp [byteVals, List.getElem?_eq_getElem hj]))
theorem bytes_string1 {w wr : World} {g cap : Nat} {ds : List UInt8} {x : UInt8} (h : BytesAt w (ds ++ [x]) g cap wr) : ∃ T : ByteArray, Hid (T = ⟨(ds ++ [x]).toArray⟩) ∧ (convert 83 9 (.slice (some ⟨g, 0, none⟩) (ds.length + 1) cap)).run Tryd.prog wr = .ok (.string T) wr := by
  refine ⟨_, rfl, ?_⟩
  have := bytes_string h
  rw [List.length_append] at this
  exact this
theorem infoByteY : (Tryd.prog.info? 5).map (fun i => (i.zero, i.size, i.bytes)) = some (some (.int .u8 0), 1, 1) := by kernel_rfl
end Go.Proofs.YtikjielgnlgnjaaDoor
