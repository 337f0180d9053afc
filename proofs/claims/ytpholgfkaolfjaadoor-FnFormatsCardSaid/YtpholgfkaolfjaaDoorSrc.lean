/-
  The model's source of choices: contracts that say in which bounds a drawn number lies and that nothing but the source itself has turned.
-/
import Derived.Test.YtpholgfkaolfjaaDoorBase
import Derived.WalkSmall
import Derived.Deep.QuietTactic
import Derived.BigQuiet
namespace Go.Proofs.YtpholgfkaolfjaaDoor
open Go.ChangeShapes Go.WideShapes Go.ChangeAt Go.RowKit Go.Joins

/-- The world has turned at block B alone, and may have grown. -/
structure Touch (B : Nat) (w w' : World) : Prop where
  os : w'.os = w.os
  tape : w'.tape = w.tape
  output : w'.output = w.output
  size : w.heap.size ≤ w'.heap.size
  block : ∀ k, k < w.heap.size → k ≠ B → w'.heap[k]? = w.heap[k]?
theorem Touch.refl (B : Nat) (w : World) : Touch B w w := ⟨rfl, rfl, rfl, Nat.le_refl _, fun _ _ _ => rfl⟩
theorem Touch.trans {B : Nat} {a b c : World} (h : Touch B a b) (k : Touch B b c) : Touch B a c :=
  ⟨k.os.trans h.os, k.tape.trans h.tape, k.output.trans h.output, Nat.le_trans h.size k.size, fun i hi hn => (k.block i (Nat.lt_of_lt_of_le hi h.size) hn).trans (h.block i hi hn)⟩
theorem Touch.trans' {B : Nat} {a b : World} (h : Touch B a b) (c : World) (h1 : c.os = b.os) (h2 : c.tape = b.tape) (h3 : c.output = b.output) (h4 : b.heap.size ≤ c.heap.size) (h5 : ∀ k, k < a.heap.size → c.heap[k]? = b.heap[k]?) : Touch B a c :=
  ⟨h1.trans h.os, h2.trans h.tape, h3.trans h.output, Nat.le_trans h.size h4, fun k hk hn => (h5 k hk).trans (h.block k hk hn)⟩
theorem Touch.drew {B : Nat} {a w : World} (h : Touch B a w) : Touch B a w.drew := ⟨h.os, h.tape, h.output, h.size, h.block⟩
theorem Touch.setCell {B : Nat} {a w : World} (h : Touch B a w) (o : Nat) (u : Value) : Touch B a (w.setCell ⟨B, o, none⟩ u) :=
  h.trans ⟨rfl, rfl, rfl, by simp [World.setCell], fun k _ hn => Below.heap_setCell _ _ _ _ hn⟩
theorem Touch.cell {B : Nat} {w w' : World} (h : Touch B w w') {p : Addr} (hp : p.block < w.heap.size) (hn : p.block ≠ B) : w'.cell? p = w.cell? p := World.cell?_of_block (w := w) (h.block p.block hp hn)
theorem Touch.frozen {B : Nat} {w w' : World} (h : Touch B w w') {p : Addr} (hp : p.block < w.heap.size) (hn : p.block ≠ B) : w'.frozen? p = w.frozen? p := World.frozen?_of_block (w := w) (h.block p.block hp hn)
theorem Touch.below {B C : Nat} {w w' : World} (h : Touch B w w') (hB : C ≤ B) (hs : C ≤ w.heap.size) : Below C w w' :=
  ⟨h.os, h.tape, h.output, h.size, fun k hk => h.block k (by omega) (by omega)⟩

/-- Block B is a source over the slice cv, which has been asked k times at most. -/
def SrcAt (w : World) (B : Nat) (cv : Value) (k : Nat) : Prop :=
  ∃ (a : Nat) (s : Int), a ≤ k ∧ w.heap[B]? = some (.cells #[cv, .int .i64 a, .int .u64 s] 62 (0, 0))
/-- cv is a slice of bytes that lie below block B. -/
def CodeAt (w : World) (B : Nat) (cv : Value) : Prop :=
  (∃ a cap, cv = .slice a 0 cap) ∨ ∃ (b o len cap : Nat) (z : Nat → Int), cv = .slice (some ⟨b, o, none⟩) len cap ∧ b < B ∧ len ≤ 9223372036854775807 ∧ ∀ i, i < len → w.cell? ⟨b, o + i, none⟩ = some (.int .u8 (z i)) ∧ 0 ≤ z i ∧ z i ≤ 255
theorem CodeAt.touch {w w' : World} {B : Nat} {cv : Value} (h : CodeAt w B cv) (ht : Touch B w w') (hB : B < w.heap.size) : CodeAt w' B cv := by
  rcases h with h | ⟨b, o, len, cap, z, h1, h2, h3, h4⟩
  · exact .inl h
  · exact .inr ⟨b, o, len, cap, z, h1, h2, h3, fun i hi => ⟨(ht.cell (p := ⟨b, o + i, none⟩) (Nat.lt_trans h2 hB) (Nat.ne_of_lt h2)).trans (h4 i hi).1, (h4 i hi).2⟩⟩

/-- A number in bounds; the source asked k times at most; nothing else has turned. -/
def Drawn (w : World) (B : Nat) (cv : Value) (k : Nat) (lo hi : Int) (e : Ending) (w' : World) : Prop :=
  ∃ r : Int, lo ≤ r ∧ r ≤ hi ∧ e = .returned (.int .i64 r) ∧ SrcAt w' B cv k ∧ Touch B w w'

theorem block_set3 {w : World} {B : Nat} {x0 x1 x2 : Value} {t : TypeId} (h : w.heap[B]? = some (.cells #[x0, x1, x2] t (0, 0))) (y1 y2 : Value) :
    ((w.setCell ⟨B, 1, none⟩ y1).setCell ⟨B, 2, none⟩ y2).heap[B]? = some (.cells #[x0, y1, y2] t (0, 0)) := by
  have h1 := block_setCell (i := 1) h y1
  have h2 := block_setCell (i := 2) h1 y2
  simpa using h2

theorem u64_bounds (n : Int) : 0 ≤ IntKind.u64.wrap n ∧ IntKind.u64.wrap n ≤ 18446744073709551615 := by
  have h : (Lit.int .u64 (IntKind.u64.wrap n)).wf = true := wf_wrap .u64 n
  simpa [Lit.wf, IntKind.min, IntKind.max, IntKind.signed, IntKind.bits] using h
/-- The low byte of a word's upper part. -/
theorem low_byte (n : Int) : 0 ≤ wrap64 (bits BinOp.and IntKind.u64 (IntKind.u64.wrap n / 1099511627776) 255) ∧ wrap64 (bits BinOp.and IntKind.u64 (IntKind.u64.wrap n / 1099511627776) 255) ≤ 255 := by
  obtain ⟨h0, h1⟩ := u64_bounds n
  generalize IntKind.u64.wrap n = x at h0 h1
  have e : ((x / 1099511627776).toNat : Int) = x / 1099511627776 := by omega
  have h := bits_and_u64_nat (x / 1099511627776).toNat 255 (by omega) (by omega)
  rw [e] at h
  have h' : bits BinOp.and IntKind.u64 (x / 1099511627776) 255 = (((x / 1099511627776).toNat &&& 255 : Nat) : Int) := h
  rw [h']
  have hb : ((x / 1099511627776).toNat &&& 255) ≤ 255 := Nat.and_le_right
  rw [IntWalk.wrap64_in _ ⟨by omega, by omega⟩]
  omega

set_option maxHeartbeats 1600000 in
theorem src_next (w : World) (B : Nat) (cv : Value) (k : Nat) (hk : k ≤ 1000000) (hs : SrcAt w B cv k) (hc : CodeAt w B cv) :
    Calls Tryd.prog 39 #[.pointer (some ⟨B, 0, none⟩)] w (Drawn w B cv (k + 1) 0 255) := by
  obtain ⟨a, s, hak, hb⟩ := hs
  have c0 : w.cell? ⟨B, 0, none⟩ = some cv := by rw [cell_of_block hb]; rfl
  have c1 : w.cell? ⟨B, 1, none⟩ = some (.int .i64 a) := by rw [cell_of_block hb]; rfl
  have c2 : w.cell? ⟨B, 2, none⟩ = some (.int .u64 s) := by rw [cell_of_block hb]; rfl
  have f1 : w.frozen? ⟨B, 1, none⟩ = false := unfrozen_of_block hb 1
  have f2 : w.frozen? ⟨B, 2, none⟩ = false := unfrozen_of_block hb 2
  have ha0 : (0 : Int) ≤ (a : Int) := by omega
  have HB := Lib.hid hb
  clear hb
  rcases hc with ⟨p0, cap0, rfl⟩ | ⟨b, o, len, cap, z, rfl, hbB, hlen, hz⟩
  · have ha1 : ¬ (a : Int) < 0 := by omega
    go_enter Tryd.func39, Tryd.ntmps39
    go_wp2
    go_region
    go_wp2
    go_region
    go_wp2
    go_ret
    have lb := low_byte (IntKind.u64.wrap (IntKind.u64.wrap (s * 6364136223846793005)) + 1442695040888963407)
    exact ⟨_, lb.1, lb.2, rfl, ⟨a + 1, _, by omega, block_set3 HB.out _ _⟩, (((Touch.refl B w).setCell 1 _).setCell 2 _).drew.drew⟩
  · by_cases hal : a < len
    · have ha1 : (a : Int) < (len : Int) := by omega
      have hb0 := (hz a hal).1
      have hb1 := (hz a hal).2.1
      have hb2 := (hz a hal).2.2
      clear hz
      go_enter Tryd.func39, Tryd.ntmps39
      go_wp2
      go_region
      go_wp2
      go_region
      go_wp2
      go_region
      go_wp2
      go_ret
      exact ⟨_, hb1, hb2, rfl, ⟨a + 1, _, by omega, block_set3 HB.out _ _⟩, (((Touch.refl B w).drew.drew.setCell 1 _).setCell 2 _).drew⟩
    · have ha1 : ¬ (a : Int) < (len : Int) := by omega
      clear hz
      go_enter Tryd.func39, Tryd.ntmps39
      go_wp2
      go_region
      go_wp2
      go_region
      go_wp2
      go_ret
      have lb := low_byte (IntKind.u64.wrap (IntKind.u64.wrap (s * 6364136223846793005)) + 1442695040888963407)
      exact ⟨_, lb.1, lb.2, rfl, ⟨a + 1, _, by omega, block_set3 HB.out _ _⟩, (((Touch.refl B w).setCell 1 _).setCell 2 _).drew.drew⟩

/-- A source as it is handed through a call that began in w0. -/
structure Src (w0 w : World) (B : Nat) (cv : Value) (k : Nat) : Prop where
  at' : SrcAt w B cv k
  code : CodeAt w B cv
  touch : Touch B w0 w
  lt : B < w.heap.size
theorem Src.next {w0 w w' : World} {B : Nat} {cv : Value} {k k' : Nat} (h : Src w0 w B cv k) (hs : SrcAt w' B cv k') (ht : Touch B w w') : Src w0 w' B cv k' :=
  ⟨hs, h.code.touch ht h.lt, h.touch.trans ht, Nat.lt_of_lt_of_le h.lt ht.size⟩
theorem SrcAt.mono {w : World} {B : Nat} {cv : Value} {k k' : Nat} (h : SrcAt w B cv k) (hk : k ≤ k') : SrcAt w B cv k' := by
  obtain ⟨a, s, h1, h2⟩ := h
  exact ⟨a, s, Nat.le_trans h1 hk, h2⟩
theorem Src.mono {w0 w : World} {B : Nat} {cv : Value} {k k' : Nat} (h : Src w0 w B cv k) (hk : k ≤ k') : Src w0 w B cv k' := ⟨h.at'.mono hk, h.code, h.touch, h.lt⟩
theorem touch_alloc (B : Nat) (w : World) (o : Obj) : Touch B w (w.alloc o) := ⟨rfl, rfl, rfl, by simp, fun k hk _ => Below.heap_alloc w o k hk⟩
theorem touch_setCell (B g o : Nat) (w0 w : World) (v : Value) (h : Touch B w0 w) (hg : w0.heap.size ≤ g) : Touch B w0 (w.setCell ⟨g, o, none⟩ v) :=
  h.trans' (w.setCell ⟨g, o, none⟩ v) rfl rfl rfl (by simp [World.setCell]) (fun k hk => Below.heap_setCell w ⟨g, o, none⟩ v k (by show k ≠ g; omega))
theorem Src.alloc {w0 w : World} {B : Nat} {cv : Value} {k : Nat} (h : Src w0 w B cv k) (o : Obj) : Src w0 (w.alloc o) B cv k := by
  obtain ⟨a, s, h1, h2⟩ := h.at'
  exact ⟨⟨a, s, h1, (Below.heap_alloc w o B h.lt).trans h2⟩, h.code.touch (touch_alloc B w o) h.lt, h.touch.trans (touch_alloc B w o), by have := h.lt; simp; omega⟩
theorem Src.drew {w0 w : World} {B : Nat} {cv : Value} {k : Nat} (h : Src w0 w B cv k) : Src w0 w.drew B cv k := ⟨h.at', h.code.touch (Touch.refl B w).drew h.lt, h.touch.drew, h.lt⟩
theorem Src.setCell {w0 w : World} {B : Nat} {cv : Value} {k : Nat} (h : Src w0 w B cv k) (hB : B < w0.heap.size) {g : Nat} (hg : w0.heap.size ≤ g) (o : Nat) (v : Value) : Src w0 (w.setCell ⟨g, o, none⟩ v) B cv k := by
  have hgB : B ≠ g := by omega
  obtain ⟨a, s, h1, h2⟩ := h.at'
  refine ⟨⟨a, s, h1, (Below.heap_setCell w ⟨g, o, none⟩ v B hgB).trans h2⟩, ?_, touch_setCell B g o w0 w v h.touch hg, by simpa [World.setCell] using h.lt⟩
  rcases h.code with hc | ⟨b, o', len, cap, z, e1, e2, e3, e4⟩
  · exact .inl hc
  · exact .inr ⟨b, o', len, cap, z, e1, e2, e3, fun i hi => ⟨(World.cell?_of_block (w := w) (a := ⟨b, o' + i, none⟩) (Below.heap_setCell w ⟨g, o, none⟩ v b (by show b ≠ g; omega))).trans (e4 i hi).1, (e4 i hi).2⟩⟩

/-- What drawing a number leaves. -/
def Picked (w0 w : World) (B : Nat) (cv : Value) (k : Nat) (n : Int) (e : Ending) (w' : World) : Prop :=
  ∃ r : Int, 0 ≤ r ∧ r ≤ n - 1 ∧ e = .returned (.int .i64 r) ∧ Src w0 w' B cv k ∧ Touch B w w'
def Said1 (w0 w : World) (B : Nat) (cv : Value) (k : Nat) (e : Ending) (w' : World) : Prop :=
  ∃ b : Bool, e = .returned (.bool b) ∧ Src w0 w' B cv k ∧ Touch B w w'

set_option maxHeartbeats 800000 in
theorem src_pick (w0 w : World) (B : Nat) (cv : Value) (k : Nat) (n : Int) (hn : 1 ≤ n) (hn' : n ≤ 1000000000) (hk : k ≤ 999998) (h : Src w0 w B cv k) :
    Calls Tryd.prog 26 #[.pointer (some ⟨B, 0, none⟩), .int .i64 n] w (Picked w0 w B cv (k + 2) n) := by
  have HS := Lib.hid h
  clear h
  by_cases h1 : n ≤ 1
  · go_enter Tryd.func26, Tryd.ntmps26
    go_wp2_with fail
    go_ret
    exact ⟨0, by omega, by omega, rfl, HS.out.mono (by omega), Touch.refl _ _⟩
  · have hz : ¬ n = 0 := by omega
    by_cases h2 : 200 < n
    · go_enter Tryd.func26, Tryd.ntmps26
      go_wp2_with fail
      refine (src_next _ B cv k (by omega) HS.out.at' HS.out.code).mono ?_
      rintro e w1 ⟨r, hr0, hr1, rfl, hs1, ht1⟩
      have H1 := Lib.hid (HS.out.next hs1 ht1)
      have T1 := Lib.hid ht1
      clear hs1 ht1
      go_wp2_with fail
      refine (src_next _ B cv (k + 1) (by omega) H1.out.at' H1.out.code).mono ?_
      rintro e w2 ⟨q, hq0, hq1, rfl, hs2, ht2⟩
      have H2 := Lib.hid (H1.out.next hs2 ht2)
      have T2 := Lib.hid (T1.out.trans ht2)
      clear hs2 ht2
      go_wp2
      go_ret
      have m1 := Int.emod_nonneg (r * 256 + q) hz
      have m2 := Int.emod_lt_of_pos (r * 256 + q) (show 0 < n by omega)
      exact ⟨_, m1, by omega, rfl, H2.out, T2.out⟩
    · go_enter Tryd.func26, Tryd.ntmps26
      go_wp2_with fail
      refine (src_next _ B cv k (by omega) HS.out.at' HS.out.code).mono ?_
      rintro e w1 ⟨r, hr0, hr1, rfl, hs1, ht1⟩
      have H1 := Lib.hid (HS.out.next hs1 ht1)
      have T1 := Lib.hid ht1
      clear hs1 ht1
      go_wp2
      go_ret
      have m1 := Int.emod_nonneg r hz
      have m2 := Int.emod_lt_of_pos r (show 0 < n by omega)
      exact ⟨_, m1, by omega, rfl, H1.out.mono (by omega), T1.out⟩

set_option maxHeartbeats 400000 in
theorem src_one (w0 w : World) (B : Nat) (cv : Value) (k : Nat) (n : Int) (hn : 1 ≤ n) (hn' : n ≤ 1000000000) (hk : k ≤ 999998) (h : Src w0 w B cv k) :
    Calls Tryd.prog 27 #[.pointer (some ⟨B, 0, none⟩), .int .i64 n] w (Said1 w0 w B cv (k + 2)) := by
  have HS := Lib.hid h
  clear h
  go_enter Tryd.func27, Tryd.ntmps27
  go_wp2_with fail
  refine (src_pick w0 _ B cv k n hn hn' hk HS.out).mono ?_
  rintro e w1 ⟨r, hr0, hr1, rfl, h1, ht⟩
  have H1 := Lib.hid h1
  have T1 := Lib.hid ht
  clear h1 ht
  go_wp2
  go_ret
  exact ⟨_, rfl, H1.out, T1.out⟩

set_option maxHeartbeats 400000 in
/-- A new source over the slice that came in. -/
theorem src_from (w : World) (cv : Value) (hcv : CodeAt w w.heap.size cv) (hsl : ∃ a l c, cv = .slice a l c) : Calls Tryd.prog 14 #[cv] w fun e w' => e = .returned (.pointer (some ⟨w.heap.size, 0, none⟩)) ∧ w.alloc (.cells #[cv, .int .i64 0, .int .u64 0] 62) = w' := by
  obtain ⟨a, l, c, rfl⟩ := hsl
  clear hcv
  go_enter Tryd.func14, Tryd.ntmps14
  go_wp2
  go_ret
  exact ⟨rfl, rfl⟩
theorem src_new (w : World) (cv : Value) (hcv : CodeAt w w.heap.size cv) : Src (w.alloc (.cells #[cv, .int .i64 0, .int .u64 0] 62)) (w.alloc (.cells #[cv, .int .i64 0, .int .u64 0] 62)) w.heap.size cv 0 := by
  refine ⟨⟨0, 0, Nat.le_refl _, heap_alloc_new w _⟩, ?_, Touch.refl _ _, by simp⟩
  rcases hcv with h | ⟨b, o, len, cap, z, h1, h2, h3, h4⟩
  · exact .inl h
  · exact .inr ⟨b, o, len, cap, z, h1, h2, h3, fun i hi => ⟨(World.cell?_alloc_lt _ _ _ h2).trans (h4 i hi).1, (h4 i hi).2⟩⟩
end Go.Proofs.YtpholgfkaolfjaaDoor
