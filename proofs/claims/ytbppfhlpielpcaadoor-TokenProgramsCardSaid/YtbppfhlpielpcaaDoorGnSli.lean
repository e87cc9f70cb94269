/- The generator: statements in the making. The generator: a statement behind the region that makes it, whatever the order. The generator: steps of a statement in the making. -/
import Derived.Test.YtbppfhlpielpcaaDoorGnCtb
namespace Go.Proofs.YtbppfhlpielpcaaDoor
open Go.RowKit
set_option linter.unusedVariables false
/-- The maker, a step from a world w0 on. -/
def Sg (C : Cx) (s : Ms) (w0 : World) (w' : World) : Prop := Mks C s w' ∧ Gen C.D C.M C.B w0 w'
section
variable {C : Cx} {s : Ms} {w w0 w1 : World}
theorem Sg.drew (h : Sg C s w0 w) : Sg C s w0 w.drew := ⟨h.1.drewN 1, h.2.drew⟩
theorem Sg.alloc (h : Sg C s w0 w) (o : Obj) : Sg C s w0 (w.alloc o) := ⟨h.1.alloc o, h.2.alloc o⟩
theorem Sg.step (h : Sg C s w0 w) (hm : Mks C s w1) (hg : Gen C.D C.M C.B w w1) : Sg C s w0 w1 := ⟨hm, h.2.trans hg⟩
theorem Sg.h6 (h : Sg C s w0 w) : w.cell? ⟨C.M, 6, none⟩ = some (.int .i64 s.lab) ∧ Sg C s w0 w := ⟨h.1.c6, h⟩
abbrev zSt : Array Value := #[.int .i64 0, .string ⟨#[]⟩, .slice none 0 0, .slice none 0 0, .int .i64 0, .int .i64 0, .slice none 0 0, .slice none 0 0]
/-- Eight cells of a block are set. -/
abbrev set8 (w : World) (g : Nat) (a b c d e f g' h : Value) : World :=
  (((((((w.setCell ⟨g, 0, none⟩ a).setCell ⟨g, 1, none⟩ b).setCell ⟨g, 2, none⟩ c).setCell ⟨g, 3, none⟩ d).setCell ⟨g, 4, none⟩ e).setCell ⟨g, 5, none⟩ f).setCell ⟨g, 6, none⟩ g').setCell ⟨g, 7, none⟩ h
theorem Blk.set8 {w : World} {g : Nat} {t : TypeId} {a b c d e f g' h a1 b1 c1 d1 e1 f1 g1 h1 : Value} (hb : Blk w g t #[a, b, c, d, e, f, g', h]) : Blk (set8 w g a1 b1 c1 d1 e1 f1 g1 h1) g t #[a1, b1, c1, d1, e1, f1, g1, h1] := by
  have x0 : Blk _ g t #[a1, b, c, d, e, f, g', h] := hb.set 0 a1
  have x1 : Blk _ g t #[a1, b1, c, d, e, f, g', h] := x0.set 1 b1
  have x2 : Blk _ g t #[a1, b1, c1, d, e, f, g', h] := x1.set 2 c1
  have x3 : Blk _ g t #[a1, b1, c1, d1, e, f, g', h] := x2.set 3 d1
  have x4 : Blk _ g t #[a1, b1, c1, d1, e1, f, g', h] := x3.set 4 e1
  have x5 : Blk _ g t #[a1, b1, c1, d1, e1, f1, g', h] := x4.set 5 f1
  have x6 : Blk _ g t #[a1, b1, c1, d1, e1, f1, g1, h] := x5.set 6 g1
  exact x6.set 7 h1
theorem Blk.eight {w : World} {g : Nat} {t : TypeId} {a b c d e f g' h : Value} (hb : Blk w g t #[a, b, c, d, e, f, g', h]) :
    (w.cell? ⟨g, 0, none⟩ = some a ∧ w.cell? ⟨g, 1, none⟩ = some b ∧ w.cell? ⟨g, 2, none⟩ = some c ∧ w.cell? ⟨g, 3, none⟩ = some d ∧ w.cell? ⟨g, 4, none⟩ = some e ∧ w.cell? ⟨g, 5, none⟩ = some f ∧ w.cell? ⟨g, 6, none⟩ = some g' ∧ w.cell? ⟨g, 7, none⟩ = some h) ∧
    w.frozen? ⟨g, 0, none⟩ = false ∧ w.frozen? ⟨g, 1, none⟩ = false ∧ w.frozen? ⟨g, 2, none⟩ = false ∧ w.frozen? ⟨g, 3, none⟩ = false ∧ w.frozen? ⟨g, 4, none⟩ = false ∧ w.frozen? ⟨g, 5, none⟩ = false ∧ w.frozen? ⟨g, 6, none⟩ = false ∧ w.frozen? ⟨g, 7, none⟩ = false :=
  ⟨⟨hb.cell 0, hb.cell 1, hb.cell 2, hb.cell 3, hb.cell 4, hb.cell 5, hb.cell 6, hb.cell 7⟩, hb.frozen 0, hb.frozen 1, hb.frozen 2, hb.frozen 3, hb.frozen 4, hb.frozen 5, hb.frozen 6, hb.frozen 7⟩
theorem Sg.set (hs : Sg C s w0 w) {g : Nat} {cs : Array Value} (hb : Blk w g 88 cs) (hg : w0.heap.size ≤ g) (hB : C.B ≤ g) (i : Nat) (u : Value) : Sg C s w0 (w.setCell ⟨g, i, none⟩ u) :=
  ⟨hs.1.far hb (.inr rfl) hB i u, hs.2.set (.inr (.inr hg)) u⟩
theorem Sg.set8 (hB0 : C.B ≤ w0.heap.size) (hs : Sg C s w0 w) {g : Nat} {a b c d e f g' h : Value} (hb : Blk w g 88 #[a, b, c, d, e, f, g', h]) (hg : w0.heap.size ≤ g) (a1 b1 c1 d1 e1 f1 g1 h1 : Value) : Sg C s w0 (Go.Proofs.YtbppfhlpielpcaaDoor.set8 w g a1 b1 c1 d1 e1 f1 g1 h1) := by
  have hB : C.B ≤ g := Nat.le_trans hB0 hg
  exact (((((((hs.set hb hg hB 0 a1).set (hb.set 0 a1) hg hB 1 b1).set ((hb.set 0 a1).set 1 b1) hg hB 2 c1).set (((hb.set 0 a1).set 1 b1).set 2 c1) hg hB 3 d1).set ((((hb.set 0 a1).set 1 b1).set 2 c1).set 3 d1) hg hB 4 e1).set (((((hb.set 0 a1).set 1 b1).set 2 c1).set 3 d1).set 4 e1) hg hB 5 f1).set ((((((hb.set 0 a1).set 1 b1).set 2 c1).set 3 d1).set 4 e1).set 5 f1) hg hB 6 g1).set (((((((hb.set 0 a1).set 1 b1).set 2 c1).set 3 d1).set 4 e1).set 5 f1).set 6 g1) hg hB 7 h1
theorem blk_drew_new (w : World) (t : TypeId) (cs : Array Value) : Blk (w.alloc (.cells cs t)).drew w.heap.size t cs := Blk.new w t cs
/-- A statement that is being made in block g. -/
def StB (m : Nat) (W : World) (g : Nat) (k : Int) (s : ByteArray) (B2 B3 B6 B7 : Option Addr) (c2 c3 c6 c7 : Nat) (i v : Exs) (mx l : Int) (t e : Sts) : Prop :=
  Blk W g 88 #[.int .i64 k, .string s, .slice B2 i.len c2, .slice B3 v.len c3, .int .i64 mx, .int .i64 l, .slice B6 t.len c6, .slice B7 e.len c7] ∧ m ≤ g ∧
  (i.len ≤ c2 ∧ i.At W (fun b => Fr m W b ∧ b ≠ g) B2) ∧ (v.len ≤ c3 ∧ v.At W (fun b => Fr m W b ∧ b ≠ g) B3) ∧ (t.len ≤ c6 ∧ t.At W (fun b => Fr m W b ∧ b ≠ g) B6) ∧ (e.len ≤ c7 ∧ e.At W (fun b => Fr m W b ∧ b ≠ g) B7)
section
variable {m g : Nat} {W W' : World} {k : Int} {x : ByteArray} {B2 B3 B6 B7 : Option Addr} {c2 c3 c6 c7 : Nat} {i v : Exs} {mx l : Int} {t e : Sts}
theorem StB.keep (h : StB m W g k x B2 B3 B6 B7 c2 c3 c6 c7 i v mx l t e) (hs : W.heap.size ≤ W'.heap.size) (hk : ∀ b, Tr W b → b < W.heap.size → W'.heap[b]? = W.heap[b]?) : StB m W' g k x B2 B3 B6 B7 c2 c3 c6 c7 i v mx l t e := by
  obtain ⟨h1, hm, h2, h3, h4, h5⟩ := h
  have hS : ∀ b, (Fr m W b ∧ b ≠ g) → b < W.heap.size → (Fr m W' b ∧ b ≠ g) ∧ ∀ f, W'.cell? ⟨b, f, none⟩ = W.cell? ⟨b, f, none⟩ := fun b hb hl => by
    have q := hk b hb.1.2 hl
    exact ⟨⟨⟨hb.1.1, by unfold Tr; rw [tag_same q]; exact hb.1.2⟩, hb.2⟩, fun f => World.cell?_of_block q⟩
  exact ⟨(hk g (.inr h1.tag) h1.lt).trans h1, hm, ⟨h2.1, h2.2.keep hs hS⟩, ⟨h3.1, h3.2.keep hs hS⟩, ⟨h4.1, h4.2.keep hs hS⟩, ⟨h5.1, h5.2.keep hs hS⟩⟩
theorem StB.step (h : StB m W g k x B2 B3 B6 B7 c2 c3 c6 c7 i v mx l t e) (hm : Mks C s W) (hg : Gen C.D C.M C.B W W') : StB m W' g k x B2 B3 B6 B7 c2 c3 c6 c7 i v mx l t e :=
  h.keep hg.size fun b hb hl => hg.tr hm.dTag hm.mTag hb hl
theorem set_keep {i : Nat} {u : Value} : ∀ b, (Fr m W b ∧ b ≠ g) → b < W.heap.size → (Fr m (W.setCell ⟨g, i, none⟩ u) b ∧ b ≠ g) ∧ ∀ f, (W.setCell ⟨g, i, none⟩ u).cell? ⟨b, f, none⟩ = W.cell? ⟨b, f, none⟩ := fun b hb hl => by
  have q : (W.setCell ⟨g, i, none⟩ u).heap[b]? = W.heap[b]? := Below.heap_setCell W _ u b hb.2
  exact ⟨⟨⟨hb.1.1, by unfold Tr; rw [tag_same q]; exact hb.1.2⟩, hb.2⟩, fun f => World.cell?_of_block q⟩
theorem fr_ne {n : Nat} (hn : g < n) (hm : m ≤ n) : ∀ b, Fr n W b → b < W.heap.size → (Fr m W b ∧ b ≠ g) ∧ ∀ f, W.cell? ⟨b, f, none⟩ = W.cell? ⟨b, f, none⟩ := fun b hb _ => ⟨⟨⟨by have := hb.1; omega, hb.2⟩, by have := hb.1; omega⟩, fun _ => rfl⟩
/-- The block of its 'then' is set. -/
theorem StB.setThen (h : StB m W g k x B2 B3 B6 B7 c2 c3 c6 c7 i v mx l t e) {n : Nat} {A : Option Addr} {c : Nat} {t' : Sts} (hn : g < n) (hm : m ≤ n) (hc : t'.len ≤ c) (ha : t'.At W (Fr n W) A) :
    StB m (W.setCell ⟨g, 6, none⟩ (.slice A t'.len c)) g k x B2 B3 A B7 c2 c3 c c7 i v mx l t' e := by
  obtain ⟨h1, hm', h2, h3, h4, h5⟩ := h
  exact ⟨h1.set 6 (.slice A t'.len c), hm', ⟨h2.1, h2.2.keep (by simp) set_keep⟩, ⟨h3.1, h3.2.keep (by simp) set_keep⟩, ⟨hc, (ha.keep (Nat.le_refl _) (fr_ne hn hm)).keep (by simp) set_keep⟩, ⟨h5.1, h5.2.keep (by simp) set_keep⟩⟩
theorem StB.setElse (h : StB m W g k x B2 B3 B6 B7 c2 c3 c6 c7 i v mx l t e) {n : Nat} {A : Option Addr} {c : Nat} {t' : Sts} (hn : g < n) (hm : m ≤ n) (hc : t'.len ≤ c) (ha : t'.At W (Fr n W) A) :
    StB m (W.setCell ⟨g, 7, none⟩ (.slice A t'.len c)) g k x B2 B3 B6 A c2 c3 c6 c i v mx l t t' := by
  obtain ⟨h1, hm', h2, h3, h4, h5⟩ := h
  exact ⟨h1.set 7 (.slice A t'.len c), hm', ⟨h2.1, h2.2.keep (by simp) set_keep⟩, ⟨h3.1, h3.2.keep (by simp) set_keep⟩, ⟨h4.1, h4.2.keep (by simp) set_keep⟩, ⟨hc, (ha.keep (Nat.le_refl _) (fr_ne hn hm)).keep (by simp) set_keep⟩⟩
theorem StB.setValue (h : StB m W g k x B2 B3 B6 B7 c2 c3 c6 c7 i v mx l t e) {n : Nat} {A : Option Addr} {c : Nat} {v' : Exs} (hn : g < n) (hm : m ≤ n) (hc : v'.len ≤ c) (ha : v'.At W (Fr n W) A) :
    StB m (W.setCell ⟨g, 3, none⟩ (.slice A v'.len c)) g k x B2 A B6 B7 c2 c c6 c7 i v' mx l t e := by
  obtain ⟨h1, hm', h2, h3, h4, h5⟩ := h
  exact ⟨h1.set 3 (.slice A v'.len c), hm', ⟨h2.1, h2.2.keep (by simp) set_keep⟩, ⟨hc, (ha.keep (Nat.le_refl _) (fr_ne hn hm)).keep (by simp) set_keep⟩, ⟨h4.1, h4.2.keep (by simp) set_keep⟩, ⟨h5.1, h5.2.keep (by simp) set_keep⟩⟩
/-- It is copied into a row of its own, and handed back. -/
theorem StB.row (h : StB m W g k x B2 B3 B6 B7 c2 c3 c6 c7 i v mx l t e) {ht : Nat} (hgood : (Sts.cons k x i v mx l t e .nil).Good) (hh : (Sts.cons k x i v mx l t e .nil).height ≤ ht) :
    StOut m ht (W.alloc (.cells #[.int .i64 k, .string x, .slice B2 i.len c2, .slice B3 v.len c3, .int .i64 mx, .int .i64 l, .slice B6 t.len c6, .slice B7 e.len c7] 88)) (.cons k x i v mx l t e .nil) (.slice (some ⟨W.heap.size, 0, none⟩) 1 1) := by
  obtain ⟨h1, hm', h2, h3, h4, h5⟩ := h
  have hlt := h1.lt
  generalize ho : (Obj.cells #[.int .i64 k, .string x, .slice B2 i.len c2, .slice B3 v.len c3, .int .i64 mx, .int .i64 l, .slice B6 t.len c6, .slice B7 e.len c7] 88) = O
  have hk : ∀ b, (Fr m W b ∧ b ≠ g) → b < W.heap.size → (Fr m (W.alloc O) b ∧ some b ≠ (Value.slice (some ⟨W.heap.size, 0, none⟩) 1 1).ownBlock) ∧ ∀ f, (W.alloc O).cell? ⟨b, f, none⟩ = W.cell? ⟨b, f, none⟩ := fun b hb hl => by
    have q := Below.heap_alloc W O b hl
    exact ⟨⟨⟨hb.1.1, by unfold Tr; rw [tag_same q]; exact hb.1.2⟩, by intro e; simp [Value.ownBlock] at e; omega⟩, fun f => World.cell?_of_block q⟩
  refine ⟨_, ?_, ⟨B2, c2, B3, c3, B6, c6, B7, c7, [], rfl, ⟨h2.1, h2.2.keep (by simp) hk⟩, ⟨h3.1, h3.2.keep (by simp) hk⟩, ⟨h4.1, h4.2.keep (by simp) hk⟩, ⟨h5.1, h5.2.keep (by simp) hk⟩, rfl⟩, hgood, hh⟩
  subst ho
  exact World.ownsRow_lit (base := m) (e := 88) (size := 8) W _ 1 (by omega) (by unfold maxLen; omega) rfl
theorem StB.eight (h : StB m W g k x B2 B3 B6 B7 c2 c3 c6 c7 i v mx l t e) : (W.cell? ⟨g, 0, none⟩ = some (.int .i64 k) ∧ W.cell? ⟨g, 1, none⟩ = some (.string x) ∧ W.cell? ⟨g, 2, none⟩ = some (.slice B2 i.len c2) ∧ W.cell? ⟨g, 3, none⟩ = some (.slice B3 v.len c3) ∧ W.cell? ⟨g, 4, none⟩ = some (.int .i64 mx) ∧
    W.cell? ⟨g, 5, none⟩ = some (.int .i64 l) ∧ W.cell? ⟨g, 6, none⟩ = some (.slice B6 t.len c6) ∧ W.cell? ⟨g, 7, none⟩ = some (.slice B7 e.len c7)) ∧
    W.frozen? ⟨g, 0, none⟩ = false ∧ W.frozen? ⟨g, 1, none⟩ = false ∧ W.frozen? ⟨g, 2, none⟩ = false ∧ W.frozen? ⟨g, 3, none⟩ = false ∧ W.frozen? ⟨g, 4, none⟩ = false ∧ W.frozen? ⟨g, 5, none⟩ = false ∧ W.frozen? ⟨g, 6, none⟩ = false ∧ W.frozen? ⟨g, 7, none⟩ = false := h.1.eight
end
end
end Go.Proofs.YtbppfhlpielpcaaDoor
namespace Go.Proofs.YtbppfhlpielpcaaDoor
open Go.RowKit
set_option linter.unusedVariables false
section
variable {C : Cx} {s : Ms}
theorem set8_heap {w : World} {g : Nat} {a b c d e f g' h : Value} {q : Nat} (hq : q ≠ g) : (set8 w g a b c d e f g' h).heap[q]? = w.heap[q]? := by
  have hk : ∀ (W : World) (i : Nat) (u : Value), (W.setCell ⟨g, i, none⟩ u).heap[q]? = W.heap[q]? := fun W i u => Below.heap_setCell W _ u q hq
  unfold set8
  rw [hk, hk, hk, hk, hk, hk, hk, hk]
theorem set8_size {w : World} {g : Nat} {a b c d e f g' h : Value} : (set8 w g a b c d e f g' h).heap.size = w.heap.size := by simp [set8]
theorem at_to {w W : World} {n m g : Nat} {a : Exs} {A : Option Addr} (h : a.At w (Fr n w) A) (hz : w.heap.size ≤ W.heap.size) (hm : m ≤ n) (hk : ∀ b, n ≤ b → b < w.heap.size → b ≠ g ∧ W.heap[b]? = w.heap[b]?) : a.At W (fun b => Fr m W b ∧ b ≠ g) A :=
  h.keep hz fun b hb hl => by
    obtain ⟨h1, h2⟩ := hk b hb.1 hl
    exact ⟨⟨⟨by have := hb.1; omega, by unfold Tr; rw [tag_same h2]; exact hb.2⟩, h1⟩, fun f => World.cell?_of_block h2⟩
theorem st_of {W : World} {m g q : Nat} {k0 mx l k n o : Int} {s0 x : ByteArray} {a : Exs} {A : Option Addr} {c : Nat}
    (hb : Blk W g 88 #[.int .i64 k0, .string s0, .slice none 0 0, .slice (some ⟨q, 0, none⟩) 1 1, .int .i64 mx, .int .i64 l, .slice none 0 0, .slice none 0 0])
    (hr : Blk W q 91 #[.int .i64 k, .int .i64 n, .string x, .int .i64 o, .slice A a.len c]) (hqg : q ≠ g) (hmq : m ≤ q) (hmg : m ≤ g) (hc : a.len ≤ c) (ha : a.At W (fun b => Fr m W b ∧ b ≠ g) A) :
    StB m W g k0 s0 none (some ⟨q, 0, none⟩) none none 0 1 0 0 .nil (.cons k n x o a .nil) mx l .nil .nil :=
  ⟨hb, hmg, ⟨Nat.le_refl _, trivial⟩, ⟨Nat.le_refl _, q, 0, rfl, ⟨⟨hmq, .inl hr.tag⟩, hqg⟩, hr.lt, hr.cell 0, hr.cell 1, hr.cell 2, hr.cell 3, ⟨A, c, hr.cell 4, hc, ha⟩, trivial⟩, ⟨Nat.le_refl _, trivial⟩, ⟨Nat.le_refl _, trivial⟩⟩
variable {w0 w4 : World} {k0 mx l k n o : Int} {s0 x : ByteArray} {a : Exs} {A : Option Addr} {c n0 g : Nat}
abbrev exRow (k n : Int) (x : ByteArray) (o : Int) (A : Option Addr) (l c : Nat) : Obj := .cells #[.int .i64 k, .int .i64 n, .string x, .int .i64 o, .slice A l c] 91
abbrev stRow (k0 : Int) (s0 : ByteArray) (q : Nat) (mx l : Int) : Obj := .cells #[.int .i64 k0, .string s0, .slice none 0 0, .slice (some ⟨q, 0, none⟩) 1 1, .int .i64 mx, .int .i64 l, .slice none 0 0, .slice none 0 0] 88
/-- The row, then the block. -/
theorem leafA (hS : Sg C s w0 ((w4.alloc (exRow k n x o A a.len c)).alloc (stRow k0 s0 w4.heap.size mx l))) (he : ExOut n0 3 w4 k n x o a A c) (hn : w0.heap.size ≤ n0) (hz : w0.heap.size ≤ w4.heap.size) :
    StB w0.heap.size ((w4.alloc (exRow k n x o A a.len c)).alloc (stRow k0 s0 w4.heap.size mx l)) (w4.heap.size + 1) k0 s0 none (some ⟨w4.heap.size, 0, none⟩) none none 0 1 0 0 .nil (.cons k n x o a .nil) mx l .nil .nil := by
  have hb := Blk.new (w4.alloc (exRow k n x o A a.len c)) 88 #[.int .i64 k0, .string s0, .slice none 0 0, .slice (some ⟨w4.heap.size, 0, none⟩) 1 1, .int .i64 mx, .int .i64 l, .slice none 0 0, .slice none 0 0]
  rw [World.size_alloc] at hb
  refine st_of hb ((Blk.new w4 91 #[.int .i64 k, .int .i64 n, .string x, .int .i64 o, .slice A a.len c]).alloc _) (by omega) hz (by omega) he.1 (at_to he.2.2.2.2 (by simp; omega) hn fun b _ hl => ⟨by omega, ?_⟩)
  rw [Below.heap_alloc _ _ _ (by simp; omega), Below.heap_alloc _ _ _ hl]
/-- The block, then the row. -/
theorem leafB (hS : Sg C s w0 ((w4.alloc (stRow k0 s0 (w4.heap.size + 1) mx l)).alloc (exRow k n x o A a.len c))) (he : ExOut n0 3 w4 k n x o a A c) (hn : w0.heap.size ≤ n0) (hz : w0.heap.size ≤ w4.heap.size) :
    StB w0.heap.size ((w4.alloc (stRow k0 s0 (w4.heap.size + 1) mx l)).alloc (exRow k n x o A a.len c)) w4.heap.size k0 s0 none (some ⟨w4.heap.size + 1, 0, none⟩) none none 0 1 0 0 .nil (.cons k n x o a .nil) mx l .nil .nil := by
  have hr := Blk.new (w4.alloc (stRow k0 s0 (w4.heap.size + 1) mx l)) 91 #[.int .i64 k, .int .i64 n, .string x, .int .i64 o, .slice A a.len c]
  rw [World.size_alloc] at hr
  refine st_of ((Blk.new w4 88 #[.int .i64 k0, .string s0, .slice none 0 0, .slice (some ⟨w4.heap.size + 1, 0, none⟩) 1 1, .int .i64 mx, .int .i64 l, .slice none 0 0, .slice none 0 0]).alloc _) hr (by omega) (by omega) hz he.1 (at_to he.2.2.2.2 (by simp; omega) hn fun b _ hl => ⟨by omega, ?_⟩)
  rw [Below.heap_alloc _ _ _ (by simp; omega), Below.heap_alloc _ _ _ hl]
/-- The block before the call, then the row. -/
theorem leafC (hS : Sg C s w0 ((set8 w4 g (.int .i64 k0) (.string s0) (.slice none 0 0) (.slice (some ⟨w4.heap.size, 0, none⟩) 1 1) (.int .i64 mx) (.int .i64 l) (.slice none 0 0) (.slice none 0 0)).alloc (exRow k n x o A a.len c))) (hb : Blk w4 g 88 zSt) (he : ExOut n0 3 w4 k n x o a A c) (hn : w0.heap.size ≤ n0) (hz : w0.heap.size ≤ w4.heap.size) (hg : g < n0) (hg0 : w0.heap.size ≤ g) :
    StB w0.heap.size ((set8 w4 g (.int .i64 k0) (.string s0) (.slice none 0 0) (.slice (some ⟨w4.heap.size, 0, none⟩) 1 1) (.int .i64 mx) (.int .i64 l) (.slice none 0 0) (.slice none 0 0)).alloc (exRow k n x o A a.len c)) g k0 s0 none (some ⟨w4.heap.size, 0, none⟩) none none 0 1 0 0 .nil (.cons k n x o a .nil) mx l .nil .nil := by
  have hlt := hb.lt
  have hr := Blk.new (set8 w4 g (.int .i64 k0) (.string s0) (.slice none 0 0) (.slice (some ⟨w4.heap.size, 0, none⟩) 1 1) (.int .i64 mx) (.int .i64 l) (.slice none 0 0) (.slice none 0 0)) 91 #[.int .i64 k, .int .i64 n, .string x, .int .i64 o, .slice A a.len c]
  rw [set8_size] at hr
  refine st_of (hb.set8.alloc _) hr (by omega) hz hg0 he.1 (at_to he.2.2.2.2 (by simp) hn fun b hb' hl => ⟨by omega, ?_⟩)
  rw [Below.heap_alloc _ _ _ (by rw [set8_size]; exact hl), set8_heap (by omega)]
theorem leafD (hS : Sg C s w0 (set8 (w4.alloc (exRow k n x o A a.len c)) g (.int .i64 k0) (.string s0) (.slice none 0 0) (.slice (some ⟨w4.heap.size, 0, none⟩) 1 1) (.int .i64 mx) (.int .i64 l) (.slice none 0 0) (.slice none 0 0))) (hb : Blk w4 g 88 zSt) (he : ExOut n0 3 w4 k n x o a A c) (hn : w0.heap.size ≤ n0) (hz : w0.heap.size ≤ w4.heap.size) (hg : g < n0) (hg0 : w0.heap.size ≤ g) :
    StB w0.heap.size (set8 (w4.alloc (exRow k n x o A a.len c)) g (.int .i64 k0) (.string s0) (.slice none 0 0) (.slice (some ⟨w4.heap.size, 0, none⟩) 1 1) (.int .i64 mx) (.int .i64 l) (.slice none 0 0) (.slice none 0 0)) g k0 s0 none (some ⟨w4.heap.size, 0, none⟩) none none 0 1 0 0 .nil (.cons k n x o a .nil) mx l .nil .nil := by
  have hlt := hb.lt
  have hr := Blk.new w4 91 #[.int .i64 k, .int .i64 n, .string x, .int .i64 o, .slice A a.len c]
  have hr' : Blk (set8 (w4.alloc (exRow k n x o A a.len c)) g (.int .i64 k0) (.string s0) (.slice none 0 0) (.slice (some ⟨w4.heap.size, 0, none⟩) 1 1) (.int .i64 mx) (.int .i64 l) (.slice none 0 0) (.slice none 0 0)) w4.heap.size 91 #[.int .i64 k, .int .i64 n, .string x, .int .i64 o, .slice A a.len c] := (set8_heap (by omega)).trans hr
  refine st_of (hb.alloc _).set8 hr' (by omega) hz hg0 he.1 (at_to he.2.2.2.2 (by simp) hn fun b hb' hl => ⟨by omega, ?_⟩)
  rw [set8_heap (by omega), Below.heap_alloc _ _ _ hl]
variable {wA : World} {ob : Obj}
theorem leafA' (hS : Sg C s w0 ((w4.alloc (exRow k n x o A a.len c)).alloc (stRow k0 s0 w4.heap.size mx l))) (hs : Sg C s w0 w4) (he : ExOut wA.drew.heap.size 3 w4 k n x o a A c) (hz : w0.heap.size ≤ wA.heap.size) :
    StB w0.heap.size ((w4.alloc (exRow k n x o A a.len c)).alloc (stRow k0 s0 w4.heap.size mx l)) (w4.heap.size + 1) k0 s0 none (some ⟨w4.heap.size, 0, none⟩) none none 0 1 0 0 .nil (.cons k n x o a .nil) mx l .nil .nil := leafA hS he hz hs.2.size
theorem leafB' (hS : Sg C s w0 ((w4.alloc (stRow k0 s0 (w4.heap.size + 1) mx l)).alloc (exRow k n x o A a.len c))) (hs : Sg C s w0 w4) (he : ExOut wA.drew.heap.size 3 w4 k n x o a A c) (hz : w0.heap.size ≤ wA.heap.size) :
    StB w0.heap.size ((w4.alloc (stRow k0 s0 (w4.heap.size + 1) mx l)).alloc (exRow k n x o A a.len c)) w4.heap.size k0 s0 none (some ⟨w4.heap.size + 1, 0, none⟩) none none 0 1 0 0 .nil (.cons k n x o a .nil) mx l .nil .nil := leafB hS he hz hs.2.size
theorem leafC' (hS : Sg C s w0 ((set8 w4 wA.heap.size (.int .i64 k0) (.string s0) (.slice none 0 0) (.slice (some ⟨w4.heap.size, 0, none⟩) 1 1) (.int .i64 mx) (.int .i64 l) (.slice none 0 0) (.slice none 0 0)).alloc (exRow k n x o A a.len c))) (hb : Blk w4 wA.heap.size 88 zSt) (hs : Sg C s w0 w4) (he : ExOut (wA.alloc ob).drew.heap.size 3 w4 k n x o a A c) (hz : w0.heap.size ≤ wA.heap.size) :
    StB w0.heap.size ((set8 w4 wA.heap.size (.int .i64 k0) (.string s0) (.slice none 0 0) (.slice (some ⟨w4.heap.size, 0, none⟩) 1 1) (.int .i64 mx) (.int .i64 l) (.slice none 0 0) (.slice none 0 0)).alloc (exRow k n x o A a.len c)) wA.heap.size k0 s0 none (some ⟨w4.heap.size, 0, none⟩) none none 0 1 0 0 .nil (.cons k n x o a .nil) mx l .nil .nil :=
  leafC hS hb he (by simp; omega) hs.2.size (by simp) hz
theorem leafD' (hS : Sg C s w0 (set8 (w4.alloc (exRow k n x o A a.len c)) wA.heap.size (.int .i64 k0) (.string s0) (.slice none 0 0) (.slice (some ⟨w4.heap.size, 0, none⟩) 1 1) (.int .i64 mx) (.int .i64 l) (.slice none 0 0) (.slice none 0 0))) (hb : Blk w4 wA.heap.size 88 zSt) (hs : Sg C s w0 w4) (he : ExOut (wA.alloc ob).drew.heap.size 3 w4 k n x o a A c) (hz : w0.heap.size ≤ wA.heap.size) :
    StB w0.heap.size (set8 (w4.alloc (exRow k n x o A a.len c)) wA.heap.size (.int .i64 k0) (.string s0) (.slice none 0 0) (.slice (some ⟨w4.heap.size, 0, none⟩) 1 1) (.int .i64 mx) (.int .i64 l) (.slice none 0 0) (.slice none 0 0)) wA.heap.size k0 s0 none (some ⟨w4.heap.size, 0, none⟩) none none 0 1 0 0 .nil (.cons k n x o a .nil) mx l .nil .nil :=
  leafD hS hb he (by simp; omega) hs.2.size (by simp) hz
end
end Go.Proofs.YtbppfhlpielpcaaDoor
namespace Go.Proofs.YtbppfhlpielpcaaDoor
open Go.RowKit
set_option linter.unusedVariables false
section
variable {C : Cx} {s s1 : Ms} {w W w5 : World} {g h : Nat} {k : Int} {x : ByteArray} {B2 B3 B6 B7 : Option Addr} {c2 c3 c6 c7 : Nat} {i v : Exs} {mx l : Int} {t e t1 : Sts} {v1 : Value}
/-- A block's statements, as they come back. -/
def BackOf (C : Cx) (s1 : Ms) (w : World) (g : Nat) (k : Int) (x : ByteArray) (B2 B3 : Option Addr) (c2 c3 : Nat) (i v : Exs) (mx l : Int) (t1 : Sts) (h : Nat) : Prop :=
  t1.Good ∧ t1.height ≤ h ∧ t1.len ≤ 4
theorem thenStep (hB0 : C.B ≤ w.heap.size) (HB : StB w.heap.size W g k x B2 B3 B6 B7 c2 c3 c6 c7 i v mx l t e) (HS : Sg C s w W) (ho : StOut W.heap.size h w5 t1 v1) (hm : Mks C s1 w5) (hg : Gen C.D C.M C.B W w5) :
    ∃ A c, v1 = .slice A t1.len c ∧ StB w.heap.size w5 g k x B2 B3 B6 B7 c2 c3 c6 c7 i v mx l t e ∧ g < w5.heap.size ∧ StB w.heap.size (w5.setCell ⟨g, 6, none⟩ (.slice A t1.len c)) g k x B2 B3 A B7 c2 c3 c c7 i v mx l t1 e ∧ Sg C s1 w (w5.setCell ⟨g, 6, none⟩ (.slice A t1.len c)) ∧ t1.Good ∧ t1.height ≤ h := by
  obtain ⟨A, c, rfl, hc, ha⟩ := ho.at
  have h5 := HB.step HS.1 hg
  obtain ⟨_, _, _, q1, q2⟩ := ho
  exact ⟨A, c, rfl, h5, h5.1.lt, h5.setThen HB.1.lt HS.2.size hc ha, Sg.set ⟨hm, HS.2.trans hg⟩ h5.1 h5.2.1 (Nat.le_trans hB0 h5.2.1) 6 _, q1, q2⟩
theorem elseStep (hB0 : C.B ≤ w.heap.size) (HB : StB w.heap.size W g k x B2 B3 B6 B7 c2 c3 c6 c7 i v mx l t e) (HS : Sg C s w W) (ho : StOut W.heap.size h w5 t1 v1) (hm : Mks C s1 w5) (hg : Gen C.D C.M C.B W w5) :
    ∃ A c, v1 = .slice A t1.len c ∧ StB w.heap.size w5 g k x B2 B3 B6 B7 c2 c3 c6 c7 i v mx l t e ∧ g < w5.heap.size ∧ StB w.heap.size (w5.setCell ⟨g, 7, none⟩ (.slice A t1.len c)) g k x B2 B3 B6 A c2 c3 c6 c i v mx l t t1 ∧ Sg C s1 w (w5.setCell ⟨g, 7, none⟩ (.slice A t1.len c)) ∧ t1.Good ∧ t1.height ≤ h := by
  obtain ⟨A, c, rfl, hc, ha⟩ := ho.at
  have h5 := HB.step HS.1 hg
  obtain ⟨_, _, _, q1, q2⟩ := ho
  exact ⟨A, c, rfl, h5, h5.1.lt, h5.setElse HB.1.lt HS.2.size hc ha, Sg.set ⟨hm, HS.2.trans hg⟩ h5.1 h5.2.1 (Nat.le_trans hB0 h5.2.1) 7 _, q1, q2⟩
/-- The statement is handed back. -/
theorem stFin {q : Nat} (hq : q = W.heap.size) (HB : StB w.heap.size W g k x B2 B3 B6 B7 c2 c3 c6 c7 i v mx l t e) (HS : Sg C s1 w W) (hA : Alk s s1) {ht : Nat} (hgood : (Sts.cons k x i v mx l t e .nil).Good) (hh : (Sts.cons k x i v mx l t e .nil).height ≤ ht) :
    StPost C s ht 1 2 w (.returned (.slice (some ⟨q, 0, none⟩) 1 1)) (W.alloc (.cells #[.int .i64 k, .string x, .slice B2 i.len c2, .slice B3 v.len c3, .int .i64 mx, .int .i64 l, .slice B6 t.len c6, .slice B7 e.len c7] 88)) :=
  hq ▸ ⟨_, _, s1, rfl, HB.row hgood hh, by simp [Sts.len], by simp [Sts.len], HS.1.alloc _, HS.2.alloc _, hA⟩
theorem nilG {h : Nat} : Sts.nil.Good ∧ Sts.nil.height ≤ h ∧ Sts.nil.len ≤ 4 := ⟨trivial, Nat.zero_le _, Nat.zero_le _⟩
def CondG (k n : Int) (x : ByteArray) (o : Int) (a : Exs) : Prop := Node k n x o a.len ∧ a.Good ∧ a.height + 1 ≤ 3
theorem if_good {k n o : Int} {x : ByteArray} {a : Exs} {lab : Int} (hc : CondG k n x o a) (hl : 1 ≤ lab ∧ lab ≤ 12) (ht : t.Good ∧ t.height ≤ h ∧ t.len ≤ 4) (he : e.Good ∧ e.height ≤ h ∧ e.len ≤ 4) :
    (Sts.cons 3 ⟨#[]⟩ .nil (.cons k n x o a .nil) 0 lab t e .nil).Good ∧ (Sts.cons 3 ⟨#[]⟩ .nil (.cons k n x o a .nil) 0 lab t e .nil).height ≤ h + 1 := by
  obtain ⟨h1, h2, h3⟩ := hc
  refine ⟨⟨.inr (.inr (.inl ⟨rfl, rfl, rfl, rfl, rfl, hl⟩)), ⟨trivial, by simp [Exs.height]⟩, ⟨⟨h1, h2, trivial⟩, by simp [Exs.height]; omega⟩, ⟨ht.1, by omega⟩, ⟨he.1, by omega⟩, trivial⟩, ?_⟩
  simp only [Sts.height]
  omega
/-- A row with one statement. -/
theorem row_out {m ht : Nat} {W0 : World} (hm : m ≤ W0.heap.size) (h2 : i.len ≤ c2 ∧ i.At W0 (Fr m W0) B2) (h3 : v.len ≤ c3 ∧ v.At W0 (Fr m W0) B3) (h4 : t.len ≤ c6 ∧ t.At W0 (Fr m W0) B6) (h5 : e.len ≤ c7 ∧ e.At W0 (Fr m W0) B7)
    (hgood : (Sts.cons k x i v mx l t e .nil).Good) (hh : (Sts.cons k x i v mx l t e .nil).height ≤ ht) :
    StOut m ht (W0.alloc (.cells #[.int .i64 k, .string x, .slice B2 i.len c2, .slice B3 v.len c3, .int .i64 mx, .int .i64 l, .slice B6 t.len c6, .slice B7 e.len c7] 88)) (.cons k x i v mx l t e .nil) (.slice (some ⟨W0.heap.size, 0, none⟩) 1 1) := by
  generalize ho : (Obj.cells #[.int .i64 k, .string x, .slice B2 i.len c2, .slice B3 v.len c3, .int .i64 mx, .int .i64 l, .slice B6 t.len c6, .slice B7 e.len c7] 88) = O
  have hk : ∀ b, Fr m W0 b → b < W0.heap.size → (Fr m (W0.alloc O) b ∧ some b ≠ (Value.slice (some ⟨W0.heap.size, 0, none⟩) 1 1).ownBlock) ∧ ∀ f, (W0.alloc O).cell? ⟨b, f, none⟩ = W0.cell? ⟨b, f, none⟩ := fun b hb hl => by
    have q := Below.heap_alloc W0 O b hl
    exact ⟨⟨⟨hb.1, by unfold Tr; rw [tag_same q]; exact hb.2⟩, by intro e; simp [Value.ownBlock] at e; omega⟩, fun f => World.cell?_of_block q⟩
  refine ⟨_, ?_, ⟨B2, c2, B3, c3, B6, c6, B7, c7, [], rfl, ⟨h2.1, h2.2.keep (by simp) hk⟩, ⟨h3.1, h3.2.keep (by simp) hk⟩, ⟨h4.1, h4.2.keep (by simp) hk⟩, ⟨h5.1, h5.2.keep (by simp) hk⟩, rfl⟩, hgood, hh⟩
  subst ho
  exact World.ownsRow_lit (base := m) (e := 88) (size := 8) W0 _ 1 hm (by unfold maxLen; omega) rfl
/-- A variable is set. -/
theorem setFin {w4 : World} {m : Nat} {k n o : Int} {x y : ByteArray} {a : Exs} {A : Option Addr} {c q : Nat} (hq : q = w4.heap.size + 1) (hS : Sg C s w w4) (he : ExOut m 3 w4 k n x o a A c) (hm : w.heap.size ≤ m) (hy : Nm y) {ht : Nat} (hh : 1 ≤ ht) :
    StPost C s ht 1 2 w (.returned (.slice (some ⟨q, 0, none⟩) 1 1)) ((w4.alloc (exRow k n x o A a.len c)).alloc (.cells #[.int .i64 1, .string y, .slice none 0 0, .slice (some ⟨w4.heap.size, 0, none⟩) 1 1, .int .i64 0, .int .i64 0, .slice none 0 0, .slice none 0 0] 88)) := by
  subst hq
  have he2 := he.below (m := w.heap.size) ((Below.refl _ w4).alloc (Nat.le_refl _) (exRow k n x o A a.len c)) hm
  have hz := hS.2.size
  have hr := at_row1 (Blk.new w4 91 #[.int .i64 k, .int .i64 n, .string x, .int .i64 o, .slice A a.len c]) hz he2.1 he2.2.2.2.2
  have ho := row_out (k := 1) (x := y) (i := .nil) (B2 := none) (c2 := 0) (c3 := 1) (mx := 0) (l := 0) (t := .nil) (e := .nil) (B6 := none) (B7 := none) (c6 := 0) (c7 := 0) (ht := ht) (W0 := w4.alloc (exRow k n x o A a.len c)) (m := w.heap.size) (by simp; omega) ⟨Nat.le_refl _, trivial⟩ ⟨Nat.le_refl _, hr⟩ ⟨Nat.le_refl _, trivial⟩ ⟨Nat.le_refl _, trivial⟩
    ⟨.inl ⟨rfl, hy, rfl, rfl, rfl, rfl, rfl, rfl⟩, ⟨trivial, by simp [Exs.height]⟩, ⟨⟨he.2.1, he.2.2.1, trivial⟩, by have := he.2.2.2.1; simp [Exs.height]; omega⟩, ⟨trivial, by simp [Sts.len]⟩, ⟨trivial, by simp [Sts.len]⟩, trivial⟩ (by simp [Sts.height]; omega)
  rw [World.size_alloc] at ho
  exact ⟨_, _, s, rfl, ho, by simp [Sts.len], by simp [Sts.len], (hS.1.alloc _).alloc _, (hS.2.alloc _).alloc _, Alk.refl s⟩
/-- An element is stored to. -/
theorem storeFin {w4 : World} {m : Nat} {k n o k' n' o' : Int} {x x' y : ByteArray} {a a' : Exs} {A B : Option Addr} {c q : Nat} (hq : q = w4.heap.size + 1) (hS : Sg C s w w4) (hi : (Exs.cons k' n' x' o' a' .nil).At w4 (Fr m w4) B) (hg' : Node k' n' x' o' a'.len ∧ a'.Good ∧ a'.height + 1 ≤ 3) (he : ExOut m 3 w4 k n x o a A c) (hm : w.heap.size ≤ m) (hy : Nm y) {ht : Nat} (hh : 1 ≤ ht) :
    StPost C s ht 1 2 w (.returned (.slice (some ⟨q, 0, none⟩) 1 1)) ((w4.alloc (exRow k n x o A a.len c)).alloc (.cells #[.int .i64 2, .string y, .slice B 1 1, .slice (some ⟨w4.heap.size, 0, none⟩) 1 1, .int .i64 0, .int .i64 0, .slice none 0 0, .slice none 0 0] 88)) := by
  subst hq
  have hbe := (Below.refl w4.heap.size w4).alloc (Nat.le_refl _) (exRow k n x o A a.len c)
  have he2 := he.below (m := w.heap.size) hbe hm
  have hi2 : (Exs.cons k' n' x' o' a' .nil).At _ (Fr w.heap.size (w4.alloc (exRow k n x o A a.len c))) B := hi.keep hbe.size (below_fr hbe hm)
  have hz := hS.2.size
  have hr := at_row1 (Blk.new w4 91 #[.int .i64 k, .int .i64 n, .string x, .int .i64 o, .slice A a.len c]) hz he2.1 he2.2.2.2.2
  have ho := row_out (k := 2) (x := y) (i := .cons k' n' x' o' a' .nil) (B2 := B) (c2 := 1) (c3 := 1) (mx := 0) (l := 0) (t := .nil) (e := .nil) (B6 := none) (B7 := none) (c6 := 0) (c7 := 0) (ht := ht) (W0 := w4.alloc (exRow k n x o A a.len c)) (m := w.heap.size) (by simp; omega) ⟨Nat.le_refl _, hi2⟩ ⟨Nat.le_refl _, hr⟩ ⟨Nat.le_refl _, trivial⟩ ⟨Nat.le_refl _, trivial⟩
    ⟨.inr (.inl ⟨rfl, hy, rfl, rfl, rfl, rfl, rfl, rfl⟩), ⟨⟨hg'.1, hg'.2.1, trivial⟩, by have := hg'.2.2; simp [Exs.height]; omega⟩, ⟨⟨he.2.1, he.2.2.1, trivial⟩, by have := he.2.2.2.1; simp [Exs.height]; omega⟩, ⟨trivial, by simp [Sts.len]⟩, ⟨trivial, by simp [Sts.len]⟩, trivial⟩ (by simp [Sts.height]; omega)
  rw [World.size_alloc] at ho
  exact ⟨_, _, s, rfl, ho, by simp [Sts.len], by simp [Sts.len], (hS.1.alloc _).alloc _, (hS.2.alloc _).alloc _, Alk.refl s⟩
/-- A row of one expression, kept from the world in which it was made. -/
theorem row_kept {w4 W : World} {m n0 : Nat} {k n o : Int} {x : ByteArray} {a : Exs} {A : Option Addr} {c ht : Nat} (he : ExOut n0 ht w4 k n x o a A c) (hm : m ≤ n0) (hz : m ≤ w4.heap.size) (hM : Mks C s (w4.alloc (exRow k n x o A a.len c))) (hg : Gen C.D C.M C.B (w4.alloc (exRow k n x o A a.len c)) W) :
    (Exs.cons k n x o a .nil).At W (Fr m W) (some ⟨w4.heap.size, 0, none⟩) := by
  have he2 := he.below (m := m) ((Below.refl _ w4).alloc (Nat.le_refl _) (exRow k n x o A a.len c)) hm
  exact hM.tree hg (Nat.le_refl _) (at_row1 (Blk.new w4 91 #[.int .i64 k, .int .i64 n, .string x, .int .i64 o, .slice A a.len c]) hz he2.1 he2.2.2.2.2)
theorem ExOut.lower {m n0 : Nat} {w4 : World} {k n o : Int} {x : ByteArray} {a : Exs} {A : Option Addr} {c ht : Nat} (he : ExOut n0 ht w4 k n x o a A c) (hm : m ≤ n0) {ht' : Nat} (hh : ht ≤ ht') : ExOut m ht' w4 k n x o a A c :=
  ⟨he.1, he.2.1, he.2.2.1, by have := he.2.2.2.1; omega, he.2.2.2.2.keep (Nat.le_refl _) fun b hb _ => ⟨⟨by have := hb.1; omega, hb.2⟩, fun _ => rfl⟩⟩
end
end Go.Proofs.YtbppfhlpielpcaaDoor
