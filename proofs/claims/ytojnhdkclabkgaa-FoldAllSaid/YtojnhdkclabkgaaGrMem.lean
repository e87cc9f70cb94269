/- Graphs in memory: lists of inputs, arrays, operations and blocks. No condition. -/
import Derived.Test.YtojnhdkclabkgaaPlLsts
import Derived.Test.YtojnhdkclabkgaaGrMath
namespace Go.Proofs.Ytojnhdkclabkgaa
open Go.RowKit
set_option linter.unusedVariables false
set_option linter.unusedSimpArgs false
theorem bla {w a : World} (h : Below w.heap.size w a) (o : Obj) : Below w.heap.size w (a.alloc o) := h.alloc h.size o
theorem blt {w a b : World} (h : Below w.heap.size w a) (k : Below a.heap.size a b) : Below w.heap.size w b := h.trans (k.mono h.size)
def inCells (x : ByteArray × Int × Int) : List Value := [.string x.1, .int .i64 x.2.1, .int .i64 x.2.2]
def arCells (x : ByteArray × Int) : List Value := [.string x.1, .int .i64 x.2]
def opCells (o : Gr.Op) : List Value := [.int .i64 o.kind, .int .i64 o.dst, .int .i64 o.a, .int .i64 o.b, .int .i64 o.imm]
def InsIn (w : World) (v : Value) (l : List (ByteArray × Int × Int)) : Prop := RowIn 3 w v l.length (l.flatMap inCells)
def ArsIn (w : World) (v : Value) (l : List (ByteArray × Int)) : Prop := RowIn 2 w v l.length (l.flatMap arCells)
def OpsIn (w : World) (v : Value) (l : List Gr.Op) : Prop := RowIn 5 w v l.length (l.flatMap opCells)
section
variable {w w' : World} {v : Value}
theorem InsIn.below {l : List (ByteArray × Int × Int)} (h : InsIn w v l) (hb : Below w.heap.size w w') : InsIn w' v l := RowIn.below h hb
theorem ArsIn.below {l : List (ByteArray × Int)} (h : ArsIn w v l) (hb : Below w.heap.size w w') : ArsIn w' v l := RowIn.below h hb
theorem OpsIn.below {l : List Gr.Op} (h : OpsIn w v l) (hb : Below w.heap.size w w') : OpsIn w' v l := RowIn.below h hb
theorem getD_some {α : Type} {l : List α} {i : Nat} (d : α) (hi : i < l.length) : l[i]? = some (l.getD i d) := by simp [List.getD, List.getElem?_eq_getElem hi]
theorem InsIn.opened {l : List (ByteArray × Int × Int)} (h : InsIn w v l) : ∃ (A : Option Addr) (c : Nat), v = .slice A l.length c ∧ ∀ i, i < l.length → ∃ b off, A = some ⟨b, off, none⟩ ∧ b < w.heap.size ∧ w.cell? ⟨b, off + i * 3, none⟩ = some (.string (l.getD i Gr.in0).1) ∧ w.cell? ⟨b, off + i * 3 + 1, none⟩ = some (.int .i64 (l.getD i Gr.in0).2.1) ∧ w.cell? ⟨b, off + i * 3 + 2, none⟩ = some (.int .i64 (l.getD i Gr.in0).2.2) := by
  obtain ⟨A, c, e, hl, h0 | ⟨b, off, eA, hlt, hc⟩⟩ := h
  · exact ⟨A, c, e, fun i hi => by omega⟩
  · have hf : ∀ i k u, i < l.length → (inCells (l.getD i Gr.in0))[k]? = some u → w.cell? ⟨b, off + i * 3 + k, none⟩ = some u := fun i k u hi hu => by
      have := hc (i * 3 + k) _ (flat_cell inCells 3 (fun _ => rfl) l i k _ _ (getD_some Gr.in0 hi) hu)
      rwa [← Nat.add_assoc] at this
    exact ⟨A, c, e, fun i hi => ⟨b, off, eA, hlt, hf i 0 _ hi rfl, hf i 1 _ hi rfl, hf i 2 _ hi rfl⟩⟩
theorem ArsIn.opened {l : List (ByteArray × Int)} (h : ArsIn w v l) : ∃ (A : Option Addr) (c : Nat), v = .slice A l.length c ∧ ∀ i, i < l.length → ∃ b off, A = some ⟨b, off, none⟩ ∧ b < w.heap.size ∧ w.cell? ⟨b, off + i * 2, none⟩ = some (.string (l.getD i Gr.ar0).1) ∧ w.cell? ⟨b, off + i * 2 + 1, none⟩ = some (.int .i64 (l.getD i Gr.ar0).2) := by
  obtain ⟨A, c, e, hl, h0 | ⟨b, off, eA, hlt, hc⟩⟩ := h
  · exact ⟨A, c, e, fun i hi => by omega⟩
  · have hf : ∀ i k u, i < l.length → (arCells (l.getD i Gr.ar0))[k]? = some u → w.cell? ⟨b, off + i * 2 + k, none⟩ = some u := fun i k u hi hu => by
      have := hc (i * 2 + k) _ (flat_cell arCells 2 (fun _ => rfl) l i k _ _ (getD_some Gr.ar0 hi) hu)
      rwa [← Nat.add_assoc] at this
    exact ⟨A, c, e, fun i hi => ⟨b, off, eA, hlt, hf i 0 _ hi rfl, hf i 1 _ hi rfl⟩⟩
theorem OpsIn.opened {l : List Gr.Op} (h : OpsIn w v l) : ∃ (A : Option Addr) (c : Nat), v = .slice A l.length c ∧ ∀ i, i < l.length → ∃ b off, A = some ⟨b, off, none⟩ ∧ b < w.heap.size ∧ w.cell? ⟨b, off + i * 5, none⟩ = some (.int .i64 (l.getD i Gr.op0).kind) ∧ w.cell? ⟨b, off + i * 5 + 1, none⟩ = some (.int .i64 (l.getD i Gr.op0).dst) ∧
    w.cell? ⟨b, off + i * 5 + 2, none⟩ = some (.int .i64 (l.getD i Gr.op0).a) ∧ w.cell? ⟨b, off + i * 5 + 3, none⟩ = some (.int .i64 (l.getD i Gr.op0).b) ∧ w.cell? ⟨b, off + i * 5 + 4, none⟩ = some (.int .i64 (l.getD i Gr.op0).imm) := by
  obtain ⟨A, c, e, hl, h0 | ⟨b, off, eA, hlt, hc⟩⟩ := h
  · exact ⟨A, c, e, fun i hi => by omega⟩
  · have hf : ∀ i k u, i < l.length → (opCells (l.getD i Gr.op0))[k]? = some u → w.cell? ⟨b, off + i * 5 + k, none⟩ = some u := fun i k u hi hu => by
      have := hc (i * 5 + k) _ (flat_cell opCells 5 (fun _ => rfl) l i k _ _ (getD_some Gr.op0 hi) hu)
      rwa [← Nat.add_assoc] at this
    exact ⟨A, c, e, fun i hi => ⟨b, off, eA, hlt, hf i 0 _ hi rfl, hf i 1 _ hi rfl, hf i 2 _ hi rfl, hf i 3 _ hi rfl, hf i 4 _ hi rfl⟩⟩
end
/-- Blocks in memory. -/
def BlksIn (w : World) (v : Value) (l : List Gr.Blk) : Prop :=
  ∃ (A : Option Addr) (c : Nat) (a1 a2 : Nat → Option Addr) (c1 c2 : Nat → Nat), v = .slice A l.length c ∧ ∀ i, i < l.length → ∃ b off, A = some ⟨b, off, none⟩ ∧ b < w.heap.size ∧
    w.cell? ⟨b, off + i * 3, none⟩ = some (.slice (a1 i) (l.getD i Gr.blk0).ops.length (c1 i)) ∧ w.cell? ⟨b, off + i * 3 + 1, none⟩ = some (.int .i64 (l.getD i Gr.blk0).cond) ∧ w.cell? ⟨b, off + i * 3 + 2, none⟩ = some (.slice (a2 i) (l.getD i Gr.blk0).next.length (c2 i)) ∧
    OpsIn w (.slice (a1 i) (l.getD i Gr.blk0).ops.length (c1 i)) (l.getD i Gr.blk0).ops ∧ NumsIn w (.slice (a2 i) (l.getD i Gr.blk0).next.length (c2 i)) (l.getD i Gr.blk0).next
theorem BlksIn.below {w w' : World} {v : Value} {l : List Gr.Blk} (h : BlksIn w v l) (hb : Below w.heap.size w w') : BlksIn w' v l := by
  obtain ⟨A, c, a1, a2, c1, c2, e, ho⟩ := h
  refine ⟨A, c, a1, a2, c1, c2, e, fun i hi => ?_⟩
  obtain ⟨b, off, eA, hlt, h0, h1, h2, h3, h4⟩ := ho i hi
  exact ⟨b, off, eA, Nat.lt_of_lt_of_le hlt hb.size, (hb.cell (p := ⟨b, off + i * 3, none⟩) hlt).trans h0, (hb.cell (p := ⟨b, off + i * 3 + 1, none⟩) hlt).trans h1, (hb.cell (p := ⟨b, off + i * 3 + 2, none⟩) hlt).trans h2, h3.below hb, h4.below hb⟩
/-- Lists of lists, with what they are. -/
theorem LstsIn.opened {w : World} {v : Value} {l : List (List Int)} (h : LstsIn w v l) : ∃ (A : Option Addr) (c : Nat) (a1 : Nat → Option Addr) (c1 : Nat → Nat), v = .slice A l.length c ∧ ∀ i, i < l.length → ∃ b off, A = some ⟨b, off, none⟩ ∧ b < w.heap.size ∧
    w.cell? ⟨b, off + i, none⟩ = some (.slice (a1 i) (l.getD i []).length (c1 i)) ∧ NumsIn w (.slice (a1 i) (l.getD i []).length (c1 i)) (l.getD i []) := by
  obtain ⟨A, c, e, ho⟩ := h
  have hx : ∀ i : Nat, ∃ (a1 : Option Addr) (c1 : Nat), i < l.length → ∃ b off, A = some ⟨b, off, none⟩ ∧ b < w.heap.size ∧ w.cell? ⟨b, off + i, none⟩ = some (.slice a1 (l.getD i []).length c1) ∧ NumsIn w (.slice a1 (l.getD i []).length c1) (l.getD i []) := fun i => by
    by_cases hi : i < l.length
    · obtain ⟨b, off, u, eA, hlt, hc, hq⟩ := ho i hi
      obtain ⟨a1, c1, rfl, _⟩ := id hq
      exact ⟨a1, c1, fun _ => ⟨b, off, eA, hlt, hc, hq⟩⟩
    · exact ⟨none, 0, fun h => absurd h hi⟩
  refine ⟨A, c, fun i => Classical.choose (hx i), fun i => Classical.choose (Classical.choose_spec (hx i)), e, fun i hi => Classical.choose_spec (Classical.choose_spec (hx i)) hi⟩
/-- A graph's lists in memory. -/
structure GrIn (w : World) (g : Gr.G) (vi va vb vp vh : Value) : Prop where
  ins : InsIn w vi g.ins
  ars : ArsIn w va g.ars
  blks : BlksIn w vb g.blks
  pts : LstsIn w vp g.pts
  hds : PrsIn w vh g.hds
theorem GrIn.below {w w' : World} {g : Gr.G} {vi va vb vp vh : Value} (h : GrIn w g vi va vb vp vh) (hb : Below w.heap.size w w') : GrIn w' g vi va vb vp vh :=
  ⟨h.ins.below hb, h.ars.below hb, h.blks.below hb, h.pts.below hb, h.hds.below hb⟩
/-- A row of numbers that was just made. -/
theorem nums_new (u : World) (l : List Int) (t : TypeId) (c g : Nat) (hg : g = u.heap.size) : NumsIn (u.alloc (.cells ((l.map (Value.int .i64)).toArray) t)) (.slice (some ⟨g, 0, none⟩) l.length c) l := by
  subst hg
  refine ⟨_, c, rfl, by simp, .inr ⟨_, 0, rfl, by simp, fun j x hj => ?_⟩⟩
  have hb := heap_alloc_new u (.cells ((l.map (Value.int .i64)).toArray) t)
  rw [cell_of_row _ _ _ _ _ _ hb]
  simpa using hj
end Go.Proofs.Ytojnhdkclabkgaa
