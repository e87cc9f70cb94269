/- What the walks over expressions share: blocks that are known whole, elements of lists, levels of lists. -/
import Derived.Test.YtaabhlkhddkglaaDoorStBase
import Derived.Test.YtaabhlkhddkglaaDoorLawKit
import Derived.Test.YtaabhlkhddkglaaDoorPrMath
import Derived.Test.YtaabhlkhddkglaaDoorPtrKey
import Derived.OwnWalk
import Derived.Laws.Rows
namespace Go.Proofs.YtaabhlkhddkglaaDoor
open Go.RowKit
set_option linter.unusedVariables false
set_option linter.unusedSimpArgs false
/-- Block g is just these cells, none frozen. -/
def Blk (w : World) (g : Nat) (t : TypeId) (cs : Array Value) : Prop := w.heap[g]? = some (.cells cs t (0, 0))
/-- Of what type the elements of a block are. -/
def tagOf (w : World) (b : Nat) : Option TypeId := match w.heap[b]? with | some (.cells _ t _) => some t | _ => none
section
variable {w w' : World} {g : Nat} {t : TypeId} {cs : Array Value}
theorem Blk.lt (h : Blk w g t cs) : g < w.heap.size := by
  by_cases hg : g < w.heap.size
  · exact hg
  · unfold Blk at h; rw [Array.getElem?_eq_none (by omega)] at h; exact absurd h (by simp)
theorem Blk.cell (h : Blk w g t cs) (i : Nat) : w.cell? ⟨g, i, none⟩ = cs[i]? := cell_of_row w g i cs t (0, 0) h
theorem Blk.frozen (h : Blk w g t cs) (i : Nat) : w.frozen? ⟨g, i, none⟩ = false := by unfold Blk at h; simp [World.frozen?, h]
theorem Blk.new (w : World) (t : TypeId) (cs : Array Value) : Blk (w.alloc (.cells cs t)) w.heap.size t cs := heap_alloc_new w _
theorem Blk.alloc (h : Blk w g t cs) (o : Obj) : Blk (w.alloc o) g t cs := (Below.heap_alloc w o g h.lt).trans h
theorem Blk.drewN (h : Blk w g t cs) (n : Nat) : Blk (w.drewN n) g t cs := h
theorem Blk.drew (h : Blk w g t cs) : Blk w.drew g t cs := h
theorem Blk.set (h : Blk w g t cs) (i : Nat) (u : Value) : Blk (w.setCell ⟨g, i, none⟩ u) g t (cs.setIfInBounds i u) := by
  unfold Blk at h ⊢
  simp [World.setCell, Array.getElem?_modify, h]
theorem Blk.far (h : Blk w g t cs) {p : Addr} (hp : g ≠ p.block) (u : Value) : Blk (w.setCell p u) g t cs := (Below.heap_setCell w p u g hp).trans h
theorem Blk.tag (h : Blk w g t cs) : tagOf w g = some t := by unfold Blk at h; simp [tagOf, h]
theorem Blk.below {B : Nat} (h : Blk w g t cs) (hb : Below B w w') (hg : g < B) : Blk w' g t cs := (hb.block g hg).trans h
theorem tag_same (h : w'.heap[g]? = w.heap[g]?) : tagOf w' g = tagOf w g := by simp [tagOf, h]
theorem tag_ne {g' : Nat} {t t' : TypeId} (h : tagOf w g = some t) (h' : tagOf w g' = some t') (hne : t ≠ t') : g ≠ g' := by
  rintro rfl
  rw [h] at h'
  exact hne (by injection h')
end

/-- Element i of a list, its cells and what lies below. -/
theorem at_elem {w : World} {S : Nat → Prop} {t : Exs} {A : Option Addr} (h : t.At w S A) {i : Nat} (hi : i < t.len) : ∃ b f k n s o a B c, A = some ⟨b, f, none⟩ ∧ b < w.heap.size ∧ t.drop i = .cons k n s o a (t.drop (i + 1)) ∧
    (w.cell? ⟨b, f + i * 5, none⟩ = some (.int .i64 k) ∧ w.cell? ⟨b, f + i * 5 + 1, none⟩ = some (.int .i64 n) ∧ w.cell? ⟨b, f + i * 5 + 2, none⟩ = some (.string s) ∧ w.cell? ⟨b, f + i * 5 + 3, none⟩ = some (.int .i64 o) ∧ w.cell? ⟨b, f + i * 5 + 4, none⟩ = some (.slice B a.len c)) ∧ a.len ≤ c ∧ a.At w S B := by
  obtain ⟨b, f, rfl⟩ := h.some (by omega)
  obtain ⟨k, n, s, o, a, e⟩ := t.drop_cons i hi
  have hd := h.drop i
  rw [e] at hd
  obtain ⟨b', f', e', hS, hlt, c0, c1, c2, c3, ⟨B, c, c4, hc, ha⟩, _⟩ := hd
  injection e' with e'
  injection e' with e1 e2
  subst e1 e2
  exact ⟨b, f, k, n, s, o, a, B, c, rfl, hlt, e, ⟨c0, c1, c2, c3, c4⟩, hc, ha⟩
theorem run_max2 (a b : Int) (w : World) : (Builtin.max_ #[3, 3] 3 #[.int .i64 a, .int .i64 b]).run Tryd.prog w = .ok (.int .i64 (max a b)) w := by
  have e : (if a < b then b else a) = max a b := by rw [Int.max_def]; split <;> split <;> omega
  simp [Builtin.max_, Builtin.max2, e]
/-- The cells of element i. -/
theorem at_cells {w : World} {S : Nat → Prop} {t : Exs} {b f : Nat} (h : t.At w S (some ⟨b, f, none⟩)) {i g : Nat} (hi : i < t.len) (hg : g = f + i * 5) : ∃ k n s o a B c, b < w.heap.size ∧ t.drop i = .cons k n s o a (t.drop (i + 1)) ∧
    (w.cell? ⟨b, g, none⟩ = some (.int .i64 k) ∧ w.cell? ⟨b, g + 1, none⟩ = some (.int .i64 n) ∧ w.cell? ⟨b, g + 2, none⟩ = some (.string s) ∧ w.cell? ⟨b, g + 3, none⟩ = some (.int .i64 o) ∧ w.cell? ⟨b, g + 4, none⟩ = some (.slice B a.len c)) ∧ a.At w S B := by
  obtain ⟨b', f', k, n, s, o, a, B, c, e, hl, hd, hc, _, ha⟩ := at_elem h hi
  injection e with e
  injection e with e1 e2
  subst e1 e2 hg
  exact ⟨k, n, s, o, a, B, c, hl, hd, hc, ha⟩
theorem five_below {w W : World} {b g : Nat} {k n o : Int} {s : ByteArray} {B : Option Addr} {l c : Nat} (hb : Below w.heap.size w W) (hl : b < w.heap.size) (h : w.cell? ⟨b, g, none⟩ = some (.int .i64 k) ∧ w.cell? ⟨b, g + 1, none⟩ = some (.int .i64 n) ∧ w.cell? ⟨b, g + 2, none⟩ = some (.string s) ∧ w.cell? ⟨b, g + 3, none⟩ = some (.int .i64 o) ∧ w.cell? ⟨b, g + 4, none⟩ = some (.slice B l c)) :
    W.cell? ⟨b, g, none⟩ = some (.int .i64 k) ∧ W.cell? ⟨b, g + 1, none⟩ = some (.int .i64 n) ∧ W.cell? ⟨b, g + 2, none⟩ = some (.string s) ∧ W.cell? ⟨b, g + 3, none⟩ = some (.int .i64 o) ∧ W.cell? ⟨b, g + 4, none⟩ = some (.slice B l c) :=
  ⟨(hb.cell (p := ⟨b, g, none⟩) hl).trans h.1, (hb.cell (p := ⟨b, g + 1, none⟩) hl).trans h.2.1, (hb.cell (p := ⟨b, g + 2, none⟩) hl).trans h.2.2.1, (hb.cell (p := ⟨b, g + 3, none⟩) hl).trans h.2.2.2.1, (hb.cell (p := ⟨b, g + 4, none⟩) hl).trans h.2.2.2.2⟩
abbrev exV (k n o : Int) (s : ByteArray) (A : Option Addr) (l c : Nat) : Array Value := #[.int .i64 k, .int .i64 n, .string s, .int .i64 o, .slice A l c]

theorem PkBlk.below {w w' : World} {b : Nat} (h : PkBlk w b) (hb : Below w.heap.size w w') : PkBlk w' b := by
  obtain ⟨c, t, h⟩ := h
  exact ⟨c, t, Blk.below (t := t) (cs := c) h hb (Blk.lt (t := t) (cs := c) h)⟩
theorem Exs.At.stay {w w' : World} {t : Exs} {A : Option Addr} (h : t.At w (PkBlk w) A) (hb : Below w.heap.size w w') : t.At w' (PkBlk w') A :=
  h.keep hb.size fun q hq hl => ⟨hq.below hb, fun f => hb.cell (p := ⟨q, f, none⟩) hl⟩
/-- A list as a value. -/
def Lst (w : World) (v : Value) (t : Exs) : Prop := ∃ A c, v = .slice A t.len c ∧ t.len ≤ c ∧ t.At w (PkBlk w) A ∧ t.Wf
theorem Lst.below {w w' : World} {v : Value} {t : Exs} (h : Lst w v t) (hb : Below w.heap.size w w') : Lst w' v t := by
  obtain ⟨A, c, e, hc, ha, hw⟩ := h
  exact ⟨A, c, e, hc, ha.stay hb, hw⟩
/-- A level: lists in memory. -/
def Lv (w : World) (v : Value) (L : List Exs) : Prop :=
  ∃ (A : Option Addr) (c : Nat), v = .slice A L.length c ∧ L.length ≤ c ∧ ∀ (i : Nat) (t : Exs), L[i]? = some t → ∃ b off u, A = some ⟨b, off, none⟩ ∧ b < w.heap.size ∧ w.cell? ⟨b, off + i, none⟩ = some u ∧ Lst w u t
theorem Lv.below {w w' : World} {v : Value} {L : List Exs} (h : Lv w v L) (hb : Below w.heap.size w w') : Lv w' v L := by
  obtain ⟨A, c, e, hc, ho⟩ := h
  refine ⟨A, c, e, hc, fun i t hi => ?_⟩
  obtain ⟨b, off, u, eA, hlt, hcl, hq⟩ := ho i t hi
  exact ⟨b, off, u, eA, Nat.lt_of_lt_of_le hlt hb.size, (hb.cell (p := ⟨b, off + i, none⟩) hlt).trans hcl, hq.below hb⟩
/-- Lists in a row of the call's own. -/
theorem Lv.own {w : World} {base : Nat} {e : TypeId} {v : Value} {us : List Value} {L : List Exs} (h : w.ownsRow base e 1 v us.length us) (hl : us.length = L.length) (hu : ∀ (i : Nat) (t : Exs) (u : Value), L[i]? = some t → us[i]? = some u → Lst w u t) : Lv w v L := by
  rcases h.2 with ⟨rfl, h0⟩ | ⟨g, cap, cur, rfl, hB, hg, hcap, _⟩
  · refine ⟨none, 0, by rw [← hl, h0], by omega, fun i t hi => ?_⟩
    have := (List.getElem?_eq_some_iff.1 hi).1
    omega
  · refine ⟨some ⟨g, 0, none⟩, cap, by rw [hl], by omega, fun i t hi => ?_⟩
    have hi' := (List.getElem?_eq_some_iff.1 hi).1
    have hx : us[i]? = some us[i] := List.getElem?_eq_getElem (by omega)
    have := h.cells (g := g) rfl i _ hx
    have hadd : (⟨g, 0, none⟩ : Addr).add i = ⟨g, 0 + i, none⟩ := by unfold Addr.add; split <;> simp_all
    rw [hadd] at this
    exact ⟨g, 0, us[i], rfl, (h.lt g rfl).2, this, hu i t _ hi hx⟩
end Go.Proofs.YtaabhlkhddkglaaDoor
