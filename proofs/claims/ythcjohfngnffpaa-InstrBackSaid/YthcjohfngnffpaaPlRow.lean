/- Rows of plain cells in memory: slices whose elements have some cells each. No condition. -/
import Derived.Test.YthcjohfngnffpaaStBase
import Derived.Test.YthcjohfngnffpaaLawKit
import Derived.OwnWalk
import Derived.Laws.Rows
namespace Go.Proofs.Ythcjohfngnffpaa
open Go.RowKit
set_option linter.unusedVariables false
set_option linter.unusedSimpArgs false
/-- A slice of n elements of so many cells each; its cells are xs. -/
def RowIn (size : Nat) (w : World) (v : Value) (n : Nat) (xs : List Value) : Prop :=
  ∃ (A : Option Addr) (c : Nat), v = .slice A n c ∧ xs.length = n * size ∧ (n = 0 ∨ ∃ b off, A = some ⟨b, off, none⟩ ∧ b < w.heap.size ∧ ∀ j u, xs[j]? = some u → w.cell? ⟨b, off + j, none⟩ = some u)
section
variable {w w' : World} {v : Value} {size n : Nat} {xs : List Value}
theorem RowIn.below (h : RowIn size w v n xs) (hb : Below w.heap.size w w') : RowIn size w' v n xs := by
  obtain ⟨A, c, e, hl, h0 | ⟨b, off, eA, hlt, hc⟩⟩ := h
  · exact ⟨A, c, e, hl, .inl h0⟩
  · exact ⟨A, c, e, hl, .inr ⟨b, off, eA, Nat.lt_of_lt_of_le hlt hb.size, fun j u hj => (hb.cell (p := ⟨b, off + j, none⟩) hlt).trans (hc j u hj)⟩⟩
theorem RowIn.nil (w : World) (size : Nat) : RowIn size w (.slice none 0 0) 0 [] := ⟨none, 0, rfl, by simp, .inl rfl⟩
theorem RowIn.own {base : Nat} {e : TypeId} (h : w.ownsRow base e size v n xs) : RowIn size w v n xs := by
  rcases h.2 with ⟨rfl, h0⟩ | ⟨g, cap, cur, rfl, hB, hg, hcap, _⟩
  · exact ⟨none, 0, by rw [h0], h.1, .inl h0⟩
  · refine ⟨_, cap, rfl, h.1, .inr ⟨g, 0, rfl, (h.lt g rfl).2, fun j u hj => ?_⟩⟩
    have := h.cells (g := g) rfl j u hj
    have hadd : (⟨g, 0, none⟩ : Addr).add j = ⟨g, 0 + j, none⟩ := by unfold Addr.add; split <;> simp_all
    rwa [hadd] at this
end
/-- Cell k of element i. -/
theorem flat_cell {α : Type} (f : α → List Value) (q : Nat) (hf : ∀ x, (f x).length = q) : ∀ (l : List α) (i k : Nat) (x : α) (u : Value), l[i]? = some x → (f x)[k]? = some u → (l.flatMap f)[i * q + k]? = some u
  | [], i, k, x, u, hi, _ => by simp at hi
  | y :: l, 0, k, x, u, hi, h => by
    obtain rfl : y = x := by simpa using hi
    have hk : k < (f y).length := (List.getElem?_eq_some_iff.1 h).1
    rw [List.flatMap_cons, Nat.zero_mul, Nat.zero_add, List.getElem?_append_left hk]
    exact h
  | y :: l, i + 1, k, x, u, hi, h => by
    rw [List.flatMap_cons, List.getElem?_append_right (by rw [hf, Nat.add_mul]; omega)]
    have := flat_cell f q hf l i k x u (by simpa using hi) h
    rw [hf, show (i + 1) * q + k - q = i * q + k by rw [Nat.add_mul]; omega]
    exact this
theorem flat_length {α : Type} (f : α → List Value) (q : Nat) (hf : ∀ x, (f x).length = q) : ∀ (l : List α), (l.flatMap f).length = l.length * q
  | [] => by simp
  | x :: l => by rw [List.flatMap_cons, List.length_append, hf, flat_length f q hf l, List.length_cons, Nat.add_mul]; omega
/-- Pairs of numbers in memory. -/
def prCells (p : Int × Int) : List Value := [.int .i64 p.1, .int .i64 p.2]
def PrsIn (w : World) (v : Value) (l : List (Int × Int)) : Prop := RowIn 2 w v l.length (l.flatMap prCells)
/-- Numbers in memory. -/
def NumsIn (w : World) (v : Value) (l : List Int) : Prop := RowIn 1 w v l.length (l.map (Value.int .i64))
theorem PrsIn.below {w w' : World} {v : Value} {l : List (Int × Int)} (h : PrsIn w v l) (hb : Below w.heap.size w w') : PrsIn w' v l := RowIn.below h hb
theorem NumsIn.below {w w' : World} {v : Value} {l : List Int} (h : NumsIn w v l) (hb : Below w.heap.size w w') : NumsIn w' v l := RowIn.below h hb
/-- A slice of pairs, opened: its address where it has elements, and each element's cells. -/
theorem PrsIn.opened {w : World} {v : Value} {l : List (Int × Int)} (h : PrsIn w v l) : ∃ (A : Option Addr) (c : Nat), v = .slice A l.length c ∧ ∀ i, i < l.length → ∃ b off, A = some ⟨b, off, none⟩ ∧ b < w.heap.size ∧ w.cell? ⟨b, off + i * 2, none⟩ = some (.int .i64 (l.getD i (0, 0)).1) ∧ w.cell? ⟨b, off + i * 2 + 1, none⟩ = some (.int .i64 (l.getD i (0, 0)).2) := by
  obtain ⟨A, c, e, hl, h0 | ⟨b, off, eA, hlt, hc⟩⟩ := h
  · exact ⟨A, c, e, fun i hi => by omega⟩
  · refine ⟨A, c, e, fun i hi => ⟨b, off, eA, hlt, ?_, ?_⟩⟩
    · have hx : l[i]? = some (l.getD i (0, 0)) := by simp [List.getD, List.getElem?_eq_getElem hi]
      have := hc (i * 2 + 0) _ (flat_cell prCells 2 (fun _ => rfl) l i 0 _ _ hx rfl)
      simpa using this
    · have hx : l[i]? = some (l.getD i (0, 0)) := by simp [List.getD, List.getElem?_eq_getElem hi]
      have := hc (i * 2 + 1) _ (flat_cell prCells 2 (fun _ => rfl) l i 1 _ _ hx rfl)
      rw [← Nat.add_assoc] at this
      exact this
theorem NumsIn.opened {w : World} {v : Value} {l : List Int} (h : NumsIn w v l) : ∃ (A : Option Addr) (c : Nat), v = .slice A l.length c ∧ ∀ i, i < l.length → ∃ b off, A = some ⟨b, off, none⟩ ∧ b < w.heap.size ∧ w.cell? ⟨b, off + i, none⟩ = some (.int .i64 (l.getD i 0)) := by
  obtain ⟨A, c, e, hl, h0 | ⟨b, off, eA, hlt, hc⟩⟩ := h
  · exact ⟨A, c, e, fun i hi => by omega⟩
  · refine ⟨A, c, e, fun i hi => ⟨b, off, eA, hlt, hc i _ ?_⟩⟩
    simp [List.getD, List.getElem?_eq_getElem hi]
theorem nums_of {w : World} {v : Value} {zs : List Int} (h : IntsIn .i64 w v zs) : NumsIn w v zs := by
  rcases h with ⟨rfl, A, c, rfl⟩ | ⟨b, off, c, h0, rfl, hlt, hc⟩
  · exact ⟨A, c, rfl, by simp, .inl rfl⟩
  · refine ⟨_, c, rfl, by simp, .inr ⟨b, off, rfl, hlt, fun j u hj => ?_⟩⟩
    simp only [List.getElem?_map] at hj
    obtain ⟨z, hz, rfl⟩ := Option.map_eq_some_iff.1 hj
    have hlt' := (List.getElem?_eq_some_iff.1 hz).1
    rw [hc j hlt']
    simp [List.getD, hz]
/-- Block g is just these cells, none frozen. -/
def Bk (w : World) (g : Nat) (t : TypeId) (cs : Array Value) : Prop := w.heap[g]? = some (.cells cs t (0, 0))
section
variable {w w' : World} {g : Nat} {t : TypeId} {cs : Array Value}
theorem Bk.lt (h : Bk w g t cs) : g < w.heap.size := by
  by_cases hg : g < w.heap.size
  · exact hg
  · unfold Bk at h; rw [Array.getElem?_eq_none (by omega)] at h; exact absurd h (by simp)
theorem Bk.cell (h : Bk w g t cs) (i : Nat) : w.cell? ⟨g, i, none⟩ = cs[i]? := cell_of_row w g i cs t (0, 0) h
theorem Bk.frozen (h : Bk w g t cs) (i : Nat) : w.frozen? ⟨g, i, none⟩ = false := by unfold Bk at h; simp [World.frozen?, h]
theorem Bk.new (w : World) (t : TypeId) (cs : Array Value) : Bk (w.alloc (.cells cs t)) w.heap.size t cs := heap_alloc_new w _
theorem Bk.below (h : Bk w g t cs) (hb : Below w.heap.size w w') : Bk w' g t cs := (hb.block g h.lt).trans h
theorem Bk.set (h : Bk w g t cs) (i : Nat) (u : Value) : Bk (w.setCell ⟨g, i, none⟩ u) g t (cs.setIfInBounds i u) := by
  unfold Bk at h ⊢
  simp [World.setCell, Array.getElem?_modify, h]
theorem Bk.far (h : Bk w g t cs) {p : Addr} (hp : g ≠ p.block) (u : Value) : Bk (w.setCell p u) g t cs := (Below.heap_setCell w p u g hp).trans h
end
/-- A row of n numbers: number i is f i. -/
def numRow (n : Nat) (f : Nat → Int) : Array Value := ((List.range n).map fun i => Value.int .i64 (f i)).toArray
theorem numRow_at (n : Nat) (f : Nat → Int) (i : Nat) (h : i < n) : (numRow n f)[i]? = some (.int .i64 (f i)) := by simp [numRow, h]
theorem numRow_size (n : Nat) (f : Nat → Int) : (numRow n f).size = n := by simp [numRow]
theorem numRow_set (n : Nat) (f f' : Nat → Int) (i : Nat) (x : Int) (h : ∀ j, f' j = if j = i then x else f j) : (numRow n f).setIfInBounds i (.int .i64 x) = numRow n f' := by
  apply Array.ext_getElem?
  intro j
  rw [Array.getElem?_setIfInBounds]
  by_cases hj : j < n
  · rw [numRow_at n f' j hj, numRow_at n f j hj, h j]
    by_cases e : i = j
    · subst e; simp [numRow_size, hj]
    · rw [if_neg e, if_neg (fun e' => e e'.symm)]
  · have h1 : (numRow n f)[j]? = none := Array.getElem?_eq_none (by rw [numRow_size]; omega)
    have h2 : (numRow n f')[j]? = none := Array.getElem?_eq_none (by rw [numRow_size]; omega)
    rw [h1, h2, numRow_size]
    by_cases e : i = j
    · subst e; rw [if_pos rfl, if_neg hj]
    · rw [if_neg e]
end Go.Proofs.Ythcjohfngnffpaa
