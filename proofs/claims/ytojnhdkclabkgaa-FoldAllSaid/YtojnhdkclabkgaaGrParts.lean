/- Rows that a call makes, of a graph's elements; rows whose block is known. No condition. -/
import Derived.Test.YtojnhdkclabkgaaGrMem
import Derived.Laws.AppendOwnNone
import Derived.Laws.MakeOwn
import Derived.Laws.OwnMore
import Derived.Lib.SliceRun
namespace Go.Proofs.Ytojnhdkclabkgaa
open Go.RowKit
set_option linter.unusedVariables false
set_option linter.unusedSimpArgs false
attribute [local go_sem] y_undef
theorem set_op : ∀ (l : List Gr.Op) (i : Nat) (o : Gr.Op), ((((((l.flatMap opCells).set (i * 5) (.int .i64 o.kind)).set (i * 5 + 1) (.int .i64 o.dst)).set (i * 5 + 2) (.int .i64 o.a)).set (i * 5 + 3) (.int .i64 o.b)).set (i * 5 + 4) (.int .i64 o.imm)) = (l.set i o).flatMap opCells
  | [], i, o => by simp
  | t :: r, 0, o => by simp [opCells]
  | t :: r, i + 1, o => by
    have ih := set_op r i o
    rw [show (i + 1) * 5 = i * 5 + 1 + 1 + 1 + 1 + 1 by omega, List.set_cons_succ, List.flatMap_cons, List.flatMap_cons, ← ih]
    simp [opCells]
/-- n operations, as cells. -/
def opRow (n : Nat) (f : Nat → Gr.Op) : Array Value := (((List.range n).map f).flatMap opCells).toArray
theorem opRow_set (n : Nat) (f f' : Nat → Gr.Op) (i : Nat) (o : Gr.Op) (hf : ∀ j, j < n → f' j = if j = i then o else f j) :
    ((((((opRow n f).setIfInBounds (i * 5) (.int .i64 o.kind)).setIfInBounds (i * 5 + 1) (.int .i64 o.dst)).setIfInBounds (i * 5 + 2) (.int .i64 o.a)).setIfInBounds (i * 5 + 3) (.int .i64 o.b)).setIfInBounds (i * 5 + 4) (.int .i64 o.imm)) = opRow n f' := by
  unfold opRow
  simp only [List.setIfInBounds_toArray]
  rw [set_op]
  congr 2
  apply List.ext_getElem?
  intro j
  rw [List.getElem?_set]
  rcases Nat.lt_or_ge j n with hj | hj
  · rw [List.getElem?_map, List.getElem?_map, List.getElem?_range hj]
    simp only [Option.map_some, List.length_map, List.length_range]
    rw [hf j hj]
    by_cases e : i = j
    · subst e; simp [hj]
    · rw [if_neg e, if_neg (fun h => e h.symm)]
  · rw [List.getElem?_eq_none (by simpa using hj), List.getElem?_eq_none (by simpa using hj)]
    split
    · rename_i h; subst h; rw [if_neg (by simpa using hj)]
    · rfl
theorem opRow_cell (n : Nat) (f : Nat → Gr.Op) {i : Nat} (hi : i < n) : (opRow n f)[i * 5]? = some (.int .i64 (f i).kind) ∧ (opRow n f)[i * 5 + 1]? = some (.int .i64 (f i).dst) ∧ (opRow n f)[i * 5 + 2]? = some (.int .i64 (f i).a) ∧ (opRow n f)[i * 5 + 3]? = some (.int .i64 (f i).b) ∧ (opRow n f)[i * 5 + 4]? = some (.int .i64 (f i).imm) := by
  have hx : ((List.range n).map f)[i]? = some (f i) := by rw [List.getElem?_map, List.getElem?_range hi]; rfl
  have h : ∀ k u, (opCells (f i))[k]? = some u → (opRow n f)[i * 5 + k]? = some u := fun k u hu => by
    unfold opRow
    rw [List.getElem?_toArray]
    exact flat_cell opCells 5 (fun _ => rfl) _ i k _ _ hx hu
  exact ⟨h 0 _ rfl, h 1 _ rfl, h 2 _ rfl, h 3 _ rfl, h 4 _ rfl⟩
theorem opRow_size (n : Nat) (f : Nat → Gr.Op) : (opRow n f).size = n * 5 := by
  unfold opRow
  rw [List.size_toArray, flat_length opCells 5 (fun _ => rfl)]
  simp
theorem made5 (m : Nat) : madeCells #[.int .i64 0, .int .i64 0, .int .i64 0, .int .i64 0, .int .i64 0] m = Array.replicate m (Value.int .i64 0) := by
  unfold madeCells
  apply Array.ext
  · simp
  · intro a ha hb
    rw [Array.getElem_map, Array.getElem_range, Array.getElem_replicate]
    have hm : a % 5 = 0 ∨ a % 5 = 1 ∨ a % 5 = 2 ∨ a % 5 = 3 ∨ a % 5 = 4 := by omega
    show (#[Value.int .i64 0, .int .i64 0, .int .i64 0, .int .i64 0, .int .i64 0])[a % 5]! = _
    rcases hm with h | h | h | h | h <;> rw [h] <;> rfl
theorem opRow_zero (n : Nat) : madeCells (Value.agg #[.int .i64 0, .int .i64 0, .int .i64 0, .int .i64 0, .int .i64 0]).cells (n * 5) = opRow n (fun _ => Gr.op0) := by
  rw [show (Value.agg #[.int .i64 0, .int .i64 0, .int .i64 0, .int .i64 0, .int .i64 0]).cells = #[.int .i64 0, .int .i64 0, .int .i64 0, .int .i64 0, .int .i64 0] by kernel_rfl, made5]
  apply Array.ext
  · rw [Array.size_replicate, opRow_size]
  · intro q h1 h2
    rw [Array.size_replicate] at h1
    have hq : q / 5 < n := by omega
    have hc := opRow_cell n (fun _ => Gr.op0) hq
    have hr : (opRow n fun _ => Gr.op0)[q]? = some (Value.int .i64 0) := by
      have hm : q % 5 = 0 ∨ q % 5 = 1 ∨ q % 5 = 2 ∨ q % 5 = 3 ∨ q % 5 = 4 := by omega
      rcases hm with h | h | h | h | h
      · rw [show q = q / 5 * 5 by omega]; exact hc.1
      · rw [show q = q / 5 * 5 + 1 by omega]; exact hc.2.1
      · rw [show q = q / 5 * 5 + 2 by omega]; exact hc.2.2.1
      · rw [show q = q / 5 * 5 + 3 by omega]; exact hc.2.2.2.1
      · rw [show q = q / 5 * 5 + 4 by omega]; exact hc.2.2.2.2
    rw [Array.getElem?_eq_getElem h2] at hr
    injection hr with hr
    rw [hr, Array.getElem_replicate]
theorem info_op : (Try.prog.info? 27).map (fun i => (i.zero, i.size, i.bytes)) = some (some (.agg #[.int .i64 0, .int .i64 0, .int .i64 0, .int .i64 0, .int .i64 0]), 5, 40) := by kernel_rfl
theorem make_ops (n : Nat) (hn : n ≤ 1000) (u : World) : (Instr.makeSlice 25 (.int .i64 (n : Int)) (.int .i64 (n : Int))).run Try.prog u = .ok (.slice (some ⟨u.heap.size, 0, none⟩) n n) (u.alloc (.cells (opRow n (fun _ => Gr.op0)) 27)) := by
  obtain ⟨i, hi, hz, hs, hby⟩ := info_parts info_op
  have h := run_make (P := Try.prog) u 25 27 i _ Try.underlying25 hi hz .i64 .i64 n n (by omega) (by omega) (by rw [hby]; omega) (by omega)
  rw [h, hs, Int.toNat_natCast, opRow_zero]
theorem rowin_far {u : World} {size n c : Nat} {A : Option Addr} {xs : List Value} (h : RowIn size u (.slice A n c) n xs) {p : Addr} (hp : ∀ g o f, A = some ⟨g, o, f⟩ → g ≠ p.block) (x : Value) : RowIn size (u.setCell p x) (.slice A n c) n xs := by
  obtain ⟨A', c', e, hl, hc⟩ := h
  injection e with e1 e2 e3
  subst e1 e3
  refine ⟨_, _, rfl, hl, ?_⟩
  rcases hc with h0 | ⟨g, o, rfl, hlt, hc⟩
  · exact .inl h0
  · refine .inr ⟨g, o, rfl, by simpa using hlt, fun j y hj => ?_⟩
    rw [World.cell?_setCell_far _ _ _ _ (fun e => hp g o none rfl e.symm)]
    exact hc j y hj
/-- n cells. -/
def slRow (n : Nat) (f : Nat → Value) : Array Value := ((List.range n).map f).toArray
theorem slRow_set (n : Nat) (f f' : Nat → Value) (i : Nat) (x : Value) (hf : ∀ j, j < n → f' j = if j = i then x else f j) : (slRow n f).setIfInBounds i x = slRow n f' := by
  unfold slRow
  rw [List.setIfInBounds_toArray]
  congr 1
  apply List.ext_getElem?
  intro j
  rw [List.getElem?_set]
  rcases Nat.lt_or_ge j n with hj | hj
  · rw [List.getElem?_map, List.getElem?_map, List.getElem?_range hj]
    simp only [Option.map_some, List.length_map, List.length_range]
    rw [hf j hj]
    by_cases e : i = j
    · subst e; simp [hj]
    · rw [if_neg e, if_neg (fun h => e h.symm)]
  · rw [List.getElem?_eq_none (by simpa using hj), List.getElem?_eq_none (by simpa using hj)]
    split
    · rename_i h; subst h; rw [if_neg (by simpa using hj)]
    · rfl
theorem slRow_cell (n : Nat) (f : Nat → Value) {i : Nat} (hi : i < n) : (slRow n f)[i]? = some (f i) := by
  unfold slRow
  rw [List.getElem?_toArray, List.getElem?_map, List.getElem?_range hi]
  rfl
theorem slRow_size (n : Nat) (f : Nat → Value) : (slRow n f).size = n := by unfold slRow; simp
theorem slRow_zero (n : Nat) : madeCells (Value.slice none 0 0).cells n = slRow n (fun _ => .slice none 0 0) := by
  rw [show (Value.slice none 0 0).cells = #[.slice none 0 0] by kernel_rfl]
  unfold madeCells
  apply Array.ext
  · simp [slRow_size]
  · intro a ha hb
    have h := slRow_cell n (fun _ => Value.slice none 0 0) (show a < n by simpa using ha)
    rw [Array.getElem?_eq_getElem hb] at h
    injection h with h
    rw [h, Array.getElem_map, Array.getElem_range]
    show (#[Value.slice none 0 0])[a % 1]! = _
    rw [Nat.mod_one]
    rfl
/-- A block's cells. -/
def bkC (x : Value × Int × Value) : List Value := [x.1, .int .i64 x.2.1, x.2.2]
def bkRow (n : Nat) (f : Nat → Value × Int × Value) : Array Value := (((List.range n).map f).flatMap bkC).toArray
theorem set_bk : ∀ (l : List (Value × Int × Value)) (i : Nat) (x : Value × Int × Value), ((((l.flatMap bkC).set (i * 3) x.1).set (i * 3 + 1) (.int .i64 x.2.1)).set (i * 3 + 2) x.2.2) = (l.set i x).flatMap bkC
  | [], i, o => by simp
  | t :: r, 0, o => by simp [bkC]
  | t :: r, i + 1, o => by
    have ih := set_bk r i o
    rw [show (i + 1) * 3 = i * 3 + 1 + 1 + 1 by omega, List.set_cons_succ, List.flatMap_cons, List.flatMap_cons, ← ih]
    simp [bkC]
theorem bkRow_set (n : Nat) (f f' : Nat → Value × Int × Value) (i : Nat) (x : Value × Int × Value) (hf : ∀ j, j < n → f' j = if j = i then x else f j) :
    ((((bkRow n f).setIfInBounds (i * 3) x.1).setIfInBounds (i * 3 + 1) (.int .i64 x.2.1)).setIfInBounds (i * 3 + 2) x.2.2) = bkRow n f' := by
  unfold bkRow
  simp only [List.setIfInBounds_toArray]
  rw [set_bk]
  congr 2
  apply List.ext_getElem?
  intro j
  rw [List.getElem?_set]
  rcases Nat.lt_or_ge j n with hj | hj
  · rw [List.getElem?_map, List.getElem?_map, List.getElem?_range hj]
    simp only [Option.map_some, List.length_map, List.length_range]
    rw [hf j hj]
    by_cases e : i = j
    · subst e; simp [hj]
    · rw [if_neg e, if_neg (fun h => e h.symm)]
  · rw [List.getElem?_eq_none (by simpa using hj), List.getElem?_eq_none (by simpa using hj)]
    split
    · rename_i h; subst h; rw [if_neg (by simpa using hj)]
    · rfl
theorem bkRow_cell (n : Nat) (f : Nat → Value × Int × Value) {i : Nat} (hi : i < n) : (bkRow n f)[i * 3]? = some (f i).1 ∧ (bkRow n f)[i * 3 + 1]? = some (.int .i64 (f i).2.1) ∧ (bkRow n f)[i * 3 + 2]? = some (f i).2.2 := by
  have hx : ((List.range n).map f)[i]? = some (f i) := by rw [List.getElem?_map, List.getElem?_range hi]; rfl
  have h : ∀ k u, (bkC (f i))[k]? = some u → (bkRow n f)[i * 3 + k]? = some u := fun k u hu => by
    unfold bkRow
    rw [List.getElem?_toArray]
    exact flat_cell bkC 3 (fun _ => rfl) _ i k _ _ hx hu
  exact ⟨h 0 _ rfl, h 1 _ rfl, h 2 _ rfl⟩
theorem bkRow_size (n : Nat) (f : Nat → Value × Int × Value) : (bkRow n f).size = n * 3 := by
  unfold bkRow
  rw [List.size_toArray, flat_length bkC 3 (fun _ => rfl)]
  simp
def bkz : Value × Int × Value := (.slice none 0 0, 0, .slice none 0 0)
theorem bkRow_zero (n : Nat) : madeCells (Value.agg #[.slice none 0 0, .int .i64 0, .slice none 0 0]).cells (n * 3) = bkRow n (fun _ => bkz) := by
  rw [show (Value.agg #[.slice none 0 0, .int .i64 0, .slice none 0 0]).cells = #[.slice none 0 0, .int .i64 0, .slice none 0 0] by kernel_rfl]
  unfold madeCells
  apply Array.ext
  · simp [bkRow_size]
  · intro q ha hb
    have hqn : q < n * 3 := by simpa using ha
    have hc := bkRow_cell n (fun _ => bkz) (show q / 3 < n by omega)
    rw [Array.getElem_map, Array.getElem_range]
    show (#[Value.slice none 0 0, .int .i64 0, .slice none 0 0])[q % 3]! = _
    have hm : q % 3 = 0 ∨ q % 3 = 1 ∨ q % 3 = 2 := by omega
    have hr : (bkRow n fun _ => bkz)[q]? = some ((bkRow n fun _ => bkz)[q]) := Array.getElem?_eq_getElem hb
    generalize (bkRow n fun _ => bkz)[q] = z at hr ⊢
    rcases hm with h | h | h
    · rw [show q = q / 3 * 3 by omega, hc.1] at hr
      rw [h]
      injection hr with hr
    · rw [show q = q / 3 * 3 + 1 by omega, hc.2.1] at hr
      rw [h]
      injection hr with hr
    · rw [show q = q / 3 * 3 + 2 by omega, hc.2.2] at hr
      rw [h]
      injection hr with hr
theorem info_lst : (Try.prog.info? 32).map (fun i => (i.zero, i.size, i.bytes)) = some (some (.slice none 0 0), 1, 24) := by kernel_rfl
theorem info_blk : (Try.prog.info? 34).map (fun i => (i.zero, i.size, i.bytes)) = some (some (.agg #[.slice none 0 0, .int .i64 0, .slice none 0 0]), 3, 56) := by kernel_rfl
theorem make_lsts (n : Nat) (hn : n ≤ 1000) (u : World) : (Instr.makeSlice 37 (.int .i64 (n : Int)) (.int .i64 (n : Int))).run Try.prog u = .ok (.slice (some ⟨u.heap.size, 0, none⟩) n n) (u.alloc (.cells (slRow n (fun _ => .slice none 0 0)) 32)) := by
  obtain ⟨i, hi, hz, hs, hby⟩ := info_parts info_lst
  have h := run_make (P := Try.prog) u 37 32 i _ Try.underlying37 hi hz .i64 .i64 n n (by omega) (by omega) (by rw [hby]; omega) (by omega)
  rw [h, hs, Int.toNat_natCast, Nat.mul_one, slRow_zero]
theorem make_blks (n : Nat) (hn : n ≤ 1000) (u : World) : (Instr.makeSlice 35 (.int .i64 (n : Int)) (.int .i64 (n : Int))).run Try.prog u = .ok (.slice (some ⟨u.heap.size, 0, none⟩) n n) (u.alloc (.cells (bkRow n (fun _ => bkz)) 34)) := by
  obtain ⟨i, hi, hz, hs, hby⟩ := info_parts info_blk
  have h := run_make (P := Try.prog) u 35 34 i _ Try.underlying35 hi hz .i64 .i64 n n (by omega) (by omega) (by rw [hby]; omega) (by omega)
  rw [h, hs, Int.toNat_natCast, bkRow_zero]
/-- A row whose block lies between lo and hi. -/
def Part (size lo hi : Nat) (u : World) (v : Value) (n : Nat) (xs : List Value) : Prop := RowIn size u v n xs ∧ ∀ A c, v = .slice A n c → ∀ g o f, A = some ⟨g, o, f⟩ → lo ≤ g ∧ g < hi
section
variable {size lo hi n : Nat} {u u' : World} {v : Value} {xs : List Value}
theorem Part.below (h : Part size lo hi u v n xs) (hb : Below u.heap.size u u') : Part size lo hi u' v n xs := ⟨h.1.below hb, h.2⟩
theorem Part.far (h : Part size lo hi u v n xs) {p : Addr} (hp : p.block < lo ∨ hi ≤ p.block) (x : Value) : Part size lo hi (u.setCell p x) v n xs := by
  obtain ⟨A, c, e, _⟩ := id h.1
  subst e
  exact ⟨rowin_far h.1 (fun g o f e => by have := h.2 A c rfl g o f e; omega) x, h.2⟩
theorem Part.more (h : Part size lo hi u v n xs) {lo' hi' : Nat} (hl : lo' ≤ lo) (hh : hi ≤ hi') : Part size lo' hi' u v n xs := ⟨h.1, fun A c e g o f e' => by have := h.2 A c e g o f e'; omega⟩
theorem Part.own {e : TypeId} (h : u.ownsRow lo e size v n xs) : Part size lo u.heap.size u v n xs := ⟨RowIn.own h, fun A c ev g o f e' => by
  subst ev; subst e'
  exact h.lt g (by simp [Value.ownBlock])⟩
end
theorem part_lo {size lo n c : Nat} {u : World} {A : Option Addr} {xs : List Value} (h : RowIn size u (.slice A n c) n xs) (hA : ∀ g o f, A = some ⟨g, o, f⟩ → lo ≤ g) : ∃ hi, Part size lo hi u (.slice A n c) n xs := by
  cases A with
  | none => exact ⟨0, h, fun A c e g o f e' => by injection e with e1 e2 e3; subst e1; cases e'⟩
  | some a =>
    obtain ⟨g, o, f⟩ := a
    refine ⟨g + 1, h, fun A c e g' o' f' e' => ?_⟩
    injection e with e1 e2 e3
    subst e1
    injection e' with e'
    injection e' with e4 e5 e6
    have := hA g o f rfl
    omega
end Go.Proofs.Ytojnhdkclabkgaa
