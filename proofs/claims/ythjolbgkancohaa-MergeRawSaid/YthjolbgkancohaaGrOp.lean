/- Arguments of laws, opened: small arrays of bytes, pairs of integers. A graph that came in, opened: its lists in memory, and how long they are. No condition. A graph that came in, opened. No condition. -/
import Derived.Test.YthjolbgkancohaaLawKit
import Derived.Lib.SmallJoins
import Derived.Test.YthjolbgkancohaaGrMem
import Derived.Deep.Slices
import Derived.ChangeSame
import Derived.SizedLaws
import Derived.Test.YthjolbgkancohaaGrRefD
namespace Go.Proofs.Ythjolbgkancohaa
open Go.RowKit Go.WideShapes Go.ChangeShapes Go.Joins Go.Deep
section
variable {H : Type} {enc : TypeId × Value → H} {P : Program}
theorem okWide_array {t e : TypeId} {n : Nat} {r : Reach} {w : World} {b0 : Nat} {v : Value} (ht : P.underlying t = some (.array n e)) (h : Value.okWide P w r b0 t v) : ∃ cs, v = .agg cs ∧ cs.size = P.cellsOf t := by
  simp only [Value.okWide, ht] at h
  obtain ⟨cs, h1, h2, _⟩ := h
  exact ⟨cs, h1, h2⟩
theorem cell_u8 {e : TypeId} {W : World} {n : Nat} {c : Value} {y : DataW H × List MemPlace} (he : P.underlying e = some (.int .u8)) (h : DataW.trod enc P W 0 (fun _ => true) true n e [c] = some y) : ∃ z : Int, c = .int .u8 z ∧ 0 ≤ z ∧ z ≤ 255 := by
  obtain ⟨a, e0, _, hw⟩ := DataW.trod_int he h
  simp only [List.cons.injEq, and_true] at e0
  exact ⟨a, e0, bounds_u8 hw⟩
theorem open_u8s2 {t e : TypeId} {r : Reach} {W : World} {b0 : Nat} {v : Value} {d : DataW H} {p : List MemPlace} (ht : P.underlying t = some (.array 2 e)) (he : P.underlying e = some (.int .u8)) (hC : P.cellsOf t = 2) (hc : P.cellsOf e = 1)
    (hval : Value.okWide P W r b0 t v) (h : DataW.Trod enc P W 0 (fun _ => true) true t v d p) : ∃ z0 z1 : Int, v = .agg #[.int .u8 z0, .int .u8 z1] ∧ (0 ≤ z0 ∧ z0 ≤ 255) ∧ (0 ≤ z1 ∧ z1 ≤ 255) := by
  obtain ⟨cs, rfl, hs⟩ := okWide_array ht hval
  obtain ⟨c0, c1, rfl⟩ := array2 (hs.trans hC)
  obtain ⟨fuel, hf⟩ := h
  obtain ⟨xs, m, _, _, _, hl, hx⟩ := DataW.trod_array ht hf
  have g := fun i hi => hx i hi
  have g0 := g 0 (by omega)
  have g1 := g 1 (by omega)
  rw [hc] at g0 g1
  simp [Value.cells] at g0 g1
  rw [List.getElem?_eq_getElem (show 0 < xs.length by omega)] at g0
  rw [List.getElem?_eq_getElem (show 1 < xs.length by omega)] at g1
  obtain ⟨z0, rfl, b0⟩ := cell_u8 he g0
  obtain ⟨z1, rfl, b1⟩ := cell_u8 he g1
  exact ⟨z0, z1, rfl, b0, b1⟩
theorem open_u8s3 {t e : TypeId} {r : Reach} {W : World} {b0 : Nat} {v : Value} {d : DataW H} {p : List MemPlace} (ht : P.underlying t = some (.array 3 e)) (he : P.underlying e = some (.int .u8)) (hC : P.cellsOf t = 3) (hc : P.cellsOf e = 1)
    (hval : Value.okWide P W r b0 t v) (h : DataW.Trod enc P W 0 (fun _ => true) true t v d p) : ∃ z0 z1 z2 : Int, v = .agg #[.int .u8 z0, .int .u8 z1, .int .u8 z2] ∧ (0 ≤ z0 ∧ z0 ≤ 255) ∧ (0 ≤ z1 ∧ z1 ≤ 255) ∧ (0 ≤ z2 ∧ z2 ≤ 255) := by
  obtain ⟨cs, rfl, hs⟩ := okWide_array ht hval
  obtain ⟨c0, c1, c2, rfl⟩ := array3 (hs.trans hC)
  obtain ⟨fuel, hf⟩ := h
  obtain ⟨xs, m, _, _, _, hl, hx⟩ := DataW.trod_array ht hf
  have g := fun i hi => hx i hi
  have g0 := g 0 (by omega)
  have g1 := g 1 (by omega)
  have g2 := g 2 (by omega)
  rw [hc] at g0 g1 g2
  simp [Value.cells] at g0 g1 g2
  rw [List.getElem?_eq_getElem (show 0 < xs.length by omega)] at g0
  rw [List.getElem?_eq_getElem (show 1 < xs.length by omega)] at g1
  rw [List.getElem?_eq_getElem (show 2 < xs.length by omega)] at g2
  obtain ⟨z0, rfl, b0⟩ := cell_u8 he g0
  obtain ⟨z1, rfl, b1⟩ := cell_u8 he g1
  obtain ⟨z2, rfl, b2⟩ := cell_u8 he g2
  exact ⟨z0, z1, z2, rfl, b0, b1, b2⟩
theorem bounds_i32' {a : Int} (h : (Lit.int .i32 a).wf = true) : -2147483648 ≤ a ∧ a ≤ 2147483647 := by
  simpa [Lit.wf, IntKind.min, IntKind.max, IntKind.signed, IntKind.bits] using h
theorem bounds_i16' {a : Int} (h : (Lit.int .i16 a).wf = true) : -32768 ≤ a ∧ a ≤ 32767 := by
  simpa [Lit.wf, IntKind.min, IntKind.max, IntKind.signed, IntKind.bits] using h
theorem bounds_u32' {a : Int} (h : (Lit.int .u32 a).wf = true) : 0 ≤ a ∧ a ≤ 4294967295 := by
  simpa [Lit.wf, IntKind.min, IntKind.max, IntKind.signed, IntKind.bits] using h
theorem bounds_i64' {a : Int} (h : (Lit.int .i64 a).wf = true) : -9223372036854775808 ≤ a ∧ a ≤ 9223372036854775807 := by
  simpa [Lit.wf, IntKind.min, IntKind.max, IntKind.signed, IntKind.bits] using h
/-- Where a slice that came in lies. -/
theorem slice_block {t e : TypeId} {r : Reach} {w : World} {b0 : Nat} {v : Value} (ht : P.underlying t = some (.slice e)) (h : Value.okWide P w r b0 t v) : ∀ a n c, v = .slice (some a) n c → a.block < w.heap.size := by
  rintro a n c rfl
  simp only [Value.okWide, ht, Cell.okWide, Cell.ok, World.has] at h
  obtain ⟨_, _, _, _, row, cells, hs, _⟩ := h
  rcases Nat.lt_or_ge a.block w.heap.size with hl | hg
  · exact hl
  · unfold World.shape? at hs
    rw [Array.getElem?_eq_none hg] at hs
    simp at hs
/-- A struct of two ints. -/
theorem open_pair {t : TypeId} {f0 f1 : Field} {r : Reach} {W : World} {b0 : Nat} {v : Value} {d : DataW H} {p : List MemPlace} (hs : P.underlying t = some (.struct #[f0, f1])) (hone : oneCellFields P #[f0, f1] = true) (hC : P.cellsOf t = 2)
    (e0 : P.underlying f0.type = some (.int .i64)) (e1 : P.underlying f1.type = some (.int .i64)) (hval : Value.okWide P W r b0 t v) (h : DataW.Trod enc P W 0 (fun _ => true) true t v d p) :
    ∃ z0 z1 : Int, v = .agg #[.int .i64 z0, .int .i64 z1] ∧ (-9223372036854775808 ≤ z0 ∧ z0 ≤ 9223372036854775807) ∧ (-9223372036854775808 ≤ z1 ∧ z1 ≤ 9223372036854775807) := by
  obtain ⟨v0, v1, y0, y1, n, rfl, _, _, h0, h1⟩ := open_agg2 hs hone hC hval h
  obtain ⟨a, q0, _, w0⟩ := DataW.trod_int e0 h0
  obtain ⟨b, q1, _, w1⟩ := DataW.trod_int e1 h1
  simp only [List.cons.injEq, and_true] at q0 q1
  subst q0; subst q1
  exact ⟨a, b, rfl, bounds_i64' w0, bounds_i64' w1⟩
end
end Go.Proofs.Ythjolbgkancohaa
namespace Go.Proofs.Ythjolbgkancohaa
open Go.RowKit Go.WideShapes Go.ChangeShapes Go.Deep Go.Joins
set_option linter.unusedVariables false
set_option linter.unusedSimpArgs false
section
variable {H : Type} {enc : TypeId × Value → H} {P : Program} {w : World}
/-- All that a datum leads to takes no more than memory holds. -/
def Sz (P : Program) (t : TypeId) (d : DataW H) : Prop := ∀ n ∈ d.weights P t, n ≤ reachBytes
theorem mem_weightsAll {e : TypeId} : ∀ {es : List (DataW H)} {x : DataW H}, x ∈ es → ∀ n ∈ x.weights P e, n ∈ DataW.weightsAll P e es
  | y :: r, x, hx, n, hn => by
    rw [DataW.weightsAll, List.mem_append]
    rcases List.mem_cons.1 hx with rfl | h
    · exact .inl hn
    · exact .inr (mem_weightsAll h n hn)
theorem sz_row {t e : TypeId} {es sp : List (DataW H)} (ht : P.underlying t = some (.slice e)) (h : Sz P t (.slice es sp)) : (es.length + sp.length) * P.bytesOf e ≤ reachBytes ∧ ∀ x ∈ es, Sz P e x := by
  unfold Sz at h
  rw [DataW.weights, ht] at h
  refine ⟨h _ (List.mem_cons_self), fun x hx n hn => h n ?_⟩
  exact List.mem_cons_of_mem _ (List.mem_append.2 (.inl (mem_weightsAll hx n hn)))
theorem sz_field {t : TypeId} {fs : Array Field} {xs : List (DataW H)} (ht : P.underlying t = some (.struct fs)) (h : Sz P t (.agg xs)) {j : Nat} {f : Field} {x : DataW H} (hf : fs[j]? = some f) (hx : xs[j]? = some x) : Sz P f.type x := by
  intro n hn
  refine h n ?_
  rw [DataW.weights, ht]
  exact DataW.weights_mem_each (j := j) (by simp [hf]) hx n hn
theorem reach_le {n k : Nat} (hk : 0 < k) (h : n * k ≤ reachBytes) : n ≤ 140737488355328 := by
  have h1 : n * 1 ≤ n * k := Nat.mul_le_mul_left n hk
  have h2 : reachBytes ≤ 140737488355328 := by decide
  omega
/-- The fields of a struct of one-cell fields, as it is read. -/
theorem struct_fields {e : TypeId} {fs : Array Field} {fuel : Nat} {cs : List Value} {x : DataW H × List MemPlace} (he : P.underlying e = some (.struct fs)) (hone : oneCellFields P fs = true) (hC : P.cellsOf e = fs.size)
    (h : DataW.trod enc P w 0 (fun _ => true) true fuel e cs = some x) :
    cs.length = fs.size ∧ ∃ (xs : List (DataW H)) (n : Nat), x.1 = .agg xs ∧ ∀ (j : Nat) (f : Field), fs[j]? = some f → ∃ (u : Value) (y : DataW H × List MemPlace), cs[j]? = some u ∧ xs[j]? = some y.1 ∧ DataW.trod enc P w 0 (fun _ => true) true n f.type [u] = some y := by
  obtain ⟨ys, n, _, hx, hl, hyl, hf⟩ := DataW.trod_struct he h
  rw [hC] at hl
  refine ⟨hl, ys.map (·.1), n, by rw [hx], fun j f hj => ?_⟩
  obtain ⟨ho, hk⟩ := hone_of hone j f hj
  have hjl : j < fs.size := (Array.getElem?_eq_some_iff.1 hj).1
  have h1 := hf j f hj
  have h2 : (cs.drop j).take 1 = [cs[j]'(by omega)] := by rw [List.drop_eq_getElem_cons (by omega)]; rfl
  rw [ho, hk, h2, List.getElem?_eq_getElem (show j < ys.length by omega)] at h1
  exact ⟨_, _, List.getElem?_eq_getElem (by omega), by simp [List.getElem?_eq_getElem (show j < ys.length by omega)], h1⟩
/-- A slice that is read: where its elements lie, and each one's own reading. -/
theorem open_row {t e : TypeId} {size fuel : Nat} {v : Value} {x : DataW H × List MemPlace} (ht : P.underlying t = some (.slice e)) (hc : P.cellsOf e = size) (h0 : 0 < size) (hB : 0 < P.bytesOf e) (hs : Sz P t x.1)
    (h : DataW.trod enc P w 0 (fun _ => true) true fuel t [v] = some x) :
    ∃ (A : Option Addr) (len cap : Nat), v = .slice A len cap ∧ len ≤ cap ∧ len ≤ 140737488355328 ∧ (len = 0 ∨ ∃ (b off n : Nat) (C : Nat → List Value), A = some ⟨b, off, none⟩ ∧ b < w.heap.size ∧ ∀ i, i < len →
      (∀ (k : Nat) (u : Value), (C i)[k]? = some u → w.cell? ⟨b, off + i * size + k, none⟩ = some u) ∧ ∃ y : DataW H × List MemPlace, DataW.trod enc P w 0 (fun _ => true) true n e (C i) = some y ∧ Sz P e y.1) := by
  rcases open_slice ht h with ⟨hcs, _⟩ | ⟨a, len, cap, m, n, D, Pl, hcs, _, hl, hm, hmm, hx, hi⟩
  · exact ⟨none, 0, 0, by simpa using hcs, Nat.le_refl _, Nat.zero_le _, .inl rfl⟩
  · simp only [if_true] at hmm
    subst hmm
    rw [hx] at hs
    obtain ⟨hz, hel⟩ := sz_row ht hs
    have hlen : len ≤ 140737488355328 := by
      have := reach_le hB hz
      simp at this
      omega
    refine ⟨some a, len, m, by simpa using hcs, hl, hlen, ?_⟩
    by_cases hz0 : len = 0
    · exact .inl hz0
    · right
      rw [hc] at hi
      obtain ⟨C, hC⟩ := choose_lt (α := List Value) (p := fun i cs' => w.cells? 0 (a.add (i * size)) size = some cs' ∧ DataW.trod enc P w 0 (fun _ => true) true n e cs' = some (D i, Pl i)) hi
      obtain ⟨b, off, spot⟩ := a
      have hspot : spot = none := by
        obtain ⟨_, hcl, hat⟩ := World.cells?_some (hC 0 (by omega)).1
        have h1 := hat 0 h0
        rw [List.getElem?_eq_getElem (by omega)] at h1
        simpa [Addr.add] using World.cell?_spot h1
      subst hspot
      have hcell : ∀ i, i < len → ∀ (k : Nat) (u : Value), (C i)[k]? = some u → w.cell? ⟨b, off + i * size + k, none⟩ = some u := fun i hi' k u hu => by
        obtain ⟨_, hcl, hat⟩ := World.cells?_some (hC i (by omega)).1
        have hk : k < size := by rw [← hcl]; exact (List.getElem?_eq_some_iff.1 hu).1
        have h1 := hat k hk
        rw [hu, Go.Deep.add_add, Go.WideShapes.add_plain, ← Nat.add_assoc] at h1
        exact h1
      refine ⟨b, off, n, C, rfl, ?_, fun i hi' => ⟨hcell i hi', _, (hC i (by omega)).2, hel _ (by simp only [List.mem_map, List.mem_range]; exact ⟨i, hi', rfl⟩)⟩⟩
      obtain ⟨_, hcl, _⟩ := World.cells?_some (hC 0 (by omega)).1
      exact World.block_lt_of_cell? w _ (hcell 0 (by omega) 0 _ (List.getElem?_eq_getElem (by omega)))
/-- Cell j of a row of elements. -/
theorem flat_get {α : Type} (f : α → List Value) (q : Nat) (hq : 0 < q) (hf : ∀ x, (f x).length = q) : ∀ (l : List α) (j : Nat) (u : Value), (l.flatMap f)[j]? = some u → ∃ (i k : Nat) (x : α), j = i * q + k ∧ l[i]? = some x ∧ (f x)[k]? = some u
  | [], j, u, h => by simp at h
  | y :: l, j, u, h => by
    rw [List.flatMap_cons] at h
    by_cases hj : j < (f y).length
    · rw [List.getElem?_append_left hj] at h
      exact ⟨0, j, y, by omega, rfl, h⟩
    · rw [List.getElem?_append_right (by omega), hf] at h
      rw [hf] at hj
      obtain ⟨i, k, x, e, hx, hu⟩ := flat_get f q hq hf l (j - q) u h
      exact ⟨i + 1, k, x, by rw [Nat.add_mul]; omega, by simpa using hx, hu⟩
theorem row_made {α : Type} (f : α → List Value) (q : Nat) (hq : 0 < q) (hf : ∀ x, (f x).length = q) (o : Nat → α) (A : Option Addr) (len cap : Nat)
    (h : len = 0 ∨ ∃ b off, A = some ⟨b, off, none⟩ ∧ b < w.heap.size ∧ ∀ i, i < len → ∀ (k : Nat) (u : Value), (f (o i))[k]? = some u → w.cell? ⟨b, off + i * q + k, none⟩ = some u) :
    RowIn q w (.slice A len cap) ((List.range len).map o).length (((List.range len).map o).flatMap f) := by
  refine ⟨A, cap, by simp, ?_, ?_⟩
  · rw [flat_length f q hf]
  · rcases h with rfl | ⟨b, off, rfl, hb, hc⟩
    · exact .inl (by simp)
    · refine .inr ⟨b, off, rfl, hb, fun j u hj => ?_⟩
      obtain ⟨i, k, x, rfl, hx, hu⟩ := flat_get f q hq hf _ _ _ hj
      have hi : i < len := by
        have := (List.getElem?_eq_some_iff.1 hx).1
        simpa using this
      obtain rfl : o i = x := by simpa [hi] using hx
      have := hc i hi k u hu
      rwa [Nat.add_assoc] at this
/-- Numbers. -/
theorem open_nums {t e : TypeId} {fuel : Nat} {v : Value} {x : DataW H × List MemPlace} (ht : P.underlying t = some (.slice e)) (he : P.underlying e = some (.int .i64)) (hc : P.cellsOf e = 1) (hB : 0 < P.bytesOf e) (hs : Sz P t x.1)
    (h : DataW.trod enc P w 0 (fun _ => true) true fuel t [v] = some x) :
    ∃ (A : Option Addr) (cap : Nat) (l : List Int), v = .slice A l.length cap ∧ l.length ≤ cap ∧ l.length ≤ 140737488355328 ∧ NumsIn w v l := by
  obtain ⟨A, len, cap, rfl, hl, hm, hr⟩ := open_row ht hc (by omega) hB hs h
  have key : ∃ o : Nat → Int, len = 0 ∨ ∃ b off, A = some ⟨b, off, none⟩ ∧ b < w.heap.size ∧ ∀ i, i < len → ∀ (k : Nat) (u : Value), ([Value.int .i64 (o i)] : List Value)[k]? = some u → w.cell? ⟨b, off + i * 1 + k, none⟩ = some u := by
    rcases hr with h0 | ⟨b, off, n, C, hA, hb, hi⟩
    · exact ⟨fun _ => 0, .inl h0⟩
    · obtain ⟨o, ho⟩ := choose_lt (α := Int) (p := fun i z => C i = [Value.int .i64 z]) (fun i hi' => by
        obtain ⟨_, y, hy, _⟩ := hi i hi'
        obtain ⟨z, hz, _⟩ := DataW.trod_int he hy
        exact ⟨z, hz⟩)
      exact ⟨o, .inr ⟨b, off, hA, hb, fun i hi' k u hu => (hi i hi').1 k u (by rw [ho i hi']; exact hu)⟩⟩
  obtain ⟨o, ho⟩ := key
  have hrow := row_made (w := w) (fun z : Int => [Value.int .i64 z]) 1 (by omega) (fun _ => rfl) o A len cap ho
  refine ⟨A, cap, (List.range len).map o, by simp, by simpa using hl, by simpa using hm, ?_⟩
  have e : ((List.range len).map o).flatMap (fun z : Int => [Value.int .i64 z]) = ((List.range len).map o).map (Value.int .i64) := by
    induction (List.range len).map o with
    | nil => rfl
    | cons a r ih => simp [ih]
  rw [e] at hrow
  exact hrow
end
end Go.Proofs.Ythjolbgkancohaa
namespace Go.Proofs.Ythjolbgkancohaa
open Go.RowKit Go.WideShapes Go.ChangeShapes Go.Deep Go.Joins
set_option linter.unusedVariables false
set_option linter.unusedSimpArgs false
theorem list2 {cs : List Value} (hl : cs.length = 2) {a b : Value} (h0 : cs[0]? = some a) (h1 : cs[1]? = some b) : cs = [a, b] := by
  match cs, hl with
  | [x0, x1], _ => simp at h0 h1; subst h0 h1; rfl
theorem list3 {cs : List Value} (hl : cs.length = 3) {a b c : Value} (h0 : cs[0]? = some a) (h1 : cs[1]? = some b) (h2 : cs[2]? = some c) : cs = [a, b, c] := by
  match cs, hl with
  | [x0, x1, x2], _ => simp at h0 h1 h2; subst h0 h1 h2; rfl
theorem list5 {cs : List Value} (hl : cs.length = 5) {a b c d e : Value} (h0 : cs[0]? = some a) (h1 : cs[1]? = some b) (h2 : cs[2]? = some c) (h3 : cs[3]? = some d) (h4 : cs[4]? = some e) : cs = [a, b, c, d, e] := by
  match cs, hl with
  | [x0, x1, x2, x3, x4], _ => simp at h0 h1 h2 h3 h4; subst h0 h1 h2 h3 h4; rfl
theorem list8 {cs : List Value} (hl : cs.length = 8) {a b c d e f g h : Value} (h0 : cs[0]? = some a) (h1 : cs[1]? = some b) (h2 : cs[2]? = some c) (h3 : cs[3]? = some d) (h4 : cs[4]? = some e) (h5 : cs[5]? = some f) (h6 : cs[6]? = some g) (h7 : cs[7]? = some h) : cs = [a, b, c, d, e, f, g, h] := by
  match cs, hl with
  | [x0, x1, x2, x3, x4, x5, x6, x7], _ => simp at h0 h1 h2 h3 h4 h5 h6 h7; subst h0 h1 h2 h3 h4 h5 h6 h7; rfl
theorem range_getD' {α : Type} (f : Nat → α) (n i : Nat) (d : α) (h : i < n) : ((List.range n).map f).getD i d = f i := by simp [List.getD, h]
theorem choose_lt_any {α : Type} {n : Nat} {p : Nat → α → Prop} (d : α) (h : ∀ i, i < n → ∃ x, p i x) : ∃ f : Nat → α, ∀ i, i < n → p i (f i) := by
  haveI : Inhabited α := ⟨d⟩
  exact choose_lt h
theorem PtsIn.lsts {w : World} {v : Value} {l : List (List Int)} (h : PtsIn w v l) : LstsIn w v l := by
  obtain ⟨A, c, a1, c1, e, ho⟩ := h
  refine ⟨A, c, e, fun i hi => ?_⟩
  obtain ⟨b, off, eA, hb, hc, hn, _⟩ := ho i hi
  exact ⟨b, off, _, eA, hb, hc, hn⟩
section
variable {H : Type} {enc : TypeId × Value → H} {w : World}
theorem open_ops {fuel : Nat} {v : Value} {x : DataW H × List MemPlace} (hs : Sz Try.prog 25 x.1) (h : DataW.trod enc Try.prog w 0 (fun _ => true) true fuel 25 [v] = some x) :
    ∃ (A : Option Addr) (cap : Nat) (l : List (Gr.Op)), v = .slice A l.length cap ∧ l.length ≤ cap ∧ l.length ≤ 140737488355328 ∧ OpsIn w v l := by
  obtain ⟨A, len, cap, rfl, hl, hm, hr⟩ := open_row (size := 5) Try.underlying25 (by kernel_rfl) (by omega) (of_decide_eq_true (by kernel_rfl)) hs h
  have key : ∃ o : Nat → (Gr.Op), len = 0 ∨ ∃ b off, A = some ⟨b, off, none⟩ ∧ b < w.heap.size ∧ ∀ i, i < len → ∀ (k : Nat) (u : Value), (opCells (o i))[k]? = some u → w.cell? ⟨b, off + i * 5 + k, none⟩ = some u := by
    rcases hr with h0 | ⟨b, off, n, C, hA, hb, hi⟩
    · exact ⟨fun _ => Gr.op0, .inl h0⟩
    · obtain ⟨o, ho⟩ := choose_lt_any (p := fun i z => C i = opCells z) Gr.op0 (fun i hi' => by
        obtain ⟨_, y, hy, _⟩ := hi i hi'
        obtain ⟨hlen, xs, n', _, hf⟩ := struct_fields Try.underlying27 (by kernel_rfl) (by kernel_rfl) hy
        obtain ⟨u0, y0, c0, _, t0⟩ := hf 0 _ rfl
        obtain ⟨z0, q0, _⟩ := DataW.trod_int Try.underlying3 t0
        obtain rfl : u0 = _ := by simpa using q0
        obtain ⟨u1, y1, c1, _, t1⟩ := hf 1 _ rfl
        obtain ⟨z1, q1, _⟩ := DataW.trod_int Try.underlying3 t1
        obtain rfl : u1 = _ := by simpa using q1
        obtain ⟨u2, y2, c2, _, t2⟩ := hf 2 _ rfl
        obtain ⟨z2, q2, _⟩ := DataW.trod_int Try.underlying3 t2
        obtain rfl : u2 = _ := by simpa using q2
        obtain ⟨u3, y3, c3, _, t3⟩ := hf 3 _ rfl
        obtain ⟨z3, q3, _⟩ := DataW.trod_int Try.underlying3 t3
        obtain rfl : u3 = _ := by simpa using q3
        obtain ⟨u4, y4, c4, _, t4⟩ := hf 4 _ rfl
        obtain ⟨z4, q4, _⟩ := DataW.trod_int Try.underlying3 t4
        obtain rfl : u4 = _ := by simpa using q4
        exact ⟨⟨z0, z1, z2, z3, z4⟩, list5 hlen c0 c1 c2 c3 c4⟩)
      exact ⟨o, .inr ⟨b, off, hA, hb, fun i hi' k u hu => (hi i hi').1 k u (by rw [ho i hi']; exact hu)⟩⟩
  obtain ⟨o, ho⟩ := key
  exact ⟨A, cap, (List.range len).map o, by simp, by simpa using hl, by simpa using hm, row_made (w := w) opCells 5 (by omega) (fun _ => rfl) o A len cap ho⟩
theorem open_ins {fuel : Nat} {v : Value} {x : DataW H × List MemPlace} (hs : Sz Try.prog 36 x.1) (h : DataW.trod enc Try.prog w 0 (fun _ => true) true fuel 36 [v] = some x) :
    ∃ (A : Option Addr) (cap : Nat) (l : List (ByteArray × Int × Int)), v = .slice A l.length cap ∧ l.length ≤ cap ∧ l.length ≤ 140737488355328 ∧ InsIn w v l := by
  obtain ⟨A, len, cap, rfl, hl, hm, hr⟩ := open_row (size := 3) Try.underlying36 (by kernel_rfl) (by omega) (of_decide_eq_true (by kernel_rfl)) hs h
  have key : ∃ o : Nat → (ByteArray × Int × Int), len = 0 ∨ ∃ b off, A = some ⟨b, off, none⟩ ∧ b < w.heap.size ∧ ∀ i, i < len → ∀ (k : Nat) (u : Value), (inCells (o i))[k]? = some u → w.cell? ⟨b, off + i * 3 + k, none⟩ = some u := by
    rcases hr with h0 | ⟨b, off, n, C, hA, hb, hi⟩
    · exact ⟨fun _ => Gr.in0, .inl h0⟩
    · obtain ⟨o, ho⟩ := choose_lt_any (p := fun i z => C i = inCells z) Gr.in0 (fun i hi' => by
        obtain ⟨_, y, hy, _⟩ := hi i hi'
        obtain ⟨hlen, xs, n', _, hf⟩ := struct_fields Try.underlying57 (by kernel_rfl) (by kernel_rfl) hy
        obtain ⟨u0, y0, c0, _, t0⟩ := hf 0 _ rfl
        obtain ⟨z0, q0, _⟩ := DataW.trod_string Try.underlying9 t0
        obtain rfl : u0 = _ := by simpa using q0
        obtain ⟨u1, y1, c1, _, t1⟩ := hf 1 _ rfl
        obtain ⟨z1, q1, _⟩ := DataW.trod_int Try.underlying3 t1
        obtain rfl : u1 = _ := by simpa using q1
        obtain ⟨u2, y2, c2, _, t2⟩ := hf 2 _ rfl
        obtain ⟨z2, q2, _⟩ := DataW.trod_int Try.underlying3 t2
        obtain rfl : u2 = _ := by simpa using q2
        exact ⟨(z0, z1, z2), list3 hlen c0 c1 c2⟩)
      exact ⟨o, .inr ⟨b, off, hA, hb, fun i hi' k u hu => (hi i hi').1 k u (by rw [ho i hi']; exact hu)⟩⟩
  obtain ⟨o, ho⟩ := key
  exact ⟨A, cap, (List.range len).map o, by simp, by simpa using hl, by simpa using hm, row_made (w := w) inCells 3 (by omega) (fun _ => rfl) o A len cap ho⟩
theorem open_ars {fuel : Nat} {v : Value} {x : DataW H × List MemPlace} (hs : Sz Try.prog 31 x.1) (h : DataW.trod enc Try.prog w 0 (fun _ => true) true fuel 31 [v] = some x) :
    ∃ (A : Option Addr) (cap : Nat) (l : List (ByteArray × Int)), v = .slice A l.length cap ∧ l.length ≤ cap ∧ l.length ≤ 140737488355328 ∧ ArsIn w v l := by
  obtain ⟨A, len, cap, rfl, hl, hm, hr⟩ := open_row (size := 2) Try.underlying31 (by kernel_rfl) (by omega) (of_decide_eq_true (by kernel_rfl)) hs h
  have key : ∃ o : Nat → (ByteArray × Int), len = 0 ∨ ∃ b off, A = some ⟨b, off, none⟩ ∧ b < w.heap.size ∧ ∀ i, i < len → ∀ (k : Nat) (u : Value), (arCells (o i))[k]? = some u → w.cell? ⟨b, off + i * 2 + k, none⟩ = some u := by
    rcases hr with h0 | ⟨b, off, n, C, hA, hb, hi⟩
    · exact ⟨fun _ => Gr.ar0, .inl h0⟩
    · obtain ⟨o, ho⟩ := choose_lt_any (p := fun i z => C i = arCells z) Gr.ar0 (fun i hi' => by
        obtain ⟨_, y, hy, _⟩ := hi i hi'
        obtain ⟨hlen, xs, n', _, hf⟩ := struct_fields Try.underlying30 (by kernel_rfl) (by kernel_rfl) hy
        obtain ⟨u0, y0, c0, _, t0⟩ := hf 0 _ rfl
        obtain ⟨z0, q0, _⟩ := DataW.trod_string Try.underlying9 t0
        obtain rfl : u0 = _ := by simpa using q0
        obtain ⟨u1, y1, c1, _, t1⟩ := hf 1 _ rfl
        obtain ⟨z1, q1, _⟩ := DataW.trod_int Try.underlying3 t1
        obtain rfl : u1 = _ := by simpa using q1
        exact ⟨(z0, z1), list2 hlen c0 c1⟩)
      exact ⟨o, .inr ⟨b, off, hA, hb, fun i hi' k u hu => (hi i hi').1 k u (by rw [ho i hi']; exact hu)⟩⟩
  obtain ⟨o, ho⟩ := key
  exact ⟨A, cap, (List.range len).map o, by simp, by simpa using hl, by simpa using hm, row_made (w := w) arCells 2 (by omega) (fun _ => rfl) o A len cap ho⟩
theorem open_hds {fuel : Nat} {v : Value} {x : DataW H × List MemPlace} (hs : Sz Try.prog 38 x.1) (h : DataW.trod enc Try.prog w 0 (fun _ => true) true fuel 38 [v] = some x) :
    ∃ (A : Option Addr) (cap : Nat) (l : List (Int × Int)), v = .slice A l.length cap ∧ l.length ≤ cap ∧ l.length ≤ 140737488355328 ∧ PrsIn w v l := by
  obtain ⟨A, len, cap, rfl, hl, hm, hr⟩ := open_row (size := 2) Try.underlying38 (by kernel_rfl) (by omega) (of_decide_eq_true (by kernel_rfl)) hs h
  have key : ∃ o : Nat → (Int × Int), len = 0 ∨ ∃ b off, A = some ⟨b, off, none⟩ ∧ b < w.heap.size ∧ ∀ i, i < len → ∀ (k : Nat) (u : Value), (prCells (o i))[k]? = some u → w.cell? ⟨b, off + i * 2 + k, none⟩ = some u := by
    rcases hr with h0 | ⟨b, off, n, C, hA, hb, hi⟩
    · exact ⟨fun _ => (0, 0), .inl h0⟩
    · obtain ⟨o, ho⟩ := choose_lt_any (p := fun i z => C i = prCells z) (0, 0) (fun i hi' => by
        obtain ⟨_, y, hy, _⟩ := hi i hi'
        obtain ⟨hlen, xs, n', _, hf⟩ := struct_fields Try.underlying52 (by kernel_rfl) (by kernel_rfl) hy
        obtain ⟨u0, y0, c0, _, t0⟩ := hf 0 _ rfl
        obtain ⟨z0, q0, _⟩ := DataW.trod_int Try.underlying3 t0
        obtain rfl : u0 = _ := by simpa using q0
        obtain ⟨u1, y1, c1, _, t1⟩ := hf 1 _ rfl
        obtain ⟨z1, q1, _⟩ := DataW.trod_int Try.underlying3 t1
        obtain rfl : u1 = _ := by simpa using q1
        exact ⟨(z0, z1), list2 hlen c0 c1⟩)
      exact ⟨o, .inr ⟨b, off, hA, hb, fun i hi' k u hu => (hi i hi').1 k u (by rw [ho i hi']; exact hu)⟩⟩
  obtain ⟨o, ho⟩ := key
  exact ⟨A, cap, (List.range len).map o, by simp, by simpa using hl, by simpa using hm, row_made (w := w) prCells 2 (by omega) (fun _ => rfl) o A len cap ho⟩
theorem one_of_slice {P : Program} {t e : TypeId} {fuel : Nat} {cs : List Value} {x : DataW H × List MemPlace} (ht : P.underlying t = some (.slice e)) (h : DataW.trod enc P w 0 (fun _ => true) true fuel t cs = some x) : ∃ u, cs = [u] := by
  rcases open_slice ht h with ⟨hcs, _⟩ | ⟨_, _, _, _, _, _, _, hcs, _⟩
  · exact ⟨_, hcs⟩
  · exact ⟨_, hcs⟩
/-- Lists of numbers. -/
theorem open_pts {fuel : Nat} {v : Value} {x : DataW H × List MemPlace} (hs : Sz Try.prog 37 x.1) (h : DataW.trod enc Try.prog w 0 (fun _ => true) true fuel 37 [v] = some x) :
    ∃ (A : Option Addr) (cap : Nat) (l : List (List Int)), v = .slice A l.length cap ∧ l.length ≤ 140737488355328 ∧ (∀ q ∈ l, q.length ≤ 140737488355328) ∧ PtsIn w v l := by
  obtain ⟨A, len, cap, rfl, hl, hm, hr⟩ := open_row (size := 1) Try.underlying37 (by kernel_rfl) (by omega) (of_decide_eq_true (by kernel_rfl)) hs h
  rcases hr with h0 | ⟨b, off, n, C, hA, hb, hi⟩
  · subst h0
    exact ⟨A, cap, [], rfl, Nat.zero_le _, (fun q hq => by cases hq), A, cap, fun _ => none, fun _ => 0, rfl, fun i hi => absurd hi (Nat.not_lt_zero _)⟩
  · obtain ⟨o, ho⟩ := choose_lt_any (p := fun i (z : Option Addr × Nat × List Int) => w.cell? ⟨b, off + i, none⟩ = some (.slice z.1 z.2.2.length z.2.1) ∧ z.2.2.length ≤ z.2.1 ∧ z.2.2.length ≤ 140737488355328 ∧ NumsIn w (.slice z.1 z.2.2.length z.2.1) z.2.2) (none, 0, []) (fun i hi' => by
      obtain ⟨hc, y, hy, hsy⟩ := hi i hi'
      obtain ⟨u, hu⟩ := one_of_slice Try.underlying32 hy
      rw [hu] at hy
      obtain ⟨A', cap', l, rfl, h1, h2, h3⟩ := open_nums Try.underlying32 Try.underlying3 (by kernel_rfl) (of_decide_eq_true (by kernel_rfl)) hsy hy
      have h4 := hc 0 (.slice A' l.length cap') (by rw [hu]; rfl)
      rw [Nat.mul_one, Nat.add_zero] at h4
      exact ⟨(A', cap', l), h4, h1, h2, h3⟩)
    refine ⟨A, cap, (List.range len).map fun i => (o i).2.2, by simp, by simpa using hm, fun q hq => ?_, A, cap, fun i => (o i).1, fun i => (o i).2.1, by simp, fun i hi' => ?_⟩
    · obtain ⟨i, hi', rfl⟩ := List.mem_map.1 hq
      exact (ho i (by simpa using hi')).2.2.1
    · have hil : i < len := by simpa using hi'
      rw [range_getD' _ _ _ _ hil]
      exact ⟨b, off, hA, hb, (ho i hil).1, (ho i hil).2.2.2, (ho i hil).2.1⟩
/-- Blocks. -/
theorem open_blks {fuel : Nat} {v : Value} {x : DataW H × List MemPlace} (hs : Sz Try.prog 35 x.1) (h : DataW.trod enc Try.prog w 0 (fun _ => true) true fuel 35 [v] = some x) :
    ∃ (A : Option Addr) (cap : Nat) (l : List Gr.Blk), v = .slice A l.length cap ∧ l.length ≤ 140737488355328 ∧ (∀ b ∈ l, b.ops.length ≤ 140737488355328 ∧ b.next.length ≤ 140737488355328) ∧ BlksIn w v l := by
  obtain ⟨A, len, cap, rfl, hl, hm, hr⟩ := open_row (size := 3) Try.underlying35 (by kernel_rfl) (by omega) (of_decide_eq_true (by kernel_rfl)) hs h
  rcases hr with h0 | ⟨b, off, n, C, hA, hb, hi⟩
  · subst h0
    exact ⟨A, cap, [], rfl, Nat.zero_le _, (fun q hq => by cases hq), A, cap, fun _ => none, fun _ => none, fun _ => 0, fun _ => 0, rfl, fun i hi => absurd hi (Nat.not_lt_zero _)⟩
  · obtain ⟨o, ho⟩ := choose_lt_any (p := fun i (z : Option Addr × Nat × Option Addr × Nat × Gr.Blk) => w.cell? ⟨b, off + i * 3, none⟩ = some (.slice z.1 z.2.2.2.2.ops.length z.2.1) ∧ w.cell? ⟨b, off + i * 3 + 1, none⟩ = some (.int .i64 z.2.2.2.2.cond) ∧ w.cell? ⟨b, off + i * 3 + 2, none⟩ = some (.slice z.2.2.1 z.2.2.2.2.next.length z.2.2.2.1) ∧
        OpsIn w (.slice z.1 z.2.2.2.2.ops.length z.2.1) z.2.2.2.2.ops ∧ NumsIn w (.slice z.2.2.1 z.2.2.2.2.next.length z.2.2.2.1) z.2.2.2.2.next ∧ z.2.2.2.2.ops.length ≤ 140737488355328 ∧ z.2.2.2.2.next.length ≤ 140737488355328) (none, 0, none, 0, Gr.blk0) (fun i hi' => by
      obtain ⟨hc, y, hy, hsy⟩ := hi i hi'
      obtain ⟨hlen, xs, n', hx, hf⟩ := struct_fields Try.underlying34 (by kernel_rfl) (by kernel_rfl) hy
      rw [hx] at hsy
      obtain ⟨u0, y0, c0, x0, t0⟩ := hf 0 _ rfl
      obtain ⟨u1, y1, c1, x1, t1⟩ := hf 1 _ rfl
      obtain ⟨u2, y2, c2, x2, t2⟩ := hf 2 _ rfl
      obtain ⟨A1, cap1, l1, rfl, _, h1, h2⟩ := open_ops (sz_field Try.underlying34 hsy (j := 0) rfl x0) t0
      obtain ⟨z1, q1, _⟩ := DataW.trod_int Try.underlying3 t1
      obtain rfl : u1 = _ := by simpa using q1
      obtain ⟨A2, cap2, l2, rfl, _, h3, h4⟩ := open_nums Try.underlying32 Try.underlying3 (by kernel_rfl) (of_decide_eq_true (by kernel_rfl)) (sz_field Try.underlying34 hsy (j := 2) rfl x2) t2
      exact ⟨(A1, cap1, A2, cap2, ⟨l1, z1, l2⟩), hc 0 _ c0, hc 1 _ c1, hc 2 _ c2, h2, h4, h1, h3⟩)
    refine ⟨A, cap, (List.range len).map fun i => (o i).2.2.2.2, by simp, by simpa using hm, fun q hq => ?_, A, cap, fun i => (o i).1, fun i => (o i).2.2.1, fun i => (o i).2.1, fun i => (o i).2.2.2.1, by simp, fun i hi' => ?_⟩
    · obtain ⟨i, hi', rfl⟩ := List.mem_map.1 hq
      exact (ho i (by simpa using hi')).2.2.2.2.2
    · have hil : i < len := by simpa using hi'
      rw [range_getD' _ _ _ _ hil]
      obtain ⟨h1, h2, h3, h4, h5, _⟩ := ho i hil
      exact ⟨b, off, hA, hb, h1, h2, h3, h4, h5⟩
set_option maxRecDepth 100000 in
/-- A graph that came in. -/
theorem open_graph {r : Reach} {b0 : Nat} {v : Value} {d : DataW H} {p : List MemPlace} (hval : Value.okWide Try.prog w r b0 40 v) (hs : Sz Try.prog 40 d) (h : DataW.Trod enc Try.prog w 0 (fun _ => true) true 40 v d p) :
    ∃ (g : Gr.G) (vi va vb vp vh : Value), v = .agg #[vi, .int .i64 g.vars, .int .i64 g.keep, va, .int .i64 g.sh, vb, vp, vh] ∧ GrIn w g vi va vb vp vh ∧ PtsIn w vp g.pts ∧ Gr.Fit g := by
  obtain ⟨cs, rfl, hsz⟩ := okWide_struct Try.underlying40 hval
  obtain ⟨fuel, hf0⟩ := h
  obtain ⟨cs⟩ := cs
  obtain ⟨hlen, xs, n, hx, hf⟩ := struct_fields (cs := cs) Try.underlying40 (by kernel_rfl) (by kernel_rfl) (by simpa [Value.cells] using hf0)
  simp only at hx
  rw [hx] at hs
  obtain ⟨u0, y0, c0, x0, t0⟩ := hf 0 _ rfl
  obtain ⟨u1, y1, c1, x1, t1⟩ := hf 1 _ rfl
  obtain ⟨u2, y2, c2, x2, t2⟩ := hf 2 _ rfl
  obtain ⟨u3, y3, c3, x3, t3⟩ := hf 3 _ rfl
  obtain ⟨u4, y4, c4, x4, t4⟩ := hf 4 _ rfl
  obtain ⟨u5, y5, c5, x5, t5⟩ := hf 5 _ rfl
  obtain ⟨u6, y6, c6, x6, t6⟩ := hf 6 _ rfl
  obtain ⟨u7, y7, c7, x7, t7⟩ := hf 7 _ rfl
  obtain ⟨A0, p0, l0, rfl, _, m0, i0⟩ := open_ins (sz_field Try.underlying40 hs (j := 0) rfl x0) t0
  obtain ⟨z1, q1, w1⟩ := DataW.trod_int Try.underlying3 t1
  obtain rfl : u1 = _ := by simpa using q1
  obtain ⟨z2, q2, w2⟩ := DataW.trod_int Try.underlying3 t2
  obtain rfl : u2 = _ := by simpa using q2
  obtain ⟨A3, p3, l3, rfl, _, m3, i3⟩ := open_ars (sz_field Try.underlying40 hs (j := 3) rfl x3) t3
  obtain ⟨z4, q4, w4⟩ := DataW.trod_int Try.underlying3 t4
  obtain rfl : u4 = _ := by simpa using q4
  obtain ⟨A5, p5, l5, rfl, m5, k5, i5⟩ := open_blks (sz_field Try.underlying40 hs (j := 5) rfl x5) t5
  obtain ⟨A6, p6, l6, rfl, m6, k6, i6⟩ := open_pts (sz_field Try.underlying40 hs (j := 6) rfl x6) t6
  obtain ⟨A7, p7, l7, rfl, _, m7, i7⟩ := open_hds (sz_field Try.underlying40 hs (j := 7) rfl x7) t7
  refine ⟨⟨l0, z1, z2, l3, z4, l5, l6, l7⟩, _, _, _, _, _, ?_, ⟨i0, i3, i5, i6.lsts, i7⟩, i6, ⟨m0, m3, m5, m6, m7, k5, k6, (bounds_i64' w1.2).1⟩⟩
  rw [list8 hlen c0 c1 c2 c3 c4 c5 c6 c7]
end
end Go.Proofs.Ythjolbgkancohaa
