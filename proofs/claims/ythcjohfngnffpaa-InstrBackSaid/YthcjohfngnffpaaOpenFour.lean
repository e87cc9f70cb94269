/- Arguments of laws, opened: arrays of four bytes, of eight words. -/
import Derived.Test.YthcjohfngnffpaaOpenKit
namespace Go.Proofs.Ythcjohfngnffpaa
open Go.RowKit Go.WideShapes Go.ChangeShapes Go.Joins Go.Deep
section
variable {H : Type} {enc : TypeId × Value → H} {P : Program}
theorem cell_i32 {e : TypeId} {W : World} {n : Nat} {c : Value} {y : DataW H × List MemPlace} (he : P.underlying e = some (.int .i32)) (h : DataW.trod enc P W 0 (fun _ => true) true n e [c] = some y) : ∃ z : Int, c = .int .i32 z ∧ -2147483648 ≤ z ∧ z ≤ 2147483647 := by
  obtain ⟨a, e0, _, hw⟩ := DataW.trod_int he h
  simp only [List.cons.injEq, and_true] at e0
  exact ⟨a, e0, bounds_i32' hw⟩
theorem array4u8s4 {cs : Array Value} (h : cs.size = 4) : ∃ c0 c1 c2 c3, cs = #[c0, c1, c2, c3] := by
  obtain ⟨l⟩ := cs
  match l, h with
  | [c0, c1, c2, c3], _ => exact ⟨c0, c1, c2, c3, rfl⟩
theorem open_u8s4 {t e : TypeId} {r : Reach} {W : World} {b0 : Nat} {v : Value} {d : DataW H} {p : List MemPlace} (ht : P.underlying t = some (.array 4 e)) (he : P.underlying e = some (.int .u8)) (hC : P.cellsOf t = 4) (hc : P.cellsOf e = 1)
    (hval : Value.okWide P W r b0 t v) (h : DataW.Trod enc P W 0 (fun _ => true) true t v d p) : ∃ z0 z1 z2 z3 : Int, v = .agg #[.int .u8 z0, .int .u8 z1, .int .u8 z2, .int .u8 z3] ∧ (0 ≤ z0 ∧ z0 ≤ 255) ∧ (0 ≤ z1 ∧ z1 ≤ 255) ∧ (0 ≤ z2 ∧ z2 ≤ 255) ∧ (0 ≤ z3 ∧ z3 ≤ 255) := by
  obtain ⟨cs, rfl, hs⟩ := okWide_array ht hval
  obtain ⟨c0, c1, c2, c3, rfl⟩ := array4u8s4 (hs.trans hC)
  obtain ⟨fuel, hf⟩ := h
  obtain ⟨xs, m, _, _, _, hl, hx⟩ := DataW.trod_array ht hf
  have g := fun i hi => hx i hi
  have g0 := g 0 (by omega)
  have g1 := g 1 (by omega)
  have g2 := g 2 (by omega)
  have g3 := g 3 (by omega)
  rw [hc] at g0 g1 g2 g3
  simp [Value.cells] at g0 g1 g2 g3
  rw [List.getElem?_eq_getElem (show 0 < xs.length by omega)] at g0
  rw [List.getElem?_eq_getElem (show 1 < xs.length by omega)] at g1
  rw [List.getElem?_eq_getElem (show 2 < xs.length by omega)] at g2
  rw [List.getElem?_eq_getElem (show 3 < xs.length by omega)] at g3
  obtain ⟨z0, rfl, b0⟩ := cell_u8 he g0
  obtain ⟨z1, rfl, b1⟩ := cell_u8 he g1
  obtain ⟨z2, rfl, b2⟩ := cell_u8 he g2
  obtain ⟨z3, rfl, b3⟩ := cell_u8 he g3
  exact ⟨z0, z1, z2, z3, rfl, b0, b1, b2, b3⟩
theorem array8i32s8 {cs : Array Value} (h : cs.size = 8) : ∃ c0 c1 c2 c3 c4 c5 c6 c7, cs = #[c0, c1, c2, c3, c4, c5, c6, c7] := by
  obtain ⟨l⟩ := cs
  match l, h with
  | [c0, c1, c2, c3, c4, c5, c6, c7], _ => exact ⟨c0, c1, c2, c3, c4, c5, c6, c7, rfl⟩
theorem open_i32s8 {t e : TypeId} {r : Reach} {W : World} {b0 : Nat} {v : Value} {d : DataW H} {p : List MemPlace} (ht : P.underlying t = some (.array 8 e)) (he : P.underlying e = some (.int .i32)) (hC : P.cellsOf t = 8) (hc : P.cellsOf e = 1)
    (hval : Value.okWide P W r b0 t v) (h : DataW.Trod enc P W 0 (fun _ => true) true t v d p) : ∃ z0 z1 z2 z3 z4 z5 z6 z7 : Int, v = .agg #[.int .i32 z0, .int .i32 z1, .int .i32 z2, .int .i32 z3, .int .i32 z4, .int .i32 z5, .int .i32 z6, .int .i32 z7] ∧ (-2147483648 ≤ z0 ∧ z0 ≤ 2147483647) ∧ (-2147483648 ≤ z1 ∧ z1 ≤ 2147483647) ∧ (-2147483648 ≤ z2 ∧ z2 ≤ 2147483647) ∧ (-2147483648 ≤ z3 ∧ z3 ≤ 2147483647) ∧ (-2147483648 ≤ z4 ∧ z4 ≤ 2147483647) ∧ (-2147483648 ≤ z5 ∧ z5 ≤ 2147483647) ∧ (-2147483648 ≤ z6 ∧ z6 ≤ 2147483647) ∧ (-2147483648 ≤ z7 ∧ z7 ≤ 2147483647) := by
  obtain ⟨cs, rfl, hs⟩ := okWide_array ht hval
  obtain ⟨c0, c1, c2, c3, c4, c5, c6, c7, rfl⟩ := array8i32s8 (hs.trans hC)
  obtain ⟨fuel, hf⟩ := h
  obtain ⟨xs, m, _, _, _, hl, hx⟩ := DataW.trod_array ht hf
  have g := fun i hi => hx i hi
  have g0 := g 0 (by omega)
  have g1 := g 1 (by omega)
  have g2 := g 2 (by omega)
  have g3 := g 3 (by omega)
  have g4 := g 4 (by omega)
  have g5 := g 5 (by omega)
  have g6 := g 6 (by omega)
  have g7 := g 7 (by omega)
  rw [hc] at g0 g1 g2 g3 g4 g5 g6 g7
  simp [Value.cells] at g0 g1 g2 g3 g4 g5 g6 g7
  rw [List.getElem?_eq_getElem (show 0 < xs.length by omega)] at g0
  rw [List.getElem?_eq_getElem (show 1 < xs.length by omega)] at g1
  rw [List.getElem?_eq_getElem (show 2 < xs.length by omega)] at g2
  rw [List.getElem?_eq_getElem (show 3 < xs.length by omega)] at g3
  rw [List.getElem?_eq_getElem (show 4 < xs.length by omega)] at g4
  rw [List.getElem?_eq_getElem (show 5 < xs.length by omega)] at g5
  rw [List.getElem?_eq_getElem (show 6 < xs.length by omega)] at g6
  rw [List.getElem?_eq_getElem (show 7 < xs.length by omega)] at g7
  obtain ⟨z0, rfl, b0⟩ := cell_i32 he g0
  obtain ⟨z1, rfl, b1⟩ := cell_i32 he g1
  obtain ⟨z2, rfl, b2⟩ := cell_i32 he g2
  obtain ⟨z3, rfl, b3⟩ := cell_i32 he g3
  obtain ⟨z4, rfl, b4⟩ := cell_i32 he g4
  obtain ⟨z5, rfl, b5⟩ := cell_i32 he g5
  obtain ⟨z6, rfl, b6⟩ := cell_i32 he g6
  obtain ⟨z7, rfl, b7⟩ := cell_i32 he g7
  exact ⟨z0, z1, z2, z3, z4, z5, z6, z7, rfl, b0, b1, b2, b3, b4, b5, b6, b7⟩
end
end Go.Proofs.Ythcjohfngnffpaa
