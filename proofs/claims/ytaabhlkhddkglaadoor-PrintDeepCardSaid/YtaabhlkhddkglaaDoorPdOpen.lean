/- A slice of bools that came in. No condition. -/
import Derived.Test.YtaabhlkhddkglaaDoorLawKit
import Derived.Deep.Grids
namespace Go.Proofs.YtaabhlkhddkglaaDoor
open Go Go.ChangeShapes Go.WideShapes Go.ChangeAt Go.ChangeMaps Go.WideMaps Go.WideElems Go.RowKit
set_option linter.unusedVariables false
def BoolsIn (w : World) (v : Value) (zs : List Bool) : Prop :=
  (zs = [] ∧ ∃ A c, v = .slice A 0 c) ∨ (∃ b off c, 0 < zs.length ∧ v = .slice (some ⟨b, off, none⟩) zs.length c ∧ b < w.heap.size ∧ ∀ i, i < zs.length → w.cell? ⟨b, off + i, none⟩ = some (.bool (zs.getD i false)))
theorem BoolsIn.below {w w' : World} {v : Value} {zs : List Bool} (h : BoolsIn w v zs) (hb : Below w.heap.size w w') : BoolsIn w' v zs := by
  rcases h with h | ⟨b, off, c, h0, hv, hlt, hc⟩
  · exact .inl h
  · exact .inr ⟨b, off, c, h0, hv, by have := hb.size; omega, fun i hi => (hb.cell (p := ⟨b, off + i, none⟩) hlt).trans (hc i hi)⟩
theorem bools_at {w : World} {a : Addr} {B : Nat → Bool} {cap : Nat} (h : ∀ i, i < cap → w.cell? (a.add i) = some (.bool (B i))) (h0 : 0 < cap) : ∃ b off, a = ⟨b, off, none⟩ ∧ ∀ i, i < cap → w.cell? ⟨b, off + i, none⟩ = some (.bool (B i)) := by
  obtain ⟨b, off, spot⟩ := a
  have hspot : spot = none := by simpa [Addr.add] using World.cell?_spot (h 0 h0)
  subst hspot
  exact ⟨b, off, rfl, fun j hj => by rw [← Go.WideShapes.add_plain]; exact h j hj⟩
section
variable {H : Type} {enc : TypeId × Value → H} {P : Program}
theorem open_bools_in {t e : TypeId} {r : Reach} {W : World} {b0 : Nat} {v : Value} {d : DataW H} {p : List MemPlace} (ht : P.underlying t = some (.slice e)) (he : P.underlying e = some .bool) (hc : P.cellsOf e = 1)
    (hval : Value.okWide P W r b0 t v) (h : DataW.Trod enc P W 0 (fun _ => true) true t v d p) : ∃ zs : List Bool, BoolsIn W v zs ∧ zs.length ≤ maxLen := by
  obtain ⟨a0, len, cap, rfl⟩ := okWide_slice ht hval
  obtain ⟨fuel, hf⟩ := h
  rcases Go.Deep.open_bools ht he hc hf with ⟨hcs, hx⟩ | ⟨a, len', cap', B, hcs, _, hl, hm, hx, hcell⟩
  · simp [Value.cells] at hcs
    obtain ⟨rfl, rfl, rfl⟩ := hcs
    exact ⟨[], .inl ⟨rfl, none, 0, rfl⟩, Nat.zero_le _⟩
  · simp [Value.cells] at hcs
    obtain ⟨rfl, rfl, rfl⟩ := hcs
    refine ⟨(List.range len).map B, ?_, by simp; omega⟩
    by_cases h0 : len = 0
    · subst h0
      exact .inl ⟨by simp, some a, cap, rfl⟩
    · obtain ⟨b, off, rfl, hc2⟩ := bools_at hcell (by omega)
      refine .inr ⟨b, off, cap, by simp; omega, by simp, World.block_lt_of_cell? W _ (hc2 0 (by omega)), fun i hi => ?_⟩
      simp at hi
      rw [hc2 i (by omega)]
      simp [List.getD, hi]
end
end Go.Proofs.YtaabhlkhddkglaaDoor
