/- What a pass over a graph answers: a graph, a map, an error. No condition. -/
import Derived.Test.YtojnhdkclabkgaaGrMem
namespace Go.Proofs.Ytojnhdkclabkgaa
open Go.RowKit
set_option linter.unusedVariables false
def PassAns (G : Gr.G) (L : List (List Int)) (r : Int) (w : World) (e : Ending) (w' : World) : Prop :=
  Below w.heap.size w w' ∧ ∃ vi va vb vp vh vs, e = .returned (.tuple #[.agg #[vi, .int .i64 G.vars, .int .i64 G.keep, va, .int .i64 G.sh, vb, vp, vh], vs, .int .i64 r]) ∧ GrIn w' G vi va vb vp vh ∧ LstsIn w' vs L
/-- No graph. -/
def Gr.gz : Gr.G := ⟨[], 0, 0, [], 0, [], [], []⟩
theorem Gr.gz_fit : Gr.Fit Gr.gz := by
  refine ⟨by decide, by decide, by decide, by decide, by decide, fun b hb => ?_, fun q hq => ?_, by decide⟩
  · cases hb
  · cases hq
theorem gz_in (w : World) : GrIn w Gr.gz (.slice none 0 0) (.slice none 0 0) (.slice none 0 0) (.slice none 0 0) (.slice none 0 0) :=
  ⟨RowIn.nil w 3, RowIn.nil w 2, ⟨none, 0, fun _ => none, fun _ => none, fun _ => 0, fun _ => 0, rfl, fun i hi => absurd hi (Nat.not_lt_zero _)⟩, ⟨none, 0, rfl, fun i hi => absurd hi (Nat.not_lt_zero _)⟩, RowIn.nil w 2⟩
theorem lz_in (w : World) : LstsIn w (.slice none 0 0) [] := ⟨none, 0, rfl, fun i hi => absurd hi (Nat.not_lt_zero _)⟩
end Go.Proofs.Ytojnhdkclabkgaa
