import Derived.Test.YtdajgopgaklipaaIvRefB
import Derived.Test.YtdajgopgaklipaaIvOrder
namespace Go.Proofs.Ytdajgopgaklipaa
open Go.RowKit
set_option linter.unusedVariables false
set_option linter.unusedSimpArgs false
/-- Two boxes and a result, behind the two forms. -/
def Boxes (w : World) (a b : Iv) (w' : World) : Prop :=
  Ahead 3 w w' ∧ (w'.cell? ⟨w.heap.size, 0, none⟩ = some (.int .i64 a.lo) ∧ w'.cell? ⟨w.heap.size, 1, none⟩ = some (.int .i64 a.hi)) ∧ (w'.cell? ⟨w.heap.size + 1, 0, none⟩ = some (.int .i64 b.lo) ∧ w'.cell? ⟨w.heap.size + 1, 1, none⟩ = some (.int .i64 b.hi)) ∧
  (w'.cell? ⟨w.heap.size + 1 + 1, 0, none⟩ = some (.int .i64 0) ∧ w'.cell? ⟨w.heap.size + 1 + 1, 1, none⟩ = some (.int .i64 0)) ∧ ∀ o, w'.frozen? ⟨w.heap.size + 1 + 1, o, none⟩ = false
theorem boxes_of {w w1 : World} {p q r s : Int} {a b : Iv} (hA : Ahead 3 w w1) (a0 : w1.cell? ⟨w.heap.size, 0, none⟩ = some (.int .i64 p)) (a1 : w1.cell? ⟨w.heap.size, 1, none⟩ = some (.int .i64 q))
    (b0 : w1.cell? ⟨w.heap.size + 1, 0, none⟩ = some (.int .i64 r)) (b1 : w1.cell? ⟨w.heap.size + 1, 1, none⟩ = some (.int .i64 s)) (c0 : w1.cell? ⟨w.heap.size + 1 + 1, 0, none⟩ = some (.int .i64 0)) (c1 : w1.cell? ⟨w.heap.size + 1 + 1, 1, none⟩ = some (.int .i64 0)) (hf : ∀ o, w1.frozen? ⟨w.heap.size + 1 + 1, o, none⟩ = false) :
    Boxes w a b ((((w1.setCell ⟨w.heap.size, 0, none⟩ (.int .i64 a.lo)).setCell ⟨w.heap.size, 1, none⟩ (.int .i64 a.hi)).setCell ⟨w.heap.size + 1, 0, none⟩ (.int .i64 b.lo)).setCell ⟨w.heap.size + 1, 1, none⟩ (.int .i64 b.hi)) := by
  refine ⟨((((hA.set (by omega) _).set (by omega) _).set (by omega) _).set (by omega) _), ⟨?_, ?_⟩, ⟨?_, ?_⟩, ⟨?_, ?_⟩, fun o => ?_⟩
  · rw [far2 (by omega)]; go_simp
  · rw [far2 (by omega)]; go_simp
  · go_simp
  · go_simp
  · rw [far2 (by omega), far2 (by omega)]; exact c0
  · rw [far2 (by omega), far2 (by omega)]; exact c1
  · simpa using hf o
end Go.Proofs.Ytdajgopgaklipaa
