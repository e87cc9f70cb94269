/- What walks over small structs in boxes share: frames of worlds, cells that stay. No condition. -/
import Derived.Test.YthcjohfngnffpaaRows
import Derived.WalkKit
import Derived.ProofKit
import Derived.OpenShut
import Derived.BigQuiet
import Derived.Deep.QuietTactic
import Derived.Deep.RegionHeld3
import Derived.Below
import Derived.Lib.Hide
namespace Go.Proofs.Ythcjohfngnffpaa
open Go.RowKit
set_option linter.unusedVariables false
set_option linter.unusedSimpArgs false
theorem y_undef (f : Bool → Option Bool) (g : Option Value → Option Bool) : Go.yielded.match_1 (fun _ => Option Bool) (some undef) f g = g (some undef) := rfl
attribute [local go_sem] y_undef
theorem ret_bool {a b : Bool} (h : a = b) : Ending.returned (.bool a) = .returned (.bool b) := by rw [h]
/-- Of what was there before nothing has turned, and n new blocks are there. -/
def Ahead (n : Nat) (w w' : World) : Prop := Below w.heap.size w w' ∧ w.heap.size + n ≤ w'.heap.size
theorem Ahead.below {n : Nat} {w a b : World} (h : Ahead n w a) (hb : Below a.heap.size a b) : Ahead n w b :=
  ⟨h.1.trans (hb.mono (by have := h.2; omega)), by have := h.2; have := hb.size; omega⟩
theorem below_drewN (B : Nat) (w : World) (n : Nat) : Below B w (w.drewN n) := ⟨rfl, rfl, rfl, Nat.le_refl _, fun _ _ => rfl⟩
theorem Ahead.drew {n : Nat} {w a : World} (h : Ahead n w a) : Ahead n w a.drew := h.below (below_drewN _ a 1)
theorem Ahead.cell {n k o : Nat} {w a b : World} {u : Value} (h : Ahead n w a) (hb : Below a.heap.size a b) (hc : a.cell? ⟨w.heap.size + k, o, none⟩ = some u) (hk : k < n) : b.cell? ⟨w.heap.size + k, o, none⟩ = some u :=
  (hb.cell (p := ⟨w.heap.size + k, o, none⟩) (by have := h.2; show w.heap.size + k < _; omega)).trans hc
theorem Ahead.cell0 {n o : Nat} {w a b : World} {u : Value} (h : Ahead n w a) (hb : Below a.heap.size a b) (hc : a.cell? ⟨w.heap.size, o, none⟩ = some u) (hk : 0 < n) : b.cell? ⟨w.heap.size, o, none⟩ = some u := h.cell (k := 0) hb hc hk
theorem Ahead.alloc {n : Nat} {w a : World} (h : Ahead n w a) (o : Obj) : Ahead (n + 1) w (a.alloc o) :=
  ⟨h.1.alloc (by have := h.2; omega) o, by have := h.2; simp; omega⟩
theorem Ahead.refl (w : World) : Ahead 0 w w := ⟨Below.refl _ _, Nat.le_refl _⟩
theorem size_alloc (w : World) (o : Obj) : (w.alloc o).heap.size = w.heap.size + 1 := by simp
theorem bcell {W w1 : World} (hb : Below W.heap.size W w1) : (∀ b o, b < W.heap.size → w1.cell? ⟨b, o, none⟩ = W.cell? ⟨b, o, none⟩) ∧ (∀ b o, b < W.heap.size → w1.frozen? ⟨b, o, none⟩ = W.frozen? ⟨b, o, none⟩) :=
  ⟨fun b o h => hb.cell (p := ⟨b, o, none⟩) h, fun b o h => hb.frozen (p := ⟨b, o, none⟩) h⟩
theorem Ahead.set {n : Nat} {w a : World} (h : Ahead n w a) {g o : Nat} (hg : w.heap.size ≤ g) (v : Value) : Ahead n w (a.setCell ⟨g, o, none⟩ v) :=
  ⟨h.1.setCell hg v, by have := h.2; simp; omega⟩
theorem far2 {w : World} {g h o o1 o2 : Nat} {v1 v2 : Value} (hne : h ≠ g) : ((w.setCell ⟨h, o1, none⟩ v1).setCell ⟨h, o2, none⟩ v2).cell? ⟨g, o, none⟩ = w.cell? ⟨g, o, none⟩ := by
  rw [World.cell?_setCell_far _ _ _ _ hne, World.cell?_setCell_far _ _ _ _ hne]
theorem Ahead.cell2 {n o : Nat} {w a b : World} {u : Value} (h : Ahead n w a) (hb : Below a.heap.size a b) (hc : a.cell? ⟨w.heap.size + 1 + 1, o, none⟩ = some u) (hk : 2 < n) : b.cell? ⟨w.heap.size + 1 + 1, o, none⟩ = some u := h.cell (k := 2) hb hc hk
theorem Ahead.cell3 {n o : Nat} {w a b : World} {u : Value} (h : Ahead n w a) (hb : Below a.heap.size a b) (hc : a.cell? ⟨w.heap.size + 1 + 1 + 1, o, none⟩ = some u) (hk : 3 < n) : b.cell? ⟨w.heap.size + 1 + 1 + 1, o, none⟩ = some u := h.cell (k := 3) hb hc hk
theorem Ahead.frz2 {n : Nat} {w a b : World} (h : Ahead n w a) (hb : Below a.heap.size a b) (hc : ∀ o, a.frozen? ⟨w.heap.size + 1 + 1, o, none⟩ = false) (hk : 2 < n) : ∀ o, b.frozen? ⟨w.heap.size + 1 + 1, o, none⟩ = false :=
  fun o => (hb.frozen (p := ⟨w.heap.size + 1 + 1, o, none⟩) (by have := h.2; show w.heap.size + 1 + 1 < _; omega)).trans (hc o)
theorem Ahead.lt0 {n : Nat} {w a : World} (h : Ahead n w a) (hk : 0 < n) : w.heap.size < a.heap.size := by have := h.2; omega
theorem Ahead.lt1 {n : Nat} {w a : World} (h : Ahead n w a) (hk : 1 < n) : w.heap.size + 1 < a.heap.size := by have := h.2; omega
theorem Ahead.lt2 {n : Nat} {w a : World} (h : Ahead n w a) (hk : 2 < n) : w.heap.size + 1 + 1 < a.heap.size := by have := h.2; omega
theorem Ahead.lt3 {n : Nat} {w a : World} (h : Ahead n w a) (hk : 3 < n) : w.heap.size + 1 + 1 + 1 < a.heap.size := by have := h.2; omega
end Go.Proofs.Ythcjohfngnffpaa
