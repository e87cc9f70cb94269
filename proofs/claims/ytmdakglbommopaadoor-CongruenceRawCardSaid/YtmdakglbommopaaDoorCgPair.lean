/- Two residues that a law makes: the lemmas. No condition. -/
import Derived.Test.YtmdakglbommopaaDoorCgAid
import Derived.Deep.RegionWith
namespace Go.Proofs.YtmdakglbommopaaDoor
open Go.RowKit
set_option linter.unusedVariables false
set_option linter.unusedSimpArgs false
attribute [local go_sem] y_undef
/-- The array of a law's last bytes, in its box. -/
def Arr (w : World) (h0 h1 : Int) (w' : World) : Prop := (w'.cell? ⟨w.heap.size, 0, none⟩ = some (.int .u8 h0) ∧ w'.cell? ⟨w.heap.size, 1, none⟩ = some (.int .u8 h1)) ∧ Ahead 1 w w'
theorem Arr.below {w w1 w2 : World} {h0 h1 : Int} (h : Arr w h0 h1 w1) (hb : Below w1.heap.size w1 w2) : Arr w h0 h1 w2 :=
  ⟨⟨h.2.cell0 hb h.1.1 (by omega), h.2.cell0 hb h.1.2 (by omega)⟩, h.2.below hb⟩
theorem Arr.alloc {w w1 : World} {h0 h1 : Int} (h : Arr w h0 h1 w1) (o : Obj) : Arr w h0 h1 (w1.alloc o) := h.below ((Below.refl _ _).alloc (Nat.le_refl _) o)
theorem Arr.set2 {w w1 : World} {h0 h1 : Int} (h : Arr w h0 h1 w1) {g : Nat} {x y : Value} (hg : w.heap.size < g) : Arr w h0 h1 ((w1.setCell ⟨g, 0, none⟩ x).setCell ⟨g, 1, none⟩ y) :=
  ⟨⟨(far2 (by omega)).trans h.1.1, (far2 (by omega)).trans h.1.2⟩, (h.2.set (by omega) _).set (by omega) _⟩
/-- A variable that has been made, or not yet. -/
def Fbx (w u : World) : Option Nat → Prop
  | none => True
  | some g => w.heap.size < g ∧ g < u.heap.size ∧ u.cell? ⟨g, 0, none⟩ = some (.int .i64 0) ∧ u.cell? ⟨g, 1, none⟩ = some (.int .i64 0) ∧ ∀ o, u.frozen? ⟨g, o, none⟩ = false
theorem Fbx.below {w u v : World} {b : Option Nat} (h : Fbx w u b) (hb : Below u.heap.size u v) : Fbx w v b := by
  cases b with
  | none => trivial
  | some g =>
    obtain ⟨h1, h2, h3, h4, h5⟩ := h
    exact ⟨h1, Nat.lt_of_lt_of_le h2 hb.size, (hb.cell (p := ⟨g, 0, none⟩) h2).trans h3, (hb.cell (p := ⟨g, 1, none⟩) h2).trans h4, fun o => (hb.frozen (p := ⟨g, o, none⟩) h2).trans (h5 o)⟩
def Inv (w : World) (h0 h1 : Int) (b1 b2 : Option Nat) (u : World) : Prop := Arr w h0 h1 u ∧ Fbx w u b1 ∧ Fbx w u b2 ∧ ∀ g g', b1 = some g → b2 = some g' → g ≠ g'
theorem Inv.below {w u v : World} {h0 h1 : Int} {b1 b2 : Option Nat} (h : Inv w h0 h1 b1 b2 u) (hb : Below u.heap.size u v) : Inv w h0 h1 b1 b2 v := ⟨h.1.below hb, h.2.1.below hb, h.2.2.1.below hb, h.2.2.2⟩
theorem Fbx.lt {w u : World} {b : Option Nat} (h : Fbx w u b) {g : Nat} (hg : b = some g) : g < u.heap.size := by subst hg; exact h.2.1
theorem fbx_new {w u : World} (h : w.heap.size < u.heap.size) : Fbx w (u.alloc (.cells #[.int .i64 0, .int .i64 0] 23)) (some u.heap.size) := ⟨h, by simp, by simp, by simp, fun o => by simp⟩
theorem Inv.make1 {w u : World} {h0 h1 : Int} {b2 : Option Nat} (h : Inv w h0 h1 none b2 u) : Inv w h0 h1 (some u.heap.size) b2 (u.alloc (.cells #[.int .i64 0, .int .i64 0] 23)) :=
  have hb := (Below.refl u.heap.size u).alloc (Nat.le_refl _) (.cells #[.int .i64 0, .int .i64 0] 23)
  ⟨h.1.below hb, fbx_new (by have := h.1.2.2; omega), h.2.2.1.below hb, fun g g' e1 e2 => by cases e1; have := h.2.2.1.lt e2; omega⟩
theorem Inv.make2 {w u : World} {h0 h1 : Int} {b1 : Option Nat} (h : Inv w h0 h1 b1 none u) : Inv w h0 h1 b1 (some u.heap.size) (u.alloc (.cells #[.int .i64 0, .int .i64 0] 23)) :=
  have hb := (Below.refl u.heap.size u).alloc (Nat.le_refl _) (.cells #[.int .i64 0, .int .i64 0] 23)
  ⟨h.1.below hb, h.2.1.below hb, fbx_new (by have := h.1.2.2; omega), fun g g' e1 e2 => by cases e2; have := h.2.1.lt e1; omega⟩
theorem set_pair {u : World} {g : Nat} {p q x y : Value} (h0 : u.cell? ⟨g, 0, none⟩ = some p) (h1 : u.cell? ⟨g, 1, none⟩ = some q) :
    ((u.setCell ⟨g, 0, none⟩ x).setCell ⟨g, 1, none⟩ y).cell? ⟨g, 0, none⟩ = some x ∧ ((u.setCell ⟨g, 0, none⟩ x).setCell ⟨g, 1, none⟩ y).cell? ⟨g, 1, none⟩ = some y := by
  constructor <;> go_simp
/-- Two residues in two blocks. -/
def Two (w : World) (x y : Rs) (g1 g2 : Nat) (w' : World) : Prop :=
  Below w.heap.size w w' ∧ (w'.cell? ⟨g1, 0, none⟩ = some (.int .i64 x.m) ∧ w'.cell? ⟨g1, 1, none⟩ = some (.int .i64 x.r)) ∧ (w'.cell? ⟨g2, 0, none⟩ = some (.int .i64 y.m) ∧ w'.cell? ⟨g2, 1, none⟩ = some (.int .i64 y.r)) ∧ g1 < w'.heap.size ∧ g2 < w'.heap.size
theorem rs_or {x y : Rs} (hx : Rs.F x) (hy : Rs.F y) : x = Rs.non ∨ (x ≠ Rs.non ∧ y = Rs.non) ∨ ((∃ i, Rs.G x i) ∧ ∃ j, Rs.G y j) := by
  rcases hx with hx | hx
  · exact .inl hx
  · rcases hy with hy | hy
    · exact .inr (.inl ⟨hx.choose_spec.ne, hy⟩)
    · exact .inr (.inr ⟨hx, hy⟩)
theorem ract_non_left {o : Int} {x y : Rs} (h : x = Rs.non) : Rs.act o x y = Rs.non := by subst h; unfold Rs.act; rw [if_pos (.inl Rs.form_non)]
theorem ract_non_right {o : Int} {x y : Rs} (h : y = Rs.non) : Rs.act o x y = Rs.non := by subst h; unfold Rs.act; rw [if_pos (.inr Rs.form_non)]
theorem ract_good {o : Int} {x y : Rs} {i j : Nat} (hx : Rs.G x i) (hy : Rs.G y j) : Rs.act o x y = Rs.op o x y := by
  unfold Rs.act; rw [hx.form, hy.form, if_neg (fun h => h.elim hx.ne hy.ne)]
end Go.Proofs.YtmdakglbommopaaDoor
