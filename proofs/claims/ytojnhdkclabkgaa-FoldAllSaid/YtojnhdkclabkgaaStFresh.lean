/- Up to three variables of two numbers each that a region makes in an open order: none made, made, stored. No condition. -/
import Derived.Test.YtojnhdkclabkgaaStBase
namespace Go.Proofs.Ytojnhdkclabkgaa
open Go.RowKit
set_option linter.unusedVariables false
/-- A variable that has been made behind W0, or not yet. -/
def Fx (W0 u : World) : Option Nat → Prop
  | none => True
  | some g => W0.heap.size ≤ g ∧ g < u.heap.size ∧ u.cell? ⟨g, 0, none⟩ = some (.int .i64 0) ∧ u.cell? ⟨g, 1, none⟩ = some (.int .i64 0) ∧ ∀ o, u.frozen? ⟨g, o, none⟩ = false
theorem Fx.below {W0 u v : World} {b : Option Nat} (h : Fx W0 u b) (hb : Below u.heap.size u v) : Fx W0 v b := by
  cases b with
  | none => trivial
  | some g =>
    obtain ⟨h1, h2, h3, h4, h5⟩ := h
    exact ⟨h1, Nat.lt_of_lt_of_le h2 hb.size, (hb.cell (p := ⟨g, 0, none⟩) h2).trans h3, (hb.cell (p := ⟨g, 1, none⟩) h2).trans h4, fun o => (hb.frozen (p := ⟨g, o, none⟩) h2).trans (h5 o)⟩
theorem Fx.lt {W0 u : World} {b : Option Nat} (h : Fx W0 u b) {g : Nat} (hg : b = some g) : g < u.heap.size := by subst hg; exact h.2.1
theorem fx_new {W0 u : World} {t : TypeId} (h : W0.heap.size ≤ u.heap.size) : Fx W0 (u.alloc (.cells #[.int .i64 0, .int .i64 0] t)) (some u.heap.size) := ⟨h, by simp, by simp, by simp, fun o => by simp⟩
def Fr3 (W0 : World) (b1 b2 b3 : Option Nat) (u : World) : Prop :=
  Below W0.heap.size W0 u ∧ Fx W0 u b1 ∧ Fx W0 u b2 ∧ Fx W0 u b3 ∧ (∀ g g', b1 = some g → b2 = some g' → g ≠ g') ∧ (∀ g g', b1 = some g → b3 = some g' → g ≠ g') ∧ ∀ g g', b2 = some g → b3 = some g' → g ≠ g'
theorem fr3_refl (W0 : World) : Fr3 W0 none none none W0 := ⟨Below.refl _ _, trivial, trivial, trivial, fun _ _ h => by (cases h), fun _ _ h => by (cases h), fun _ _ h => by (cases h)⟩
/-- Nothing that was there in W0 has turned (said without W0's size). -/
def Bel (W0 u : World) : Prop := Below W0.heap.size W0 u
section
variable {W0 u v : World} {b1 b2 b3 : Option Nat} {t : TypeId}
theorem Fr3.bel (h : Fr3 W0 b1 b2 b3 u) : Bel W0 u := h.1
theorem Fr3.below (h : Fr3 W0 b1 b2 b3 u) (hb : Below u.heap.size u v) : Fr3 W0 b1 b2 b3 v := ⟨h.1.trans (hb.mono h.1.size), h.2.1.below hb, h.2.2.1.below hb, h.2.2.2.1.below hb, h.2.2.2.2⟩
theorem Fr3.make1 (h : Fr3 W0 none b2 b3 u) : Fr3 W0 (some u.heap.size) b2 b3 (u.alloc (.cells #[.int .i64 0, .int .i64 0] t)) :=
  have hb := (Below.refl u.heap.size u).alloc (Nat.le_refl _) (.cells #[.int .i64 0, .int .i64 0] t)
  ⟨h.1.trans (hb.mono h.1.size), fx_new h.1.size, h.2.2.1.below hb, h.2.2.2.1.below hb, fun g g' e1 e2 => by (cases e1; have := h.2.2.1.lt e2; omega), fun g g' e1 e2 => by (cases e1; have := h.2.2.2.1.lt e2; omega), h.2.2.2.2.2.2⟩
theorem Fr3.make2 (h : Fr3 W0 b1 none b3 u) : Fr3 W0 b1 (some u.heap.size) b3 (u.alloc (.cells #[.int .i64 0, .int .i64 0] t)) :=
  have hb := (Below.refl u.heap.size u).alloc (Nat.le_refl _) (.cells #[.int .i64 0, .int .i64 0] t)
  ⟨h.1.trans (hb.mono h.1.size), h.2.1.below hb, fx_new h.1.size, h.2.2.2.1.below hb, fun g g' e1 e2 => by (cases e2; have := h.2.1.lt e1; omega), h.2.2.2.2.2.1, fun g g' e1 e2 => by (cases e1; have := h.2.2.2.1.lt e2; omega)⟩
theorem Fr3.make3 (h : Fr3 W0 b1 b2 none u) : Fr3 W0 b1 b2 (some u.heap.size) (u.alloc (.cells #[.int .i64 0, .int .i64 0] t)) :=
  have hb := (Below.refl u.heap.size u).alloc (Nat.le_refl _) (.cells #[.int .i64 0, .int .i64 0] t)
  ⟨h.1.trans (hb.mono h.1.size), h.2.1.below hb, h.2.2.1.below hb, fx_new h.1.size, h.2.2.2.2.1, fun g g' e1 e2 => by (cases e2; have := h.2.1.lt e1; omega), fun g g' e1 e2 => by (cases e2; have := h.2.2.1.lt e1; omega)⟩
end
/-- Two numbers in a block. -/
def Pr (p q : Int) (g : Nat) (w' : World) : Prop := (w'.cell? ⟨g, 0, none⟩ = some (.int .i64 p) ∧ w'.cell? ⟨g, 1, none⟩ = some (.int .i64 q)) ∧ g < w'.heap.size
theorem Pr.below {p q : Int} {g : Nat} {a b : World} (h : Pr p q g a) (hb : Below a.heap.size a b) : Pr p q g b :=
  ⟨⟨(hb.cell (p := ⟨g, 0, none⟩) h.2).trans h.1.1, (hb.cell (p := ⟨g, 1, none⟩) h.2).trans h.1.2⟩, Nat.lt_of_lt_of_le h.2 hb.size⟩
theorem Pr.drew {p q : Int} {g : Nat} {a : World} (h : Pr p q g a) : Pr p q g a.drew := h.below (below_drewN _ a 1)
theorem Pr.far {p q : Int} {g g' : Nat} {a : World} {x y : Value} (h : Pr p q g a) (hne : g' ≠ g) : Pr p q g ((a.setCell ⟨g', 0, none⟩ x).setCell ⟨g', 1, none⟩ y) :=
  ⟨⟨(far2 hne).trans h.1.1, (far2 hne).trans h.1.2⟩, by simpa using h.2⟩
theorem pr_new (p q : Int) (a : World) (t : TypeId) : Pr p q a.heap.size (a.alloc (.cells #[.int .i64 p, .int .i64 q] t)) := ⟨⟨by simp, by simp⟩, by simp⟩
theorem pr_set {u : World} {g : Nat} {x y : Value} {p q : Int} (h0 : u.cell? ⟨g, 0, none⟩ = some x) (h1 : u.cell? ⟨g, 1, none⟩ = some y) (hl : g < u.heap.size) : Pr p q g ((u.setCell ⟨g, 0, none⟩ (.int .i64 p)).setCell ⟨g, 1, none⟩ (.int .i64 q)) :=
  ⟨⟨by go_simp, by go_simp⟩, by simpa using hl⟩
/-! States of a region that are reached in several orders: what follows each is said once; its frame is fixed where it is reached first. -/
section
variable {P : Program} {md : Region.Mode} {ops : Array Oper} {Q : Exit → Act → World → Prop} {S : World → Prop}
theorem mh0 {f0 : Nat} {l0 : Array Bool} {a0 : Act} {w0 : World} {Pre : World → Prop} (fuel : Nat) (listed : Array Bool) (F : Act) (h1 : (∀ (w' : World), Pre w' → wpAnyH P md ops Q S fuel listed F w') → wpAnyH P md ops Q S f0 l0 a0 w0) (h2 : ∀ (w' : World), Pre w' → wpAnyH P md ops Q S fuel listed F w') : wpAnyH P md ops Q S f0 l0 a0 w0 := h1 h2
theorem mh1 {A : Type} {f0 : Nat} {l0 : Array Bool} {a0 : Act} {w0 : World} {Pre : A → World → Prop} (fuel : Nat) (listed : Array Bool) (F : A → Act) (h1 : (∀ (a : A) (w' : World), Pre a w' → wpAnyH P md ops Q S fuel listed (F a) w') → wpAnyH P md ops Q S f0 l0 a0 w0) (h2 : ∀ (a : A) (w' : World), Pre a w' → wpAnyH P md ops Q S fuel listed (F a) w') : wpAnyH P md ops Q S f0 l0 a0 w0 := h1 h2
theorem mh2 {A B : Type} {f0 : Nat} {l0 : Array Bool} {a0 : Act} {w0 : World} {Pre : A → B → World → Prop} (fuel : Nat) (listed : Array Bool) (F : A → B → Act) (h1 : (∀ (a : A) (b : B) (w' : World), Pre a b w' → wpAnyH P md ops Q S fuel listed (F a b) w') → wpAnyH P md ops Q S f0 l0 a0 w0) (h2 : ∀ (a : A) (b : B) (w' : World), Pre a b w' → wpAnyH P md ops Q S fuel listed (F a b) w') : wpAnyH P md ops Q S f0 l0 a0 w0 := h1 h2
theorem mh3 {A B C : Type} {f0 : Nat} {l0 : Array Bool} {a0 : Act} {w0 : World} {Pre : A → B → C → World → Prop} (fuel : Nat) (listed : Array Bool) (F : A → B → C → Act) (h1 : (∀ (a : A) (b : B) (c : C) (w' : World), Pre a b c w' → wpAnyH P md ops Q S fuel listed (F a b c) w') → wpAnyH P md ops Q S f0 l0 a0 w0) (h2 : ∀ (a : A) (b : B) (c : C) (w' : World), Pre a b c w' → wpAnyH P md ops Q S fuel listed (F a b c) w') : wpAnyH P md ops Q S f0 l0 a0 w0 := h1 h2
theorem mh4 {A B C D : Type} {f0 : Nat} {l0 : Array Bool} {a0 : Act} {w0 : World} {Pre : A → B → C → D → World → Prop} (fuel : Nat) (listed : Array Bool) (F : A → B → C → D → Act) (h1 : (∀ (a : A) (b : B) (c : C) (d : D) (w' : World), Pre a b c d w' → wpAnyH P md ops Q S fuel listed (F a b c d) w') → wpAnyH P md ops Q S f0 l0 a0 w0) (h2 : ∀ (a : A) (b : B) (c : C) (d : D) (w' : World), Pre a b c d w' → wpAnyH P md ops Q S fuel listed (F a b c d) w') : wpAnyH P md ops Q S f0 l0 a0 w0 := h1 h2
theorem mh5 {A B C D E : Type} {f0 : Nat} {l0 : Array Bool} {a0 : Act} {w0 : World} {Pre : A → B → C → D → E → World → Prop} (fuel : Nat) (listed : Array Bool) (F : A → B → C → D → E → Act) (h1 : (∀ (a : A) (b : B) (c : C) (d : D) (e : E) (w' : World), Pre a b c d e w' → wpAnyH P md ops Q S fuel listed (F a b c d e) w') → wpAnyH P md ops Q S f0 l0 a0 w0) (h2 : ∀ (a : A) (b : B) (c : C) (d : D) (e : E) (w' : World), Pre a b c d e w' → wpAnyH P md ops Q S fuel listed (F a b c d e) w') : wpAnyH P md ops Q S f0 l0 a0 w0 := h1 h2
theorem mh6 {A B C D E H : Type} {f0 : Nat} {l0 : Array Bool} {a0 : Act} {w0 : World} {Pre : A → B → C → D → E → H → World → Prop} (fuel : Nat) (listed : Array Bool) (F : A → B → C → D → E → H → Act) (h1 : (∀ (a : A) (b : B) (c : C) (d : D) (e : E) (h : H) (w' : World), Pre a b c d e h w' → wpAnyH P md ops Q S fuel listed (F a b c d e h) w') → wpAnyH P md ops Q S f0 l0 a0 w0) (h2 : ∀ (a : A) (b : B) (c : C) (d : D) (e : E) (h : H) (w' : World), Pre a b c d e h w' → wpAnyH P md ops Q S fuel listed (F a b c d e h) w') : wpAnyH P md ops Q S f0 l0 a0 w0 := h1 h2
theorem mh7 {A B C D E H I : Type} {f0 : Nat} {l0 : Array Bool} {a0 : Act} {w0 : World} {Pre : A → B → C → D → E → H → I → World → Prop} (fuel : Nat) (listed : Array Bool) (F : A → B → C → D → E → H → I → Act) (h1 : (∀ (a : A) (b : B) (c : C) (d : D) (e : E) (h : H) (i : I) (w' : World), Pre a b c d e h i w' → wpAnyH P md ops Q S fuel listed (F a b c d e h i) w') → wpAnyH P md ops Q S f0 l0 a0 w0) (h2 : ∀ (a : A) (b : B) (c : C) (d : D) (e : E) (h : H) (i : I) (w' : World), Pre a b c d e h i w' → wpAnyH P md ops Q S fuel listed (F a b c d e h i) w') : wpAnyH P md ops Q S f0 l0 a0 w0 := h1 h2
theorem mh8 {A B C D E H I J : Type} {f0 : Nat} {l0 : Array Bool} {a0 : Act} {w0 : World} {Pre : A → B → C → D → E → H → I → J → World → Prop} (fuel : Nat) (listed : Array Bool) (F : A → B → C → D → E → H → I → J → Act) (h1 : (∀ (a : A) (b : B) (c : C) (d : D) (e : E) (h : H) (i : I) (j : J) (w' : World), Pre a b c d e h i j w' → wpAnyH P md ops Q S fuel listed (F a b c d e h i j) w') → wpAnyH P md ops Q S f0 l0 a0 w0) (h2 : ∀ (a : A) (b : B) (c : C) (d : D) (e : E) (h : H) (i : I) (j : J) (w' : World), Pre a b c d e h i j w' → wpAnyH P md ops Q S fuel listed (F a b c d e h i j) w') : wpAnyH P md ops Q S f0 l0 a0 w0 := h1 h2
theorem wpAnyH_listed {fuel : Nat} {listed listed' : Array Bool} {a : Act} {w : World} (h : listed = listed') (hk : wpAnyH P md ops Q S fuel listed' a w) : wpAnyH P md ops Q S fuel listed a w := h ▸ hk
end
/-! A region in the text's order, operation by operation (for long ones with many guards). -/
section
variable {P : Program} {ops : Array Oper} {Q : Exit → Act → World → Prop} {a : Act} {w : World} {rest : List Oper} {o : Oper}
theorem wp_region_var {id : Nat} {l : List Oper} (h : ∀ OPS : Array Oper, OPS = l.toArray → wpList P OPS Q l a w) : (Code.region id l.toArray false).wp P Q a w := wp_region_lit (h _ rfl)
theorem wanted_no {tmps : Array Value} {o : Oper} {i s : Nat} {b v : Bool} (hg : o.guard = some (i, b)) (hd : (ops[i]?).bind (·.dst) = some s) (ht : tmps[s]? = some (.bool v)) (hv : (v == b) = false) : Region.wanted o (yielded ops tmps) = false := by
  unfold Region.wanted
  rw [hg]
  have e : yielded ops tmps i = some v := by unfold yielded; rw [hd]; simp [ht]
  simp only [e]
  revert hv; cases v <;> cases b <;> decide
theorem wanted_yes {tmps : Array Value} {o : Oper} {i s : Nat} {b v : Bool} (hg : o.guard = some (i, b)) (hd : (ops[i]?).bind (·.dst) = some s) (ht : tmps[s]? = some (.bool v)) (hv : (v == b) = true) : Region.wanted o (yielded ops tmps) = true := by
  unfold Region.wanted
  rw [hg]
  have e : yielded ops tmps i = some v := by unfold yielded; rw [hd]; simp [ht]
  simp only [e]
  revert hv; cases v <;> cases b <;> decide
theorem wanted_undef {tmps : Array Value} {o : Oper} {i s : Nat} {b : Bool} (hg : o.guard = some (i, b)) (hd : (ops[i]?).bind (·.dst) = some s) (ht : tmps[s]? = some undef) : Region.wanted o (yielded ops tmps) = false := by
  unfold Region.wanted
  rw [hg]
  have e : yielded ops tmps i = none := by unfold yielded; rw [hd]; simp [ht, undef]
  simp only [e]
  cases b <;> decide
theorem wpList_skip (hw : Region.wanted o (yielded ops a.tmps) = false) (h : wpList P ops Q rest (a.put o.dst undef) w) : wpList P ops Q (o :: rest) a w :=
  wpList_step fun K hK => by rw [hw]; exact hK _ _ h
/-- Passed over: its slot was undef before (it is met for the first time). -/
theorem wpList_pass (hw : Region.wanted o (yielded ops a.tmps) = false) (hs : a.put o.dst undef = a) (h : wpList P ops Q rest a w) : wpList P ops Q (o :: rest) a w := wpList_skip hw (by rw [hs]; exact h)
theorem wpList_take (hw : Region.wanted o (yielded ops a.tmps) = true) (h : ∀ K : Act → World → Prop, (∀ a w, wpList P ops Q rest a w → K a w) → o.wp P a w K Q) : wpList P ops Q (o :: rest) a w :=
  wpList_step fun K hK => by rw [hw]; exact h K hK
end
end Go.Proofs.Ytojnhdkclabkgaa
