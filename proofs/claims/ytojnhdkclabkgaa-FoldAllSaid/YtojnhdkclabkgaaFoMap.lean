/- Maps of numbers that a call has made, as functions. No condition. -/
import Derived.Test.YtojnhdkclabkgaaFoMath
import Derived.Test.YtojnhdkclabkgaaGrMem
import Derived.Maps.OwnSet
import Derived.Maps.RangeWalk
namespace Go.Proofs.Ytojnhdkclabkgaa
open Go.RowKit Go.Maps
set_option linter.unusedVariables false
set_option linter.unusedSimpArgs false
theorem mlaw : Keyed Try.prog 3 := int_keyed Try.underlying3
theorem mzero (w : World) : (zeroValue 3).run Try.prog w = .ok (.int .i64 0) w := by kernel_rfl
/-- A number that an int can be. -/
def Wf (z : Int) : Prop := -9223372036854775808 ≤ z ∧ z ≤ 9223372036854775807
theorem Wf.lit {z : Int} (h : Wf z) : (Lit.int .i64 z).wf = true := WalkArith.wf_i64 h
/-- Block b is a map of at most n entries: at z it has f z. -/
def MapF (u : World) (b n : Nat) (f : Int → Option Int) : Prop :=
  ∃ D : DataW Unit, u.ownsMap Try.prog 3 (plainElem Try.prog 3) b n D ∧ ∀ z, Wf z → Maps.has D (.int .i64 z) = (f z).isSome ∧ D.atKey (.int .i64 z) (.lit (.int .i64 0)) = .lit (.int .i64 ((f z).getD 0))
theorem MapF.lt {u : World} {b n : Nat} {f : Int → Option Int} (h : MapF u b n f) : b < u.heap.size := by
  obtain ⟨D, ⟨es, clock, hb, _⟩, _⟩ := h
  rcases Nat.lt_or_ge b u.heap.size with h | h
  · exact h
  · rw [Array.getElem?_eq_none h] at hb; exact absurd hb (by simp)
theorem MapF.kept {u u' : World} {b n : Nat} {f : Int → Option Int} (h : MapF u b n f) (hb : u'.heap[b]? = u.heap[b]?) : MapF u' b n f := by
  obtain ⟨D, ⟨es, clock, h1, h2⟩, h3⟩ := h
  exact ⟨D, ⟨es, clock, hb.trans h1, h2⟩, h3⟩
theorem MapF.below {u u' : World} {b n : Nat} {f : Int → Option Int} (h : MapF u b n f) (hb : Below u.heap.size u u') : MapF u' b n f := h.kept (hb.block b h.lt)
theorem lit_ne {a b : Int} (h : a ≠ b) : (Lit.int .i64 a) ≠ .int .i64 b := fun e => h (by injection e)
theorem mapf_put {D : DataW Unit} {f : Int → Option Int} {d x : Int} (hm : IsMap D) (hD : ∀ z, Wf z → Maps.has D (.int .i64 z) = (f z).isSome ∧ D.atKey (.int .i64 z) (.lit (.int .i64 0)) = .lit (.int .i64 ((f z).getD 0))) (z : Int) (hz : Wf z) :
    Maps.has (D.put (.int .i64 d) (.lit (.int .i64 x))) (.int .i64 z) = (Fo.upd f d (some x) z).isSome ∧ (D.put (.int .i64 d) (.lit (.int .i64 x))).atKey (.int .i64 z) (.lit (.int .i64 0)) = .lit (.int .i64 ((Fo.upd f d (some x) z).getD 0)) := by
  unfold Fo.upd
  by_cases h : z = d
  · subst h
    rw [if_pos rfl]
    exact ⟨has_put_same hm (show WideAt.IsKeyLit (.int .i64 z) from trivial) _, atKey_put_same hm (show WideAt.IsKeyLit (.int .i64 z) from trivial) _ _⟩
  · rw [if_neg h, has_put_other (lit_ne h), atKey_put_other (lit_ne h)]
    exact hD z hz
theorem mapf_del {D : DataW Unit} {f : Int → Option Int} {d : Int} (hD : ∀ z, Wf z → Maps.has D (.int .i64 z) = (f z).isSome ∧ D.atKey (.int .i64 z) (.lit (.int .i64 0)) = .lit (.int .i64 ((f z).getD 0))) (z : Int) (hz : Wf z) :
    Maps.has (D.del (.int .i64 d)) (.int .i64 z) = (Fo.upd f d none z).isSome ∧ (D.del (.int .i64 d)).atKey (.int .i64 z) (.lit (.int .i64 0)) = .lit (.int .i64 ((Fo.upd f d none z).getD 0)) := by
  unfold Fo.upd
  by_cases h : z = d
  · subst h
    rw [if_pos rfl]
    exact ⟨has_del_same, atKey_del_same _⟩
  · rw [if_neg h, has_del_other (lit_ne h), atKey_del_other (lit_ne h)]
    exact hD z hz
end Go.Proofs.Ytojnhdkclabkgaa
