/- What IntervalTight asks, of the plain intervals: sums and differences reach their ends, narrower intervals have narrower results. No condition. -/
import Derived.Test.YtdajgopgaklipaaIvOrder
namespace Go.Proofs.Ytdajgopgaklipaa
set_option linter.unusedVariables false
set_option linter.unusedSimpArgs false
namespace Iv
theorem act_good {o : Int} {a b : Iv} (ha : Good a) (hb : Good b) : act o a b = op o a.lo a.hi b.lo b.hi := by
  unfold act
  rw [form_good ha, form_good hb, if_neg (fun h => h.elim (good_ne ha) (good_ne hb))]
theorem hull_two {p q : Int} (h : p ≤ q) (h1 : -2147483648 ≤ p) (h2 : q ≤ 2147483647) : hull p q p q = ⟨p, q⟩ := by
  have e1 : min4 p q p q = p := by unfold min4; omega
  have e2 : max4 p q p q = q := by unfold max4; omega
  unfold hull
  rw [e1, e2, if_neg (by omega), mk_le h]
theorem act_add {a b : Iv} (ha : Good a) (hb : Good b) (h1 : -2147483648 ≤ a.lo + b.lo) (h2 : a.hi + b.hi < 2147483648) : act 1 a b = ⟨a.lo + b.lo, a.hi + b.hi⟩ := by
  rw [act_good ha hb]
  have h3 := ha.2.1
  have h4 := hb.2.1
  exact hull_two (by omega) h1 (by omega)
theorem act_sub {a b : Iv} (ha : Good a) (hb : Good b) (h1 : -2147483648 ≤ a.lo - b.hi) (h2 : a.hi - b.lo < 2147483648) : act 2 a b = ⟨a.lo - b.hi, a.hi - b.lo⟩ := by
  rw [act_good ha hb]
  have h3 := ha.2.1
  have h4 := hb.2.1
  exact hull_two (by omega) h1 (by omega)
/-- Narrower intervals have narrower results, in the order's own words. -/
theorem act_leq {o : Int} {a b a' b' : Iv} (ho : 1 ≤ o ∧ o ≤ 14) (ha : Good a) (hb : Good b) (ha' : Good a') (hb' : Good b') (h : Nar a' a) (k : Nar b' b) : leq (act o a' b') (act o a b) = true := by
  rw [act_good ha hb, act_good ha' hb']
  have g : ∀ {x y : Iv}, Good x → Good y → Good (op o x.lo x.hi y.lo y.hi) := fun {x y} hx hy =>
    (sound (x := x.lo) (y := y.lo) ho (by have := hx.1; have := hx.2.1; have := hx.2.2; omega) ⟨Int.le_refl _, hx.2.1⟩ (by have := hx.2.2; omega) (by have := hy.1; omega) ⟨Int.le_refl _, hy.2.1⟩ (by have := hy.2.2; omega)).1
  exact leq_nar (g ha' hb') (g ha hb) (narrows ho ha.1 ha.2.2 hb.1 hb.2.2 h.1 ha'.2.1 h.2 k.1 hb'.2.1 k.2)
end Iv
end Go.Proofs.Ytdajgopgaklipaa
