/- What the code of layer 7 reckons is what the document's sentences say: plain arithmetic. No condition. -/
import Derived.Test.YtdajgopgaklipaaIvOrder
import Derived.Test.YtdajgopgaklipaaIvRefine
import Derived.Lib.BitFns
namespace Go.Proofs.Ytdajgopgaklipaa
open Go.RowKit (wrap32 wrap64)
set_option linter.unusedVariables false
set_option linter.unusedSimpArgs false
namespace Iv
theorem exact_hull (a b c d : Int) : form ⟨min4 a b c d, max4 a b c d⟩ = hull a b c d := by
  have h1 := min4_le a b c d
  have h2 := le_max4 a b c d
  unfold hull
  by_cases h : min4 a b c d < -2147483648 ∨ 2147483647 < max4 a b c d
  · rw [if_pos h]
    unfold form ok non
    rw [if_neg]
    simp
    omega
  · rw [if_neg h, mk_le (by omega)]
    exact form_of (.inr ⟨by show _ ≤ min4 a b c d; omega, by show min4 a b c d ≤ max4 a b c d; omega, by show max4 a b c d ≤ _; omega⟩)
theorem hull_add {p q r s : Int} (h : p ≤ q) (k : r ≤ s) : hull (p + r) (p + s) (q + r) (q + s) = hull (p + r) (q + s) (p + r) (q + s) := by
  have e1 : min4 (p + r) (p + s) (q + r) (q + s) = min4 (p + r) (q + s) (p + r) (q + s) := by unfold min4; omega
  have e2 : max4 (p + r) (p + s) (q + r) (q + s) = max4 (p + r) (q + s) (p + r) (q + s) := by unfold max4; omega
  unfold hull
  rw [e1, e2]
theorem hull_sub {p q r s : Int} (h : p ≤ q) (k : r ≤ s) : hull (p - r) (p - s) (q - r) (q - s) = hull (p - s) (q - r) (p - s) (q - r) := by
  have e1 : min4 (p - r) (p - s) (q - r) (q - s) = min4 (p - s) (q - r) (p - s) (q - r) := by unfold min4; omega
  have e2 : max4 (p - r) (p - s) (q - r) (q - s) = max4 (p - s) (q - r) (p - s) (q - r) := by unfold max4; omega
  unfold hull
  rw [e1, e2]
theorem hull_shl {p q : Int} (c : Int) (hc : 1 ≤ c) (h0 : 0 ≤ p) (h : p ≤ q) : hull (p * c) (p * c) (q * c) (q * c) = if q * c ≤ 2147483647 then mk' (p * c) (q * c) else all := by
  have h1 : 0 ≤ p * c := Int.mul_nonneg h0 (by omega)
  have h2 : p * c ≤ q * c := Int.mul_le_mul_of_nonneg_right h (by omega)
  generalize p * c = x at *
  generalize q * c = y at *
  have e1 : min4 x x y y = x := by unfold min4; omega
  have e2 : max4 x x y y = y := by unfold max4; omega
  unfold hull
  rw [e1, e2]
  by_cases hy : y ≤ 2147483647
  · rw [if_pos hy, if_neg (by omega)]
  · rw [if_neg hy, if_pos (by omega)]
theorem rem_code {p q r s : Int} (h : p ≤ q) (h1 : 1 ≤ r) (h2 : r ≤ s) :
    mk' (if 0 ≤ p then 0 else max p (1 - s)) (if q ≤ 0 then 0 else min q (s - 1)) = ⟨max (min p 0) (-(s - 1)), min (max q 0) (s - 1)⟩ := by
  have e1 : (if 0 ≤ p then 0 else max p (1 - s)) = max (min p 0) (-(s - 1)) := by split <;> omega
  have e2 : (if q ≤ 0 then 0 else min q (s - 1)) = min (max q 0) (s - 1) := by split <;> omega
  rw [e1, e2, mk_le (by omega)]
theorem ones_bitLen {n : Int} (h0 : 0 ≤ n) (hn : n ≤ 2147483647) : ones n = (2 ^ Lib.bitLen n.toNat : Nat) - 1 ∧ Lib.bitLen n.toNat ≤ 31 := by
  obtain ⟨i, h1, h2, h3, h4⟩ := ones_spec hn
  have e : Lib.bitLen n.toNat = i := by
    rcases h4 with h4 | h4
    · subst h4
      rw [h2] at h3
      have : n.toNat = 0 := by
        have : ((2 ^ 0 : Nat) : Int) = 1 := by decide
        omega
      rw [this]
      decide
    · by_cases hi : i = 0
      · subst hi
        rw [h2] at h3
        have e1 : ((2 ^ 0 : Nat) : Int) = 1 := by decide
        have : n.toNat = 0 := by omega
        rw [this]
        decide
      · have e2 : 2 ^ i = 2 * 2 ^ (i - 1) := by
          obtain ⟨j, rfl⟩ : ∃ j, i = j + 1 := ⟨i - 1, by omega⟩
          rw [Nat.pow_succ]; simp; omega
        have a1 : 2 ^ (i - 1) ≤ n.toNat := by omega
        have a2 : n.toNat < 2 ^ i := by omega
        have a4 : (2 : Nat) ^ 64 = 18446744073709551616 := by decide
        rw [Lib.bitLen_shift (i - 1) n.toNat a1 (by omega)]
        have a3 : n.toNat / 2 ^ (i - 1) = 1 := by
          have hp : 0 < 2 ^ (i - 1) := Nat.pow_pos (by omega)
          rw [Nat.div_eq_iff hp]
          omega
        rw [a3]
        have : Lib.bitLen 1 = 1 := by decide
        omega
  rw [e]
  exact ⟨h2, h1⟩
/-! ### Refine -/
theorem mk_non {p q : Int} : mk' p q = non ↔ q < p := by
  unfold mk'
  by_cases h : q < p
  · rw [if_pos h]; exact ⟨fun _ => h, fun _ => rfl⟩
  · rw [if_neg h]
    refine ⟨fun e => ?_, fun e => absurd e h⟩
    have e1 : p = 1 := congrArg Iv.lo e
    have e2 : q = 0 := congrArg Iv.hi e
    omega
/-- Pairs of words such that the first one is less by g or more. -/
def blw (a b : Iv) (g : Int) : Iv × Iv := (mk' a.lo (min a.hi (b.hi - g)), mk' (max b.lo (a.lo + g)) b.hi)
theorem both_mk {p q r s : Int} (h : q < p ↔ s < r) : both (mk' p q) (mk' r s) = (mk' p q, mk' r s) := by
  unfold both
  by_cases c : q < p
  · rw [if_pos (.inl (mk_non.2 c)), mk_non.2 c, mk_non.2 (h.1 c)]
  · rw [if_neg]
    rintro (e | e)
    · exact c (mk_non.1 e)
    · exact c (h.2 (mk_non.1 e))
def swap (x : Iv × Iv) : Iv × Iv := (x.2, x.1)
def parts (o : Int) (t : Bool) (a b : Iv) : Iv × Iv :=
  if o = 11 ∧ t = true then blw a b 1 else if o = 11 then swap (blw b a 0) else if o = 12 ∧ t = true then blw a b 0 else if o = 12 then swap (blw b a 1)
  else if t = decide (o = 13) then (meet a b, meet a b) else (but a b, but b a)
theorem but_non {a b : Iv} (ha : Good a) (hb : Good b) : but a b = non ↔ a = b ∧ a.lo = a.hi := by
  obtain ⟨h1, h2, h3⟩ := ha
  obtain ⟨k1, k2, k3⟩ := hb
  unfold but
  by_cases e : b.lo = b.hi
  · rw [if_neg (by simpa using e), mk_non]
    constructor
    · intro h
      have : a.lo = b.lo ∧ a.hi = b.lo := by
        split at h <;> split at h <;> omega
      exact ⟨iv_ext this.1 (by omega), by omega⟩
    · rintro ⟨rfl, h⟩
      rw [if_pos rfl, if_pos (by omega)]
      omega
  · rw [if_pos (by simpa using e)]
    constructor
    · intro h; rw [h] at h2; simp [non] at h2
    · rintro ⟨rfl, h⟩; exact absurd h e
theorem parts_eq {o : Int} {t : Bool} {a b : Iv} (ho : 11 ≤ o ∧ o ≤ 14) (ha : Good a) (hb : Good b) : refine' o t a b = parts o t a b := by
  obtain ⟨h1, h2, h3⟩ := id ha
  obtain ⟨k1, k2, k3⟩ := id hb
  have hc : o = 11 ∨ o = 12 ∨ o = 13 ∨ o = 14 := by omega
  have hbut : both (but a b) (but b a) = (but a b, but b a) := by
    unfold both
    by_cases e : but a b = non
    · have := (but_non ha hb).1 e
      have e2 : but b a = non := (but_non hb ha).2 ⟨this.1.symm, by rw [← this.1]; exact this.2⟩
      rw [if_pos (.inl e), e, e2]
    · rw [if_neg]
      rintro (e1 | e1)
      · exact e e1
      · have := (but_non hb ha).1 e1
        exact e ((but_non ha hb).2 ⟨this.1.symm, by rw [← this.1]; exact this.2⟩)
  have hmeet : both (meet a b) (meet a b) = (meet a b, meet a b) := by
    unfold both
    by_cases e : meet a b = non
    · rw [if_pos (.inl e), e]
    · rw [if_neg (by simpa using e)]
  rcases hc with rfl | rfl | rfl | rfl <;> cases t <;> unfold refine' parts
  · simp only [reduceCtorEq, and_false, if_false, if_true]
    unfold swap blw
    rw [both_mk (by omega)]
    simp only [Prod.mk.injEq]
    exact ⟨by congr 1; omega, by congr 1; omega⟩
  · simp only [and_self, if_true]
    unfold blw
    exact both_mk (by omega)
  · simp only [reduceCtorEq, and_false, if_false, if_true, show ¬ ((12 : Int) = 11) by decide, false_and]
    unfold swap blw
    rw [both_mk (by omega)]
  · simp only [and_self, if_true, if_false, show ¬ ((12 : Int) = 11) by decide, false_and]
    unfold blw
    rw [both_mk (by omega)]
    simp only [Prod.mk.injEq]
    exact ⟨by congr 1; omega, by congr 1; omega⟩
  all_goals
    simp
    first | exact hmeet | exact hbut
theorem cmp_code {o : Int} {a b : Iv} (ho : 11 ≤ o ∧ o ≤ 14) (ha : Good a) (hb : Good b) :
    (if (refine o false a b).1 = non then (⟨1, 1⟩ : Iv) else if (refine o true a b).1 = non then ⟨0, 0⟩ else ⟨0, 1⟩) = op o a.lo a.hi b.lo b.hi := by
  have e : ∀ t, refine o t a b = parts o t a b := fun t => by
    unfold refine
    rw [if_neg (by omega), form_good ha, form_good hb, if_neg (fun h => h.elim (good_ne ha) (good_ne hb)), parts_eq ho ha hb]
  obtain ⟨h1, h2, h3⟩ := id ha
  obtain ⟨k1, k2, k3⟩ := id hb
  rw [e, e]
  have hm : meet a b = non ↔ (a.hi < b.lo ∨ b.hi < a.lo) := by rw [meet_good ha hb, mk_non]; omega
  have hbn : but a b = non ↔ (a.lo = a.hi ∧ b.lo = b.hi ∧ a.lo = b.lo) := by
    rw [but_non ha hb]
    constructor
    · rintro ⟨rfl, h⟩; exact ⟨h, h, rfl⟩
    · rintro ⟨x, y, z⟩; exact ⟨iv_ext z (by omega), x⟩
  have ite : ∀ (P Q : Prop) [Decidable P] [Decidable Q] (x y : Bool), (P ↔ x = true) → (Q ↔ y = true) → (if P then (⟨1, 1⟩ : Iv) else if Q then ⟨0, 0⟩ else ⟨0, 1⟩) = truth x y := by
    intro P Q _ _ x y hx hy
    unfold truth
    by_cases c : P
    · rw [if_pos c, if_pos (hx.1 c)]
    · rw [if_neg c, if_neg (fun h => c (hx.2 h))]
      by_cases d : Q
      · rw [if_pos d, if_pos (hy.1 d)]
      · rw [if_neg d, if_neg (fun h => d (hy.2 h))]
  have hc : o = 11 ∨ o = 12 ∨ o = 13 ∨ o = 14 := by omega
  rcases hc with rfl | rfl | rfl | rfl
  · exact ite _ _ _ _ (by show mk' (max a.lo (b.lo + 0)) a.hi = non ↔ _; rw [mk_non, decide_eq_true_iff]; omega) (by show mk' a.lo (min a.hi (b.hi - 1)) = non ↔ _; rw [mk_non, decide_eq_true_iff]; omega)
  · exact ite _ _ _ _ (by show mk' (max a.lo (b.lo + 1)) a.hi = non ↔ _; rw [mk_non, decide_eq_true_iff]; omega) (by show mk' a.lo (min a.hi (b.hi - 0)) = non ↔ _; rw [mk_non, decide_eq_true_iff]; omega)
  · exact ite _ _ _ _ (by show but a b = non ↔ _; rw [hbn]; simp; omega) (by show meet a b = non ↔ _; rw [hm]; simp)
  · exact ite _ _ _ _ (by show meet a b = non ↔ _; rw [hm]; simp) (by show but a b = non ↔ _; rw [hbn]; simp; omega)
end Iv
end Go.Proofs.Ytdajgopgaklipaa
