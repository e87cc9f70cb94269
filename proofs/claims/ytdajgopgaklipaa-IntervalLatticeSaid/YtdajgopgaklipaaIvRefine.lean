/- Refine loses no pair for which a comparison is as said, stays within its arguments, and leaves no end without a partner. No condition. -/
import Derived.Test.YtdajgopgaklipaaIvOrder
namespace Go.Proofs.Ytdajgopgaklipaa
open Go.RowKit (wrap32 wrap64)
set_option linter.unusedVariables false
set_option linter.unusedSimpArgs false
namespace Iv
/-- What a comparison says of two words. -/
def cmp (o i k : Int) : Bool := if o = 11 then decide (i < k) else if o = 12 then decide (i ≤ k) else if o = 13 then decide (i = k) else decide (i ≠ k)
def isWord (n : Int) : Prop := -2147483648 ≤ n ∧ n ≤ 2147483647
theorem val_cmp {o i k : Int} (ho : 11 ≤ o ∧ o ≤ 14) (hi : isWord i) (hk : isWord k) : val o i k = one (cmp o i k) := by
  rw [val_at hi hk]
  have hc : o = 11 ∨ o = 12 ∨ o = 13 ∨ o = 14 := by omega
  rcases hc with rfl | rfl | rfl | rfl
  · exact wrap_one _
  · exact wrap_one _
  · show wrap32 (one (i == k)) = one (decide (i = k)); rw [wrap_one]; congr 1
  · show wrap32 (one (i != k)) = one (decide (i ≠ k)); rw [wrap_one]; congr 1; by_cases h : i = k <;> simp [h]
theorem one_eq (b : Bool) : (one b == 1) = b := by cases b <;> decide
theorem cmp_bit {o i k : Int} (ho : 11 ≤ o ∧ o ≤ 14) (hi : isWord i) (hk : isWord k) : (val o i k == 1) = cmp o i k := by rw [val_cmp ho hi hk, one_eq]
/-- One of the five words that are tried is a partner. -/
def part1 (o : Int) (t : Bool) (n : Int) (b : Iv) (l : Int) : Bool := decide (b.lo ≤ l) && decide (l ≤ b.hi) && ((val o n l == 1) == t)
def partB (o : Int) (t : Bool) (n : Int) (b : Iv) : Bool := part1 o t n b b.lo || part1 o t n b b.hi || part1 o t n b n || part1 o t n b (n + 1) || part1 o t n b (n - 1)
theorem part_of {o n l : Int} {t : Bool} {b : Iv} (ho : 11 ≤ o ∧ o ≤ 14) (hn : isWord n) (hb : Good b) (h1 : b.lo ≤ l) (h2 : l ≤ b.hi) (h3 : cmp o n l = t) : part1 o t n b l = true := by
  unfold part1
  rw [cmp_bit ho hn ⟨by have := hb.1; omega, by have := hb.2.2; omega⟩, h3]
  simp [h1, h2]
theorem part_lo {o n : Int} {t : Bool} {b : Iv} (ho : 11 ≤ o ∧ o ≤ 14) (hn : isWord n) (hb : Good b) (h3 : cmp o n b.lo = t) : partB o t n b = true := by
  unfold partB; rw [part_of ho hn hb (Int.le_refl _) hb.2.1 h3]; simp
theorem part_hi {o n : Int} {t : Bool} {b : Iv} (ho : 11 ≤ o ∧ o ≤ 14) (hn : isWord n) (hb : Good b) (h3 : cmp o n b.hi = t) : partB o t n b = true := by
  unfold partB; rw [part_of (l := b.hi) ho hn hb hb.2.1 (Int.le_refl _) h3]; simp
theorem part_self {o n : Int} {t : Bool} {b : Iv} (ho : 11 ≤ o ∧ o ≤ 14) (hn : isWord n) (hb : Good b) (h1 : b.lo ≤ n) (h2 : n ≤ b.hi) (h3 : cmp o n n = t) : partB o t n b = true := by
  unfold partB; rw [part_of (l := n) ho hn hb h1 h2 h3]; simp
theorem both_good {x y : Iv} (hx : Good x) (hy : Good y) : both x y = (x, y) := by
  unfold both; rw [if_neg (fun h => h.elim (good_ne hx) (good_ne hy))]
theorem cov_good {p q v : Int} (h : Cov (mk' p q) v) (h1 : p ≤ v) (h2 : v ≤ q) : mk' p q = ⟨p, q⟩ := mk_le (by omega)
/-- What is to be shown of a pair of refined intervals. -/
def Fine (o : Int) (t : Bool) (a b : Iv) (i k : Int) (r : Iv × Iv) : Prop :=
  has r.1 i = true ∧ has r.2 k = true ∧ leq r.1 a = true ∧ leq r.2 b = true ∧ partB o t r.1.lo b = true ∧ partB o t r.1.hi b = true ∧ isWord r.1.lo ∧ isWord r.1.hi
theorem fine_of {o : Int} {t : Bool} {a b : Iv} {i k p q m n : Int} (ha : Good a) (hb : Good b) (hi : p ≤ i ∧ i ≤ q) (hk : m ≤ k ∧ k ≤ n) (h1 : a.lo ≤ p) (h2 : q ≤ a.hi) (h3 : b.lo ≤ m) (h4 : n ≤ b.hi)
    (h5 : isWord p → partB o t p b = true) (h6 : isWord q → partB o t q b = true) : Fine o t a b i k (both (mk' p q) (mk' m n)) := by
  have hp : isWord p := ⟨by have := ha.1; omega, by have := ha.2.2; omega⟩
  have hq : isWord q := ⟨by have := ha.1; omega, by have := ha.2.2; omega⟩
  have g1 : Good ⟨p, q⟩ := ⟨by show _ ≤ p; exact hp.1, by show p ≤ q; omega, by show q ≤ _; exact hq.2⟩
  have g2 : Good ⟨m, n⟩ := ⟨by show _ ≤ m; have := hb.1; omega, by show m ≤ n; omega, by show n ≤ _; have := hb.2.2; omega⟩
  rw [mk_le (show p ≤ q by omega), mk_le (show m ≤ n by omega), both_good g1 g2]
  exact ⟨has_cov ⟨g1, hi.1, hi.2⟩, has_cov ⟨g2, hk.1, hk.2⟩, leq_nar g1 ha ⟨h1, h2⟩, leq_nar g2 hb ⟨h3, h4⟩, h5 hp, h6 hq, hp, hq⟩
theorem but_form {a b : Iv} {i k : Int} (ha : Good a) (hb : Good b) (hi : a.lo ≤ i ∧ i ≤ a.hi) (hk : b.lo ≤ k ∧ k ≤ b.hi) (h : i ≠ k) :
    ∃ p q, but a b = mk' p q ∧ (p ≤ i ∧ i ≤ q) ∧ a.lo ≤ p ∧ q ≤ a.hi ∧ (p ≠ b.lo ∨ p ≠ b.hi) ∧ (q ≠ b.lo ∨ q ≠ b.hi) := by
  unfold but
  by_cases e : b.lo = b.hi
  · rw [if_neg (by simpa using e)]
    refine ⟨_, _, rfl, ?_⟩
    by_cases e1 : a.lo = b.lo
    · by_cases e2 : a.hi = b.lo
      · rw [if_pos e1, if_pos e2]; omega
      · rw [if_pos e1, if_neg e2]; omega
    · by_cases e2 : a.hi = b.lo
      · rw [if_neg e1, if_pos e2]; omega
      · rw [if_neg e1, if_neg e2]; omega
  · rw [if_pos e]
    exact ⟨a.lo, a.hi, (mk_le ha.2.1).symm, hi, Int.le_refl _, Int.le_refl _, by omega, by omega⟩
theorem but_fine {o i k : Int} {t : Bool} {a b : Iv} (ho : 11 ≤ o ∧ o ≤ 14) (ha : Good a) (hb : Good b) (hi : a.lo ≤ i ∧ i ≤ a.hi) (hk : b.lo ≤ k ∧ k ≤ b.hi) (h : i ≠ k) (hc : ∀ n l, n ≠ l → cmp o n l = t) :
    Fine o t a b i k (both (but a b) (but b a)) := by
  obtain ⟨p, q, e1, h1, h2, h3, h4, h5⟩ := but_form ha hb hi hk h
  obtain ⟨m, n, e2, k1, k2, k3, _, _⟩ := but_form hb ha hk hi (fun e => h e.symm)
  rw [e1, e2]
  exact fine_of ha hb h1 k1 h2 h3 k2 k3 (fun hw => h4.elim (fun e => part_lo ho hw hb (hc _ _ e)) (fun e => part_hi ho hw hb (hc _ _ e))) (fun hw => h5.elim (fun e => part_lo ho hw hb (hc _ _ e)) (fun e => part_hi ho hw hb (hc _ _ e)))
theorem refine_fine {o i k : Int} {a b : Iv} (ho : 11 ≤ o ∧ o ≤ 14) (ha : Good a) (hb : Good b) (hi : a.lo ≤ i ∧ i ≤ a.hi) (hk : b.lo ≤ k ∧ k ≤ b.hi) :
    Fine o (cmp o i k) a b i k (Iv.refine o (cmp o i k) a b) := by
  have e : Iv.refine o (cmp o i k) a b = refine' o (cmp o i k) a b := by
    unfold Iv.refine
    rw [if_neg (by omega), form_good ha, form_good hb, if_neg (fun h => h.elim (good_ne ha) (good_ne hb))]
  rw [e]
  generalize ht : cmp o i k = t
  have hc : o = 11 ∨ o = 12 ∨ o = 13 ∨ o = 14 := by omega
  rcases hc with rfl | rfl | rfl | rfl
  · have hT : cmp 11 i k = decide (i < k) := rfl
    rw [hT] at ht
    cases t
    · have e2 : refine' 11 false a b = both (mk' (max a.lo b.lo) a.hi) (mk' b.lo (min b.hi a.hi)) := rfl
      simp only [decide_eq_false_iff_not] at ht
      rw [e2]
      refine fine_of ha hb (by omega) (by omega) (by omega) (by omega) (by omega) (by omega) (fun hw => part_lo ho hw hb ?_) (fun hw => part_lo ho hw hb ?_)
      · show decide (max a.lo b.lo < b.lo) = false; simp only [decide_eq_false_iff_not]; omega
      · show decide (a.hi < b.lo) = false; simp only [decide_eq_false_iff_not]; omega
    · have e2 : refine' 11 true a b = both (mk' a.lo (min a.hi (b.hi - 1))) (mk' (max b.lo (a.lo + 1)) b.hi) := rfl
      simp only [decide_eq_true_eq] at ht
      rw [e2]
      refine fine_of ha hb (by omega) (by omega) (by omega) (by omega) (by omega) (by omega) (fun hw => part_hi ho hw hb ?_) (fun hw => part_hi ho hw hb ?_)
      · show decide (a.lo < b.hi) = true; simp only [decide_eq_true_eq]; omega
      · show decide (min a.hi (b.hi - 1) < b.hi) = true; simp only [decide_eq_true_eq]; omega
  · have hT : cmp 12 i k = decide (i ≤ k) := rfl
    rw [hT] at ht
    cases t
    · have e2 : refine' 12 false a b = both (mk' (max a.lo (b.lo + 1)) a.hi) (mk' b.lo (min b.hi (a.hi - 1))) := rfl
      simp only [decide_eq_false_iff_not] at ht
      rw [e2]
      refine fine_of ha hb (by omega) (by omega) (by omega) (by omega) (by omega) (by omega) (fun hw => part_lo ho hw hb ?_) (fun hw => part_lo ho hw hb ?_)
      · show decide (max a.lo (b.lo + 1) ≤ b.lo) = false; simp only [decide_eq_false_iff_not]; omega
      · show decide (a.hi ≤ b.lo) = false; simp only [decide_eq_false_iff_not]; omega
    · have e2 : refine' 12 true a b = both (mk' a.lo (min a.hi b.hi)) (mk' (max b.lo a.lo) b.hi) := rfl
      simp only [decide_eq_true_eq] at ht
      rw [e2]
      refine fine_of ha hb (by omega) (by omega) (by omega) (by omega) (by omega) (by omega) (fun hw => part_hi ho hw hb ?_) (fun hw => part_hi ho hw hb ?_)
      · show decide (a.lo ≤ b.hi) = true; simp only [decide_eq_true_eq]; omega
      · show decide (min a.hi b.hi ≤ b.hi) = true; simp only [decide_eq_true_eq]; omega
  · have hT : cmp 13 i k = decide (i = k) := rfl
    rw [hT] at ht
    cases t
    · have e2 : refine' 13 false a b = both (but a b) (but b a) := by unfold refine'; simp
      simp only [decide_eq_false_iff_not] at ht
      rw [e2]
      exact but_fine ho ha hb hi hk ht (fun n l h => by show decide (n = l) = false; simpa using h)
    · have e2 : refine' 13 true a b = both (meet a b) (meet a b) := by unfold refine'; simp
      simp only [decide_eq_true_eq] at ht
      subst ht
      rw [e2, meet_good ha hb]
      refine fine_of ha hb (by omega) (by omega) (by omega) (by omega) (by omega) (by omega) (fun hw => part_self ho hw hb ?_ ?_ ?_) (fun hw => part_self ho hw hb ?_ ?_ ?_)
      all_goals first | omega | (show decide (_ = _) = true; simp)
  · have hT : cmp 14 i k = decide (i ≠ k) := rfl
    rw [hT] at ht
    cases t
    · have e2 : refine' 14 false a b = both (meet a b) (meet a b) := by unfold refine'; simp
      simp only [decide_eq_false_iff_not, Decidable.not_not] at ht
      subst ht
      rw [e2, meet_good ha hb]
      refine fine_of ha hb (by omega) (by omega) (by omega) (by omega) (by omega) (by omega) (fun hw => part_self ho hw hb ?_ ?_ ?_) (fun hw => part_self ho hw hb ?_ ?_ ?_)
      all_goals first | omega | (show decide (_ ≠ _) = false; simp)
    · have e2 : refine' 14 true a b = both (but a b) (but b a) := by unfold refine'; simp
      simp only [decide_eq_true_eq] at ht
      rw [e2]
      exact but_fine ho ha hb hi hk ht (fun n l h => by show decide (n ≠ l) = true; simpa using h)
end Iv
end Go.Proofs.Ytdajgopgaklipaa
