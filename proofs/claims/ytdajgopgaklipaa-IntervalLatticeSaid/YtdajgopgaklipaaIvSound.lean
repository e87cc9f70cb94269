/- Intervals of words are sound: the result of an operator for words of two intervals lies in the result for the intervals. No condition. -/
import Derived.Test.YtdajgopgaklipaaIvMath
namespace Go.Proofs.Ytdajgopgaklipaa
open Go.RowKit (wrap32 wrap64)
set_option linter.unusedVariables false
set_option linter.unusedSimpArgs false
namespace Iv

/-! ### Soundness -/
theorem val_at {o x y : Int} (hx : -2147483648 ≤ x ∧ x ≤ 2147483647) (hy : -2147483648 ≤ y ∧ y ≤ 2147483647) : val o x y = wrap32 (raw o x y) := by
  unfold val; rw [wrap32_same hx, wrap32_same hy]
theorem tmod_pos {x y : Int} (hy : 1 ≤ y) : (0 ≤ x → 0 ≤ x.tmod y ∧ x.tmod y ≤ x ∧ x.tmod y ≤ y - 1) ∧ (x ≤ 0 → x ≤ x.tmod y ∧ 1 - y ≤ x.tmod y ∧ x.tmod y ≤ 0) := by
  constructor
  · intro h
    rw [Int.tmod_eq_emod_of_nonneg h]
    have := Int.emod_nonneg x (show y ≠ 0 by omega)
    have := Int.emod_lt_of_pos x (show 0 < y by omega)
    have h3 : x % y ≤ x := by
      have := Int.mul_ediv_add_emod x y
      have : 0 ≤ x / y := Int.ediv_nonneg h (by omega)
      have : 0 ≤ y * (x / y) := Int.mul_nonneg (by omega) this
      omega
    omega
  · intro h
    have e : x.tmod y = -((-x).tmod y) := by rw [Int.neg_tmod, Int.neg_neg]
    rw [e, Int.tmod_eq_emod_of_nonneg (show 0 ≤ -x by omega)]
    have := Int.emod_nonneg (-x) (show y ≠ 0 by omega)
    have := Int.emod_lt_of_pos (-x) (show 0 < y by omega)
    have h3 : (-x) % y ≤ -x := by
      have := Int.mul_ediv_add_emod (-x) y
      have : 0 ≤ (-x) / y := Int.ediv_nonneg (by omega) (by omega)
      have : 0 ≤ y * ((-x) / y) := Int.mul_nonneg (by omega) this
      omega
    omega
theorem shr_any (x : Int) (k : Nat) : (0 ≤ x → 0 ≤ x / 2 ^ k ∧ x / 2 ^ k ≤ x) ∧ (x ≤ 0 → x ≤ x / 2 ^ k ∧ x / 2 ^ k ≤ 0) := by
  have hk := pow_pos' k
  generalize (2 : Int) ^ k = c at *
  constructor
  · intro h
    refine ⟨Int.ediv_nonneg h (by omega), ?_⟩
    have := ediv_anti (a := x) (c := 1) (d := c) h (by omega) hk
    simpa using this
  · intro h
    constructor
    · apply Int.le_ediv_of_mul_le (by omega)
      have := Int.mul_le_mul_of_nonpos_left (a := x) (b := c) (c := 1) h hk
      simpa using this
    · have := Int.ediv_le_ediv (show 0 < c by omega) (show x ≤ 0 by omega)
      simpa using this
theorem mul_le2 {a b c d : Int} (ha : 0 ≤ a) (hab : a ≤ b) (hc : 1 ≤ c) (h : b * c ≤ d) : 0 ≤ a * c ∧ a * c ≤ b * c ∧ a * c ≤ d := by
  have h1 := Int.mul_nonneg ha (show 0 ≤ c by omega)
  have h2 := Int.mul_le_mul_of_nonneg_right hab (show 0 ≤ c by omega)
  omega
theorem one_bit (b : Bool) : 0 ≤ one b ∧ one b ≤ 1 := by cases b <;> decide
theorem cov_bit (b : Bool) : Cov ⟨0, 1⟩ (one b) := ⟨⟨by decide, by decide, by decide⟩, (one_bit b).1, (one_bit b).2⟩
/-- A comparison: true for all, false for all, or neither. -/
theorem truth_cov {a n b : Bool} (ha : a = true → b = true) (hn : n = true → b = false) : Cov (truth a n) (one b) := by
  unfold truth
  cases a
  · cases n
    · simpa using cov_bit b
    · rw [hn rfl]; exact (⟨⟨by decide, by decide, by decide⟩, by decide, by decide⟩ : Cov ⟨0, 0⟩ 0)
  · rw [ha rfl]; exact (⟨⟨by decide, by decide, by decide⟩, by decide, by decide⟩ : Cov ⟨1, 1⟩ 1)
theorem wrap_one (b : Bool) : wrap32 (one b) = one b := wrap32_same (by have := one_bit b; omega)
theorem sound {o p q r s x y : Int} (ho : 1 ≤ o ∧ o ≤ 14) (hp : -2147483648 ≤ p) (hx : p ≤ x ∧ x ≤ q) (hq : q ≤ 2147483647) (hr : -2147483648 ≤ r) (hy : r ≤ y ∧ y ≤ s) (hs : s ≤ 2147483647) :
    Cov (op o p q r s) (val o x y) := by
  have hv := val_bounds o x y
  have hV := val_at (o := o) (x := x) (y := y) (by omega) (by omega)
  have hc : o = 1 ∨ o = 2 ∨ o = 3 ∨ o = 4 ∨ o = 5 ∨ o = 6 ∨ o = 7 ∨ o = 8 ∨ o = 9 ∨ o = 10 ∨ o = 11 ∨ o = 12 ∨ o = 13 ∨ o = 14 := by omega
  rcases hc with rfl | rfl | rfl | rfl | rfl | rfl | rfl | rfl | rfl | rfl | rfl | rfl | rfl | rfl
  · rw [hV]; exact hull_cov (v := x + y) (by unfold min4 max4; omega)
  · rw [hV]; exact hull_cov (v := x - y) (by unfold min4 max4; omega)
  · rw [hV]; exact hull_cov (mul_corners hx hy)
  · by_cases h : 1 ≤ r
    · have e : op 4 p q r s = hull (p.tdiv r) (p.tdiv s) (q.tdiv r) (q.tdiv s) := if_pos h
      have e2 : raw 4 x y = x.tdiv y := by show (if y = 0 then 0 else x.tdiv y) = _; rw [if_neg (by omega)]
      rw [hV, e, e2]; exact hull_cov (tdiv_corners h hx hy)
    · have e : op 4 p q r s = all := if_neg h
      rw [e]; exact cov_all hv
  · by_cases h : 1 ≤ r
    · have e : op 5 p q r s = mk' (if 0 ≤ p then 0 else max p (1 - s)) (if q ≤ 0 then 0 else min q (s - 1)) := if_pos h
      have e2 : raw 5 x y = x.tmod y := by show (if y = 0 then 0 else x.tmod y) = _; rw [if_neg (by omega)]
      have hm := tmod_pos (x := x) (y := y) (by omega)
      have hw : -2147483648 ≤ x.tmod y ∧ x.tmod y ≤ 2147483647 := by
        by_cases a : 0 ≤ x
        · have := hm.1 a; omega
        · have := hm.2 (by omega); omega
      rw [hV, e, e2, wrap32_same hw]
      by_cases a : 0 ≤ x
      · have := hm.1 a
        exact cov_mk (by split <;> omega) (by split <;> omega) (by split <;> omega) (by split <;> omega)
      · have := hm.2 (by omega)
        exact cov_mk (by split <;> omega) (by split <;> omega) (by split <;> omega) (by split <;> omega)
    · have e : op 5 p q r s = all := if_neg h
      rw [e]; exact cov_all hv
  · have e2 : raw 6 x y = bits .and .i64 x y := rfl
    by_cases h1 : 0 ≤ p
    · have hb := and_le (x := x) y (by omega) (by omega)
      by_cases h2 : 0 ≤ r
      · have hb2 := and_le (x := y) x (by omega) (by omega)
        rw [and_comm'] at hb2
        have e : op 6 p q r s = mk' 0 (min q s) := by show (if 0 ≤ p ∧ 0 ≤ r then _ else _) = _; rw [if_pos ⟨h1, h2⟩]
        rw [hV, e, e2, wrap32_same (by omega)]
        exact cov_mk (by omega) (by omega) hb.1 (by omega)
      · have e : op 6 p q r s = mk' 0 q := by show (if 0 ≤ p ∧ 0 ≤ r then _ else if 0 ≤ p then _ else _) = _; rw [if_neg (by omega), if_pos h1]
        rw [hV, e, e2, wrap32_same (by omega)]
        exact cov_mk (by omega) (by omega) hb.1 (by omega)
    · by_cases h2 : 0 ≤ r
      · have hb2 := and_le (x := y) x (by omega) (by omega)
        rw [and_comm'] at hb2
        have e : op 6 p q r s = mk' 0 s := by show (if 0 ≤ p ∧ 0 ≤ r then _ else if 0 ≤ p then _ else if 0 ≤ r then _ else _) = _; rw [if_neg (by omega), if_neg h1, if_pos h2]
        rw [hV, e, e2, wrap32_same (by omega)]
        exact cov_mk (by omega) (by omega) hb2.1 (by omega)
      · have e : op 6 p q r s = all := by show (if 0 ≤ p ∧ 0 ≤ r then _ else if 0 ≤ p then _ else if 0 ≤ r then _ else _) = _; rw [if_neg (by omega), if_neg h1, if_neg h2]
        rw [e]; exact cov_all hv
  · by_cases h : 0 ≤ p ∧ 0 ≤ r
    · have e : op 7 p q r s = mk' (max p r) (ones (max q s)) := if_pos h
      have e2 : raw 7 x y = bits .or .i64 x y := rfl
      have hc := or_cov h.1 hx hq h.2 hy hs
      have hg := hc.1
      have h1 := hc.2
      rw [hV, e, e2, wrap32_same (by unfold Good at hg; omega)]
      exact hc
    · have e : op 7 p q r s = all := if_neg h
      rw [e]; exact cov_all hv
  · by_cases h : 0 ≤ p ∧ 0 ≤ r
    · have e : op 8 p q r s = mk' 0 (ones (max q s)) := if_pos h
      have e2 : raw 8 x y = bits .xor .i64 x y := rfl
      have hc := xor_cov h.1 hx hq h.2 hy hs
      have hg := hc.1
      have h1 := hc.2
      rw [hV, e, e2, wrap32_same (by unfold Good at hg; omega)]
      exact hc
    · have e : op 8 p q r s = all := if_neg h
      rw [e]; exact cov_all hv
  · by_cases h : r = s ∧ 0 ≤ r ∧ r ≤ 31 ∧ 0 ≤ p ∧ q * 2 ^ r.toNat ≤ 2147483647
    · have e : op 9 p q r s = mk' (p * 2 ^ r.toNat) (q * 2 ^ r.toNat) := if_pos h
      obtain ⟨h1, h2, h3, h4, h5⟩ := h
      have e2 : raw 9 x y = x * 2 ^ (y % 32).toNat := rfl
      have hy' : y = r := by omega
      have hm : (r % 32).toNat = r.toNat := by omega
      have hk := pow_pos' r.toNat
      rw [hV, e, e2, hy', hm]
      generalize (2 : Int) ^ r.toNat = c at *
      have a := mul_le2 h4 hx.1 hk (d := x * c) (Int.le_refl _)
      have b := mul_le2 (a := x) (b := q) (by omega) hx.2 hk h5
      have a2 := mul_le2 h4 (show p ≤ q by omega) hk h5
      rw [wrap32_same (by omega)]
      exact cov_mk (by omega) (by omega) (by omega) (by omega)
    · have e : op 9 p q r s = all := if_neg h
      rw [e]; exact cov_all hv
  · have e2 : raw 10 x y = x / 2 ^ (y % 32).toNat := rfl
    have hany := shr_any x (y % 32).toNat
    by_cases h : 0 ≤ r ∧ s ≤ 31
    · have e : op 10 p q r s = hull (p / 2 ^ r.toNat) (p / 2 ^ s.toNat) (q / 2 ^ r.toNat) (q / 2 ^ s.toNat) := if_pos h
      have hm : (y % 32).toNat = y.toNat := by omega
      rw [hV, e, e2, hm]
      exact hull_cov (shr_corners h.1 hx hy)
    · have e : op 10 p q r s = mk' (min p 0) (max q 0) := if_neg h
      rw [hV, e, e2]
      generalize x / 2 ^ (y % 32).toNat = z at *
      have hz : min p 0 ≤ z ∧ z ≤ max q 0 := by
        by_cases a : 0 ≤ x
        · have := hany.1 a; omega
        · have := hany.2 (by omega); omega
      rw [wrap32_same (by omega)]
      exact cov_mk (by omega) (by omega) hz.1 hz.2
  · have e : op 11 p q r s = truth (decide (q < r)) (decide (s ≤ p)) := rfl
    have e2 : raw 11 x y = one (decide (x < y)) := rfl
    rw [hV, e, e2, wrap_one]
    exact truth_cov (fun h => by simp at h ⊢; omega) (fun h => by simp at h ⊢; omega)
  · have e : op 12 p q r s = truth (decide (q ≤ r)) (decide (s < p)) := rfl
    have e2 : raw 12 x y = one (decide (x ≤ y)) := rfl
    rw [hV, e, e2, wrap_one]
    exact truth_cov (fun h => by simp at h ⊢; omega) (fun h => by simp at h ⊢; omega)
  · have e : op 13 p q r s = truth (decide (p = q) && decide (r = s) && decide (p = r)) (decide (q < r) || decide (s < p)) := rfl
    have e2 : raw 13 x y = one (x == y) := rfl
    rw [hV, e, e2, wrap_one]
    exact truth_cov (fun h => by simp at h ⊢; omega) (fun h => by simp at h ⊢; omega)
  · have e : op 14 p q r s = truth (decide (q < r) || decide (s < p)) (decide (p = q) && decide (r = s) && decide (p = r)) := rfl
    have e2 : raw 14 x y = one (x != y) := rfl
    rw [hV, e, e2, wrap_one]
    exact truth_cov (fun h => by simp at h ⊢; omega) (fun h => by simp at h ⊢; omega)
end Iv
end Go.Proofs.Ytdajgopgaklipaa
