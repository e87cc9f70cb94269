/- What quotients, remainders and shifts of words are, as plain arithmetic. No condition. -/
import Derived.Test.YtdladbekkmnnhaaPlain
namespace Go.Proofs.Ytdladbekkmnnhaa
open Go.RowKit (wrap32 wrap64)

theorem div_parts (x y : Int) (hx : -2147483648 ≤ x ∧ x ≤ 2147483647) (hy : -2147483648 ≤ y ∧ y ≤ 2147483647) (h0 : y ≠ 0) : val 1 (val 3 (val 4 x y) y) (val 5 x y) = x := by
  refine val_eq_of ?_ hx
  have e4 : BitVec.ofInt 32 (val 4 x y) = BitVec.ofInt 32 (x.tdiv y) := by
    rw [bv_val, wrap32_same hx, wrap32_same hy]; show BitVec.ofInt 32 (if y = 0 then 0 else x.tdiv y) = _; rw [if_neg h0]
  have e5 : BitVec.ofInt 32 (val 5 x y) = BitVec.ofInt 32 (x.tmod y) := by
    rw [bv_val, wrap32_same hx, wrap32_same hy]; show BitVec.ofInt 32 (if y = 0 then 0 else x.tmod y) = _; rw [if_neg h0]
  rw [bv_add, bv_mul, e4, e5, ← BitVec.ofInt_mul, ← BitVec.ofInt_add, Int.tdiv_mul_add_tmod]
theorem tmod_lt_abs (x y : Int) (h0 : y ≠ 0) : (x.tmod y).natAbs < y.natAbs := by
  rw [Int.natAbs_tmod]; exact Nat.mod_lt _ (by omega)
theorem rem_val (x y : Int) (hx : -2147483648 ≤ x ∧ x ≤ 2147483647) (hy : -2147483648 ≤ y ∧ y ≤ 2147483647) (h0 : y ≠ 0) : val 5 x y = x.tmod y := by
  have h := tmod_lt_abs x y h0
  unfold val
  rw [wrap32_same hx, wrap32_same hy]
  show wrap32 (if y = 0 then 0 else x.tmod y) = _
  rw [if_neg h0]
  exact wrap32_same (by omega)
theorem sq_abs (r : Int) : r * r = ((r.natAbs * r.natAbs : Nat) : Int) := Int.natAbs_mul_self.symm
theorem sq_bound (r : Int) (h : r.natAbs ≤ 2147483648) : 0 ≤ r * r ∧ r * r ≤ 4611686018427387904 := by
  rw [sq_abs]
  have : r.natAbs * r.natAbs ≤ 2147483648 * 2147483648 := Nat.mul_le_mul h h
  omega
theorem sq_lt (r y : Int) (h : r.natAbs < y.natAbs) : r * r < y * y := by
  rw [sq_abs, sq_abs]
  have : r.natAbs * r.natAbs < y.natAbs * y.natAbs := Nat.mul_lt_mul'' h h
  omega
theorem rem_small (x y : Int) (hx : -2147483648 ≤ x ∧ x ≤ 2147483647) (hy : -2147483648 ≤ y ∧ y ≤ 2147483647) (h0 : y ≠ 0) :
    wrap64 (val 5 x y * val 5 x y) < wrap64 (y * y) := by
  rw [rem_val x y hx hy h0]
  have h := tmod_lt_abs x y h0
  have h1 := sq_bound (x.tmod y) (by omega)
  have h2 := sq_bound y (by omega)
  have h3 := sq_lt _ _ h
  rw [wrap64_same (by omega), wrap64_same (by omega)]
  exact h3
theorem rem_sign (x y : Int) (hx : -2147483648 ≤ x ∧ x ≤ 2147483647) (hy : -2147483648 ≤ y ∧ y ≤ 2147483647) (h0 : y ≠ 0) :
    0 ≤ wrap64 (val 5 x y * x) := by
  rw [rem_val x y hx hy h0]
  have h := tmod_lt_abs x y h0
  have hb : (x.tmod y * x).natAbs ≤ 2147483648 * 2147483648 := by
    rw [Int.natAbs_mul]; exact Nat.mul_le_mul (by omega) (by omega)
  have hs : 0 ≤ x.tmod y * x := by
    rcases Int.le_total 0 x with hp | hn
    · exact Int.mul_nonneg (Int.tmod_nonneg _ hp) hp
    · have e : x.tmod y = -((-x).tmod y) := by rw [Int.neg_tmod]; omega
      have h2 : 0 ≤ (-x).tmod y := Int.tmod_nonneg _ (by omega)
      exact Int.mul_nonneg_of_nonpos_of_nonpos (by omega) hn
  rw [wrap64_same (by omega)]
  exact hs

/-- 2 to the power k, k up to 30, is small. -/
theorem pow_bounds (k : Int) (h : 0 ≤ k ∧ k ≤ 30) : 1 ≤ (2 : Int) ^ k.toNat ∧ (2 : Int) ^ k.toNat ≤ 1073741824 := by
  have h1 : (1 : Nat) ≤ 2 ^ k.toNat := Nat.one_le_two_pow
  have h2 : 2 ^ k.toNat ≤ 2 ^ 30 := Nat.pow_le_pow_right (by decide) (by omega)
  have e : (2 : Int) ^ k.toNat = ((2 ^ k.toNat : Nat) : Int) := by simp
  rw [e]
  constructor
  · exact_mod_cast h1
  · have : ((2 ^ k.toNat : Nat) : Int) ≤ ((2 ^ 30 : Nat) : Int) := by exact_mod_cast h2
    have e2 : ((2 ^ 30 : Nat) : Int) = 1073741824 := by decide
    omega
theorem shr_val (x k : Int) (hx : -2147483648 ≤ x ∧ x ≤ 2147483647) (h : 0 ≤ k ∧ k ≤ 30) : val 10 x k = x / 2 ^ k.toNat := by
  obtain ⟨p1, p2⟩ := pow_bounds k h
  unfold val
  rw [wrap32_same hx, wrap32_same (n := k) (by omega)]
  show wrap32 (x / 2 ^ (k % 32).toNat) = _
  rw [Int.emod_eq_of_lt h.1 (by omega)]
  generalize (2 : Int) ^ k.toNat = p at p1 p2
  have h1 := Int.ediv_mul_le x (b := p) (by omega)
  have h2 := Int.lt_ediv_add_one_mul_self x (b := p) (by omega)
  refine wrap32_same ⟨?_, ?_⟩
  · rcases Int.le_total 0 (x / p) with hq | hq
    · omega
    · have : x / p + 1 ≤ 0 ∨ x / p = 0 := by omega
      rcases this with ht | ht
      · have h3 : (x / p + 1) * p ≤ (x / p + 1) * 1 := Int.mul_le_mul_of_nonpos_left ht p1
        omega
      · omega
  · rcases Int.le_total (x / p) 0 with hq | hq
    · omega
    · have h3 : (x / p) * 1 ≤ (x / p) * p := Int.mul_le_mul_of_nonneg_left p1 hq
      omega
theorem shr_low (x k : Int) (hx : -2147483648 ≤ x ∧ x ≤ 2147483647) (h : 0 ≤ k ∧ k ≤ 30) : wrap64 (val 10 x k * wrap64 (2 ^ k.toNat)) ≤ x := by
  rw [shr_val x k hx h]
  obtain ⟨p1, p2⟩ := pow_bounds k h
  generalize (2 : Int) ^ k.toNat = p at p1 p2
  have h1 := Int.ediv_mul_le x (b := p) (by omega)
  have h2 := Int.lt_ediv_add_one_mul_self x (b := p) (by omega)
  rw [Int.add_mul, Int.one_mul] at h2
  rw [wrap64_same (n := p) (by omega), wrap64_same (by omega)]
  exact h1
theorem shr_high (x k : Int) (hx : -2147483648 ≤ x ∧ x ≤ 2147483647) (h : 0 ≤ k ∧ k ≤ 30) : x < wrap64 (wrap64 (val 10 x k + 1) * wrap64 (2 ^ k.toNat)) := by
  have hv := val_bounds 10 x k
  rw [wrap64_same (n := val 10 x k + 1) (by omega)]
  rw [shr_val x k hx h]
  obtain ⟨p1, p2⟩ := pow_bounds k h
  generalize (2 : Int) ^ k.toNat = p at p1 p2
  have h1 := Int.ediv_mul_le x (b := p) (by omega)
  have h2 := Int.lt_ediv_add_one_mul_self x (b := p) (by omega)
  have h3 := h2
  rw [Int.add_mul, Int.one_mul] at h3
  rw [wrap64_same (n := p) (by omega), Int.add_mul, Int.one_mul, wrap64_same (by omega)]
  exact h3
theorem shl_mul (x k : Int) (h : 0 ≤ k ∧ k ≤ 30) : val 9 x k = val 3 x (wrap64 (2 ^ k.toNat)) := by
  obtain ⟨p1, p2⟩ := pow_bounds k h
  rw [wrap64_same (by omega)]
  unfold val
  rw [wrap32_same (n := k) (by omega), wrap32_same (n := (2 : Int) ^ k.toNat) (by omega)]
  show wrap32 (wrap32 x * 2 ^ (k % 32).toNat) = wrap32 (wrap32 x * 2 ^ k.toNat)
  rw [Int.emod_eq_of_lt h.1 (by omega)]
theorem div_zero (x : Int) : val 4 x 0 = 0 ∧ val 5 x 0 = 0 := by
  have e : wrap32 0 = 0 := wrap32_same (by omega)
  constructor <;> simp [val, raw, e]
end Go.Proofs.Ytdladbekkmnnhaa
