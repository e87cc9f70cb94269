/- What holds of intervals of words, in plain integers: results of operators lie in results of intervals, and narrower intervals have narrower results. No condition. -/
import Derived.Test.YtdajgopgaklipaaIvPlain
import Derived.Test.YtdajgopgaklipaaWdPlain
namespace Go.Proofs.Ytdajgopgaklipaa
open Go.RowKit (wrap32 wrap64)
set_option linter.unusedVariables false
set_option linter.unusedSimpArgs false
namespace Iv

/-! ### Four corners -/
theorem min4_le (a b c d : Int) : min4 a b c d ≤ a ∧ min4 a b c d ≤ b ∧ min4 a b c d ≤ c ∧ min4 a b c d ≤ d := by unfold min4; omega
theorem le_max4 (a b c d : Int) : a ≤ max4 a b c d ∧ b ≤ max4 a b c d ∧ c ≤ max4 a b c d ∧ d ≤ max4 a b c d := by unfold max4; omega
theorem le_min4 {m a b c d : Int} (h1 : m ≤ a) (h2 : m ≤ b) (h3 : m ≤ c) (h4 : m ≤ d) : m ≤ min4 a b c d := by unfold min4; omega
theorem max4_le {m a b c d : Int} (h1 : a ≤ m) (h2 : b ≤ m) (h3 : c ≤ m) (h4 : d ≤ m) : max4 a b c d ≤ m := by unfold max4; omega
/-- A function of two arguments that is monotone or antitone in each, whatever the other one is, lies between its values at the corners. -/
theorem corners (f : Int → Int → Int) {p q r s x y : Int} (hx : p ≤ x ∧ x ≤ q) (hy : r ≤ y ∧ y ≤ s)
    (h1 : ∀ y, r ≤ y → y ≤ s → (∀ x x', p ≤ x → x ≤ x' → x' ≤ q → f x y ≤ f x' y) ∨ (∀ x x', p ≤ x → x ≤ x' → x' ≤ q → f x' y ≤ f x y))
    (h2 : ∀ x, p ≤ x → x ≤ q → (∀ y y', r ≤ y → y ≤ y' → y' ≤ s → f x y ≤ f x y') ∨ (∀ y y', r ≤ y → y ≤ y' → y' ≤ s → f x y' ≤ f x y)) :
    min4 (f p r) (f p s) (f q r) (f q s) ≤ f x y ∧ f x y ≤ max4 (f p r) (f p s) (f q r) (f q s) := by
  have hpq : p ≤ q := by omega
  have hrs : r ≤ s := by omega
  have a1 := h2 p (Int.le_refl _) hpq
  have a2 := h2 q hpq (Int.le_refl _)
  have a3 := h1 y hy.1 hy.2
  have m := min4_le (f p r) (f p s) (f q r) (f q s)
  have M := le_max4 (f p r) (f p s) (f q r) (f q s)
  have b1 : min4 (f p r) (f p s) (f q r) (f q s) ≤ f p y ∧ f p y ≤ max4 (f p r) (f p s) (f q r) (f q s) := by
    rcases a1 with h | h
    · have := h r y (Int.le_refl _) hy.1 hy.2; have := h y s hy.1 hy.2 (Int.le_refl _); omega
    · have := h r y (Int.le_refl _) hy.1 hy.2; have := h y s hy.1 hy.2 (Int.le_refl _); omega
  have b2 : min4 (f p r) (f p s) (f q r) (f q s) ≤ f q y ∧ f q y ≤ max4 (f p r) (f p s) (f q r) (f q s) := by
    rcases a2 with h | h
    · have := h r y (Int.le_refl _) hy.1 hy.2; have := h y s hy.1 hy.2 (Int.le_refl _); omega
    · have := h r y (Int.le_refl _) hy.1 hy.2; have := h y s hy.1 hy.2 (Int.le_refl _); omega
  rcases a3 with h | h
  · have := h p x (Int.le_refl _) hx.1 hx.2; have := h x q hx.1 hx.2 (Int.le_refl _); omega
  · have := h p x (Int.le_refl _) hx.1 hx.2; have := h x q hx.1 hx.2 (Int.le_refl _); omega
theorem mul_corners {p q r s x y : Int} (hx : p ≤ x ∧ x ≤ q) (hy : r ≤ y ∧ y ≤ s) :
    min4 (p * r) (p * s) (q * r) (q * s) ≤ x * y ∧ x * y ≤ max4 (p * r) (p * s) (q * r) (q * s) := by
  refine corners (fun a b => a * b) hx hy (fun y _ _ => ?_) (fun x _ _ => ?_)
  · by_cases h : 0 ≤ y
    · exact .inl fun a b _ hab _ => Int.mul_le_mul_of_nonneg_right hab h
    · exact .inr fun a b _ hab _ => Int.mul_le_mul_of_nonpos_right hab (by omega)
  · by_cases h : 0 ≤ x
    · exact .inl fun a b _ hab _ => Int.mul_le_mul_of_nonneg_left hab h
    · exact .inr fun a b _ hab _ => Int.mul_le_mul_of_nonpos_left (by omega) hab
theorem tdiv_neg' (a b : Int) : (-a).tdiv b = -(a.tdiv b) := Int.neg_tdiv ..
theorem tdiv_mono {a b c : Int} (hc : 1 ≤ c) (h : a ≤ b) : a.tdiv c ≤ b.tdiv c := by
  by_cases ha : 0 ≤ a
  · rw [Int.tdiv_eq_ediv_of_nonneg ha, Int.tdiv_eq_ediv_of_nonneg (by omega)]
    exact Int.ediv_le_ediv (by omega) h
  · by_cases hb : 0 ≤ b
    · have h1 : a.tdiv c ≤ 0 := by
        have : a.tdiv c = -((-a).tdiv c) := by rw [tdiv_neg', Int.neg_neg]
        rw [this]
        have := Int.tdiv_nonneg (a := -a) (b := c) (by omega) (by omega)
        omega
      have h2 := Int.tdiv_nonneg hb (show 0 ≤ c by omega)
      omega
    · have e1 : a.tdiv c = -((-a).tdiv c) := by rw [tdiv_neg', Int.neg_neg]
      have e2 : b.tdiv c = -((-b).tdiv c) := by rw [tdiv_neg', Int.neg_neg]
      rw [e1, e2, Int.tdiv_eq_ediv_of_nonneg (show 0 ≤ -a by omega), Int.tdiv_eq_ediv_of_nonneg (show 0 ≤ -b by omega)]
      have := Int.ediv_le_ediv (show 0 < c by omega) (show -b ≤ -a by omega)
      omega
theorem ediv_anti {a c d : Int} (ha : 0 ≤ a) (hc : 1 ≤ c) (h : c ≤ d) : a / d ≤ a / c := by
  apply Int.le_ediv_of_mul_le (by omega)
  have h1 : a / d * d ≤ a := Int.ediv_mul_le a (by omega)
  have h2 : 0 ≤ a / d := Int.ediv_nonneg ha (by omega)
  have h3 : a / d * c ≤ a / d * d := Int.mul_le_mul_of_nonneg_left h h2
  omega
theorem tdiv_corners {p q r s x y : Int} (hr : 1 ≤ r) (hx : p ≤ x ∧ x ≤ q) (hy : r ≤ y ∧ y ≤ s) :
    min4 (p.tdiv r) (p.tdiv s) (q.tdiv r) (q.tdiv s) ≤ x.tdiv y ∧ x.tdiv y ≤ max4 (p.tdiv r) (p.tdiv s) (q.tdiv r) (q.tdiv s) := by
  refine corners (fun a b => a.tdiv b) hx hy (fun y h _ => .inl fun a b _ hab _ => tdiv_mono (by omega) hab) (fun x _ _ => ?_)
  by_cases h : 0 ≤ x
  · refine .inr fun a b ha hab _ => ?_
    show x.tdiv b ≤ x.tdiv a
    rw [Int.tdiv_eq_ediv_of_nonneg h, Int.tdiv_eq_ediv_of_nonneg h]
    exact ediv_anti h (by omega) hab
  · refine .inl fun a b ha hab _ => ?_
    show x.tdiv a ≤ x.tdiv b
    have e : ∀ c, x.tdiv c = -((-x).tdiv c) := fun c => by rw [tdiv_neg', Int.neg_neg]
    rw [e a, e b, Int.tdiv_eq_ediv_of_nonneg (show 0 ≤ -x by omega), Int.tdiv_eq_ediv_of_nonneg (show 0 ≤ -x by omega)]
    have := ediv_anti (a := -x) (by omega) (show 1 ≤ a by omega) hab
    omega
theorem pow_mono {a b : Nat} (h : a ≤ b) : (2 : Int) ^ a ≤ 2 ^ b := by
  have := Nat.pow_le_pow_right (show 0 < 2 by omega) h
  exact_mod_cast this
theorem pow_pos' (a : Nat) : (1 : Int) ≤ 2 ^ a := by
  have := Nat.pow_pos (n := a) (show 0 < 2 by omega)
  exact_mod_cast this
theorem shr_corners {p q r s x y : Int} (hr : 0 ≤ r) (hx : p ≤ x ∧ x ≤ q) (hy : r ≤ y ∧ y ≤ s) :
    min4 (p / 2 ^ r.toNat) (p / 2 ^ s.toNat) (q / 2 ^ r.toNat) (q / 2 ^ s.toNat) ≤ x / 2 ^ y.toNat ∧ x / 2 ^ y.toNat ≤ max4 (p / 2 ^ r.toNat) (p / 2 ^ s.toNat) (q / 2 ^ r.toNat) (q / 2 ^ s.toNat) := by
  refine corners (fun a b => a / 2 ^ b.toNat) hx hy (fun y h _ => .inl fun a b _ hab _ => Int.ediv_le_ediv (by have := pow_pos' y.toNat; omega) hab) (fun x _ _ => ?_)
  by_cases h : 0 ≤ x
  · exact .inr fun a b ha hab _ => ediv_anti h (pow_pos' _) (pow_mono (by omega))
  · refine .inl fun a b ha hab _ => ?_
    show x / 2 ^ a.toNat ≤ x / 2 ^ b.toNat
    have h1 := pow_pos' a.toNat
    have h2 := pow_pos' b.toNat
    have h3 := pow_mono (a := a.toNat) (b := b.toNat) (by omega)
    generalize (2 : Int) ^ a.toNat = c at *
    generalize (2 : Int) ^ b.toNat = d at *
    apply Int.le_ediv_of_mul_le (by omega)
    have h4 : x / c * c ≤ x := Int.ediv_mul_le x (by omega)
    have h5 : x / c ≤ 0 := by
      have := Int.ediv_le_ediv (show 0 < c by omega) (show x ≤ 0 by omega)
      simpa using this
    have h6 : x / c * d ≤ x / c * c := Int.mul_le_mul_of_nonpos_left h5 h3
    omega

/-! ### Good intervals -/
def Good (z : Iv) : Prop := -2147483648 ≤ z.lo ∧ z.lo ≤ z.hi ∧ z.hi ≤ 2147483647
/-- A word lies in it. -/
def Cov (z : Iv) (v : Int) : Prop := Good z ∧ z.lo ≤ v ∧ v ≤ z.hi
/-- One lies in the other one. -/
def Nar (a b : Iv) : Prop := b.lo ≤ a.lo ∧ a.hi ≤ b.hi
theorem good_all : Good all := ⟨by decide, by decide, by decide⟩
theorem cov_all {v : Int} (h : -2147483648 ≤ v ∧ v ≤ 2147483647) : Cov all v := ⟨good_all, h.1, h.2⟩
theorem nar_all {z : Iv} (h : Good z) : Nar z all := ⟨h.1, h.2.2⟩
theorem mk_le {p q : Int} (h : p ≤ q) : mk' p q = ⟨p, q⟩ := by unfold mk'; rw [if_neg (by omega)]
theorem cov_mk {p q v : Int} (h1 : -2147483648 ≤ p) (h2 : q ≤ 2147483647) (h3 : p ≤ v) (h4 : v ≤ q) : Cov (mk' p q) v := by
  rw [mk_le (by omega)]; exact ⟨⟨h1, by show p ≤ q; omega, h2⟩, h3, h4⟩
theorem hull_good (a b c d : Int) : Good (hull a b c d) := by
  unfold hull
  have h1 := min4_le a b c d
  have h2 := le_max4 a b c d
  by_cases h : min4 a b c d < -2147483648 ∨ 2147483647 < max4 a b c d
  · rw [if_pos h]; exact good_all
  · rw [if_neg h, mk_le (by omega)]
    exact ⟨by show _ ≤ min4 a b c d; omega, by show min4 a b c d ≤ max4 a b c d; omega, by show max4 a b c d ≤ _; omega⟩
theorem hull_cov {a b c d v : Int} (h : min4 a b c d ≤ v ∧ v ≤ max4 a b c d) : Cov (hull a b c d) (wrap32 v) := by
  refine ⟨hull_good a b c d, ?_⟩
  have hw := wrap32_bounds v
  unfold hull
  by_cases g : min4 a b c d < -2147483648 ∨ 2147483647 < max4 a b c d
  · rw [if_pos g]; exact hw
  · rw [if_neg g, mk_le (by omega), wrap32_same (by omega)]; exact h
/-- If the corners of one lie between those of the other one, its hull is narrower. -/
theorem hull_nar {a b c d e f g k : Int} (ha : min4 e f g k ≤ a ∧ a ≤ max4 e f g k) (hb : min4 e f g k ≤ b ∧ b ≤ max4 e f g k) (hc : min4 e f g k ≤ c ∧ c ≤ max4 e f g k) (hd : min4 e f g k ≤ d ∧ d ≤ max4 e f g k) :
    Nar (hull a b c d) (hull e f g k) := by
  have g1 := hull_good a b c d
  have m := le_min4 ha.1 hb.1 hc.1 hd.1
  have M := max4_le ha.2 hb.2 hc.2 hd.2
  have h1 := min4_le a b c d
  have h2 := le_max4 a b c d
  unfold hull at *
  by_cases h : min4 e f g k < -2147483648 ∨ 2147483647 < max4 e f g k
  · rw [if_pos h]; exact nar_all g1
  · rw [if_neg h, if_neg (by omega), mk_le (by omega), mk_le (by omega)]
    exact ⟨m, M⟩

/-! ### Bits -/
theorem nat_of {x : Int} (h0 : 0 ≤ x) (h1 : x ≤ 2147483647) : (BitVec.ofInt 64 x).toNat = x.toNat := by
  rw [BitVec.toNat_ofInt]; omega
theorem wrap_nat {n : Nat} (h : n ≤ 2147483647) : IntKind.i64.wrap (n : Int) = n := IntWalk.i64_in _ (by omega)
theorem and_le {x : Int} (y : Int) (h0 : 0 ≤ x) (h1 : x ≤ 2147483647) : 0 ≤ bits .and .i64 x y ∧ bits .and .i64 x y ≤ x := by
  have h : (BitVec.ofInt 64 x &&& BitVec.ofInt 64 y).toNat ≤ x.toNat := by
    rw [BitVec.toNat_and, nat_of h0 h1]; exact Nat.and_le_left
  rw [bits_and64, wrap_nat (by omega)]; omega
theorem and_comm' (x y : Int) : bits .and .i64 x y = bits .and .i64 y x := by
  rw [bits_and64, bits_and64, BitVec.and_comm]
theorem or_nat {x y : Int} (hx : 0 ≤ x) (hx1 : x ≤ 2147483647) (hy : 0 ≤ y) (hy1 : y ≤ 2147483647) : bits .or .i64 x y = (x.toNat ||| y.toNat : Nat) := by
  have h : (BitVec.ofInt 64 x ||| BitVec.ofInt 64 y).toNat = x.toNat ||| y.toNat := by rw [BitVec.toNat_or, nat_of hx hx1, nat_of hy hy1]
  have : x.toNat ||| y.toNat < 2 ^ 31 := Nat.or_lt_two_pow (by omega) (by omega)
  rw [bits_or64, h, wrap_nat (by omega)]
theorem xor_nat {x y : Int} (hx : 0 ≤ x) (hx1 : x ≤ 2147483647) (hy : 0 ≤ y) (hy1 : y ≤ 2147483647) : bits .xor .i64 x y = (x.toNat ^^^ y.toNat : Nat) := by
  have h : (BitVec.ofInt 64 x ^^^ BitVec.ofInt 64 y).toNat = x.toNat ^^^ y.toNat := by rw [BitVec.toNat_xor, nat_of hx hx1, nat_of hy hy1]
  have : x.toNat ^^^ y.toNat < 2 ^ 31 := Nat.xor_lt_two_pow (by omega) (by omega)
  rw [bits_xor64, h, wrap_nat (by omega)]
theorem pow_cast (i : Nat) : ((2 ^ i : Nat) : Int) = (2 : Int) ^ i := by push_cast; rfl
theorem bitsFrom_spec : ∀ (f j : Nat) (n : Int), j + f = 32 → n ≤ 2147483647 → j ≤ 31 → (j = 0 ∨ ((2 ^ (j - 1) : Nat) : Int) - 1 < n) →
    ∃ i : Nat, i ≤ 31 ∧ bitsFrom f (((2 ^ j : Nat) : Int) - 1) n = ((2 ^ i : Nat) : Int) - 1 ∧ n ≤ ((2 ^ i : Nat) : Int) - 1 ∧ (i = 0 ∨ ((2 ^ (i - 1) : Nat) : Int) - 1 < n)
  | 0, j, n, hj, _, h31, _ => by omega
  | f + 1, j, n, hj, hn, h31, hm => by
    unfold bitsFrom
    by_cases h : ((2 ^ j : Nat) : Int) - 1 < n
    · rw [if_pos h]
      have hj31 : j < 31 := by
        by_cases e : j = 31
        · subst e; have : (2 ^ 31 : Nat) = 2147483648 := by decide
          omega
        · omega
      have e : 2 * (((2 ^ j : Nat) : Int) - 1) + 1 = ((2 ^ (j + 1) : Nat) : Int) - 1 := by rw [Nat.pow_succ]; push_cast; omega
      rw [e]
      exact bitsFrom_spec f (j + 1) n (by omega) hn (by omega) (.inr (by simpa using h))
    · rw [if_neg h]
      exact ⟨j, h31, rfl, by omega, hm⟩
theorem ones_spec {n : Int} (hn : n ≤ 2147483647) : ∃ i : Nat, i ≤ 31 ∧ ones n = ((2 ^ i : Nat) : Int) - 1 ∧ n ≤ ones n ∧ (i = 0 ∨ ((2 ^ (i - 1) : Nat) : Int) - 1 < n) := by
  obtain ⟨i, h1, h2, h3, h4⟩ := bitsFrom_spec 32 0 n rfl hn (by omega) (.inl rfl)
  have e : ones n = ((2 ^ i : Nat) : Int) - 1 := h2
  exact ⟨i, h1, e, by rw [e]; exact h3, h4⟩
theorem ones_le {n : Int} (hn : n ≤ 2147483647) : 0 ≤ ones n ∧ ones n ≤ 2147483647 := by
  obtain ⟨i, h1, h2, _, _⟩ := ones_spec hn
  have a : 2 ^ i ≤ 2 ^ 31 := Nat.pow_le_pow_right (by omega) h1
  have b : 1 ≤ 2 ^ i := Nat.pow_pos (by omega)
  have c : (2 ^ 31 : Nat) = 2147483648 := by decide
  omega
theorem ones_mono {m n : Int} (h : m ≤ n) (hn : n ≤ 2147483647) : ones m ≤ ones n := by
  obtain ⟨i, h1, h2, h3, h4⟩ := ones_spec (show m ≤ 2147483647 by omega)
  obtain ⟨j, k1, k2, k3, _⟩ := ones_spec hn
  rw [h2, k2]
  by_cases hij : i ≤ j
  · have : 2 ^ i ≤ 2 ^ j := Nat.pow_le_pow_right (by omega) hij
    omega
  · rcases h4 with h4 | h4
    · omega
    · have : 2 ^ j ≤ 2 ^ (i - 1) := Nat.pow_le_pow_right (by omega) (by omega)
      omega
theorem below_ones {x n : Int} (h0 : 0 ≤ x) (h : x ≤ n) (hn : n ≤ 2147483647) : ∃ i : Nat, ones n = ((2 ^ i : Nat) : Int) - 1 ∧ x.toNat < 2 ^ i := by
  obtain ⟨i, h1, h2, h3, _⟩ := ones_spec hn
  exact ⟨i, h2, by omega⟩
theorem or_cov {p q r s x y : Int} (hp : 0 ≤ p) (hx : p ≤ x ∧ x ≤ q) (hq : q ≤ 2147483647) (hr : 0 ≤ r) (hy : r ≤ y ∧ y ≤ s) (hs : s ≤ 2147483647) :
    Cov (mk' (max p r) (ones (max q s))) (bits .or .i64 x y) := by
  have hm : max q s ≤ 2147483647 := by omega
  obtain ⟨i, e, a⟩ := below_ones (x := x) (n := max q s) (by omega) (by omega) hm
  obtain ⟨j, e', b⟩ := below_ones (x := y) (n := max q s) (by omega) (by omega) hm
  have hij : ((2 ^ i : Nat) : Int) = ((2 ^ j : Nat) : Int) := by omega
  have b' : y.toNat < 2 ^ i := by omega
  have h1 : x.toNat ||| y.toNat < 2 ^ i := Nat.or_lt_two_pow a b'
  have h2 : x.toNat ≤ x.toNat ||| y.toNat := Nat.left_le_or
  have h3 : y.toNat ≤ x.toNat ||| y.toNat := Nat.right_le_or
  have := ones_le hm
  rw [or_nat (by omega) (by omega) (by omega) (by omega)]
  exact cov_mk (by omega) (by omega) (by omega) (by omega)
theorem xor_cov {p q r s x y : Int} (hp : 0 ≤ p) (hx : p ≤ x ∧ x ≤ q) (hq : q ≤ 2147483647) (hr : 0 ≤ r) (hy : r ≤ y ∧ y ≤ s) (hs : s ≤ 2147483647) :
    Cov (mk' 0 (ones (max q s))) (bits .xor .i64 x y) := by
  have hm : max q s ≤ 2147483647 := by omega
  obtain ⟨i, e, a⟩ := below_ones (x := x) (n := max q s) (by omega) (by omega) hm
  obtain ⟨j, e', b⟩ := below_ones (x := y) (n := max q s) (by omega) (by omega) hm
  have hij : ((2 ^ i : Nat) : Int) = ((2 ^ j : Nat) : Int) := by omega
  have b' : y.toNat < 2 ^ i := by omega
  have h1 : x.toNat ^^^ y.toNat < 2 ^ i := Nat.xor_lt_two_pow a b'
  have := ones_le hm
  rw [xor_nat (by omega) (by omega) (by omega) (by omega)]
  exact cov_mk (by omega) (by omega) (by omega) (by omega)
end Iv
end Go.Proofs.Ytdajgopgaklipaa
