/- What the code of layer 8 reckons, in plain integers: the bits of a residue by trailing zeros, and the shapes in which Valid, Leq, Join and Do are reckoned. No condition. -/
import Derived.Test.YtmdakglbommopaaDoorCgOrder
import Derived.Lib.TrailingZeros
namespace Go.Proofs.YtmdakglbommopaaDoor
open Go.RowKit (wrap32 wrap64)
set_option linter.unusedVariables false
set_option linter.unusedSimpArgs false
namespace Rs
/-- The trailing zeros of a number in 64 bits. -/
def tz (n : Int) : Nat := Lib.ctz 64 (n % 18446744073709551616).toNat
/-- The bits of a residue, by its number of words. -/
def sz (m : Int) : Nat := if m = 0 then 32 else tz m
theorem e64 : (2 : Int) ^ 64 = 18446744073709551616 := by decide
theorem tz_spec {n : Int} (h : n % 18446744073709551616 ≠ 0) : ∃ q : Nat, (n % 18446744073709551616).toNat = 2 ^ tz n * (2 * q + 1) ∧ tz n < 64 := by
  have h0 := Int.emod_nonneg n (show (18446744073709551616 : Int) ≠ 0 by omega)
  have h1 := Int.emod_lt_of_pos n (show (0 : Int) < 18446744073709551616 by omega)
  have hx : 0 < (n % 18446744073709551616).toNat := by omega
  have e : tz n = Lib.ctzFrom 64 (n % 18446744073709551616).toNat := by unfold tz Lib.ctz; rw [if_neg (by omega)]
  rw [e]
  exact Lib.ctzFrom_spec 64 _ hx (by have : (2 : Nat) ^ 64 = 18446744073709551616 := by decide
                                     omega)
theorem d_tz {n : Int} (h : n % 18446744073709551616 ≠ 0) {k : Nat} (hk : k ≤ 64) : D k n ↔ k ≤ tz n := by
  obtain ⟨q, e, hc⟩ := tz_spec h
  have h0 := Int.emod_nonneg n (show (18446744073709551616 : Int) ≠ 0 by omega)
  have hx : n % 18446744073709551616 = 2 ^ tz n * (2 * (q : Int) + 1) := by
    have : n % 18446744073709551616 = ((n % 18446744073709551616).toNat : Int) := by omega
    rw [this, e]; simp
  have hd : D k (n % 18446744073709551616 - n) := by
    have := d_emod 64 n
    rw [e64] at this
    exact this.less hk
  have hD : D k n ↔ D k (2 ^ tz n * (2 * (q : Int) + 1)) := by
    rw [← hx]
    exact ⟨fun a => by have := hd.add a; rwa [Int.sub_add_cancel] at this, fun a => by have := a.sub hd; rwa [show n % 18446744073709551616 - (n % 18446744073709551616 - n) = n by omega] at this⟩
  rw [hD]
  constructor
  · intro a
    by_cases hk : k ≤ tz n
    · exact hk
    · exfalso
      have b := a.less (show tz n + 1 ≤ k by omega)
      obtain ⟨r, hr⟩ := b
      rw [Int.pow_succ, Int.mul_assoc] at hr
      have := Int.eq_of_mul_eq_mul_left (by have := p2_pos (tz n); omega) hr
      omega
  · intro a
    exact Int.dvd_trans (p2_dvd a) ⟨_, rfl⟩
theorem small64 {n : Int} (h : n ≠ 0) (h1 : -4611686018427387904 ≤ n) (h2 : n ≤ 4611686018427387904) : n % 18446744073709551616 ≠ 0 := by omega
theorem tz_p2 {k : Nat} (hk : k ≤ 30) : tz (2 ^ k) = k := by
  have h1 := p2_pos k
  have h2 := p2_30 hk
  have hn := small64 (n := 2 ^ k) (by omega) (by omega) (by omega)
  have a : k ≤ tz (2 ^ k) := (d_tz hn (by omega)).1 ⟨1, by simp⟩
  by_cases h : tz (2 ^ k) = k
  · exact h
  · exfalso
    obtain ⟨r, hr⟩ := (d_tz hn (k := k + 1) (by omega)).2 (by omega)
    rw [Int.pow_succ, Int.mul_assoc] at hr
    have := Int.eq_of_mul_eq_mul_left (show (2 : Int) ^ k ≠ 0 by omega) (show (2 : Int) ^ k * 1 = 2 ^ k * (2 * r) by omega)
    omega
theorem G.sz {x : Rs} {k : Nat} (h : G x k) : sz x.m = k := by
  unfold Rs.sz
  rcases h.m with ⟨h0, rfl⟩ | ⟨hm, hk, hne⟩
  · rw [if_pos h0]
  · rw [if_neg hne, hm, tz_p2 hk]
theorem sz_non : sz (-1) = 0 := by decide
theorem tz_le (n : Int) : tz n ≤ 64 := by
  by_cases h : n % 18446744073709551616 = 0
  · unfold tz Lib.ctz; rw [if_pos (by omega)]; omega
  · obtain ⟨_, _, h⟩ := tz_spec h; omega
theorem sz_le (m : Int) : sz m ≤ 64 := by
  unfold sz
  split
  · omega
  · exact tz_le m

/-! ### Valid -/
theorem pair_ext {x y : Rs} (h1 : x.m = y.m) (h2 : x.r = y.r) : x = y := by
  obtain ⟨m, r⟩ := x
  obtain ⟨m', r'⟩ := y
  simp only at h1 h2
  subst h1 h2
  rfl
theorem ok_one {m r : Int} (h : m = 0 ∧ r = wrap32 r) : ok ⟨m, r⟩ = true := by
  obtain ⟨rfl, h⟩ := h
  unfold ok
  rw [if_neg (by simp), if_pos rfl]
  simpa using h.symm
theorem ok_low {m r : Int} (h1 : ¬ (m = -1 ∧ r = 0)) (h2 : ¬ (m = 0 ∧ r = wrap32 r)) : ok ⟨m, r⟩ = ((m == (low r (sz m)).m) && (r == (low r (sz m)).r)) := by
  rw [Bool.eq_iff_iff]
  simp only [Bool.and_eq_true, beq_iff_eq]
  constructor
  · intro h
    rcases form_good ⟨m, r⟩ with e | ⟨k, g⟩
    · unfold form at e
      rw [if_pos h] at e
      have := congrArg Rs.m e; have := congrArg Rs.r e
      exact absurd ⟨‹m = _›, ‹r = _›⟩ h1
    · unfold form at g
      rw [if_pos h] at g
      have hs : sz m = k := g.sz
      rcases g with ⟨_, g1, g2, g3⟩ | ⟨hk, g1, g2, g3⟩
      · exact absurd ⟨g1, (wrap32_same ⟨g2, g3⟩).symm⟩ h2
      · rw [hs]
        unfold low
        rw [show min k 30 = k by omega]
        exact ⟨g1, (Int.emod_eq_of_lt g2 g3).symm⟩
  · rintro ⟨a, b⟩
    have g := g_low r (sz m)
    have e : (⟨m, r⟩ : Rs) = low r (sz m) := pair_ext a b
    rw [e]
    exact g.ok

/-! ### Leq -/
theorem leq_same {x y : Rs} (hx : F x) (h : x = y) : leq x y = true := by subst h; exact leq_refl' hx
theorem leq_less {x y : Rs} (hx : F x) (hy : F y) (hn : x ≠ y) (h0 : x ≠ non) (h : ¬ sz y.m < sz x.m) : leq x y = false := by
  obtain ⟨i, gx⟩ := hx.resolve_left h0
  rcases hy with rfl | ⟨j, gy⟩
  · exact leq_to_non gx
  · rw [gx.sz, gy.sz] at h
    by_cases hl : leq x y = true
    · obtain ⟨a, b⟩ := (leq_iff gx gy).1 hl
      obtain rfl : i = j := by omega
      exact absurd (gx.ext gy b) hn
    · simpa using hl
theorem leq_more {x y : Rs} (hx : F x) (hy : F y) (h0 : x ≠ non) (h : sz y.m < sz x.m) : leq x y = (((low x.r (sz y.m)).m == y.m) && ((low x.r (sz y.m)).r == y.r)) := by
  obtain ⟨i, gx⟩ := hx.resolve_left h0
  have hp : (((low x.r (sz y.m)).m == y.m) && ((low x.r (sz y.m)).r == y.r)) = decide (low x.r (sz y.m) = y) := by
    rw [Bool.eq_iff_iff]
    simp only [Bool.and_eq_true, beq_iff_eq, decide_eq_true_eq]
    exact ⟨fun e => pair_ext e.1 e.2, fun e => by rw [e]; exact ⟨rfl, rfl⟩⟩
  rw [hp]
  rcases hy with rfl | ⟨j, gy⟩
  · rw [leq_to_non gx]
    have : low x.r (sz non.m) ≠ non := (g_low x.r (sz non.m)).ne
    simp [this]
  · rw [gx.sz, gy.sz] at h
    rw [gy.sz, Bool.eq_iff_iff, leq_iff gx gy, decide_eq_true_eq]
    have hj : j ≤ 30 := by
      have := gx.le
      rcases gy.m with ⟨_, e⟩ | ⟨_, e, _⟩ <;> omega
    have g := g_low x.r j
    rw [show min j 30 = j by omega] at g
    have hd := d_emod j x.r
    constructor
    · rintro ⟨_, a⟩
      refine g.ext gy ?_
      have : (low x.r j).r = x.r % 2 ^ j := by unfold low; rw [show min j 30 = j by omega]
      rw [this]
      exact hd.trans a
    · intro e
      refine ⟨by omega, ?_⟩
      have : y.r = x.r % 2 ^ j := by rw [← e]; unfold low; rw [show min j 30 = j by omega]
      rw [this]
      exact hd.flip

theorem has_code (a : Rs) (n : Int) : has a n = (decide (wrap32 n = n) && leq ⟨(sing n).m, (sing n).r⟩ a) := by
  have e : (⟨(sing n).m, (sing n).r⟩ : Rs) = sing n := rfl
  rw [e]
  have gs := g_sing n
  have hl : leq (sing n) a = leq (sing n) (form a) := by unfold leq; rw [form_form]
  have hh : has a n = has (form a) n := by unfold has; rw [form_form]
  rw [hl, hh]
  have hf := f_form a
  rcases hf with h | ⟨k, g⟩
  · rw [h, has_non, leq_to_non gs]; simp
  · rw [Bool.eq_iff_iff, Bool.and_eq_true, has_iff g, leq_iff gs g, decide_eq_true_eq]
    constructor
    · rintro ⟨h1, h2⟩
      have hw := wrap32_same h2
      refine ⟨hw, g.le, ?_⟩
      show D k (wrap32 n - (form a).r)
      rw [hw]
      exact h1
    · rintro ⟨hw, _, h2⟩
      have h3 : D k (wrap32 n - (form a).r) := h2
      rw [hw] at h3
      exact ⟨h3, by rw [← hw]; exact wrap32_bounds n⟩
theorem f_word {x : Rs} (h : F x) : -2147483648 ≤ x.r ∧ x.r ≤ 2147483647 := by
  rcases h with rfl | ⟨k, h⟩
  · decide
  · exact h.word

/-! ### Join and Meet -/
theorem join_of_leq {x y : Rs} (hx : F x) (hy : F y) (h : leq x y = true) : join x y = y :=
  leq_anti (join_good hx hy) hy (join_least hx hy hy h (leq_refl' hy)) (join_up hx hy).2
theorem join_of_geq {x y : Rs} (hx : F x) (hy : F y) (h : leq y x = true) : join x y = x :=
  leq_anti (join_good hx hy) hx (join_least hx hy hx (leq_refl' hx) h) (join_up hx hy).1
theorem join_code {x y : Rs} (hx : F x) (hy : F y) (h1 : leq x y = false) (h2 : leq y x = false) : low x.r (tz (x.r - y.r)) = join x y := by
  have nx : x ≠ non := by rintro rfl; rw [leq_non] at h1; exact absurd h1 (by decide)
  have ny : y ≠ non := by rintro rfl; rw [leq_non] at h2; exact absurd h2 (by decide)
  obtain ⟨i, gx⟩ := hx.resolve_left nx
  obtain ⟨j, gy⟩ := hy.resolve_left ny
  have wx := gx.word
  have wy := gy.word
  have li := gx.le
  have lj := gy.le
  have hnd : ¬ D (min i j) (x.r - y.r) := by
    intro hd
    by_cases h : i ≤ j
    · rw [show min i j = i by omega] at hd
      have := (leq_iff gy gx).2 ⟨h, hd.flip⟩
      rw [h2] at this; exact absurd this (by decide)
    · rw [show min i j = j by omega] at hd
      have := (leq_iff gx gy).2 ⟨by omega, hd⟩
      rw [h1] at this; exact absurd this (by decide)
  have hne : x.r - y.r ≠ 0 := by intro h; rw [h] at hnd; exact hnd (D.zero _)
  have hn := small64 hne (by omega) (by omega)
  have hlt : tz (x.r - y.r) < min i j := by
    by_cases h : tz (x.r - y.r) < min i j
    · exact h
    · exact absurd ((d_tz hn (by omega)).2 (by omega)) hnd
  rw [join_form (.inr ⟨i, gx⟩) (.inr ⟨j, gy⟩)]
  unfold join'
  rw [if_neg nx, if_neg (by rintro (h | h); exact ny h; exact hne (by rw [h]; omega)), gx.bt, gy.bt]
  have hd : down (min (min i j) 30) (x.r - y.r) = min (tz (x.r - y.r)) 30 := by
    have a := down_le (min (min i j) 30) (x.r - y.r)
    have b := (d_tz hn (by omega)).1 (down_dvd (min (min i j) 30) (x.r - y.r))
    have c := down_most (min (min i j) 30) (x.r - y.r) (min (tz (x.r - y.r)) 30) (by omega) ((d_tz hn (by omega)).2 (by omega))
    omega
  rw [hd]
  unfold low
  rw [show min (min (tz (x.r - y.r)) 30) 30 = min (tz (x.r - y.r)) 30 by omega]

/-! ### Do -/
theorem val_31 {a b : Int} (hb : -2147483648 ≤ b ∧ b ≤ 2147483647) : val 9 a b = val 9 a (b % 32) := by
  show wrap32 (wrap32 a * 2 ^ (wrap32 b % 32).toNat) = wrap32 (wrap32 a * 2 ^ (wrap32 (b % 32) % 32).toNat)
  rw [wrap32_same (n := b % 32) (by omega), wrap32_same hb, Int.emod_emod]
theorem low_iff {a b : Int} {k : Nat} (hk : k ≤ 30) : low a k = low b k ↔ (a - b) % 2 ^ k = 0 := by
  unfold low
  rw [show min k 30 = k by omega, ← Int.emod_eq_emod_iff_emod_sub_eq_zero]
  exact ⟨fun h => congrArg Rs.r h, fun h => by rw [h]⟩
theorem op_ring {o : Int} {x y : Rs} {i j : Nat} (gx : G x i) (gy : G y j) (hs : ¬ (x.m = 0 ∧ y.m = 0)) (ho : o = 1 ∨ o = 2 ∨ o = 3 ∨ o = 6 ∨ o = 7 ∨ o = 8) : op o x y = low (val o x.r y.r) (min i j) := by
  unfold op; rw [if_neg hs, if_pos ho, gx.bt, gy.bt]
theorem op_shl {x y : Rs} {i j : Nat} (gx : G x i) (gy : G y j) (hs : ¬ (x.m = 0 ∧ y.m = 0)) (hy : y.m = 0) : op 9 x y = low (val 9 x.r y.r) (i + (y.r % 32).toNat) := by
  unfold op; rw [if_neg hs, if_neg (by omega), if_pos ⟨rfl, hy⟩, gx.bt, ← val_31 gy.word]
theorem op_far {o : Int} {x y : Rs} {i j : Nat} (gx : G x i) (gy : G y j) (hs : ¬ (x.m = 0 ∧ y.m = 0)) (ho : o = 13 ∨ o = 14) (hn : low x.r (min i j) ≠ low y.r (min i j)) : op o x y = sing (val o x.r y.r) := by
  have hk : min i j ≤ 30 := by
    rcases gx.m with ⟨e, e'⟩ | ⟨_, e, _⟩
    · rcases gy.m with ⟨f, f'⟩ | ⟨_, f, _⟩
      · exact absurd ⟨e, f⟩ hs
      · omega
    · omega
  have h := fun h => hn ((low_iff hk).2 h)
  have hne : x.r ≠ y.r := fun e => hn (by rw [e])
  have hv := val_eq gx.word gy.word hne
  unfold op
  rw [if_neg hs, if_neg (by omega), if_neg (by omega), gx.bt, gy.bt, if_pos ⟨ho, h⟩]
  rcases ho with rfl | rfl
  · rw [if_pos rfl, hv.1]
  · rw [if_neg (by omega), hv.2]
theorem op_near {o : Int} {x y : Rs} {i j : Nat} (gx : G x i) (gy : G y j) (hs : ¬ (x.m = 0 ∧ y.m = 0)) (ho : o = 13 ∨ o = 14) (hn : low x.r (min i j) = low y.r (min i j)) : op o x y = all := by
  have hk : min i j ≤ 30 := by
    rcases gx.m with ⟨e, e'⟩ | ⟨_, e, _⟩
    · rcases gy.m with ⟨f, f'⟩ | ⟨_, f, _⟩
      · exact absurd ⟨e, f⟩ hs
      · omega
    · omega
  unfold op
  rw [if_neg hs, if_neg (by omega), if_neg (by omega), gx.bt, gy.bt, if_neg (fun h => h.2 ((low_iff hk).1 hn))]
theorem op_else {o : Int} {x y : Rs} (hs : ¬ (x.m = 0 ∧ y.m = 0)) (ho : ¬ (o = 1 ∨ o = 2 ∨ o = 3 ∨ o = 6 ∨ o = 7 ∨ o = 8)) (h9 : ¬ (o = 9 ∧ y.m = 0)) (h13 : ¬ (o = 13 ∨ o = 14)) : op o x y = all := by
  unfold op; rw [if_neg hs, if_neg ho, if_neg h9, if_neg (fun h => h13 h.1)]
theorem op_two {o : Int} {x y : Rs} (hs : x.m = 0 ∧ y.m = 0) : op o x y = if 1 ≤ o ∧ o ≤ 14 then sing (val o x.r y.r) else all := by
  unfold op; rw [if_pos hs]
theorem op_no {o : Int} {x y : Rs} (h : ¬ (1 ≤ o ∧ o ≤ 14)) : op o x y = all := by
  by_cases hs : x.m = 0 ∧ y.m = 0
  · rw [op_two hs, if_neg h]
  · exact op_else hs (by omega) (by omega) (by omega)
end Rs
end Go.Proofs.YtmdakglbommopaaDoor
