/- What holds of residues of words, in plain integers: results of operators for words of residues are words of the results, fewer words have fewer results, bounds of the order. No condition. -/
import Derived.Test.YtmdakglbommopaaDoorCgPlain
namespace Go.Proofs.YtmdakglbommopaaDoor
open Go.RowKit (wrap32 wrap64)
set_option linter.unusedVariables false
set_option linter.unusedSimpArgs false
namespace Rs
/-- Two numbers have the same k low bits. -/
def D (k : Nat) (n : Int) : Prop := (2 : Int) ^ k ∣ n
theorem D.zero (k : Nat) : D k 0 := Int.dvd_zero _
theorem D.neg {k : Nat} {n : Int} (h : D k n) : D k (-n) := Int.dvd_neg.2 h
theorem D.add {k : Nat} {a b : Int} (h : D k a) (h' : D k b) : D k (a + b) := Int.dvd_add h h'
theorem D.sub {k : Nat} {a b : Int} (h : D k a) (h' : D k b) : D k (a - b) := Int.dvd_sub h h'
theorem D.less {k j : Nat} {a : Int} (h : D k a) (hj : j ≤ k) : D j a := Int.dvd_trans (p2_dvd hj) h
theorem D.flip {k : Nat} {a b : Int} (h : D k (a - b)) : D k (b - a) := by have := h.neg; rwa [Int.neg_sub] at this
theorem D.trans {k : Nat} {a b c : Int} (h : D k (a - b)) (h' : D k (b - c)) : D k (a - c) := by have := h.add h'; rwa [show a - b + (b - c) = a - c by omega] at this
theorem D.mod {k : Nat} {n : Int} : n % 2 ^ k = 0 ↔ D k n := ⟨Int.dvd_of_emod_eq_zero, Int.emod_eq_zero_of_dvd⟩
theorem d_zero (n : Int) : D 0 n := ⟨n, by simp⟩
theorem d_emod (k : Nat) (n : Int) : D k (n % 2 ^ k - n) := by
  have := Int.emod_add_mul_ediv n (2 ^ k)
  exact ⟨-(n / 2 ^ k), by rw [Int.mul_neg]; omega⟩
theorem d_wrap {k : Nat} (hk : k ≤ 32) (n : Int) : D k (wrap32 n - n) := by
  refine D.less (k := 32) ?_ hk
  have e : (2 : Int) ^ 32 = 4294967296 := by decide
  unfold D
  rw [e]
  unfold wrap32
  omega
theorem d_mul {k c : Nat} {n : Int} (h : D k n) : D (k + c) (n * 2 ^ c) := by
  obtain ⟨q, rfl⟩ := h
  exact ⟨q, by rw [Int.pow_add, Int.mul_assoc, Int.mul_comm q, ← Int.mul_assoc]⟩
/-- Small numbers with the same bits are equal. -/
theorem D.small {k : Nat} {n : Int} (h : D k n) (h1 : -(2 : Int) ^ k < n) (h2 : n < 2 ^ k) : n = 0 := by
  obtain ⟨q, rfl⟩ := h
  have hp := p2_pos k
  generalize (2 : Int) ^ k = p at *
  have h3 : q < 1 := by
    by_cases h : q < 1
    · exact h
    · have := Int.mul_le_mul_of_nonneg_left (show 1 ≤ q by omega) (show 0 ≤ p by omega); omega
  have h4 : -1 < q := by
    by_cases h : -1 < q
    · exact h
    · have := Int.mul_le_mul_of_nonneg_left (show q ≤ -1 by omega) (show 0 ≤ p by omega); omega
  have : q = 0 := by omega
  subst this
  simp
theorem bv_iff (k : Nat) (a b : Int) : BitVec.ofInt k a = BitVec.ofInt k b ↔ D k (a - b) := by
  rw [← BitVec.toNat_inj, BitVec.toNat_ofInt, BitVec.toNat_ofInt]
  have e : ((2 ^ k : Nat) : Int) = 2 ^ k := by simp
  rw [e]
  have h1 := Int.emod_nonneg a (show (2 : Int) ^ k ≠ 0 by have := p2_pos k; omega)
  have h2 := Int.emod_nonneg b (show (2 : Int) ^ k ≠ 0 by have := p2_pos k; omega)
  rw [← D.mod, ← Int.emod_eq_emod_iff_emod_sub_eq_zero]
  omega
theorem bv_set {k : Nat} (hk : k ≤ 32) (n : Int) : (BitVec.ofInt 32 n).setWidth k = BitVec.ofInt k n := by
  apply BitVec.eq_of_toNat_eq
  rw [BitVec.toNat_setWidth, BitVec.toNat_ofInt, BitVec.toNat_ofInt]
  have e : ((2 ^ k : Nat) : Int) = 2 ^ k := by simp
  have e' : ((2 ^ 32 : Nat) : Int) = 2 ^ 32 := by simp
  have h1 := Int.emod_nonneg n (show (2 : Int) ^ k ≠ 0 by have := p2_pos k; omega)
  have h2 := Int.emod_nonneg n (show (2 : Int) ^ 32 ≠ 0 by have := p2_pos 32; omega)
  have h3 : n % 2 ^ 32 % 2 ^ k = n % 2 ^ k := Int.emod_emod_of_dvd n (p2_dvd hk)
  rw [e, e']
  apply Int.ofNat_inj.1
  rw [Int.natCast_emod, Int.toNat_of_nonneg h2, Int.toNat_of_nonneg h1, e]
  exact h3
theorem setW_add {k : Nat} (hk : k ≤ 32) (a b : BitVec 32) : (a + b).setWidth k = a.setWidth k + b.setWidth k := BitVec.setWidth_add a b hk
theorem setW_mul {k : Nat} (hk : k ≤ 32) (a b : BitVec 32) : (a * b).setWidth k = a.setWidth k * b.setWidth k := BitVec.setWidth_mul a b hk
/-- The low bits of sums, differences, products and bit operations depend on low bits alone. -/
theorem val_low {o : Int} (ho : o = 1 ∨ o = 2 ∨ o = 3 ∨ o = 6 ∨ o = 7 ∨ o = 8) {k : Nat} (hk : k ≤ 32) {a b c d : Int} (h : D k (a - c)) (h' : D k (b - d)) : D k (val o a b - val o c d) := by
  have ha := (bv_iff k a c).2 h
  have hb := (bv_iff k b d).2 h'
  rw [← bv_iff]
  have g : ∀ x : Int, BitVec.ofInt k x = (BitVec.ofInt 32 x).setWidth k := fun x => (bv_set hk x).symm
  rcases ho with rfl | rfl | rfl | rfl | rfl | rfl
  · rw [g, g, bv_add, bv_add, setW_add hk, setW_add hk, bv_set hk, bv_set hk, bv_set hk, bv_set hk, ha, hb]
  · have e1 : D k (a - b - (c - d)) := by have := h.sub h'; rwa [show a - c - (b - d) = a - b - (c - d) by omega] at this
    have e2 : ∀ x y : Int, D k (val 2 x y - (x - y)) := fun x y => by
      have h1 := d_wrap hk (wrap32 x - wrap32 y)
      have h2 := (d_wrap hk x).sub (d_wrap hk y)
      rw [show wrap32 x - x - (wrap32 y - y) = wrap32 x - wrap32 y - (x - y) by omega] at h2
      exact (show D k (val 2 x y - (wrap32 x - wrap32 y)) from h1).trans h2
    rw [bv_iff]
    exact ((e2 a b).trans e1).trans (e2 c d).flip
  · rw [g, g, bv_mul, bv_mul, setW_mul hk, setW_mul hk, bv_set hk, bv_set hk, bv_set hk, bv_set hk, ha, hb]
  · rw [g, g, bv_and, bv_and, BitVec.setWidth_and, BitVec.setWidth_and, bv_set hk, bv_set hk, bv_set hk, bv_set hk, ha, hb]
  · rw [g, g, bv_or, bv_or, BitVec.setWidth_or, BitVec.setWidth_or, bv_set hk, bv_set hk, bv_set hk, bv_set hk, ha, hb]
  · rw [g, g, bv_xor, bv_xor, BitVec.setWidth_xor, BitVec.setWidth_xor, bv_set hk, bv_set hk, bv_set hk, bv_set hk, ha, hb]
theorem val_shl {k : Nat} {a b c : Int} (h : D k (a - b)) (hc : 0 ≤ c ∧ c ≤ 31) {j : Nat} (hj : j ≤ k + c.toNat) (hj' : j ≤ 32) : D j (val 9 a c - val 9 b c) := by
  have e : ∀ x : Int, D j (val 9 x c - x * 2 ^ c.toNat) := fun x => by
    have h1 : val 9 x c = wrap32 (wrap32 x * 2 ^ c.toNat) := by
      show wrap32 (wrap32 x * 2 ^ (wrap32 c % 32).toNat) = _
      rw [wrap32_same (n := c) (by omega), Int.emod_eq_of_lt hc.1 (by omega)]
    rw [h1]
    refine (d_wrap hj' _).trans ?_
    have h2 := (d_mul (c := c.toNat) (d_wrap (Nat.le_refl 32) x)).less (show j ≤ 32 + c.toNat by omega)
    rwa [Int.sub_mul] at h2
  have h3 := (d_mul (c := c.toNat) h).less hj
  rw [Int.sub_mul] at h3
  exact ((e a).trans h3).trans (e b).flip

/-! ### Words of residues -/
/-- A word of a residue. -/
def In (x : Rs) (v : Int) : Prop := ∃ k, G x k ∧ D k (v - x.r) ∧ (-2147483648 ≤ v ∧ v ≤ 2147483647)
theorem G.in32 {x : Rs} (h : G x 32) {v : Int} (hv : -2147483648 ≤ v ∧ v ≤ 2147483647) (hd : D 32 (v - x.r)) : v = x.r := by
  have hw := h.word
  have e : (2 : Int) ^ 32 = 4294967296 := by decide
  have := hd.small (by rw [e]; omega) (by rw [e]; omega)
  omega
theorem has_iff {x : Rs} {k : Nat} (h : G x k) (v : Int) : has x v = true ↔ D k (v - x.r) ∧ (-2147483648 ≤ v ∧ v ≤ 2147483647) := by
  unfold has has'
  rw [h.form]
  have hw : wrap32 v = v ↔ (-2147483648 ≤ v ∧ v ≤ 2147483647) := ⟨fun e => by rw [← e]; exact wrap32_bounds v, fun e => wrap32_same e⟩
  simp only [Bool.and_eq_true, decide_eq_true_eq, h.ne, ne_eq, not_false_eq_true, true_and, hw]
  rcases h.m with ⟨h0, rfl⟩ | ⟨hm, hk, hne⟩
  · rw [if_pos h0, decide_eq_true_eq]
    constructor
    · rintro ⟨h1, rfl⟩
      exact ⟨by rw [Int.sub_self]; exact D.zero _, h1⟩
    · rintro ⟨h1, h2⟩
      exact ⟨h2, h.in32 h2 h1⟩
  · rw [if_neg hne, decide_eq_true_eq, hm, D.mod]
    exact And.comm
theorem has_of {x : Rs} {v : Int} (h : In x v) : has x v = true := by
  obtain ⟨k, h, hd, hw⟩ := h
  exact (has_iff h v).2 ⟨hd, hw⟩
/-- The word that a number picks. -/
def mem (x : Rs) (n : Int) : Int := if x.m = 0 then x.r else wrap32 (x.r + x.m * n)
theorem mem_in {x : Rs} {k : Nat} (h : G x k) (n : Int) : In x (mem x n) := by
  refine ⟨k, h, ?_⟩
  unfold mem
  rcases h.m with ⟨h0, rfl⟩ | ⟨hm, hk, hne⟩
  · rw [if_pos h0]
    exact ⟨by rw [Int.sub_self]; exact D.zero _, h.word⟩
  · rw [if_neg hne]
    refine ⟨(d_wrap (by omega) _).trans ?_, wrap32_bounds _⟩
    rw [show x.r + x.m * n - x.r = x.m * n by omega, hm]
    exact ⟨n, rfl⟩
theorem leq_iff {x y : Rs} {i j : Nat} (h : G x i) (h' : G y j) : leq x y = true ↔ j ≤ i ∧ D j (x.r - y.r) := by
  unfold leq leq'
  rw [h.form, h'.form, if_neg h.ne, if_neg h'.ne]
  rcases h'.m with ⟨h0, rfl⟩ | ⟨hm, hk, hne⟩
  · rw [if_pos h0, decide_eq_true_eq]
    constructor
    · rintro rfl
      have := h.bt; have := h'.bt
      exact ⟨by omega, by rw [Int.sub_self]; exact D.zero _⟩
    · rintro ⟨h1, h2⟩
      have hi := h.le
      obtain rfl : i = 32 := by omega
      have e := h'.in32 h.word h2
      rcases h.m with ⟨g0, _⟩ | ⟨_, g, _⟩
      · obtain ⟨m, r⟩ := x; obtain ⟨m', r'⟩ := y; simp only at e g0 h0; subst e g0 h0; rfl
      · omega
  · rw [if_neg hne, hm, Bool.and_eq_true, Bool.or_eq_true, decide_eq_true_eq, decide_eq_true_eq, decide_eq_true_eq, D.mod]
    refine and_congr_left fun _ => ?_
    rcases h.m with ⟨g0, rfl⟩ | ⟨gm, gk, gne⟩
    · exact ⟨fun _ => by omega, fun _ => .inl g0⟩
    · rw [gm]
      constructor
      · rintro (h1 | h1)
        · have := p2_pos i; omega
        · by_cases hh : j ≤ i
          · exact hh
          · have := p2_lt (show i < j by omega); omega
      · exact fun h1 => .inr (p2_mono h1)
theorem leq_non (y : Rs) : leq non y = true := by unfold leq leq'; rw [form_non, if_pos rfl]
theorem leq_to_non {x : Rs} {k : Nat} (h : G x k) : leq x non = false := by unfold leq leq'; rw [form_non, h.form, if_neg h.ne, if_pos rfl]
theorem G.ext {x y : Rs} {k : Nat} (h : G x k) (h' : G y k) (hd : D k (x.r - y.r)) : x = y := by
  have hr : x.r = y.r := by
    rcases h with ⟨rfl, _, h1, h2⟩ | ⟨hk, hm, h1, h2⟩
    · exact h'.in32 ⟨h1, h2⟩ hd
    · rcases h' with ⟨rfl, _⟩ | ⟨_, _, g1, g2⟩
      · omega
      · have := hd.small (by omega) (by omega); omega
  have hm : x.m = y.m := by
    rcases h.m with ⟨h0, e⟩ | ⟨hm, hk, _⟩ <;> rcases h'.m with ⟨g0, e'⟩ | ⟨gm, gk, _⟩
    · omega
    · omega
    · omega
    · rw [hm, gm]
  obtain ⟨m, r⟩ := x; obtain ⟨m', r'⟩ := y
  simp only at hr hm
  subst hr hm
  rfl
theorem leq_refl (a : Rs) : leq (form a) (form a) = true := by
  rcases form_good a with h | ⟨k, h⟩
  · rw [h]; exact leq_non _
  · exact (leq_iff h h).2 ⟨Nat.le_refl _, by rw [Int.sub_self]; exact D.zero _⟩

/-! ### Operators -/
/-- One good residue has no words but those of another one. -/
def Sb (x' x : Rs) : Prop := ∃ i i', G x i ∧ G x' i' ∧ i ≤ i' ∧ D i (x'.r - x.r)
theorem Sb.leq {x' x : Rs} (h : Sb x' x) : leq x' x = true := by
  obtain ⟨i, i', h, h', hi, hd⟩ := h
  exact (leq_iff h' h).2 ⟨hi, hd⟩
theorem Sb.refl {x : Rs} {k : Nat} (h : G x k) : Sb x x := ⟨k, k, h, h, Nat.le_refl _, by rw [Int.sub_self]; exact D.zero _⟩
theorem sb_all {x : Rs} {k : Nat} (h : G x k) : Sb x all := ⟨0, k, g_all, h, Nat.zero_le _, d_zero _⟩
theorem sb_sing {x : Rs} {k : Nat} (h : G x k) {v : Int} (hv : -2147483648 ≤ v ∧ v ≤ 2147483647) (hd : D k (v - x.r)) : Sb (sing v) x :=
  ⟨k, 32, h, g_sing v, h.le, by show D k (wrap32 v - x.r); rw [wrap32_same hv]; exact hd⟩
theorem In.sb {x : Rs} {v : Int} (h : In x v) : Sb (sing v) x := by
  obtain ⟨k, h, hd, hw⟩ := h
  exact sb_sing h hw hd
theorem low_sb {n n' : Int} {k k' : Nat} (hk : k ≤ k') (hd : D (min k 30) (n' - n)) : Sb (low n' k') (low n k) :=
  ⟨min k 30, min k' 30, g_low n k, g_low n' k', by omega, (((d_emod _ n').less (by omega)).trans hd).trans (d_emod _ n).flip⟩
theorem sing_low {n n' : Int} {k : Nat} (hw : -2147483648 ≤ n' ∧ n' ≤ 2147483647) (hd : D (min k 30) (n' - n)) : Sb (sing n') (low n k) :=
  sb_sing (g_low n k) hw (hd.trans (d_emod _ n).flip)
theorem op_good {o : Int} {x y : Rs} {i j : Nat} (hx : G x i) (hy : G y j) : ∃ k, G (op o x y) k := by
  unfold op
  split
  · split
    · exact ⟨_, g_sing _⟩
    · exact ⟨_, g_all⟩
  · split
    · exact ⟨_, g_low _ _⟩
    · split
      · exact ⟨_, g_low _ _⟩
      · split
        · exact ⟨_, g_sing _⟩
        · exact ⟨_, g_all⟩
theorem val_eq {a b : Int} (ha : -2147483648 ≤ a ∧ a ≤ 2147483647) (hb : -2147483648 ≤ b ∧ b ≤ 2147483647) (h : a ≠ b) : val 13 a b = 0 ∧ val 14 a b = 1 := by
  have e1 : val 13 a b = wrap32 (Go.Proofs.YtmdakglbommopaaDoor.one (wrap32 a == wrap32 b)) := rfl
  have e2 : val 14 a b = wrap32 (Go.Proofs.YtmdakglbommopaaDoor.one (wrap32 a != wrap32 b)) := rfl
  rw [e1, e2, wrap32_same ha, wrap32_same hb]
  have h1 : (a == b) = false := by simp [h]
  have h2 : (a != b) = true := by simp [h]
  rw [h1, h2]
  exact ⟨show wrap32 0 = 0 from wrap32_same (by omega), show wrap32 1 = 1 from wrap32_same (by omega)⟩
/-- Fewer words, fewer results. -/
theorem op_sb {o : Int} (ho : 1 ≤ o ∧ o ≤ 14) {x x' y y' : Rs} (hx : Sb x' x) (hy : Sb y' y) : Sb (op o x' y') (op o x y) := by
  obtain ⟨i, i', gx, gx', hi, dx⟩ := hx
  obtain ⟨j, j', gy, gy', hj, dy⟩ := hy
  obtain ⟨k', gz⟩ := op_good (o := o) gx' gy'
  have bx := gx.bt
  have by_ := gy.bt
  have bx' := gx'.bt
  have by' := gy'.bt
  have li' := gx'.le
  have lj' := gy'.le
  by_cases h1 : x.m = 0 ∧ y.m = 0
  · -- both of one word
    have e1 : i = 32 := by rcases gx.m with ⟨_, e⟩ | ⟨_, _, e⟩; exact e; exact absurd h1.1 e
    have e2 : j = 32 := by rcases gy.m with ⟨_, e⟩ | ⟨_, _, e⟩; exact e; exact absurd h1.2 e
    subst e1 e2
    obtain rfl : i' = 32 := by omega
    obtain rfl : j' = 32 := by omega
    obtain rfl := gx'.ext gx dx
    obtain rfl := gy'.ext gy dy
    exact Sb.refl gz
  · have hm : min i j ≤ 30 := by
      rcases gx.m with ⟨e, e'⟩ | ⟨_, e, _⟩
      · rcases gy.m with ⟨f, f'⟩ | ⟨_, f, _⟩
        · exact absurd ⟨e, f⟩ h1
        · omega
      · omega
    have dm : D (min i j) (x'.r - x.r) := dx.less (by omega)
    have dm' : D (min i j) (y'.r - y.r) := dy.less (by omega)
    by_cases h2 : o = 1 ∨ o = 2 ∨ o = 3 ∨ o = 6 ∨ o = 7 ∨ o = 8
    · have e : op o x y = low (val o x.r y.r) (min i j) := by unfold op; rw [if_neg h1, if_pos h2, bx, by_]
      rw [e]
      have hd : D (min (min i j) 30) (val o x'.r y'.r - val o x.r y.r) := (val_low h2 (by omega) dm dm').less (by omega)
      by_cases h3 : x'.m = 0 ∧ y'.m = 0
      · have e' : op o x' y' = sing (val o x'.r y'.r) := by unfold op; rw [if_pos h3, if_pos ho]
        rw [e']
        exact sing_low (val_bounds _ _ _) hd
      · have e' : op o x' y' = low (val o x'.r y'.r) (min i' j') := by unfold op; rw [if_neg h3, if_pos h2, bx', by']
        rw [e']
        exact low_sb (by omega) hd
    · by_cases h4 : o = 9 ∧ y.m = 0
      · obtain ⟨rfl, hy0⟩ := h4
        have e2 : j = 32 := by rcases gy.m with ⟨_, e⟩ | ⟨_, _, e⟩; exact e; exact absurd hy0 e
        subst e2
        obtain rfl : j' = 32 := by omega
        obtain rfl := gy'.ext gy dy
        have e : op 9 x y' = low (val 9 x.r (y'.r % 32)) (i + (y'.r % 32).toNat) := by unfold op; rw [if_neg h1, if_neg h2, if_pos ⟨rfl, hy0⟩, bx]
        rw [e]
        have hd : D (min (i + (y'.r % 32).toNat) 30) (val 9 x'.r (y'.r % 32) - val 9 x.r (y'.r % 32)) := val_shl dx (by omega) (by omega) (by omega)
        by_cases h3 : x'.m = 0
        · have e' : op 9 x' y' = sing (val 9 x'.r y'.r) := by unfold op; rw [if_pos ⟨h3, hy0⟩, if_pos ho]
          rw [e']
          refine sing_low (val_bounds _ _ _) ?_
          have e3 : val 9 x'.r y'.r = val 9 x'.r (y'.r % 32) := by
            show wrap32 (wrap32 x'.r * 2 ^ (wrap32 y'.r % 32).toNat) = wrap32 (wrap32 x'.r * 2 ^ (wrap32 (y'.r % 32) % 32).toNat)
            rw [wrap32_same (n := y'.r % 32) (by omega), wrap32_same gy.word, Int.emod_emod]
          rw [e3]
          exact hd
        · have e' : op 9 x' y' = low (val 9 x'.r (y'.r % 32)) (i' + (y'.r % 32).toNat) := by unfold op; rw [if_neg (fun h => h3 h.1), if_neg h2, if_pos ⟨rfl, hy0⟩, bx']
          rw [e']
          exact low_sb (by omega) hd
      · by_cases h5 : (o = 13 ∨ o = 14) ∧ (x.r - y.r) % 2 ^ min i j ≠ 0
        · have e : op o x y = sing (if o = 13 then 0 else 1) := by unfold op; rw [if_neg h1, if_neg h2, if_neg h4, if_pos (by rw [bx, by_]; exact h5)]
          rw [e]
          have hne : ¬ D (min i j) (x'.r - y'.r) := fun h => h5.2 (D.mod.2 ((dm.flip.trans h).trans dm'))
          by_cases h3 : x'.m = 0 ∧ y'.m = 0
          · have e' : op o x' y' = sing (val o x'.r y'.r) := by unfold op; rw [if_pos h3, if_pos ho]
            have hv := val_eq gx'.word gy'.word (fun e => hne (by rw [e, Int.sub_self]; exact D.zero _))
            rw [e']
            rcases h5.1 with rfl | rfl
            · rw [hv.1]; exact Sb.refl (g_sing _)
            · rw [hv.2]; exact Sb.refl (g_sing _)
          · have h6 : (o = 13 ∨ o = 14) ∧ (x'.r - y'.r) % 2 ^ min i' j' ≠ 0 := ⟨h5.1, fun h => hne ((D.mod.1 h).less (by omega))⟩
            have e' : op o x' y' = sing (if o = 13 then 0 else 1) := by unfold op; rw [if_neg h3, if_neg h2, if_neg (by rintro ⟨rfl, _⟩; omega), if_pos (by rw [bx', by']; exact h6)]
            rw [e']
            exact Sb.refl (g_sing _)
        · have e : op o x y = all := by unfold op; rw [if_neg h1, if_neg h2, if_neg h4, if_neg (by rw [bx, by_]; exact h5)]
          rw [e]
          exact sb_all gz
/-- The result for words is a word of the result. -/
theorem op_in {o : Int} (ho : 1 ≤ o ∧ o ≤ 14) {x y : Rs} {u v : Int} (hx : In x u) (hy : In y v) : In (op o x y) (val o u v) := by
  have h := op_sb ho hx.sb hy.sb
  obtain ⟨_, _, _, hu⟩ := hx
  obtain ⟨_, _, _, hv⟩ := hy
  have e : op o (sing u) (sing v) = sing (val o u v) := by
    unfold op
    rw [if_pos ⟨rfl, rfl⟩, if_pos ho]
    show sing (val o (wrap32 u) (wrap32 v)) = _
    rw [wrap32_same hu, wrap32_same hv]
  rw [e] at h
  obtain ⟨i, i', g, g', _, hd⟩ := h
  refine ⟨i, g, ?_, val_bounds _ _ _⟩
  have hd' : D i (wrap32 (val o u v) - (op o x y).r) := hd
  rwa [wrap32_same (val_bounds _ _ _)] at hd'
/-- Adding and subtracting the same word leads back. -/
theorem op_back {x z : Rs} {i : Nat} (hx : G x i) (hz : G z 32) : op 2 (op 1 x z) z = x := by
  have hz0 : z.m = 0 := by rcases hz.m with ⟨e, _⟩ | ⟨_, e, _⟩; exact e; omega
  have bz := hz.bt
  have back : ∀ {k : Nat} (n : Int), k ≤ 32 → D k (n - val 1 x.r z.r) → D k (val 2 n z.r - x.r) := fun {k} n hk hd => by
    have h1 := val_low (o := 2) (by omega) hk hd (show D k (z.r - z.r) by rw [Int.sub_self]; exact D.zero _)
    refine h1.trans ?_
    have e : D k (val 2 (val 1 x.r z.r) z.r - x.r) := by
      refine (d_wrap hk _).trans ?_
      show D k (wrap32 (val 1 x.r z.r) - wrap32 z.r - x.r)
      rw [wrap32_same (val_bounds 1 _ _), wrap32_same hz.word]
      have h2 : D k (val 1 x.r z.r - (x.r + z.r)) := by
        show D k (wrap32 (wrap32 x.r + wrap32 z.r) - _)
        rw [wrap32_same hx.word, wrap32_same hz.word]
        exact d_wrap hk _
      rwa [show val 1 x.r z.r - (x.r + z.r) = val 1 x.r z.r - z.r - x.r by omega] at h2
    exact e
  by_cases h0 : x.m = 0
  · have e1 : op 1 x z = sing (val 1 x.r z.r) := by unfold op; rw [if_pos ⟨h0, hz0⟩, if_pos (by omega)]
    have e2 : op 2 (sing (val 1 x.r z.r)) z = sing (val 2 (wrap32 (val 1 x.r z.r)) z.r) := by unfold op; rw [if_pos ⟨rfl, hz0⟩, if_pos (by omega)]; rfl
    have hi : i = 32 := by rcases hx.m with ⟨_, e⟩ | ⟨_, _, e⟩; exact e; exact absurd h0 e
    subst hi
    rw [e1, e2]
    refine (g_sing _).ext hx ?_
    show D 32 (wrap32 (val 2 (wrap32 (val 1 x.r z.r)) z.r) - x.r)
    rw [wrap32_same (val_bounds _ _ _), wrap32_same (val_bounds 1 _ _)]
    exact back _ (Nat.le_refl _) (by rw [Int.sub_self]; exact D.zero _)
  · have hi : i ≤ 30 := by rcases hx.m with ⟨e, _⟩ | ⟨_, e, _⟩; exact absurd e h0; exact e
    have e1 : op 1 x z = low (val 1 x.r z.r) i := by unfold op; rw [if_neg (fun h => h0 h.1), if_pos (by omega), hx.bt, bz, show min i 32 = i by omega]
    have g1 := g_low (val 1 x.r z.r) i
    rw [show min i 30 = i by omega] at g1
    have hm1 : (low (val 1 x.r z.r) i).m ≠ 0 := by rcases g1.m with ⟨_, e⟩ | ⟨_, _, e⟩; omega; exact e
    have e2 : op 2 (low (val 1 x.r z.r) i) z = low (val 2 (low (val 1 x.r z.r) i).r z.r) i := by unfold op; rw [if_neg (fun h => hm1 h.1), if_pos (by omega), g1.bt, bz, show min i 32 = i by omega]
    rw [e1, e2]
    have g2 := g_low (val 2 (low (val 1 x.r z.r) i).r z.r) i
    rw [show min i 30 = i by omega] at g2
    refine g2.ext hx ?_
    have h3 := d_emod (min i 30) (val 2 (low (val 1 x.r z.r) i).r z.r)
    have h4 := d_emod (min i 30) (val 1 x.r z.r)
    rw [show min i 30 = i by omega] at h3 h4
    refine D.trans (b := val 2 (low (val 1 x.r z.r) i).r z.r) ?_ (back _ (by omega) ?_)
    · show D i (val 2 (low (val 1 x.r z.r) i).r z.r % 2 ^ min i 30 - _)
      rw [show min i 30 = i by omega]; exact h3
    · show D i (val 1 x.r z.r % 2 ^ min i 30 - _)
      rw [show min i 30 = i by omega]; exact h4
end Rs
end Go.Proofs.YtmdakglbommopaaDoor
