/- Residues of words as plain pairs of integers: what the document's sentences say of them. No condition. -/
import Derived.Test.YtmdakglbommopaaDoorWdPlain
namespace Go.Proofs.YtmdakglbommopaaDoor
open Go.RowKit (wrap32 wrap64)
set_option linter.unusedVariables false
set_option linter.unusedSimpArgs false

structure Rs where
  m : Int
  r : Int
deriving DecidableEq
namespace Rs
def all : Rs := ⟨1, 0⟩
def non : Rs := ⟨-1, 0⟩
def sing (n : Int) : Rs := ⟨0, wrap32 n⟩
/-- The least k from a number on, so many at most, with 2^k at least m. -/
def lgFrom : Nat → Nat → Int → Nat
  | 0, k, _ => k
  | f + 1, k, m => if 2 ^ k < m then lgFrom f (k + 1) m else k
def lg (m : Int) : Nat := lgFrom 31 0 m
def bt (a : Rs) : Nat := if a.m = 0 then 32 else lg a.m
def ok (a : Rs) : Bool := if a.m = -1 then decide (a.r = 0) else if a.m = 0 then decide (wrap32 a.r = a.r) else decide (1 ≤ a.m) && decide (a.m ≤ 1073741824) && decide ((2 : Int) ^ lg a.m = a.m) && decide (0 ≤ a.r) && decide (a.r < a.m)
def form (a : Rs) : Rs := if ok a = true then a else all
def low (n : Int) (k : Nat) : Rs := ⟨2 ^ min k 30, n % 2 ^ min k 30⟩
def has' (x : Rs) (n : Int) : Bool := decide (x ≠ non) && decide (wrap32 n = n) && (if x.m = 0 then decide (n = x.r) else decide ((n - x.r) % x.m = 0))
def has (a : Rs) (n : Int) : Bool := has' (form a) n
def leq' (x y : Rs) : Bool := if x = non then true else if y = non then false else if y.m = 0 then decide (x = y) else (decide (x.m = 0) || decide (y.m ≤ x.m)) && decide ((x.r - y.r) % y.m = 0)
def leq (a b : Rs) : Bool := leq' (form a) (form b)
/-- The greatest number up to k whose power of two divides d. -/
def down : Nat → Int → Nat
  | 0, _ => 0
  | k + 1, d => if d % 2 ^ (k + 1) = 0 then k + 1 else down k d
def join' (x y : Rs) : Rs := if x = non then y else if y = non ∨ x = y then x else low x.r (down (min (min (bt x) (bt y)) 30) (x.r - y.r))
def join (a b : Rs) : Rs := join' (form a) (form b)
def meet (a b : Rs) : Rs := if leq a b = true then form a else if leq b a = true then form b else non
/-- What Do answers for two residues that are not None. -/
def op (o : Int) (x y : Rs) : Rs :=
  if x.m = 0 ∧ y.m = 0 then (if 1 ≤ o ∧ o ≤ 14 then sing (val o x.r y.r) else all)
  else if o = 1 ∨ o = 2 ∨ o = 3 ∨ o = 6 ∨ o = 7 ∨ o = 8 then low (val o x.r y.r) (min (bt x) (bt y))
  else if o = 9 ∧ y.m = 0 then low (val 9 x.r (y.r % 32)) (bt x + (y.r % 32).toNat)
  else if (o = 13 ∨ o = 14) ∧ (x.r - y.r) % 2 ^ min (bt x) (bt y) ≠ 0 then sing (if o = 13 then 0 else 1)
  else all
def act (o : Int) (a b : Rs) : Rs := if form a = non ∨ form b = non then non else op o (form a) (form b)

/-! ### Powers of two -/
theorem p2_pos (k : Nat) : (1 : Int) ≤ 2 ^ k := by
  have := Nat.pow_pos (n := k) (show 0 < 2 by omega)
  exact_mod_cast this
theorem p2_mono {a b : Nat} (h : a ≤ b) : (2 : Int) ^ a ≤ 2 ^ b := by
  have := Nat.pow_le_pow_right (show 0 < 2 by omega) h
  exact_mod_cast this
theorem p2_lt {a b : Nat} (h : a < b) : (2 : Int) ^ a < 2 ^ b := by
  have := Nat.pow_lt_pow_right (show 1 < 2 by omega) h
  exact_mod_cast this
theorem p2_dvd {a b : Nat} (h : a ≤ b) : (2 : Int) ^ a ∣ 2 ^ b := by
  have := Nat.pow_dvd_pow 2 h
  exact_mod_cast this
theorem p2_30 {k : Nat} (h : k ≤ 30) : (2 : Int) ^ k ≤ 1073741824 := by
  have := p2_mono h
  have e : (2 : Int) ^ 30 = 1073741824 := by decide
  omega
theorem lgFrom_p2 : ∀ (f k j : Nat), k ≤ j → j ≤ k + f → lgFrom f k (2 ^ j) = j
  | 0, k, j, h1, h2 => by simp only [lgFrom]; omega
  | f + 1, k, j, h1, h2 => by
    simp only [lgFrom]
    by_cases h : k = j
    · subst h; rw [if_neg (by omega)]
    · rw [if_pos (p2_lt (by omega))]
      exact lgFrom_p2 f (k + 1) j (by omega) (by omega)
theorem lg_p2 {j : Nat} (h : j ≤ 30) : lg (2 ^ j) = j := lgFrom_p2 31 0 j (by omega) (by omega)
theorem lgFrom_step {f k : Nat} {m : Int} (h : (2 : Int) ^ k < m) : lgFrom (f + 1) k m = lgFrom f (k + 1) m := by rw [lgFrom, if_pos h]
theorem lgFrom_stop {f k : Nat} {m : Int} (h : ¬ (2 : Int) ^ k < m) : lgFrom (f + 1) k m = k := by rw [lgFrom, if_neg h]

/-! ### Good residues: not None, of k bits -/
def G (x : Rs) (k : Nat) : Prop := (k = 32 ∧ x.m = 0 ∧ -2147483648 ≤ x.r ∧ x.r ≤ 2147483647) ∨ (k ≤ 30 ∧ x.m = 2 ^ k ∧ 0 ≤ x.r ∧ x.r < 2 ^ k)
theorem G.bt {x : Rs} {k : Nat} (h : G x k) : x.bt = k := by
  unfold Rs.bt
  rcases h with ⟨rfl, h, _⟩ | ⟨hk, h, _⟩
  · rw [if_pos h]
  · rw [if_neg (by have := p2_pos k; omega), h, lg_p2 hk]
theorem G.ok {x : Rs} {k : Nat} (h : G x k) : ok x = true := by
  unfold Rs.ok
  rcases h with ⟨_, h, h1, h2⟩ | ⟨hk, h, h1, h2⟩
  · rw [if_neg (by omega), if_pos h]; simpa using wrap32_same ⟨h1, h2⟩
  · have := p2_pos k
    have := p2_30 hk
    rw [if_neg (by omega), if_neg (by omega), h, lg_p2 hk]
    simp [h1, h2]; omega
theorem non_ok : ok non = true := by decide
theorem G.form {x : Rs} {k : Nat} (h : G x k) : form x = x := by unfold Rs.form; rw [if_pos h.ok]
theorem form_non : form non = non := by decide
theorem G.ne {x : Rs} {k : Nat} (h : G x k) : x ≠ non := by
  rintro rfl
  rcases h with ⟨_, h, _⟩ | ⟨_, h, _⟩
  · simp [non] at h
  · have := p2_pos k; simp only [non] at h; omega
theorem G.m {x : Rs} {k : Nat} (h : G x k) : x.m = 0 ∧ k = 32 ∨ x.m = 2 ^ k ∧ k ≤ 30 ∧ x.m ≠ 0 := by
  rcases h with ⟨h0, h, _⟩ | ⟨hk, h, _⟩
  · exact .inl ⟨h, h0⟩
  · exact .inr ⟨h, hk, by have := p2_pos k; omega⟩
theorem G.word {x : Rs} {k : Nat} (h : G x k) : -2147483648 ≤ x.r ∧ x.r ≤ 2147483647 := by
  rcases h with ⟨_, _, h1, h2⟩ | ⟨hk, _, h1, h2⟩
  · exact ⟨h1, h2⟩
  · have := p2_30 hk; omega
theorem G.le {x : Rs} {k : Nat} (h : G x k) : k ≤ 32 := by rcases h with ⟨h, _⟩ | ⟨h, _⟩ <;> omega
theorem g_all : G all 0 := .inr ⟨by omega, rfl, by decide, by decide⟩
theorem g_sing (n : Int) : G (sing n) 32 := .inl ⟨rfl, rfl, wrap32_bounds n⟩
theorem g_low (n : Int) (k : Nat) : G (low n k) (min k 30) := .inr ⟨by omega, rfl, Int.emod_nonneg _ (by have := p2_pos (min k 30); omega), Int.emod_lt_of_pos _ (by have := p2_pos (min k 30); omega)⟩
theorem form_good (a : Rs) : form a = non ∨ ∃ k, G (form a) k := by
  unfold form
  by_cases h : ok a = true
  · rw [if_pos h]
    unfold ok at h
    by_cases h1 : a.m = -1
    · rw [if_pos h1] at h
      have h2 : a.r = 0 := by simpa using h
      exact .inl (by obtain ⟨m, r⟩ := a; simp only at h1 h2; subst h1 h2; rfl)
    · rw [if_neg h1] at h
      by_cases h2 : a.m = 0
      · rw [if_pos h2] at h
        have h3 : wrap32 a.r = a.r := by simpa using h
        exact .inr ⟨32, .inl ⟨rfl, h2, by rw [← h3]; exact wrap32_bounds _⟩⟩
      · rw [if_neg h2] at h
        simp only [Bool.and_eq_true, decide_eq_true_eq] at h
        obtain ⟨⟨⟨⟨h3, h4⟩, h5⟩, h6⟩, h7⟩ := h
        refine .inr ⟨lg a.m, .inr ⟨?_, h5.symm, h6, by rw [h5]; exact h7⟩⟩
        have e : (2 : Int) ^ 30 = 1073741824 := by decide
        by_cases h8 : lg a.m ≤ 30
        · exact h8
        · have := p2_lt (show 30 < lg a.m by omega); omega
  · rw [if_neg h]; exact .inr ⟨0, g_all⟩
theorem form_form (a : Rs) : form (form a) = form a := by
  rcases form_good a with h | ⟨k, h⟩
  · rw [h]; exact form_non
  · exact h.form
end Rs
end Go.Proofs.YtmdakglbommopaaDoor
