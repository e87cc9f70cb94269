/- Facts as plain lists of pairs (a block, a coefficient), in the specification's words. No condition. -/
import Derived.Below
namespace Go.Proofs.Ytpinncjnfbebkaa
set_option linter.unusedVariables false
set_option linter.unusedSimpArgs false
namespace Fa
abbrev Tms := List (Int × Int)
def inC (n : Int) : Bool := decide (-1048576 ≤ n) && decide (n ≤ 1048576)
/-- Whether term i is none of a valid fact's. -/
def bad (l : Tms) (i : Nat) : Bool :=
  decide ((l.getD i (0, 0)).1 < 0) || decide (255 < (l.getD i (0, 0)).1) || decide ((l.getD i (0, 0)).2 = 0) || !inC (l.getD i (0, 0)).2 || (decide (0 < i) && decide ((l.getD i (0, 0)).1 ≤ (l.getD (i - 1) (0, 0)).1))
/-- The error of Check. -/
def chk (l : Tms) (most : Int) : Int := if 64 < l.length then 4 else if inC most = false then 10 else if ∃ i, i < l.length ∧ bad l i = true then 10 else 0
theorem chk_limit {l : Tms} {most : Int} (h : 64 < l.length) : chk l most = 4 := if_pos h
theorem chk_most {l : Tms} {most : Int} (h : ¬ 64 < l.length) (hm : inC most = false) : chk l most = 10 := by unfold chk; rw [if_neg h, if_pos hm]
theorem chk_bad {l : Tms} {most : Int} (h : ¬ 64 < l.length) {i : Nat} (hi : i < l.length) (hb : bad l i = true) : chk l most = 10 := by
  unfold chk; rw [if_neg h]; split
  · rfl
  · rw [if_pos ⟨i, hi, hb⟩]
theorem chk_ok {l : Tms} {most : Int} (h : ¬ 64 < l.length) (hm : inC most = true) (hb : ∀ i, i < l.length → bad l i = false) : chk l most = 0 := by
  unfold chk; rw [if_neg h, if_neg (by simp [hm]), if_neg]
  rintro ⟨i, hi, h2⟩
  rw [hb i hi] at h2
  exact absurd h2 (by decide)
/-- Terms of a valid fact. -/
theorem ok_of {l : Tms} {most : Int} (h : chk l most = 0) : l.length ≤ 64 ∧ inC most = true ∧ ∀ i, i < l.length → bad l i = false := by
  unfold chk at h
  split at h
  · exact absurd h (by decide)
  · rename_i h1
    split at h
    · exact absurd h (by decide)
    · rename_i h2
      split at h
      · exact absurd h (by decide)
      · rename_i h3
        refine ⟨by omega, by simpa using h2, fun i hi => ?_⟩
        cases hb : bad l i
        · rfl
        · exact absurd ⟨i, hi, hb⟩ h3
theorem inC_iff {n : Int} : inC n = true ↔ -1048576 ≤ n ∧ n ≤ 1048576 := by unfold inC; simp
theorem ok_term {l : Tms} {most : Int} (h : chk l most = 0) {i : Nat} (hi : i < l.length) : (0 ≤ (l.getD i (0, 0)).1 ∧ (l.getD i (0, 0)).1 ≤ 255) ∧ (-1048576 ≤ (l.getD i (0, 0)).2 ∧ (l.getD i (0, 0)).2 ≤ 1048576) := by
  have hb := (ok_of h).2.2 i hi
  unfold bad at hb
  simp only [Bool.or_eq_false_iff, decide_eq_false_iff_not, Bool.not_eq_false'] at hb
  obtain ⟨⟨⟨⟨h1, h2⟩, _⟩, h4⟩, _⟩ := hb
  exact ⟨⟨by omega, by omega⟩, inC_iff.1 h4⟩
/-- A count that is out of its range. -/
def cbad (c : Int) : Bool := decide (c < 0) || decide (2147483648 < c)
/-- The sum of the first k terms. -/
def sm (l : Tms) (cs : List Int) : Nat → Int
  | 0 => 0
  | k + 1 => sm l cs k + if (l.getD k (0, 0)).1 < cs.length then (l.getD k (0, 0)).2 * cs.getD (l.getD k (0, 0)).1.toNat 0 else 0
/-- Sum: the number and the error. -/
def sumR (l : Tms) (most : Int) (cs : List Int) : Int × Int :=
  if chk l most ≠ 0 then (0, chk l most) else if 256 < cs.length then (0, 3) else if ∃ i, i < cs.length ∧ cbad (cs.getD i 0) = true then (0, 3) else (sm l cs l.length, 0)
theorem sum_chk {l : Tms} {most : Int} {cs : List Int} (h : chk l most ≠ 0) : sumR l most cs = (0, chk l most) := if_pos h
theorem sum_long {l : Tms} {most : Int} {cs : List Int} (h : chk l most = 0) (h2 : 256 < cs.length) : sumR l most cs = (0, 3) := by unfold sumR; rw [if_neg (by simp [h]), if_pos h2]
theorem sum_bad {l : Tms} {most : Int} {cs : List Int} (h : chk l most = 0) (h2 : ¬ 256 < cs.length) {i : Nat} (hi : i < cs.length) (hb : cbad (cs.getD i 0) = true) : sumR l most cs = (0, 3) := by
  unfold sumR; rw [if_neg (by simp [h]), if_neg h2, if_pos ⟨i, hi, hb⟩]
theorem sum_ok {l : Tms} {most : Int} {cs : List Int} (h : chk l most = 0) (h2 : ¬ 256 < cs.length) (hb : ∀ i, i < cs.length → cbad (cs.getD i 0) = false) : sumR l most cs = (sm l cs l.length, 0) := by
  unfold sumR; rw [if_neg (by simp [h]), if_neg h2, if_neg]
  rintro ⟨i, hi, h3⟩
  rw [hb i hi] at h3
  exact absurd h3 (by decide)
theorem prod_bds {a b : Int} (ha : -1048576 ≤ a ∧ a ≤ 1048576) (hb : 0 ≤ b ∧ b ≤ 2147483648) : -2251799813685248 ≤ a * b ∧ a * b ≤ 2251799813685248 := by
  have h1 : a * b ≤ 1048576 * b := Int.mul_le_mul_of_nonneg_right ha.2 hb.1
  have h2 : -1048576 * b ≤ a * b := Int.mul_le_mul_of_nonneg_right ha.1 hb.1
  omega
theorem cok {c : Int} (h : cbad c = false) : 0 ≤ c ∧ c ≤ 2147483648 := by unfold cbad at h; simp at h; omega
theorem sm_bds {l : Tms} {most : Int} {cs : List Int} (h : chk l most = 0) (hb : ∀ i, i < cs.length → cbad (cs.getD i 0) = false) : ∀ k, k ≤ l.length → -(2251799813685248 * (k : Int)) ≤ sm l cs k ∧ sm l cs k ≤ 2251799813685248 * (k : Int)
  | 0, _ => by simp [sm]
  | k + 1, hk => by
    have ih := sm_bds h hb k (by omega)
    have ht := ok_term h (i := k) (by omega)
    simp only [sm]
    split
    · rename_i hlt
      have hc := cok (hb (l.getD k (0, 0)).1.toNat (by omega))
      have hp := prod_bds ht.2 hc
      have e : ((k + 1 : Nat) : Int) = (k : Int) + 1 := by omega
      rw [e]
      omega
    · have e : ((k + 1 : Nat) : Int) = (k : Int) + 1 := by omega
      rw [e]
      omega
def holds (l : Tms) (most : Int) (cs : List Int) : Bool := decide ((sumR l most cs).2 = 0) && decide ((sumR l most cs).1 ≤ most)
/-! ### Of -/
def tbad (t : Int × Int) : Bool := decide (t.1 < 0) || decide (255 < t.1) || !inC t.2
/-- The sum of the coefficients of block o among the first k terms. -/
def sumTo (l : Tms) (o : Nat) : Nat → Int
  | 0 => 0
  | k + 1 => sumTo l o k + if (l.getD k (0, 0)).1 = o then (l.getD k (0, 0)).2 else 0
def sumAt (l : Tms) (o : Nat) : Int := sumTo l o l.length
/-- What is left of the blocks below k. -/
def normTo (l : Tms) : Nat → Tms
  | 0 => []
  | k + 1 => normTo l k ++ if sumAt l k = 0 then [] else [((k : Int), sumAt l k)]
def rightTo (l : Tms) : Nat → Bool
  | 0 => true
  | k + 1 => rightTo l k && (decide (sumAt l k = 0) || inC (sumAt l k))
/-- Of: the terms, most and the error. -/
def ofR (l : Tms) (most : Int) : Tms × Int × Int :=
  if 1024 < l.length then ([], 0, 4) else if inC most = false then ([], 0, 3) else if ∃ i, i < l.length ∧ tbad (l.getD i (0, 0)) = true then ([], 0, 3)
  else if 64 < (normTo l 256).length then ([], 0, 4) else if rightTo l 256 = false then ([], 0, 3) else (normTo l 256, most, 0)
theorem of_long {l : Tms} {most : Int} (h : 1024 < l.length) : ofR l most = ([], 0, 4) := if_pos h
theorem of_most {l : Tms} {most : Int} (h : ¬ 1024 < l.length) (h2 : inC most = false) : ofR l most = ([], 0, 3) := by unfold ofR; rw [if_neg h, if_pos h2]
theorem of_bad {l : Tms} {most : Int} (h : ¬ 1024 < l.length) (h2 : inC most = true) {i : Nat} (hi : i < l.length) (hb : tbad (l.getD i (0, 0)) = true) : ofR l most = ([], 0, 3) := by
  unfold ofR; rw [if_neg h, if_neg (by simp [h2]), if_pos ⟨i, hi, hb⟩]
theorem of_good {l : Tms} {most : Int} (h : ¬ 1024 < l.length) (h2 : inC most = true) (hb : ∀ i, i < l.length → tbad (l.getD i (0, 0)) = false) :
    ofR l most = if 64 < (normTo l 256).length then ([], 0, 4) else if rightTo l 256 = false then ([], 0, 3) else (normTo l 256, most, 0) := by
  unfold ofR; rw [if_neg h, if_neg (by simp [h2]), if_neg]
  rintro ⟨i, hi, h3⟩
  rw [hb i hi] at h3
  exact absurd h3 (by decide)
theorem t_ok {t : Int × Int} (h : tbad t = false) : (0 ≤ t.1 ∧ t.1 ≤ 255) ∧ (-1048576 ≤ t.2 ∧ t.2 ≤ 1048576) := by
  unfold tbad at h
  simp only [Bool.or_eq_false_iff, decide_eq_false_iff_not, Bool.not_eq_false'] at h
  exact ⟨⟨by omega, by omega⟩, inC_iff.1 h.2⟩
theorem sum_bds {l : Tms} (hb : ∀ i, i < l.length → tbad (l.getD i (0, 0)) = false) (o : Nat) : ∀ k, k ≤ l.length → -(1048576 * (k : Int)) ≤ sumTo l o k ∧ sumTo l o k ≤ 1048576 * (k : Int)
  | 0, _ => by simp [sumTo]
  | k + 1, hk => by
    have ih := sum_bds hb o k (by omega)
    have ht := t_ok (hb k (by omega))
    simp only [sumTo]
    have e : ((k + 1 : Nat) : Int) = (k : Int) + 1 := by omega
    rw [e]
    split <;> omega
theorem norm_len (l : Tms) : ∀ k, (normTo l k).length ≤ k
  | 0 => by simp [normTo]
  | k + 1 => by
    have ih := norm_len l k
    simp only [normTo, List.length_append]
    split <;> simp <;> omega
theorem sum_lt {l : Tms} (o : Nat) : ∀ {k : Nat}, (∀ i, i < k → tbad (l.getD i (0, 0)) = false) → -(1048576 * (k : Int)) ≤ sumTo l o k ∧ sumTo l o k ≤ 1048576 * (k : Int)
  | 0, _ => by simp [sumTo]
  | k + 1, hb => by
    have ih := sum_lt o (k := k) (fun i hi => hb i (by omega))
    have ht := t_ok (hb k (by omega))
    simp only [sumTo]
    have e : ((k + 1 : Nat) : Int) = (k : Int) + 1 := by omega
    rw [e]
    split <;> omega
end Fa
end Go.Proofs.Ytpinncjnfbebkaa
