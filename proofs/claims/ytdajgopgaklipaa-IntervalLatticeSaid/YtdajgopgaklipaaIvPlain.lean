/- Intervals of words as plain pairs of integers: what the document's sentences say of them. No condition. -/
import Derived.WalkKit
import Derived.IntWalk
namespace Go.Proofs.Ytdajgopgaklipaa
open Go.RowKit (wrap32 wrap64)

structure Iv where
  lo : Int
  hi : Int
deriving DecidableEq
namespace Iv
def all : Iv := ⟨-2147483648, 2147483647⟩
def non : Iv := ⟨1, 0⟩
def ok (a : Iv) : Bool := decide (a = non) || (decide (-2147483648 ≤ a.lo) && decide (a.lo ≤ a.hi) && decide (a.hi ≤ 2147483647))
def form (a : Iv) : Iv := if ok a = true then a else all
def mk' (p q : Int) : Iv := if q < p then non else ⟨p, q⟩
def has (a : Iv) (n : Int) : Bool := decide (form a ≠ non) && decide ((form a).lo ≤ n) && decide (n ≤ (form a).hi)
def join (a b : Iv) : Iv := if form a = non then form b else if form b = non then form a else mk' (min (form a).lo (form b).lo) (max (form a).hi (form b).hi)
def meet (a b : Iv) : Iv := if form a = non ∨ form b = non then non else mk' (max (form a).lo (form b).lo) (min (form a).hi (form b).hi)
def leq (a b : Iv) : Bool := decide (meet a b = form a)
def min4 (a b c d : Int) : Int := min (min (min a b) c) d
def max4 (a b c d : Int) : Int := max (max (max a b) c) d
def hull (a b c d : Int) : Iv := if min4 a b c d < -2147483648 ∨ 2147483647 < max4 a b c d then all else mk' (min4 a b c d) (max4 a b c d)
/-- The least 2^k - 1 that is at least n. -/
def bitsFrom : Nat → Int → Int → Int
  | 0, k, _ => k
  | f + 1, k, n => if k < n then bitsFrom f (2 * k + 1) n else k
def ones (n : Int) : Int := bitsFrom 32 0 n
def truth (always never : Bool) : Iv := if always = true then ⟨1, 1⟩ else if never = true then ⟨0, 0⟩ else ⟨0, 1⟩
/-- What Do answers for two intervals that are not None. -/
def op (o p q r s : Int) : Iv :=
  if o = 1 then hull (p + r) (q + s) (p + r) (q + s)
  else if o = 2 then hull (p - s) (q - r) (p - s) (q - r)
  else if o = 3 then hull (p * r) (p * s) (q * r) (q * s)
  else if o = 4 then (if 1 ≤ r then hull (p.tdiv r) (p.tdiv s) (q.tdiv r) (q.tdiv s) else all)
  else if o = 5 then (if 1 ≤ r then mk' (if 0 ≤ p then 0 else max p (1 - s)) (if q ≤ 0 then 0 else min q (s - 1)) else all)
  else if o = 6 then (if 0 ≤ p ∧ 0 ≤ r then mk' 0 (min q s) else if 0 ≤ p then mk' 0 q else if 0 ≤ r then mk' 0 s else all)
  else if o = 7 then (if 0 ≤ p ∧ 0 ≤ r then mk' (max p r) (ones (max q s)) else all)
  else if o = 8 then (if 0 ≤ p ∧ 0 ≤ r then mk' 0 (ones (max q s)) else all)
  else if o = 9 then (if r = s ∧ 0 ≤ r ∧ r ≤ 31 ∧ 0 ≤ p ∧ q * 2 ^ r.toNat ≤ 2147483647 then mk' (p * 2 ^ r.toNat) (q * 2 ^ r.toNat) else all)
  else if o = 10 then (if 0 ≤ r ∧ s ≤ 31 then hull (p / 2 ^ r.toNat) (p / 2 ^ s.toNat) (q / 2 ^ r.toNat) (q / 2 ^ s.toNat) else mk' (min p 0) (max q 0))
  else if o = 11 then truth (decide (q < r)) (decide (s ≤ p))
  else if o = 12 then truth (decide (q ≤ r)) (decide (s < p))
  else if o = 13 then truth (decide (p = q) && decide (r = s) && decide (p = r)) (decide (q < r) || decide (s < p))
  else if o = 14 then truth (decide (q < r) || decide (s < p)) (decide (p = q) && decide (r = s) && decide (p = r))
  else all
def act (o : Int) (a b : Iv) : Iv := if form a = non ∨ form b = non then non else op o (form a).lo (form a).hi (form b).lo (form b).hi
def both (a b : Iv) : Iv × Iv := if a = non ∨ b = non then (non, non) else (a, b)
def but (a b : Iv) : Iv := if b.lo ≠ b.hi then a else mk' (if a.lo = b.lo then a.lo + 1 else a.lo) (if a.hi = b.lo then a.hi - 1 else a.hi)
def refine' (o : Int) (t : Bool) (x y : Iv) : Iv × Iv :=
  if o = 11 ∧ t = true then both (mk' x.lo (min x.hi (y.hi - 1))) (mk' (max y.lo (x.lo + 1)) y.hi)
  else if o = 11 then both (mk' (max x.lo y.lo) x.hi) (mk' y.lo (min y.hi x.hi))
  else if o = 12 ∧ t = true then both (mk' x.lo (min x.hi y.hi)) (mk' (max y.lo x.lo) y.hi)
  else if o = 12 then both (mk' (max x.lo (y.lo + 1)) x.hi) (mk' y.lo (min y.hi (x.hi - 1)))
  else if (o = 13) = (t = true) then both (meet x y) (meet x y)
  else both (but x y) (but y x)
def refine (o : Int) (t : Bool) (a b : Iv) : Iv × Iv :=
  if o < 11 ∨ 14 < o then (form a, form b) else if form a = non ∨ form b = non then (non, non) else refine' o t (form a) (form b)

/-! ### Forms -/
theorem form_ok (a : Iv) : form a = non ∨ (-2147483648 ≤ (form a).lo ∧ (form a).lo ≤ (form a).hi ∧ (form a).hi ≤ 2147483647) := by
  unfold form
  by_cases h : ok a = true
  · rw [if_pos h]
    unfold ok at h
    by_cases h2 : a = non
    · exact .inl h2
    · simp [h2] at h
      exact .inr ⟨h.1.1, h.1.2, h.2⟩
  · rw [if_neg h]
    exact .inr ⟨by decide, by decide, by decide⟩
theorem ok_of {a : Iv} (h : a = non ∨ (-2147483648 ≤ a.lo ∧ a.lo ≤ a.hi ∧ a.hi ≤ 2147483647)) : ok a = true := by
  unfold ok
  rcases h with h | ⟨h1, h2, h3⟩
  · simp [h]
  · simp [h1, h2, h3]
theorem form_of {a : Iv} (h : a = non ∨ (-2147483648 ≤ a.lo ∧ a.lo ≤ a.hi ∧ a.hi ≤ 2147483647)) : form a = a := by
  unfold form; rw [if_pos (ok_of h)]
theorem form_form (a : Iv) : form (form a) = form a := form_of (form_ok a)
end Iv
end Go.Proofs.Ytdajgopgaklipaa
