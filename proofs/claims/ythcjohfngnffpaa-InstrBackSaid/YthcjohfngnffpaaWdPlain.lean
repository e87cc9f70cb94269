/- The arithmetic of 32-bit words as plain functions of integers, and what holds of them. No condition. -/
import Derived.WalkKit
import Derived.IntWalk
namespace Go.Proofs.Ythcjohfngnffpaa
open Go.RowKit (wrap32 wrap64)

theorem wrap32_bounds (n : Int) : -2147483648 ≤ wrap32 n ∧ wrap32 n ≤ 2147483647 := by unfold wrap32; omega
theorem wrap32_same {n : Int} (h : -2147483648 ≤ n ∧ n ≤ 2147483647) : wrap32 n = n := by unfold wrap32; omega
theorem wrap32_twice (n : Int) : wrap32 (wrap32 n) = wrap32 n := wrap32_same (wrap32_bounds n)
theorem wrap32_wrap64 (n : Int) : wrap32 (wrap64 n) = wrap32 n := by unfold wrap32 wrap64; omega
theorem wrap64_wrap32 (n : Int) : wrap64 (wrap32 n) = wrap32 n := by unfold wrap32 wrap64; omega
theorem wrap64_same {n : Int} (h : -9223372036854775808 ≤ n ∧ n ≤ 9223372036854775807) : wrap64 n = n := by unfold wrap64; omega

/-- 1 for true. -/
def one (b : Bool) : Int := if b then 1 else 0

/-- What an operator answers for two words, before it is made a word. -/
def raw (op x y : Int) : Int :=
  if op = 1 then x + y else if op = 2 then x - y else if op = 3 then x * y
  else if op = 4 then (if y = 0 then 0 else x.tdiv y) else if op = 5 then (if y = 0 then 0 else x.tmod y)
  else if op = 6 then bits .and .i64 x y else if op = 7 then bits .or .i64 x y else if op = 8 then bits .xor .i64 x y
  else if op = 9 then x * 2 ^ (y % 32).toNat else if op = 10 then x / 2 ^ (y % 32).toNat
  else if op = 11 then one (decide (x < y)) else if op = 12 then one (decide (x ≤ y)) else if op = 13 then one (x == y) else if op = 14 then one (x != y)
  else 0

/-- What Do answers. -/
def val (op a b : Int) : Int := wrap32 (raw op (wrap32 a) (wrap32 b))
/-- The error that Do answers. -/
def fault (op : Int) : Int := if 1 ≤ op ∧ op ≤ 14 then 0 else 6

theorem val_bounds (op a b : Int) : -2147483648 ≤ val op a b ∧ val op a b ≤ 2147483647 := wrap32_bounds _
theorem val_wrap_left (op a b : Int) : val op (wrap32 a) b = val op a b := by unfold val; rw [wrap32_twice]
theorem val_congr {op a b c d : Int} (h : wrap32 a = wrap32 c) (k : wrap32 b = wrap32 d) : val op a b = val op c d := by unfold val; rw [h, k]

theorem bits_and64 (x y : Int) : bits .and .i64 x y = IntKind.i64.wrap ((BitVec.ofInt 64 x &&& BitVec.ofInt 64 y : BitVec 64).toNat) := rfl
theorem bits_or64 (x y : Int) : bits .or .i64 x y = IntKind.i64.wrap ((BitVec.ofInt 64 x ||| BitVec.ofInt 64 y : BitVec 64).toNat) := rfl
theorem bits_xor64 (x y : Int) : bits .xor .i64 x y = IntKind.i64.wrap ((BitVec.ofInt 64 x ^^^ BitVec.ofInt 64 y : BitVec 64).toNat) := rfl

/-! ### Words as bit vectors -/
theorem wrap32_bv (n : Int) : wrap32 n = (BitVec.ofInt 32 n).toInt := by
  rw [BitVec.toInt_ofInt]
  unfold wrap32
  rw [Int.bmod_def]
  have e : ((2 ^ 32 : Nat) : Int) = 4294967296 := by decide
  rw [e]
  split <;> omega
theorem bv_wrap32 (n : Int) : BitVec.ofInt 32 (wrap32 n) = BitVec.ofInt 32 n := by
  rw [wrap32_bv, BitVec.ofInt_toInt]
theorem bv_val (op a b : Int) : BitVec.ofInt 32 (val op a b) = BitVec.ofInt 32 (raw op (wrap32 a) (wrap32 b)) := bv_wrap32 _
theorem val_bv (op a b : Int) : val op a b = (BitVec.ofInt 32 (val op a b)).toInt := by
  rw [← wrap32_bv]; exact (wrap32_twice _).symm
theorem val_eq_of {op a b n : Int} (h : BitVec.ofInt 32 (val op a b) = BitVec.ofInt 32 n) (hn : -2147483648 ≤ n ∧ n ≤ 2147483647) : val op a b = n := by
  rw [val_bv, h, ← wrap32_bv, wrap32_same hn]

theorem bv_add (a b : Int) : BitVec.ofInt 32 (val 1 a b) = BitVec.ofInt 32 a + BitVec.ofInt 32 b := by
  rw [bv_val]; simp only [raw, if_true]; rw [BitVec.ofInt_add, bv_wrap32, bv_wrap32]
theorem bv_sub (a b : Int) : BitVec.ofInt 32 (val 2 a b) = BitVec.ofInt 32 a - BitVec.ofInt 32 b := by
  rw [bv_val]; show BitVec.ofInt 32 (wrap32 a - wrap32 b) = _
  rw [← bv_wrap32 a, ← bv_wrap32 b, BitVec.sub_eq_add_neg, ← BitVec.ofInt_neg, ← BitVec.ofInt_add, Int.sub_eq_add_neg]
theorem bv_mul (a b : Int) : BitVec.ofInt 32 (val 3 a b) = BitVec.ofInt 32 a * BitVec.ofInt 32 b := by
  rw [bv_val]; show BitVec.ofInt 32 (wrap32 a * wrap32 b) = _
  rw [BitVec.ofInt_mul, bv_wrap32, bv_wrap32]
theorem bv_bits (r : BitVec 64) : BitVec.ofInt 32 (IntKind.i64.wrap r.toNat) = r.setWidth 32 := by
  have h : BitVec.ofInt 32 (IntKind.i64.wrap r.toNat) = BitVec.ofInt 32 (r.toNat : Int) := by
    rw [IntWalk.i64_left]
    rw [← bv_wrap32, wrap32_wrap64, bv_wrap32]
  rw [h]
  apply BitVec.eq_of_toNat_eq
  simp [BitVec.toNat_setWidth]
theorem set_ofInt (n : Int) : (BitVec.ofInt 64 n).setWidth 32 = BitVec.ofInt 32 n := by
  apply BitVec.eq_of_toNat_eq
  simp [BitVec.toNat_ofInt, BitVec.toNat_setWidth]
  omega
theorem bv_and (a b : Int) : BitVec.ofInt 32 (val 6 a b) = BitVec.ofInt 32 a &&& BitVec.ofInt 32 b := by
  rw [bv_val]; show BitVec.ofInt 32 (bits .and .i64 (wrap32 a) (wrap32 b)) = _
  rw [bits_and64, bv_bits, BitVec.setWidth_and, set_ofInt, set_ofInt, bv_wrap32, bv_wrap32]
theorem bv_or (a b : Int) : BitVec.ofInt 32 (val 7 a b) = BitVec.ofInt 32 a ||| BitVec.ofInt 32 b := by
  rw [bv_val]; show BitVec.ofInt 32 (bits .or .i64 (wrap32 a) (wrap32 b)) = _
  rw [bits_or64, bv_bits, BitVec.setWidth_or, set_ofInt, set_ofInt, bv_wrap32, bv_wrap32]
theorem bv_xor (a b : Int) : BitVec.ofInt 32 (val 8 a b) = BitVec.ofInt 32 a ^^^ BitVec.ofInt 32 b := by
  rw [bv_val]; show BitVec.ofInt 32 (bits .xor .i64 (wrap32 a) (wrap32 b)) = _
  rw [bits_xor64, bv_bits, BitVec.setWidth_xor, set_ofInt, set_ofInt, bv_wrap32, bv_wrap32]

/-- Two values are equal if their bit vectors are. -/
theorem val_ext {o a b p c d : Int} (h : BitVec.ofInt 32 (val o a b) = BitVec.ofInt 32 (val p c d)) : val o a b = val p c d := by
  rw [val_bv, h, ← val_bv]

theorem mask31 (b : Int) : bits .and .i64 b 31 = b % 32 := by
  have hb : (BitVec.ofInt 64 b &&& BitVec.ofInt 64 31).toNat = (b % 32).toNat := by
    rw [BitVec.toNat_and]
    have : (BitVec.ofInt 64 31).toNat = 31 := by decide
    rw [this, Nat.and_two_pow_sub_one_eq_mod _ 5, BitVec.toNat_ofInt]
    omega
  rw [bits_and64, hb, IntWalk.i64_in] <;> omega
end Go.Proofs.Ythcjohfngnffpaa
