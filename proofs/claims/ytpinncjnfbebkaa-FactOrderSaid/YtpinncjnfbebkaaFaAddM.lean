/- Add: its answer in plain words. No condition. -/
import Derived.Test.YtpinncjnfbebkaaFaMath
namespace Go.Proofs.Ytpinncjnfbebkaa
namespace Fa
def scale (a : Int) (t : Int × Int) : Int × Int := (t.1, a * t.2)
def abad (a b : Int) : Bool := decide (a < 0) || decide (1048576 < a) || decide (b < 0) || decide (1048576 < b)
/-- Add: the terms, most and the error. -/
def addR (f : Tms) (mf : Int) (g : Tms) (mg : Int) (a b : Int) : Tms × Int × Int :=
  if chk f mf ≠ 0 then ([], 0, chk f mf) else if chk g mg ≠ 0 then ([], 0, chk g mg) else if abad a b = true then ([], 0, 3) else ofR (f.map (scale a) ++ g.map (scale b)) (a * mf + b * mg)
variable {f g : Tms} {mf mg a b : Int}
theorem add_f (h : chk f mf ≠ 0) : addR f mf g mg a b = ([], 0, chk f mf) := if_pos h
theorem add_g (h : chk f mf = 0) (h2 : chk g mg ≠ 0) : addR f mf g mg a b = ([], 0, chk g mg) := by unfold addR; rw [if_neg (by simp [h]), if_pos h2]
theorem add_bad (h : chk f mf = 0) (h2 : chk g mg = 0) (h3 : abad a b = true) : addR f mf g mg a b = ([], 0, 3) := by unfold addR; rw [if_neg (by simp [h]), if_neg (by simp [h2]), if_pos h3]
theorem add_ok (h : chk f mf = 0) (h2 : chk g mg = 0) (h3 : abad a b = false) : addR f mf g mg a b = ofR (f.map (scale a) ++ g.map (scale b)) (a * mf + b * mg) := by unfold addR; rw [if_neg (by simp [h]), if_neg (by simp [h2]), if_neg (by simp [h3])]
theorem a_ok (h : abad a b = false) : (0 ≤ a ∧ a ≤ 1048576) ∧ 0 ≤ b ∧ b ≤ 1048576 := by
  unfold abad at h
  simp only [Bool.or_eq_false_iff, decide_eq_false_iff_not] at h
  omega
theorem mul_in {x y : Int} (hx : 0 ≤ x ∧ x ≤ 1048576) (hy : -1048576 ≤ y ∧ y ≤ 1048576) : -1099511627776 ≤ x * y ∧ x * y ≤ 1099511627776 := by
  have h1 : x * y ≤ x * 1048576 := Int.mul_le_mul_of_nonneg_left hy.2 hx.1
  have h2 : x * -1048576 ≤ x * y := Int.mul_le_mul_of_nonneg_left hy.1 hx.1
  omega
/-- The first k terms, scaled. -/
theorem take_scale (a : Int) (k : Nat) (hk : k < f.length) : (f.take (k + 1)).map (scale a) = (f.take k).map (scale a) ++ [((f.getD k (0, 0)).1, a * (f.getD k (0, 0)).2)] := by
  rw [List.take_add_one, List.map_append]
  simp [List.getElem?_eq_getElem hk, List.getD, scale]
end Fa
end Go.Proofs.Ytpinncjnfbebkaa
