/- The code of layer 11: its small functions, and the library's search in a slice by a predicate. No condition. -/
import Derived.Test.YtpinncjnfbebkaaFaSum
import Derived.Test.YtpinncjnfbebkaaFaLists
import Derived.BigQuiet
namespace Go.Proofs.Ytpinncjnfbebkaa
open Go.RowKit
set_option linter.unusedVariables false
set_option linter.unusedSimpArgs false
attribute [local go_sem] y_undef
theorem fcoef_any (n : Int) (r : Bool) (hr : Fa.inC n = r) (w : World) : Calls Try.prog 37 #[.int .i64 n] w fun e w' => e = .returned (.bool r) ∧ w' = w := by
  subst hr
  by_cases h1 : -1048576 ≤ n
  · by_cases h2 : n ≤ 1048576
    · have e : Fa.inC n = true := by simp [Fa.inC, h1, h2]
      rw [e]
      go_enter Try.func37, Try.ntmps37
      go_wp2
      go_ret
      exact ⟨rfl, rfl⟩
    · have e : Fa.inC n = false := by simp [Fa.inC, h1, h2]
      rw [e]
      go_enter Try.func37, Try.ntmps37
      go_wp2
      go_ret
      exact ⟨rfl, rfl⟩
  · have e : Fa.inC n = false := by simp [Fa.inC, h1]
    rw [e]
    go_enter Try.func37, Try.ntmps37
    go_wp2
    go_ret
    exact ⟨rfl, rfl⟩
/-- A block's number. -/
def inB (n : Int) : Bool := decide (0 ≤ n) && decide (n < 256)
theorem fblock_any (n : Int) (r : Bool) (hr : inB n = r) (w : World) : Calls Try.prog 49 #[.int .i64 n] w fun e w' => e = .returned (.bool r) ∧ w' = w := by
  subst hr
  by_cases h1 : 0 ≤ n
  · by_cases h2 : n < 256
    · have e : inB n = true := by simp [inB, h1, h2]
      rw [e]
      go_enter Try.func49, Try.ntmps49
      go_wp2
      go_ret
      exact ⟨rfl, rfl⟩
    · have e : inB n = false := by simp [inB, h1, h2]
      rw [e]
      go_enter Try.func49, Try.ntmps49
      go_wp2
      go_ret
      exact ⟨rfl, rfl⟩
  · have e : inB n = false := by simp [inB, h1]
    rw [e]
    go_enter Try.func49, Try.ntmps49
    go_wp2
    go_ret
    exact ⟨rfl, rfl⟩
theorem tbad_eq (x y : Int) : Fa.tbad (x, y) = !(inB x && Fa.inC y) := by
  unfold Fa.tbad inB
  by_cases h1 : 0 ≤ x
  · by_cases h2 : x < 256
    · cases h3 : Fa.inC y <;> simp [h1, h2, h3] <;> omega
    · cases h3 : Fa.inC y <;> simp [h1, h2, h3] <;> omega
  · cases h3 : Fa.inC y <;> simp [h1, h3] <;> omega
theorem fterm_any (x y : Int) (r : Bool) (hr : (!(Fa.tbad (x, y))) = r) (w : World) : Calls Try.prog 38 #[.agg #[.int .i64 x, .int .i64 y]] w fun e w' => e = .returned (.bool r) ∧ Below w.heap.size w w' := by
  subst hr
  rw [tbad_eq, Bool.not_not]
  have hb := (Below.refl w.heap.size w).alloc (Nat.le_refl _) (.cells #[.int .i64 x, .int .i64 y] 36)
  cases h1 : inB x
  · have H1 := Lib.hid h1
    clear h1
    go_enter Try.func38, Try.ntmps38
    go_wp2_with (first | (go_at_call 49; refine (fblock_any x false H1.out _).mono ?_; rintro e w' ⟨rfl, rfl⟩) | (go_at_call 37; refine (fcoef_any y _ rfl _).mono ?_; rintro e w' ⟨rfl, rfl⟩))
    go_ret
    exact ⟨rfl, hb⟩
  · have H1 := Lib.hid h1
    clear h1
    cases h2 : Fa.inC y
    all_goals
      have H2 := Lib.hid h2
      clear h2
      go_enter Try.func38, Try.ntmps38
      go_wp2_with (first | (go_at_call 49; refine (fblock_any x true H1.out _).mono ?_; rintro e w' ⟨rfl, rfl⟩) | (go_at_call 37; refine (fcoef_any y _ H2.out _).mono ?_; rintro e w' ⟨rfl, rfl⟩))
      go_ret
      exact ⟨rfl, hb⟩
theorem of1_any (x y : Int) (r : Bool) (hr : Fa.tbad (x, y) = r) (w : World) : Calls Try.prog 42 #[.agg #[.int .i64 x, .int .i64 y]] w fun e w' => e = .returned (.bool r) ∧ Below w.heap.size w w' := by
  subst hr
  have hb := (Below.refl w.heap.size w).alloc (Nat.le_refl _) (.cells #[.int .i64 x, .int .i64 y] 36)
  have HB := Lib.hid hb
  cases h1 : Fa.tbad (x, y)
  all_goals
    have H1 := Lib.hid (show (!(Fa.tbad (x, y))) = _ from congrArg (!·) h1)
    clear h1 hb
    go_enter Try.func42, Try.ntmps42
    go_wp2_with (go_at_call 38; refine (fterm_any x y _ H1.out _).mono ?_; rintro e w' ⟨rfl, hb1⟩)
    go_ret
    exact ⟨rfl, HB.out.trans (hb1.mono (by simp))⟩
theorem sum1_any (x : Int) (r : Bool) (hr : Fa.cbad x = r) (w : World) : Calls Try.prog 35 #[.int .i64 x] w fun e w' => e = .returned (.bool r) ∧ Below w.heap.size w w' := by
  subst hr
  by_cases h1 : x < 0
  · have e : Fa.cbad x = true := by simp [Fa.cbad, h1]
    rw [e]
    go_enter Try.func35, Try.ntmps35
    go_wp2
    go_ret
    exact ⟨rfl, Below.refl _ _⟩
  · by_cases h2 : 2147483648 < x
    · have e : Fa.cbad x = true := by simp [Fa.cbad, h2]
      rw [e]
      go_enter Try.func35, Try.ntmps35
      go_wp2
      go_ret
      exact ⟨rfl, Below.refl _ _⟩
    · have e : Fa.cbad x = false := by simp [Fa.cbad, h1, h2]
      rw [e]
      go_enter Try.func35, Try.ntmps35
      go_wp2
      go_ret
      exact ⟨rfl, Below.refl _ _⟩
theorem sums2_any (x y : Int) (w : World) : Calls Try.prog 62 #[.agg #[.int .i64 x, .int .i64 y]] w fun e w' => e = .returned (.bool (decide (y = 0))) ∧ Below w.heap.size w w' := by
  have hb := (Below.refl w.heap.size w).alloc (Nat.le_refl _) (.cells #[.int .i64 x, .int .i64 y] 36)
  by_cases h1 : y = 0
  · have e : (y == 0) = true := by simp [h1]
    have e2 : decide (y = 0) = true := by simp [h1]
    rw [e2]
    clear h1
    go_enter Try.func62, Try.ntmps62
    go_wp2
    go_ret
    exact ⟨by simp [e], hb⟩
  · have e : (y == 0) = false := by simp [h1]
    have e2 : decide (y = 0) = false := by simp [h1]
    rw [e2]
    clear h1
    go_enter Try.func62, Try.ntmps62
    go_wp2
    go_ret
    exact ⟨by simp [e], hb⟩
/-- The first place below n at which p holds, or -1. -/
def Fst (p : Nat → Bool) (n : Nat) (z : Int) : Prop := (z = -1 ∧ ∀ j, j < n → p j = false) ∨ ∃ k : Nat, k < n ∧ z = k ∧ p k = true ∧ ∀ j, j < k → p j = false
theorem Fst.any {p : Nat → Bool} {n : Nat} {z : Int} (h : Fst p n z) : decide (0 ≤ z) = (List.range n).any p := by
  rcases h with ⟨rfl, h⟩ | ⟨k, hk, rfl, h, _⟩
  · symm
    simp only [show ¬ (0 : Int) ≤ -1 by decide, decide_false, List.any_eq_false, List.mem_range]
    intro j hj
    rw [h j hj]
    decide
  · symm
    rw [show decide (0 ≤ (k : Int)) = true by simp, List.any_eq_true]
    exact ⟨k, by simpa using hk, h⟩
theorem any_false {p : Nat → Bool} {n : Nat} (h : (List.range n).any p = false) : ∀ j, j < n → p j = false := fun j hj => by
  rw [List.any_eq_false] at h
  have := h j (by simpa using hj)
  simpa using this
theorem any_true {p : Nat → Bool} {n : Nat} (h : (List.range n).any p = true) : ∃ j, j < n ∧ p j = true := by
  rw [List.any_eq_true] at h
  obtain ⟨j, hj, hp⟩ := h
  exact ⟨j, by simpa using hj, hp⟩
end Go.Proofs.Ytpinncjnfbebkaa
