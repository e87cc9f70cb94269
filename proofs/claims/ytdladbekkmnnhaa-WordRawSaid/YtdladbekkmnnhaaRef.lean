/- The specification's Do, Wrap, Known and Cost answer what the plain arithmetic says. No condition. -/
import Derived.Test.YtdladbekkmnnhaaAid
namespace Go.Proofs.Ytdladbekkmnnhaa
open Go.RowKit
set_option linter.unusedVariables false

theorem c12 (n : Int) (w : World) : Calls Try.prog 12 #[.int .i64 n] w fun e w' => e = .returned (.int .i64 (wrap32 n)) ∧ w = w' := by
  go_enter Try.func12, Try.ntmps12
  go_wp2
  go_ret
  have h : wrap64 (wrap32 (IntKind.u64.wrap n % 4294967296)) = wrap32 n := by
    rw [wrap64_wrap32]
    have e : IntKind.u64.wrap n = n % 18446744073709551616 := by simp [IntKind.wrap, IntKind.bits, IntKind.signed]
    rw [e]; unfold wrap32; omega
  simp [h]
theorem c14 (op : Int) (b : Bool) (h : decide (1 ≤ op ∧ op ≤ 14) = b) (w : World) : Calls Try.prog 14 #[.int .i64 op] w fun e w' => e = .returned (.bool b) ∧ w = w' := by
  go_enter Try.func14, Try.ntmps14
  by_cases h1 : 1 ≤ op <;> by_cases h2 : op ≤ 14
  all_goals
    go_wp2
    go_ret
    subst h
    simp [h1, h2]
theorem c20 (b : Bool) (w : World) : Calls Try.prog 20 #[.bool b] w fun e w' => e = .returned (.int .i64 (one b)) ∧ w = w' := by
  cases b
  all_goals
    go_enter Try.func20, Try.ntmps20
    go_wp2
    go_ret
    simp [one]
theorem and31 (y : Int) : bits .and .i64 y 31 = y % 32 := mask31 y
theorem r1 (a b : Int) (w : World) : Calls Try.prog 10 #[.int .i64 1, .int .i64 a, .int .i64 b] w fun e w' => e = .returned (.tuple #[.int .i64 (val 1 a b), .int .i64 0]) ∧ w = w' := by
  go_enter Try.func10, Try.ntmps10
  go_wp2_with (first | (go_at_call 12; refine (c12 _ _).mono ?_; rintro e w' ⟨rfl, rfl⟩) | (go_at_call 20; refine (c20 _ _).mono ?_; rintro e w' ⟨rfl, rfl⟩))
  go_ret2
  exact ⟨tup (wrap32_wrap64 _) rfl, rfl⟩
theorem r2 (a b : Int) (w : World) : Calls Try.prog 10 #[.int .i64 2, .int .i64 a, .int .i64 b] w fun e w' => e = .returned (.tuple #[.int .i64 (val 2 a b), .int .i64 0]) ∧ w = w' := by
  go_enter Try.func10, Try.ntmps10
  go_wp2_with (first | (go_at_call 12; refine (c12 _ _).mono ?_; rintro e w' ⟨rfl, rfl⟩) | (go_at_call 20; refine (c20 _ _).mono ?_; rintro e w' ⟨rfl, rfl⟩))
  go_ret2
  exact ⟨tup (wrap32_wrap64 _) rfl, rfl⟩
theorem r3 (a b : Int) (w : World) : Calls Try.prog 10 #[.int .i64 3, .int .i64 a, .int .i64 b] w fun e w' => e = .returned (.tuple #[.int .i64 (val 3 a b), .int .i64 0]) ∧ w = w' := by
  go_enter Try.func10, Try.ntmps10
  go_wp2_with (first | (go_at_call 12; refine (c12 _ _).mono ?_; rintro e w' ⟨rfl, rfl⟩) | (go_at_call 20; refine (c20 _ _).mono ?_; rintro e w' ⟨rfl, rfl⟩))
  go_ret2
  exact ⟨tup (wrap32_wrap64 _) rfl, rfl⟩
theorem r4 (a b : Int) (w : World) : Calls Try.prog 10 #[.int .i64 4, .int .i64 a, .int .i64 b] w fun e w' => e = .returned (.tuple #[.int .i64 (val 4 a b), .int .i64 0]) ∧ w = w' := by
  by_cases h : wrap32 b = 0
  · have hb : (wrap32 b != 0) = false := by simp [h]
    have hv : val 4 a b = wrap32 0 := by unfold val; show wrap32 (if wrap32 b = 0 then 0 else _) = _; rw [if_pos h]
    have hV := Lib.hid hv
    clear hv h
    go_enter Try.func10, Try.ntmps10
    go_wp2_with (first | (go_at_call 12; refine (c12 _ _).mono ?_; rintro e w' ⟨rfl, rfl⟩) | (go_at_call 20; refine (c20 _ _).mono ?_; rintro e w' ⟨rfl, rfl⟩))
    go_ret2
    exact ⟨tup hV.out.symm rfl, rfl⟩
  · have hb : (wrap32 b != 0) = true := by simp [h]
    have hv : val 4 a b = wrap32 ((wrap32 a).tdiv (wrap32 b)) := by unfold val; show wrap32 (if wrap32 b = 0 then 0 else _) = _; rw [if_neg h]
    have hV := Lib.hid hv
    clear hv
    go_enter Try.func10, Try.ntmps10
    go_wp2_with (first | (go_at_call 12; refine (c12 _ _).mono ?_; rintro e w' ⟨rfl, rfl⟩) | (go_at_call 20; refine (c20 _ _).mono ?_; rintro e w' ⟨rfl, rfl⟩))
    go_ret2
    exact ⟨tup (by rw [hV.out]; exact wrap32_wrap64 _) rfl, rfl⟩
theorem r5 (a b : Int) (w : World) : Calls Try.prog 10 #[.int .i64 5, .int .i64 a, .int .i64 b] w fun e w' => e = .returned (.tuple #[.int .i64 (val 5 a b), .int .i64 0]) ∧ w = w' := by
  by_cases h : wrap32 b = 0
  · have hb : (wrap32 b != 0) = false := by simp [h]
    have hv : val 5 a b = wrap32 0 := by unfold val; show wrap32 (if wrap32 b = 0 then 0 else _) = _; rw [if_pos h]
    have hV := Lib.hid hv
    clear hv h
    go_enter Try.func10, Try.ntmps10
    go_wp2_with (first | (go_at_call 12; refine (c12 _ _).mono ?_; rintro e w' ⟨rfl, rfl⟩) | (go_at_call 20; refine (c20 _ _).mono ?_; rintro e w' ⟨rfl, rfl⟩))
    go_ret2
    exact ⟨tup hV.out.symm rfl, rfl⟩
  · have hb : (wrap32 b != 0) = true := by simp [h]
    have hv : val 5 a b = wrap32 ((wrap32 a).tmod (wrap32 b)) := by unfold val; show wrap32 (if wrap32 b = 0 then 0 else _) = _; rw [if_neg h]
    have hV := Lib.hid hv
    clear hv
    go_enter Try.func10, Try.ntmps10
    go_wp2_with (first | (go_at_call 12; refine (c12 _ _).mono ?_; rintro e w' ⟨rfl, rfl⟩) | (go_at_call 20; refine (c20 _ _).mono ?_; rintro e w' ⟨rfl, rfl⟩))
    go_ret2
    exact ⟨tup (by rw [hV.out]) rfl, rfl⟩
theorem r6 (a b : Int) (w : World) : Calls Try.prog 10 #[.int .i64 6, .int .i64 a, .int .i64 b] w fun e w' => e = .returned (.tuple #[.int .i64 (val 6 a b), .int .i64 0]) ∧ w = w' := by
  go_enter Try.func10, Try.ntmps10
  go_wp2_with (first | (go_at_call 12; refine (c12 _ _).mono ?_; rintro e w' ⟨rfl, rfl⟩) | (go_at_call 20; refine (c20 _ _).mono ?_; rintro e w' ⟨rfl, rfl⟩))
  go_ret2
  exact ⟨tup (rfl) rfl, rfl⟩
theorem r7 (a b : Int) (w : World) : Calls Try.prog 10 #[.int .i64 7, .int .i64 a, .int .i64 b] w fun e w' => e = .returned (.tuple #[.int .i64 (val 7 a b), .int .i64 0]) ∧ w = w' := by
  go_enter Try.func10, Try.ntmps10
  go_wp2_with (first | (go_at_call 12; refine (c12 _ _).mono ?_; rintro e w' ⟨rfl, rfl⟩) | (go_at_call 20; refine (c20 _ _).mono ?_; rintro e w' ⟨rfl, rfl⟩))
  go_ret2
  exact ⟨tup (rfl) rfl, rfl⟩
theorem r8 (a b : Int) (w : World) : Calls Try.prog 10 #[.int .i64 8, .int .i64 a, .int .i64 b] w fun e w' => e = .returned (.tuple #[.int .i64 (val 8 a b), .int .i64 0]) ∧ w = w' := by
  go_enter Try.func10, Try.ntmps10
  go_wp2_with (first | (go_at_call 12; refine (c12 _ _).mono ?_; rintro e w' ⟨rfl, rfl⟩) | (go_at_call 20; refine (c20 _ _).mono ?_; rintro e w' ⟨rfl, rfl⟩))
  go_ret2
  exact ⟨tup (rfl) rfl, rfl⟩
theorem r9 (a b : Int) (w : World) : Calls Try.prog 10 #[.int .i64 9, .int .i64 a, .int .i64 b] w fun e w' => e = .returned (.tuple #[.int .i64 (val 9 a b), .int .i64 0]) ∧ w = w' := by
  have h0 : 0 ≤ wrap32 b % 32 := by omega
  have hm := and31 (wrap32 b)
  have h5 : IntKind.u64.wrap (wrap32 b % 32) = wrap32 b % 32 := by rw [IntWalk.u64_in]; omega
  go_enter Try.func10, Try.ntmps10
  go_wp2_with (first | (go_at_call 12; refine (c12 _ _).mono ?_; rintro e w' ⟨rfl, rfl⟩) | (go_at_call 20; refine (c20 _ _).mono ?_; rintro e w' ⟨rfl, rfl⟩))
  go_ret2
  exact ⟨tup (wrap32_wrap64 _) rfl, rfl⟩
theorem r10 (a b : Int) (w : World) : Calls Try.prog 10 #[.int .i64 10, .int .i64 a, .int .i64 b] w fun e w' => e = .returned (.tuple #[.int .i64 (val 10 a b), .int .i64 0]) ∧ w = w' := by
  have h0 : 0 ≤ wrap32 b % 32 := by omega
  have hm := and31 (wrap32 b)
  have h5 : IntKind.u64.wrap (wrap32 b % 32) = wrap32 b % 32 := by rw [IntWalk.u64_in]; omega
  go_enter Try.func10, Try.ntmps10
  go_wp2_with (first | (go_at_call 12; refine (c12 _ _).mono ?_; rintro e w' ⟨rfl, rfl⟩) | (go_at_call 20; refine (c20 _ _).mono ?_; rintro e w' ⟨rfl, rfl⟩))
  go_ret2
  exact ⟨tup (rfl) rfl, rfl⟩
theorem r11 (a b : Int) (w : World) : Calls Try.prog 10 #[.int .i64 11, .int .i64 a, .int .i64 b] w fun e w' => e = .returned (.tuple #[.int .i64 (val 11 a b), .int .i64 0]) ∧ w = w' := by
  go_enter Try.func10, Try.ntmps10
  go_wp2_with (first | (go_at_call 12; refine (c12 _ _).mono ?_; rintro e w' ⟨rfl, rfl⟩) | (go_at_call 20; refine (c20 _ _).mono ?_; rintro e w' ⟨rfl, rfl⟩))
  go_ret2
  exact ⟨tup (rfl) rfl, rfl⟩
theorem r12 (a b : Int) (w : World) : Calls Try.prog 10 #[.int .i64 12, .int .i64 a, .int .i64 b] w fun e w' => e = .returned (.tuple #[.int .i64 (val 12 a b), .int .i64 0]) ∧ w = w' := by
  go_enter Try.func10, Try.ntmps10
  go_wp2_with (first | (go_at_call 12; refine (c12 _ _).mono ?_; rintro e w' ⟨rfl, rfl⟩) | (go_at_call 20; refine (c20 _ _).mono ?_; rintro e w' ⟨rfl, rfl⟩))
  go_ret2
  exact ⟨tup (rfl) rfl, rfl⟩
theorem r13 (a b : Int) (w : World) : Calls Try.prog 10 #[.int .i64 13, .int .i64 a, .int .i64 b] w fun e w' => e = .returned (.tuple #[.int .i64 (val 13 a b), .int .i64 0]) ∧ w = w' := by
  go_enter Try.func10, Try.ntmps10
  go_wp2_with (first | (go_at_call 12; refine (c12 _ _).mono ?_; rintro e w' ⟨rfl, rfl⟩) | (go_at_call 20; refine (c20 _ _).mono ?_; rintro e w' ⟨rfl, rfl⟩))
  go_ret2
  exact ⟨tup (rfl) rfl, rfl⟩
theorem r14 (a b : Int) (w : World) : Calls Try.prog 10 #[.int .i64 14, .int .i64 a, .int .i64 b] w fun e w' => e = .returned (.tuple #[.int .i64 (val 14 a b), .int .i64 0]) ∧ w = w' := by
  go_enter Try.func10, Try.ntmps10
  go_wp2_with (first | (go_at_call 12; refine (c12 _ _).mono ?_; rintro e w' ⟨rfl, rfl⟩) | (go_at_call 20; refine (c20 _ _).mono ?_; rintro e w' ⟨rfl, rfl⟩))
  go_ret2
  exact ⟨tup (rfl) rfl, rfl⟩
theorem no_of {a b : Int} (h : a ≠ b) : (a == b) = false := by simp [h]
theorem r0 (op a b : Int) (h : ¬ (1 ≤ op ∧ op ≤ 14)) (w : World) : Calls Try.prog 10 #[.int .i64 op, .int .i64 a, .int .i64 b] w fun e w' => e = .returned (.tuple #[.int .i64 0, .int .i64 6]) ∧ w = w' := by
  have n1 := no_of (a := op) (b := 1) (by omega)
  have n2 := no_of (a := op) (b := 2) (by omega)
  have n3 := no_of (a := op) (b := 3) (by omega)
  have n4 := no_of (a := op) (b := 4) (by omega)
  have n5 := no_of (a := op) (b := 5) (by omega)
  have n6 := no_of (a := op) (b := 6) (by omega)
  have n7 := no_of (a := op) (b := 7) (by omega)
  have n8 := no_of (a := op) (b := 8) (by omega)
  have n9 := no_of (a := op) (b := 9) (by omega)
  have n10 := no_of (a := op) (b := 10) (by omega)
  have n11 := no_of (a := op) (b := 11) (by omega)
  have n12 := no_of (a := op) (b := 12) (by omega)
  have n13 := no_of (a := op) (b := 13) (by omega)
  have n14 := no_of (a := op) (b := 14) (by omega)
  clear h
  go_enter Try.func10, Try.ntmps10
  go_wp2_with (first | (go_at_call 12; refine (c12 _ _).mono ?_; rintro e w' ⟨rfl, rfl⟩) | (go_at_call 20; refine (c20 _ _).mono ?_; rintro e w' ⟨rfl, rfl⟩))
  go_ret2
  exact ⟨rfl, rfl⟩
/-- The specification's Do, for any numbers. -/
theorem c10 (op a b : Int) (w : World) : Calls Try.prog 10 #[.int .i64 op, .int .i64 a, .int .i64 b] w fun e w' => e = .returned (.tuple #[.int .i64 (val op a b), .int .i64 (fault op)]) ∧ w = w' := by
  by_cases h : 1 ≤ op ∧ op ≤ 14
  · rw [fault_yes h]
    have hc : op = 1 ∨ op = 2 ∨ op = 3 ∨ op = 4 ∨ op = 5 ∨ op = 6 ∨ op = 7 ∨ op = 8 ∨ op = 9 ∨ op = 10 ∨ op = 11 ∨ op = 12 ∨ op = 13 ∨ op = 14 := by omega
    rcases hc with rfl | rfl | rfl | rfl | rfl | rfl | rfl | rfl | rfl | rfl | rfl | rfl | rfl | rfl
    · exact r1 a b w
    · exact r2 a b w
    · exact r3 a b w
    · exact r4 a b w
    · exact r5 a b w
    · exact r6 a b w
    · exact r7 a b w
    · exact r8 a b w
    · exact r9 a b w
    · exact r10 a b w
    · exact r11 a b w
    · exact r12 a b w
    · exact r13 a b w
    · exact r14 a b w
  · rw [val_no h, fault_no h]
    exact r0 op a b h w
def cost (op : Int) : Int := if op = 3 then 1 else if op = 4 ∨ op = 5 then 2 else 0
theorem c15 (op : Int) (w : World) : Calls Try.prog 15 #[.int .i64 op] w fun e w' => e = .returned (.int .i64 (cost op)) ∧ w = w' := by
  by_cases h3 : op = 3
  · subst h3
    go_enter Try.func15, Try.ntmps15
    go_wp2
    go_ret
    exact ⟨rfl, rfl⟩
  by_cases h4 : op = 4
  · subst h4
    go_enter Try.func15, Try.ntmps15
    go_wp2
    go_ret
    exact ⟨rfl, rfl⟩
  by_cases h5 : op = 5
  · subst h5
    go_enter Try.func15, Try.ntmps15
    go_wp2
    go_ret
    exact ⟨rfl, rfl⟩
  have hc : cost op = 0 := by simp [cost, h3, h4, h5]
  have n3 := no_of h3
  have n4 := no_of h4
  have n5 := no_of h5
  have hC := Lib.hid hc
  clear hc h3 h4 h5
  go_enter Try.func15, Try.ntmps15
  go_wp2
  go_ret
  exact ⟨by rw [hC.out]; rfl, rfl⟩
theorem c16 (op : Int) (w : World) : Calls Try.prog 16 #[.int .i64 op] w fun e w' => e = .returned (.int .i64 (cost op)) ∧ w = w' := by
  by_cases h3 : op = 3
  · subst h3
    go_enter Try.func16, Try.ntmps16
    go_wp2
    go_ret
    exact ⟨rfl, rfl⟩
  by_cases h4 : op = 4
  · subst h4
    go_enter Try.func16, Try.ntmps16
    go_wp2
    go_ret
    exact ⟨rfl, rfl⟩
  by_cases h5 : op = 5
  · subst h5
    go_enter Try.func16, Try.ntmps16
    go_wp2
    go_ret
    exact ⟨rfl, rfl⟩
  have hc : cost op = 0 := by simp [cost, h3, h4, h5]
  have n3 := no_of h3
  have n4 := no_of h4
  have n5 := no_of h5
  have hC := Lib.hid hc
  clear hc h3 h4 h5
  go_enter Try.func16, Try.ntmps16
  go_wp2
  go_ret
  exact ⟨by rw [hC.out]; rfl, rfl⟩
end Go.Proofs.Ytdladbekkmnnhaa
