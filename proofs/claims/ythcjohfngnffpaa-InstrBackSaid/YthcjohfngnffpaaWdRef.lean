/- The specification's words: Wrap and Do answer what the plain arithmetic says. No condition. -/
import Derived.Test.YthcjohfngnffpaaRows
import Derived.Test.YthcjohfngnffpaaWdPlain
import Derived.WalkKit
import Derived.ProofKit
import Derived.OpenShut
import Derived.Lib.Hide
namespace Go.Proofs.Ythcjohfngnffpaa
open Go.RowKit
set_option linter.unusedVariables false
theorem tup {a b c d : Int} (h : a = c) (k : b = d) : Ending.returned (.tuple #[.int .i64 a, .int .i64 b]) = .returned (.tuple #[.int .i64 c, .int .i64 d]) := by rw [h, k]
theorem val_no {op : Int} (h : ¬ (1 ≤ op ∧ op ≤ 14)) (a b : Int) : val op a b = 0 := by
  have e : raw op (wrap32 a) (wrap32 b) = 0 := by
    unfold raw
    repeat (rw [if_neg (by omega)])
  unfold val
  rw [e]
  exact wrap32_same (by omega)
theorem fault_yes {op : Int} (h : 1 ≤ op ∧ op ≤ 14) : fault op = 0 := if_pos h
theorem fault_no {op : Int} (h : ¬ (1 ≤ op ∧ op ≤ 14)) : fault op = 6 := if_neg h

theorem wdWrap_any (n : Int) (w : World) : Calls Try.prog 33 #[.int .i64 n] w fun e w' => e = .returned (.int .i64 (wrap32 n)) ∧ w = w' := by
  go_enter Try.func33, Try.ntmps33
  go_wp2
  go_ret
  have h : wrap64 (wrap32 (IntKind.u64.wrap n % 4294967296)) = wrap32 n := by
    rw [wrap64_wrap32]
    have e : IntKind.u64.wrap n = n % 18446744073709551616 := by simp [IntKind.wrap, IntKind.bits, IntKind.signed]
    rw [e]; unfold wrap32; omega
  simp [h]
theorem wdTruth_any (b : Bool) (w : World) : Calls Try.prog 64 #[.bool b] w fun e w' => e = .returned (.int .i64 (one b)) ∧ w = w' := by
  cases b
  all_goals
    go_enter Try.func64, Try.ntmps64
    go_wp2
    go_ret
    simp [one]
theorem and31 (y : Int) : bits .and .i64 y 31 = y % 32 := mask31 y
theorem wd1 (a b : Int) (w : World) : Calls Try.prog 48 #[.int .i64 1, .int .i64 a, .int .i64 b] w fun e w' => e = .returned (.tuple #[.int .i64 (val 1 a b), .int .i64 0]) ∧ w = w' := by
  go_enter Try.func48, Try.ntmps48
  go_wp2_with (first | (go_at_call 33; refine (wdWrap_any _ _).mono ?_; rintro e w' ⟨rfl, rfl⟩) | (go_at_call 64; refine (wdTruth_any _ _).mono ?_; rintro e w' ⟨rfl, rfl⟩))
  go_ret2
  exact ⟨tup (wrap32_wrap64 _) rfl, rfl⟩
theorem wd2 (a b : Int) (w : World) : Calls Try.prog 48 #[.int .i64 2, .int .i64 a, .int .i64 b] w fun e w' => e = .returned (.tuple #[.int .i64 (val 2 a b), .int .i64 0]) ∧ w = w' := by
  go_enter Try.func48, Try.ntmps48
  go_wp2_with (first | (go_at_call 33; refine (wdWrap_any _ _).mono ?_; rintro e w' ⟨rfl, rfl⟩) | (go_at_call 64; refine (wdTruth_any _ _).mono ?_; rintro e w' ⟨rfl, rfl⟩))
  go_ret2
  exact ⟨tup (wrap32_wrap64 _) rfl, rfl⟩
theorem wd3 (a b : Int) (w : World) : Calls Try.prog 48 #[.int .i64 3, .int .i64 a, .int .i64 b] w fun e w' => e = .returned (.tuple #[.int .i64 (val 3 a b), .int .i64 0]) ∧ w = w' := by
  go_enter Try.func48, Try.ntmps48
  go_wp2_with (first | (go_at_call 33; refine (wdWrap_any _ _).mono ?_; rintro e w' ⟨rfl, rfl⟩) | (go_at_call 64; refine (wdTruth_any _ _).mono ?_; rintro e w' ⟨rfl, rfl⟩))
  go_ret2
  exact ⟨tup (wrap32_wrap64 _) rfl, rfl⟩
theorem wd4 (a b : Int) (w : World) : Calls Try.prog 48 #[.int .i64 4, .int .i64 a, .int .i64 b] w fun e w' => e = .returned (.tuple #[.int .i64 (val 4 a b), .int .i64 0]) ∧ w = w' := by
  by_cases h : wrap32 b = 0
  · have hb : (wrap32 b != 0) = false := by simp [h]
    have hv : val 4 a b = wrap32 0 := by unfold val; show wrap32 (if wrap32 b = 0 then 0 else _) = _; rw [if_pos h]
    have hV := Lib.hid hv
    clear hv h
    go_enter Try.func48, Try.ntmps48
    go_wp2_with (first | (go_at_call 33; refine (wdWrap_any _ _).mono ?_; rintro e w' ⟨rfl, rfl⟩) | (go_at_call 64; refine (wdTruth_any _ _).mono ?_; rintro e w' ⟨rfl, rfl⟩))
    go_ret2
    exact ⟨tup hV.out.symm rfl, rfl⟩
  · have hb : (wrap32 b != 0) = true := by simp [h]
    have hv : val 4 a b = wrap32 ((wrap32 a).tdiv (wrap32 b)) := by unfold val; show wrap32 (if wrap32 b = 0 then 0 else _) = _; rw [if_neg h]
    have hV := Lib.hid hv
    clear hv
    go_enter Try.func48, Try.ntmps48
    go_wp2_with (first | (go_at_call 33; refine (wdWrap_any _ _).mono ?_; rintro e w' ⟨rfl, rfl⟩) | (go_at_call 64; refine (wdTruth_any _ _).mono ?_; rintro e w' ⟨rfl, rfl⟩))
    go_ret2
    exact ⟨tup (by rw [hV.out]; exact wrap32_wrap64 _) rfl, rfl⟩
theorem wd5 (a b : Int) (w : World) : Calls Try.prog 48 #[.int .i64 5, .int .i64 a, .int .i64 b] w fun e w' => e = .returned (.tuple #[.int .i64 (val 5 a b), .int .i64 0]) ∧ w = w' := by
  by_cases h : wrap32 b = 0
  · have hb : (wrap32 b != 0) = false := by simp [h]
    have hv : val 5 a b = wrap32 0 := by unfold val; show wrap32 (if wrap32 b = 0 then 0 else _) = _; rw [if_pos h]
    have hV := Lib.hid hv
    clear hv h
    go_enter Try.func48, Try.ntmps48
    go_wp2_with (first | (go_at_call 33; refine (wdWrap_any _ _).mono ?_; rintro e w' ⟨rfl, rfl⟩) | (go_at_call 64; refine (wdTruth_any _ _).mono ?_; rintro e w' ⟨rfl, rfl⟩))
    go_ret2
    exact ⟨tup hV.out.symm rfl, rfl⟩
  · have hb : (wrap32 b != 0) = true := by simp [h]
    have hv : val 5 a b = wrap32 ((wrap32 a).tmod (wrap32 b)) := by unfold val; show wrap32 (if wrap32 b = 0 then 0 else _) = _; rw [if_neg h]
    have hV := Lib.hid hv
    clear hv
    go_enter Try.func48, Try.ntmps48
    go_wp2_with (first | (go_at_call 33; refine (wdWrap_any _ _).mono ?_; rintro e w' ⟨rfl, rfl⟩) | (go_at_call 64; refine (wdTruth_any _ _).mono ?_; rintro e w' ⟨rfl, rfl⟩))
    go_ret2
    exact ⟨tup (by rw [hV.out]) rfl, rfl⟩
theorem wd6 (a b : Int) (w : World) : Calls Try.prog 48 #[.int .i64 6, .int .i64 a, .int .i64 b] w fun e w' => e = .returned (.tuple #[.int .i64 (val 6 a b), .int .i64 0]) ∧ w = w' := by
  go_enter Try.func48, Try.ntmps48
  go_wp2_with (first | (go_at_call 33; refine (wdWrap_any _ _).mono ?_; rintro e w' ⟨rfl, rfl⟩) | (go_at_call 64; refine (wdTruth_any _ _).mono ?_; rintro e w' ⟨rfl, rfl⟩))
  go_ret2
  exact ⟨tup (rfl) rfl, rfl⟩
theorem wd7 (a b : Int) (w : World) : Calls Try.prog 48 #[.int .i64 7, .int .i64 a, .int .i64 b] w fun e w' => e = .returned (.tuple #[.int .i64 (val 7 a b), .int .i64 0]) ∧ w = w' := by
  go_enter Try.func48, Try.ntmps48
  go_wp2_with (first | (go_at_call 33; refine (wdWrap_any _ _).mono ?_; rintro e w' ⟨rfl, rfl⟩) | (go_at_call 64; refine (wdTruth_any _ _).mono ?_; rintro e w' ⟨rfl, rfl⟩))
  go_ret2
  exact ⟨tup (rfl) rfl, rfl⟩
theorem wd8 (a b : Int) (w : World) : Calls Try.prog 48 #[.int .i64 8, .int .i64 a, .int .i64 b] w fun e w' => e = .returned (.tuple #[.int .i64 (val 8 a b), .int .i64 0]) ∧ w = w' := by
  go_enter Try.func48, Try.ntmps48
  go_wp2_with (first | (go_at_call 33; refine (wdWrap_any _ _).mono ?_; rintro e w' ⟨rfl, rfl⟩) | (go_at_call 64; refine (wdTruth_any _ _).mono ?_; rintro e w' ⟨rfl, rfl⟩))
  go_ret2
  exact ⟨tup (rfl) rfl, rfl⟩
theorem wd9 (a b : Int) (w : World) : Calls Try.prog 48 #[.int .i64 9, .int .i64 a, .int .i64 b] w fun e w' => e = .returned (.tuple #[.int .i64 (val 9 a b), .int .i64 0]) ∧ w = w' := by
  have h0 : 0 ≤ wrap32 b % 32 := by omega
  have hm := and31 (wrap32 b)
  have h5 : IntKind.u64.wrap (wrap32 b % 32) = wrap32 b % 32 := by rw [IntWalk.u64_in]; omega
  go_enter Try.func48, Try.ntmps48
  go_wp2_with (first | (go_at_call 33; refine (wdWrap_any _ _).mono ?_; rintro e w' ⟨rfl, rfl⟩) | (go_at_call 64; refine (wdTruth_any _ _).mono ?_; rintro e w' ⟨rfl, rfl⟩))
  go_ret2
  exact ⟨tup (wrap32_wrap64 _) rfl, rfl⟩
theorem wd10 (a b : Int) (w : World) : Calls Try.prog 48 #[.int .i64 10, .int .i64 a, .int .i64 b] w fun e w' => e = .returned (.tuple #[.int .i64 (val 10 a b), .int .i64 0]) ∧ w = w' := by
  have h0 : 0 ≤ wrap32 b % 32 := by omega
  have hm := and31 (wrap32 b)
  have h5 : IntKind.u64.wrap (wrap32 b % 32) = wrap32 b % 32 := by rw [IntWalk.u64_in]; omega
  go_enter Try.func48, Try.ntmps48
  go_wp2_with (first | (go_at_call 33; refine (wdWrap_any _ _).mono ?_; rintro e w' ⟨rfl, rfl⟩) | (go_at_call 64; refine (wdTruth_any _ _).mono ?_; rintro e w' ⟨rfl, rfl⟩))
  go_ret2
  exact ⟨tup (rfl) rfl, rfl⟩
theorem wd11 (a b : Int) (w : World) : Calls Try.prog 48 #[.int .i64 11, .int .i64 a, .int .i64 b] w fun e w' => e = .returned (.tuple #[.int .i64 (val 11 a b), .int .i64 0]) ∧ w = w' := by
  go_enter Try.func48, Try.ntmps48
  go_wp2_with (first | (go_at_call 33; refine (wdWrap_any _ _).mono ?_; rintro e w' ⟨rfl, rfl⟩) | (go_at_call 64; refine (wdTruth_any _ _).mono ?_; rintro e w' ⟨rfl, rfl⟩))
  go_ret2
  exact ⟨tup (rfl) rfl, rfl⟩
theorem wd12 (a b : Int) (w : World) : Calls Try.prog 48 #[.int .i64 12, .int .i64 a, .int .i64 b] w fun e w' => e = .returned (.tuple #[.int .i64 (val 12 a b), .int .i64 0]) ∧ w = w' := by
  go_enter Try.func48, Try.ntmps48
  go_wp2_with (first | (go_at_call 33; refine (wdWrap_any _ _).mono ?_; rintro e w' ⟨rfl, rfl⟩) | (go_at_call 64; refine (wdTruth_any _ _).mono ?_; rintro e w' ⟨rfl, rfl⟩))
  go_ret2
  exact ⟨tup (rfl) rfl, rfl⟩
theorem wd13 (a b : Int) (w : World) : Calls Try.prog 48 #[.int .i64 13, .int .i64 a, .int .i64 b] w fun e w' => e = .returned (.tuple #[.int .i64 (val 13 a b), .int .i64 0]) ∧ w = w' := by
  go_enter Try.func48, Try.ntmps48
  go_wp2_with (first | (go_at_call 33; refine (wdWrap_any _ _).mono ?_; rintro e w' ⟨rfl, rfl⟩) | (go_at_call 64; refine (wdTruth_any _ _).mono ?_; rintro e w' ⟨rfl, rfl⟩))
  go_ret2
  exact ⟨tup (rfl) rfl, rfl⟩
theorem wd14 (a b : Int) (w : World) : Calls Try.prog 48 #[.int .i64 14, .int .i64 a, .int .i64 b] w fun e w' => e = .returned (.tuple #[.int .i64 (val 14 a b), .int .i64 0]) ∧ w = w' := by
  go_enter Try.func48, Try.ntmps48
  go_wp2_with (first | (go_at_call 33; refine (wdWrap_any _ _).mono ?_; rintro e w' ⟨rfl, rfl⟩) | (go_at_call 64; refine (wdTruth_any _ _).mono ?_; rintro e w' ⟨rfl, rfl⟩))
  go_ret2
  exact ⟨tup (rfl) rfl, rfl⟩
theorem no_of {a b : Int} (h : a ≠ b) : (a == b) = false := by simp [h]
theorem wd0 (op a b : Int) (h : ¬ (1 ≤ op ∧ op ≤ 14)) (w : World) : Calls Try.prog 48 #[.int .i64 op, .int .i64 a, .int .i64 b] w fun e w' => e = .returned (.tuple #[.int .i64 0, .int .i64 6]) ∧ w = w' := by
  have n1 := no_of (a := op) (b := 1) (by omega)
  have n2 := no_of (a := op) (b := 2) (by omega)
  have n3 := no_of (a := op) (b := 3) (by omega)
  have n4 := no_of (a := op) (b := 4) (by omega)
  have n5 := no_of (a := op) (b := 5) (by omega)
  have n6 := no_of (a := op) (b := 6) (by omega)
  have n7 := no_of (a := op) (b := 7) (by omega)
  have n8 := no_of (a := op) (b := 8) (by omega)
  have n9 := no_of (a := op) (b := 9) (by omega)
  have n10 := no_of (a := op) (b := 10) (by omega)
  have n11 := no_of (a := op) (b := 11) (by omega)
  have n12 := no_of (a := op) (b := 12) (by omega)
  have n13 := no_of (a := op) (b := 13) (by omega)
  have n14 := no_of (a := op) (b := 14) (by omega)
  clear h
  go_enter Try.func48, Try.ntmps48
  go_wp2_with (first | (go_at_call 33; refine (wdWrap_any _ _).mono ?_; rintro e w' ⟨rfl, rfl⟩) | (go_at_call 64; refine (wdTruth_any _ _).mono ?_; rintro e w' ⟨rfl, rfl⟩))
  go_ret2
  exact ⟨rfl, rfl⟩
/-- The specification's Do, for any numbers. -/
theorem wdDo_any (op a b : Int) (w : World) : Calls Try.prog 48 #[.int .i64 op, .int .i64 a, .int .i64 b] w fun e w' => e = .returned (.tuple #[.int .i64 (val op a b), .int .i64 (fault op)]) ∧ w = w' := by
  by_cases h : 1 ≤ op ∧ op ≤ 14
  · rw [fault_yes h]
    have hc : op = 1 ∨ op = 2 ∨ op = 3 ∨ op = 4 ∨ op = 5 ∨ op = 6 ∨ op = 7 ∨ op = 8 ∨ op = 9 ∨ op = 10 ∨ op = 11 ∨ op = 12 ∨ op = 13 ∨ op = 14 := by omega
    rcases hc with rfl | rfl | rfl | rfl | rfl | rfl | rfl | rfl | rfl | rfl | rfl | rfl | rfl | rfl
    · exact wd1 a b w
    · exact wd2 a b w
    · exact wd3 a b w
    · exact wd4 a b w
    · exact wd5 a b w
    · exact wd6 a b w
    · exact wd7 a b w
    · exact wd8 a b w
    · exact wd9 a b w
    · exact wd10 a b w
    · exact wd11 a b w
    · exact wd12 a b w
    · exact wd13 a b w
    · exact wd14 a b w
  · rw [val_no h, fault_no h]
    exact wd0 op a b h w
end Go.Proofs.Ythcjohfngnffpaa
