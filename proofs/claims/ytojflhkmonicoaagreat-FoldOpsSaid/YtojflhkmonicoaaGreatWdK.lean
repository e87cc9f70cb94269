/- The specification's words: Wrap and Do answer what the plain arithmetic says. No condition. Package word's Do answers what the plain arithmetic says. No condition. -/
import Derived.Test.YtojflhkmonicoaaGreatRows
import Derived.Test.YtojflhkmonicoaaGreatWdPlain
import Derived.WalkKit
import Derived.ProofKit
import Derived.OpenShut
import Derived.Lib.Hide
import Derived.Test.YtojflhkmonicoaaGreatStBase
import Derived.Laws.EntriesVeiled
namespace Go.Proofs.YtojflhkmonicoaaGreat
open Go.RowKit
set_option linter.unusedVariables false
theorem tup {a b c d : Int} (h : a = c) (k : b = d) : Ending.returned (.tuple #[.int .i64 a, .int .i64 b]) = .returned (.tuple #[.int .i64 c, .int .i64 d]) := by rw [h, k]
theorem val_no {op : Int} (h : ¬ (1 ≤ op ∧ op ≤ 14)) (a b : Int) : val op a b = 0 := by
  have e : raw op (wrap32 a) (wrap32 b) = 0 := by
    unfold raw
    repeat (rw [if_neg (by omega)])
  unfold val
  rw [e]
  exact wrap32_same (by omega)
theorem fault_yes {op : Int} (h : 1 ≤ op ∧ op ≤ 14) : fault op = 0 := if_pos h
theorem fault_no {op : Int} (h : ¬ (1 ≤ op ∧ op ≤ 14)) : fault op = 6 := if_neg h

theorem wdWrap_any (n : Int) (w : World) : Calls Tryz.prog 69 #[.int .i64 n] w fun e w' => e = .returned (.int .i64 (wrap32 n)) ∧ w = w' := by
  go_enter Tryz.func69, Tryz.ntmps69
  go_wp2
  go_ret
  have h : wrap64 (wrap32 (IntKind.u64.wrap n % 4294967296)) = wrap32 n := by
    rw [wrap64_wrap32]
    have e : IntKind.u64.wrap n = n % 18446744073709551616 := by simp [IntKind.wrap, IntKind.bits, IntKind.signed]
    rw [e]; unfold wrap32; omega
  simp [h]
theorem wdTruth_any (b : Bool) (w : World) : Calls Tryz.prog 70 #[.bool b] w fun e w' => e = .returned (.int .i64 (one b)) ∧ w = w' := by
  cases b
  all_goals
    go_enter Tryz.func70, Tryz.ntmps70
    go_wp2
    go_ret
    simp [one]
theorem and31 (y : Int) : bits .and .i64 y 31 = y % 32 := mask31 y
theorem wd1 (a b : Int) (w : World) : Calls Tryz.prog 44 #[.int .i64 1, .int .i64 a, .int .i64 b] w fun e w' => e = .returned (.tuple #[.int .i64 (val 1 a b), .int .i64 0]) ∧ w = w' := by
  go_enter Tryz.func44, Tryz.ntmps44
  go_wp2_with (first | (go_at_call 69; refine (wdWrap_any _ _).mono ?_; rintro e w' ⟨rfl, rfl⟩) | (go_at_call 70; refine (wdTruth_any _ _).mono ?_; rintro e w' ⟨rfl, rfl⟩))
  go_ret2
  exact ⟨tup (wrap32_wrap64 _) rfl, rfl⟩
theorem wd2 (a b : Int) (w : World) : Calls Tryz.prog 44 #[.int .i64 2, .int .i64 a, .int .i64 b] w fun e w' => e = .returned (.tuple #[.int .i64 (val 2 a b), .int .i64 0]) ∧ w = w' := by
  go_enter Tryz.func44, Tryz.ntmps44
  go_wp2_with (first | (go_at_call 69; refine (wdWrap_any _ _).mono ?_; rintro e w' ⟨rfl, rfl⟩) | (go_at_call 70; refine (wdTruth_any _ _).mono ?_; rintro e w' ⟨rfl, rfl⟩))
  go_ret2
  exact ⟨tup (wrap32_wrap64 _) rfl, rfl⟩
theorem wd3 (a b : Int) (w : World) : Calls Tryz.prog 44 #[.int .i64 3, .int .i64 a, .int .i64 b] w fun e w' => e = .returned (.tuple #[.int .i64 (val 3 a b), .int .i64 0]) ∧ w = w' := by
  go_enter Tryz.func44, Tryz.ntmps44
  go_wp2_with (first | (go_at_call 69; refine (wdWrap_any _ _).mono ?_; rintro e w' ⟨rfl, rfl⟩) | (go_at_call 70; refine (wdTruth_any _ _).mono ?_; rintro e w' ⟨rfl, rfl⟩))
  go_ret2
  exact ⟨tup (wrap32_wrap64 _) rfl, rfl⟩
theorem wd4 (a b : Int) (w : World) : Calls Tryz.prog 44 #[.int .i64 4, .int .i64 a, .int .i64 b] w fun e w' => e = .returned (.tuple #[.int .i64 (val 4 a b), .int .i64 0]) ∧ w = w' := by
  by_cases h : wrap32 b = 0
  · have hb : (wrap32 b != 0) = false := by simp [h]
    have hv : val 4 a b = wrap32 0 := by unfold val; show wrap32 (if wrap32 b = 0 then 0 else _) = _; rw [if_pos h]
    have hV := Lib.hid hv
    clear hv h
    go_enter Tryz.func44, Tryz.ntmps44
    go_wp2_with (first | (go_at_call 69; refine (wdWrap_any _ _).mono ?_; rintro e w' ⟨rfl, rfl⟩) | (go_at_call 70; refine (wdTruth_any _ _).mono ?_; rintro e w' ⟨rfl, rfl⟩))
    go_ret2
    exact ⟨tup hV.out.symm rfl, rfl⟩
  · have hb : (wrap32 b != 0) = true := by simp [h]
    have hv : val 4 a b = wrap32 ((wrap32 a).tdiv (wrap32 b)) := by unfold val; show wrap32 (if wrap32 b = 0 then 0 else _) = _; rw [if_neg h]
    have hV := Lib.hid hv
    clear hv
    go_enter Tryz.func44, Tryz.ntmps44
    go_wp2_with (first | (go_at_call 69; refine (wdWrap_any _ _).mono ?_; rintro e w' ⟨rfl, rfl⟩) | (go_at_call 70; refine (wdTruth_any _ _).mono ?_; rintro e w' ⟨rfl, rfl⟩))
    go_ret2
    exact ⟨tup (by rw [hV.out]; exact wrap32_wrap64 _) rfl, rfl⟩
theorem wd5 (a b : Int) (w : World) : Calls Tryz.prog 44 #[.int .i64 5, .int .i64 a, .int .i64 b] w fun e w' => e = .returned (.tuple #[.int .i64 (val 5 a b), .int .i64 0]) ∧ w = w' := by
  by_cases h : wrap32 b = 0
  · have hb : (wrap32 b != 0) = false := by simp [h]
    have hv : val 5 a b = wrap32 0 := by unfold val; show wrap32 (if wrap32 b = 0 then 0 else _) = _; rw [if_pos h]
    have hV := Lib.hid hv
    clear hv h
    go_enter Tryz.func44, Tryz.ntmps44
    go_wp2_with (first | (go_at_call 69; refine (wdWrap_any _ _).mono ?_; rintro e w' ⟨rfl, rfl⟩) | (go_at_call 70; refine (wdTruth_any _ _).mono ?_; rintro e w' ⟨rfl, rfl⟩))
    go_ret2
    exact ⟨tup hV.out.symm rfl, rfl⟩
  · have hb : (wrap32 b != 0) = true := by simp [h]
    have hv : val 5 a b = wrap32 ((wrap32 a).tmod (wrap32 b)) := by unfold val; show wrap32 (if wrap32 b = 0 then 0 else _) = _; rw [if_neg h]
    have hV := Lib.hid hv
    clear hv
    go_enter Tryz.func44, Tryz.ntmps44
    go_wp2_with (first | (go_at_call 69; refine (wdWrap_any _ _).mono ?_; rintro e w' ⟨rfl, rfl⟩) | (go_at_call 70; refine (wdTruth_any _ _).mono ?_; rintro e w' ⟨rfl, rfl⟩))
    go_ret2
    exact ⟨tup (by rw [hV.out]) rfl, rfl⟩
theorem wd6 (a b : Int) (w : World) : Calls Tryz.prog 44 #[.int .i64 6, .int .i64 a, .int .i64 b] w fun e w' => e = .returned (.tuple #[.int .i64 (val 6 a b), .int .i64 0]) ∧ w = w' := by
  go_enter Tryz.func44, Tryz.ntmps44
  go_wp2_with (first | (go_at_call 69; refine (wdWrap_any _ _).mono ?_; rintro e w' ⟨rfl, rfl⟩) | (go_at_call 70; refine (wdTruth_any _ _).mono ?_; rintro e w' ⟨rfl, rfl⟩))
  go_ret2
  exact ⟨tup (rfl) rfl, rfl⟩
theorem wd7 (a b : Int) (w : World) : Calls Tryz.prog 44 #[.int .i64 7, .int .i64 a, .int .i64 b] w fun e w' => e = .returned (.tuple #[.int .i64 (val 7 a b), .int .i64 0]) ∧ w = w' := by
  go_enter Tryz.func44, Tryz.ntmps44
  go_wp2_with (first | (go_at_call 69; refine (wdWrap_any _ _).mono ?_; rintro e w' ⟨rfl, rfl⟩) | (go_at_call 70; refine (wdTruth_any _ _).mono ?_; rintro e w' ⟨rfl, rfl⟩))
  go_ret2
  exact ⟨tup (rfl) rfl, rfl⟩
theorem wd8 (a b : Int) (w : World) : Calls Tryz.prog 44 #[.int .i64 8, .int .i64 a, .int .i64 b] w fun e w' => e = .returned (.tuple #[.int .i64 (val 8 a b), .int .i64 0]) ∧ w = w' := by
  go_enter Tryz.func44, Tryz.ntmps44
  go_wp2_with (first | (go_at_call 69; refine (wdWrap_any _ _).mono ?_; rintro e w' ⟨rfl, rfl⟩) | (go_at_call 70; refine (wdTruth_any _ _).mono ?_; rintro e w' ⟨rfl, rfl⟩))
  go_ret2
  exact ⟨tup (rfl) rfl, rfl⟩
theorem wd9 (a b : Int) (w : World) : Calls Tryz.prog 44 #[.int .i64 9, .int .i64 a, .int .i64 b] w fun e w' => e = .returned (.tuple #[.int .i64 (val 9 a b), .int .i64 0]) ∧ w = w' := by
  have h0 : 0 ≤ wrap32 b % 32 := by omega
  have hm := and31 (wrap32 b)
  have h5 : IntKind.u64.wrap (wrap32 b % 32) = wrap32 b % 32 := by rw [IntWalk.u64_in]; omega
  go_enter Tryz.func44, Tryz.ntmps44
  go_wp2_with (first | (go_at_call 69; refine (wdWrap_any _ _).mono ?_; rintro e w' ⟨rfl, rfl⟩) | (go_at_call 70; refine (wdTruth_any _ _).mono ?_; rintro e w' ⟨rfl, rfl⟩))
  go_ret2
  exact ⟨tup (wrap32_wrap64 _) rfl, rfl⟩
theorem wd10 (a b : Int) (w : World) : Calls Tryz.prog 44 #[.int .i64 10, .int .i64 a, .int .i64 b] w fun e w' => e = .returned (.tuple #[.int .i64 (val 10 a b), .int .i64 0]) ∧ w = w' := by
  have h0 : 0 ≤ wrap32 b % 32 := by omega
  have hm := and31 (wrap32 b)
  have h5 : IntKind.u64.wrap (wrap32 b % 32) = wrap32 b % 32 := by rw [IntWalk.u64_in]; omega
  go_enter Tryz.func44, Tryz.ntmps44
  go_wp2_with (first | (go_at_call 69; refine (wdWrap_any _ _).mono ?_; rintro e w' ⟨rfl, rfl⟩) | (go_at_call 70; refine (wdTruth_any _ _).mono ?_; rintro e w' ⟨rfl, rfl⟩))
  go_ret2
  exact ⟨tup (rfl) rfl, rfl⟩
theorem wd11 (a b : Int) (w : World) : Calls Tryz.prog 44 #[.int .i64 11, .int .i64 a, .int .i64 b] w fun e w' => e = .returned (.tuple #[.int .i64 (val 11 a b), .int .i64 0]) ∧ w = w' := by
  go_enter Tryz.func44, Tryz.ntmps44
  go_wp2_with (first | (go_at_call 69; refine (wdWrap_any _ _).mono ?_; rintro e w' ⟨rfl, rfl⟩) | (go_at_call 70; refine (wdTruth_any _ _).mono ?_; rintro e w' ⟨rfl, rfl⟩))
  go_ret2
  exact ⟨tup (rfl) rfl, rfl⟩
theorem wd12 (a b : Int) (w : World) : Calls Tryz.prog 44 #[.int .i64 12, .int .i64 a, .int .i64 b] w fun e w' => e = .returned (.tuple #[.int .i64 (val 12 a b), .int .i64 0]) ∧ w = w' := by
  go_enter Tryz.func44, Tryz.ntmps44
  go_wp2_with (first | (go_at_call 69; refine (wdWrap_any _ _).mono ?_; rintro e w' ⟨rfl, rfl⟩) | (go_at_call 70; refine (wdTruth_any _ _).mono ?_; rintro e w' ⟨rfl, rfl⟩))
  go_ret2
  exact ⟨tup (rfl) rfl, rfl⟩
theorem wd13 (a b : Int) (w : World) : Calls Tryz.prog 44 #[.int .i64 13, .int .i64 a, .int .i64 b] w fun e w' => e = .returned (.tuple #[.int .i64 (val 13 a b), .int .i64 0]) ∧ w = w' := by
  go_enter Tryz.func44, Tryz.ntmps44
  go_wp2_with (first | (go_at_call 69; refine (wdWrap_any _ _).mono ?_; rintro e w' ⟨rfl, rfl⟩) | (go_at_call 70; refine (wdTruth_any _ _).mono ?_; rintro e w' ⟨rfl, rfl⟩))
  go_ret2
  exact ⟨tup (rfl) rfl, rfl⟩
theorem wd14 (a b : Int) (w : World) : Calls Tryz.prog 44 #[.int .i64 14, .int .i64 a, .int .i64 b] w fun e w' => e = .returned (.tuple #[.int .i64 (val 14 a b), .int .i64 0]) ∧ w = w' := by
  go_enter Tryz.func44, Tryz.ntmps44
  go_wp2_with (first | (go_at_call 69; refine (wdWrap_any _ _).mono ?_; rintro e w' ⟨rfl, rfl⟩) | (go_at_call 70; refine (wdTruth_any _ _).mono ?_; rintro e w' ⟨rfl, rfl⟩))
  go_ret2
  exact ⟨tup (rfl) rfl, rfl⟩
theorem no_of {a b : Int} (h : a ≠ b) : (a == b) = false := by simp [h]
theorem wd0 (op a b : Int) (h : ¬ (1 ≤ op ∧ op ≤ 14)) (w : World) : Calls Tryz.prog 44 #[.int .i64 op, .int .i64 a, .int .i64 b] w fun e w' => e = .returned (.tuple #[.int .i64 0, .int .i64 6]) ∧ w = w' := by
  have n1 := no_of (a := op) (b := 1) (by omega)
  have n2 := no_of (a := op) (b := 2) (by omega)
  have n3 := no_of (a := op) (b := 3) (by omega)
  have n4 := no_of (a := op) (b := 4) (by omega)
  have n5 := no_of (a := op) (b := 5) (by omega)
  have n6 := no_of (a := op) (b := 6) (by omega)
  have n7 := no_of (a := op) (b := 7) (by omega)
  have n8 := no_of (a := op) (b := 8) (by omega)
  have n9 := no_of (a := op) (b := 9) (by omega)
  have n10 := no_of (a := op) (b := 10) (by omega)
  have n11 := no_of (a := op) (b := 11) (by omega)
  have n12 := no_of (a := op) (b := 12) (by omega)
  have n13 := no_of (a := op) (b := 13) (by omega)
  have n14 := no_of (a := op) (b := 14) (by omega)
  clear h
  go_enter Tryz.func44, Tryz.ntmps44
  go_wp2_with (first | (go_at_call 69; refine (wdWrap_any _ _).mono ?_; rintro e w' ⟨rfl, rfl⟩) | (go_at_call 70; refine (wdTruth_any _ _).mono ?_; rintro e w' ⟨rfl, rfl⟩))
  go_ret2
  exact ⟨rfl, rfl⟩
/-- The specification's Do, for any numbers. -/
theorem wdDo_any (op a b : Int) (w : World) : Calls Tryz.prog 44 #[.int .i64 op, .int .i64 a, .int .i64 b] w fun e w' => e = .returned (.tuple #[.int .i64 (val op a b), .int .i64 (fault op)]) ∧ w = w' := by
  by_cases h : 1 ≤ op ∧ op ≤ 14
  · rw [fault_yes h]
    have hc : op = 1 ∨ op = 2 ∨ op = 3 ∨ op = 4 ∨ op = 5 ∨ op = 6 ∨ op = 7 ∨ op = 8 ∨ op = 9 ∨ op = 10 ∨ op = 11 ∨ op = 12 ∨ op = 13 ∨ op = 14 := by omega
    rcases hc with rfl | rfl | rfl | rfl | rfl | rfl | rfl | rfl | rfl | rfl | rfl | rfl | rfl | rfl
    · exact wd1 a b w
    · exact wd2 a b w
    · exact wd3 a b w
    · exact wd4 a b w
    · exact wd5 a b w
    · exact wd6 a b w
    · exact wd7 a b w
    · exact wd8 a b w
    · exact wd9 a b w
    · exact wd10 a b w
    · exact wd11 a b w
    · exact wd12 a b w
    · exact wd13 a b w
    · exact wd14 a b w
  · rw [val_no h, fault_no h]
    exact wd0 op a b h w
end Go.Proofs.YtojflhkmonicoaaGreat
namespace Go.Proofs.YtojflhkmonicoaaGreat
open Go.RowKit
set_option linter.unusedVariables false
set_option linter.unusedSimpArgs false
theorem wWrap_c (n : Int) (w : World) : Calls Tryz.prog 74 #[.int .i64 n] w fun e w' => e = .returned (.int .i64 (wrap32 n)) ∧ w = w' := by
  go_enter Tryz.func74, Tryz.ntmps74
  go_wp2
  go_ret
  have h : wrap64 (wrap32 n) = wrap32 n := wrap64_wrap32 n
  simp [h]
def fns : Value := .agg #[Value.nilFunc, Value.func (Fn.func 101) #[] #[], Value.func (Fn.func 102) #[] #[],
              Value.func (Fn.func 103) #[] #[], Value.func (Fn.func 104) #[] #[], Value.func (Fn.func 105) #[] #[],
              Value.func (Fn.func 106) #[] #[], Value.func (Fn.func 107) #[] #[], Value.func (Fn.func 108) #[] #[],
              Value.func (Fn.func 109) #[] #[], Value.func (Fn.func 111) #[] #[], Value.func (Fn.func 112) #[] #[],
              Value.func (Fn.func 114) #[] #[], Value.func (Fn.func 115) #[] #[], Value.func (Fn.func 116) #[] #[]]
theorem woperations_c (w : World) : Calls Tryz.prog 100 #[] w fun e w' => e = .returned fns ∧ Below w.heap.size w w' := by
  go_enter Tryz.func100, Tryz.ntmps100
  go_wp2
  refine bodyPost_ret (v := fns) (by simp [results, Tryz.results100, go_sem]; rfl) rfl ⟨rfl, (Below.refl _ _).alloc (Nat.le_refl _) _⟩
theorem wKnown_c (op : Int) (b : Bool) (h : decide (1 ≤ op ∧ op ≤ 14) = b) (w : World) : Calls Tryz.prog 96 #[.int .i64 op] w fun e w' => e = .returned (.bool b) ∧ w = w' := by
  go_enter Tryz.func96, Tryz.ntmps96
  by_cases h1 : 1 ≤ op <;> by_cases h2 : op ≤ 14
  all_goals
    go_wp2
    go_ret
    subst h
    simp [h1, h2]
theorem do_of (op a b v : Int) (F : Nat) (h1 : 1 ≤ op) (h14 : op ≤ 14) (hi : ∀ w, (Instr.index 121 fns (.int .i64 op)).run Tryz.prog w = .ok (Value.func (Fn.func F) #[] #[]) w)
    (he : ∀ args w, (callFunc F args).run Tryz.prog w = .ok (.enter F args) w)
    (hF0 : ∀ w, Calls Tryz.prog F #[.int .i64 (wrap32 a), .int .i64 (wrap32 b)] w fun e w' => e = .returned (.int .i64 v) ∧ w = w') (w : World) :
    Calls Tryz.prog 87 #[.int .i64 op, .int .i64 a, .int .i64 b] w fun e w' => e = .returned (.tuple #[.int .i64 (wrap32 v), .int .i64 0]) ∧ Below w.heap.size w w' := by
  have hF := Lib.hid hF0
  clear hF0
  have hkn : decide (1 ≤ op ∧ op ≤ 14) = true := by simp [h1, h14]
  have hKn := Lib.hid hkn
  clear hkn
  go_enter Tryz.func87, Tryz.ntmps87
  go_wp2_with (go_at_call 96; refine (wKnown_c _ true hKn.out _).mono ?_; rintro e w' ⟨rfl, rfl⟩)
  go_region_held3 (fun _ => True) (exact trivial) (first | (go_at_call 100; refine (woperations_c _).mono ?_; rintro e w1 ⟨rfl, hw1⟩) | (go_at_call 74; refine (wWrap_c _ _).mono ?_; rintro e w2 ⟨rfl, rfl⟩) | ((with_reducible refine (hF.out _).mono ?_); rintro e w2 ⟨rfl, rfl⟩))
  all_goals
    go_wp2
    go_ret2
    exact ⟨rfl, (below_drewN _ _ 1).trans hw1⟩

theorem ret_int {k : IntKind} {a b : Int} (h : a = b) : Ending.returned (.int k a) = .returned (.int k b) := by rw [h]
theorem wplaces_c (b : Int) (w : World) : Calls Tryz.prog 110 #[.int .i64 b] w fun e w' => e = .returned (.int .i64 (b % 32)) ∧ w = w' := by
  go_enter Tryz.func110, Tryz.ntmps110
  go_wp2
  go_ret
  simp [mask31]
theorem wtruth_c (b : Bool) (w : World) : Calls Tryz.prog 113 #[.bool b] w fun e w' => e = .returned (.int .i64 (one b)) ∧ w = w' := by
  cases b
  all_goals
    go_enter Tryz.func113, Tryz.ntmps113
    go_wp2
    go_ret
    simp [one]
theorem woperations_1_c (x y : Int) (w : World) : Calls Tryz.prog 101 #[.int .i64 x, .int .i64 y] w fun e w' => e = .returned (.int .i64 (wrap64 (x + y))) ∧ w = w' := by
  go_enter Tryz.func101, Tryz.ntmps101
  go_wp2
  go_ret
  simp
theorem woperations_2_c (x y : Int) (w : World) : Calls Tryz.prog 102 #[.int .i64 x, .int .i64 y] w fun e w' => e = .returned (.int .i64 (wrap64 (x - y))) ∧ w = w' := by
  go_enter Tryz.func102, Tryz.ntmps102
  go_wp2
  go_ret
  simp
theorem woperations_3_c (x y : Int) (w : World) : Calls Tryz.prog 103 #[.int .i64 x, .int .i64 y] w fun e w' => e = .returned (.int .i64 (wrap64 (x * y))) ∧ w = w' := by
  go_enter Tryz.func103, Tryz.ntmps103
  go_wp2
  go_ret
  simp
theorem woperations_4_c (x y : Int) (w : World) : Calls Tryz.prog 106 #[.int .i64 x, .int .i64 y] w fun e w' => e = .returned (.int .i64 (bits .and .i64 x y)) ∧ w = w' := by
  go_enter Tryz.func106, Tryz.ntmps106
  go_wp2
  go_ret
  simp
theorem woperations_5_c (x y : Int) (w : World) : Calls Tryz.prog 107 #[.int .i64 x, .int .i64 y] w fun e w' => e = .returned (.int .i64 (bits .or .i64 x y)) ∧ w = w' := by
  go_enter Tryz.func107, Tryz.ntmps107
  go_wp2
  go_ret
  simp
theorem woperations_6_c (x y : Int) (w : World) : Calls Tryz.prog 108 #[.int .i64 x, .int .i64 y] w fun e w' => e = .returned (.int .i64 (bits .xor .i64 x y)) ∧ w = w' := by
  go_enter Tryz.func108, Tryz.ntmps108
  go_wp2
  go_ret
  simp
theorem wquotient_c (x y : Int) (w : World) : Calls Tryz.prog 104 #[.int .i64 x, .int .i64 y] w fun e w' => e = .returned (.int .i64 (if y = 0 then 0 else wrap64 (x.tdiv y))) ∧ w = w' := by
  by_cases h : y = 0
  · subst h
    go_enter Tryz.func104, Tryz.ntmps104
    go_wp2
    go_ret
    simp
  · have hb : (y == 0) = false := by simp [h]
    rw [if_neg h]
    go_enter Tryz.func104, Tryz.ntmps104
    go_wp2
    go_ret
    simp
theorem wremainder_c (x y : Int) (w : World) : Calls Tryz.prog 105 #[.int .i64 x, .int .i64 y] w fun e w' => e = .returned (.int .i64 (if y = 0 then 0 else x.tmod y)) ∧ w = w' := by
  by_cases h : y = 0
  · subst h
    go_enter Tryz.func105, Tryz.ntmps105
    go_wp2
    go_ret
    simp
  · have hb : (y == 0) = false := by simp [h]
    rw [if_neg h]
    go_enter Tryz.func105, Tryz.ntmps105
    go_wp2
    go_ret
    simp
theorem woperations_7_c (x y : Int) (w : World) : Calls Tryz.prog 109 #[.int .i64 x, .int .i64 y] w fun e w' => e = .returned (.int .i64 (wrap64 (x * 2 ^ (y % 32).toNat))) ∧ w = w' := by
  have h0 : 0 ≤ y % 32 := by omega
  go_enter Tryz.func109, Tryz.ntmps109
  go_wp2_with (go_at_call 110; refine (wplaces_c _ _).mono ?_; rintro e w' ⟨rfl, rfl⟩)
  go_ret
  simp
theorem woperations_8_c (x y : Int) (w : World) : Calls Tryz.prog 111 #[.int .i64 x, .int .i64 y] w fun e w' => e = .returned (.int .i64 (x / 2 ^ (y % 32).toNat)) ∧ w = w' := by
  have h0 : 0 ≤ y % 32 := by omega
  go_enter Tryz.func111, Tryz.ntmps111
  go_wp2_with (go_at_call 110; refine (wplaces_c _ _).mono ?_; rintro e w' ⟨rfl, rfl⟩)
  go_ret
  simp
theorem woperations_9_c (x y : Int) (w : World) : Calls Tryz.prog 112 #[.int .i64 x, .int .i64 y] w fun e w' => e = .returned (.int .i64 (one (decide (x < y)))) ∧ w = w' := by
  go_enter Tryz.func112, Tryz.ntmps112
  go_wp2_with (go_at_call 113; refine (wtruth_c _ _).mono ?_; rintro e w' ⟨rfl, rfl⟩)
  go_ret
  simp
theorem woperations_10_c (x y : Int) (w : World) : Calls Tryz.prog 114 #[.int .i64 x, .int .i64 y] w fun e w' => e = .returned (.int .i64 (one (decide (x ≤ y)))) ∧ w = w' := by
  go_enter Tryz.func114, Tryz.ntmps114
  go_wp2_with (go_at_call 113; refine (wtruth_c _ _).mono ?_; rintro e w' ⟨rfl, rfl⟩)
  go_ret
  simp
theorem woperations_11_c (x y : Int) (w : World) : Calls Tryz.prog 115 #[.int .i64 x, .int .i64 y] w fun e w' => e = .returned (.int .i64 (one (x == y))) ∧ w = w' := by
  go_enter Tryz.func115, Tryz.ntmps115
  go_wp2_with (go_at_call 113; refine (wtruth_c _ _).mono ?_; rintro e w' ⟨rfl, rfl⟩)
  go_ret
  simp
theorem woperations_12_c (x y : Int) (w : World) : Calls Tryz.prog 116 #[.int .i64 x, .int .i64 y] w fun e w' => e = .returned (.int .i64 (one (x != y))) ∧ w = w' := by
  go_enter Tryz.func116, Tryz.ntmps116
  go_wp2_with (go_at_call 113; refine (wtruth_c _ _).mono ?_; rintro e w' ⟨rfl, rfl⟩)
  go_ret
  simp
theorem val_of {op a b v : Int} (h : wrap32 v = wrap32 (raw op (wrap32 a) (wrap32 b))) : wrap32 v = val op a b := h
theorem do_no (op a b : Int) (h : ¬ (1 ≤ op ∧ op ≤ 14)) (w : World) :
    Calls Tryz.prog 87 #[.int .i64 op, .int .i64 a, .int .i64 b] w fun e w' => e = .returned (.tuple #[.int .i64 0, .int .i64 6]) ∧ Below w.heap.size w w' := by
  have hk : decide (1 ≤ op ∧ op ≤ 14) = false := by simpa using h
  have hK := Lib.hid hk
  clear hk h
  go_enter Tryz.func87, Tryz.ntmps87
  go_wp2_with (go_at_call 96; refine (wKnown_c _ false hK.out _).mono ?_; rintro e w' ⟨rfl, rfl⟩)
  go_ret2
  exact ⟨rfl, Below.refl _ _⟩
/-- Do, for any numbers. -/
theorem do_any (op a b : Int) (w : World) :
    Calls Tryz.prog 87 #[.int .i64 op, .int .i64 a, .int .i64 b] w fun e w' => e = .returned (.tuple #[.int .i64 (val op a b), .int .i64 (fault op)]) ∧ Below w.heap.size w w' := by
  by_cases h : 1 ≤ op ∧ op ≤ 14
  · have hc : op = 1 ∨ op = 2 ∨ op = 3 ∨ op = 4 ∨ op = 5 ∨ op = 6 ∨ op = 7 ∨ op = 8 ∨ op = 9 ∨ op = 10 ∨ op = 11 ∨ op = 12 ∨ op = 13 ∨ op = 14 := by omega
    rcases hc with rfl | rfl | rfl | rfl | rfl | rfl | rfl | rfl | rfl | rfl | rfl | rfl | rfl | rfl
    · exact (do_of 1 a b _ 101 (by decide) (by decide) (fun _ => by kernel_rfl) Tryz.call101 (woperations_1_c _ _) w).mono fun e w' ⟨he, hg⟩ => ⟨he.trans (tup (val_of (wrap32_wrap64 _)) rfl), hg⟩
    · exact (do_of 2 a b _ 102 (by decide) (by decide) (fun _ => by kernel_rfl) Tryz.call102 (woperations_2_c _ _) w).mono fun e w' ⟨he, hg⟩ => ⟨he.trans (tup (val_of (wrap32_wrap64 _)) rfl), hg⟩
    · exact (do_of 3 a b _ 103 (by decide) (by decide) (fun _ => by kernel_rfl) Tryz.call103 (woperations_3_c _ _) w).mono fun e w' ⟨he, hg⟩ => ⟨he.trans (tup (val_of (wrap32_wrap64 _)) rfl), hg⟩
    · exact (do_of 4 a b _ 104 (by decide) (by decide) (fun _ => by kernel_rfl) Tryz.call104 (wquotient_c _ _) w).mono fun e w' ⟨he, hg⟩ => ⟨he.trans (tup (val_of (by show wrap32 (if wrap32 b = 0 then 0 else wrap64 ((wrap32 a).tdiv (wrap32 b))) = wrap32 (if wrap32 b = 0 then 0 else (wrap32 a).tdiv (wrap32 b)); split <;> simp only [wrap32_wrap64])) rfl), hg⟩
    · exact (do_of 5 a b _ 105 (by decide) (by decide) (fun _ => by kernel_rfl) Tryz.call105 (wremainder_c _ _) w).mono fun e w' ⟨he, hg⟩ => ⟨he.trans (tup (val_of (rfl)) rfl), hg⟩
    · exact (do_of 6 a b _ 106 (by decide) (by decide) (fun _ => by kernel_rfl) Tryz.call106 (woperations_4_c _ _) w).mono fun e w' ⟨he, hg⟩ => ⟨he.trans (tup (val_of (rfl)) rfl), hg⟩
    · exact (do_of 7 a b _ 107 (by decide) (by decide) (fun _ => by kernel_rfl) Tryz.call107 (woperations_5_c _ _) w).mono fun e w' ⟨he, hg⟩ => ⟨he.trans (tup (val_of (rfl)) rfl), hg⟩
    · exact (do_of 8 a b _ 108 (by decide) (by decide) (fun _ => by kernel_rfl) Tryz.call108 (woperations_6_c _ _) w).mono fun e w' ⟨he, hg⟩ => ⟨he.trans (tup (val_of (rfl)) rfl), hg⟩
    · exact (do_of 9 a b _ 109 (by decide) (by decide) (fun _ => by kernel_rfl) Tryz.call109 (woperations_7_c _ _) w).mono fun e w' ⟨he, hg⟩ => ⟨he.trans (tup (val_of (wrap32_wrap64 _)) rfl), hg⟩
    · exact (do_of 10 a b _ 111 (by decide) (by decide) (fun _ => by kernel_rfl) Tryz.call111 (woperations_8_c _ _) w).mono fun e w' ⟨he, hg⟩ => ⟨he.trans (tup (val_of (rfl)) rfl), hg⟩
    · exact (do_of 11 a b _ 112 (by decide) (by decide) (fun _ => by kernel_rfl) Tryz.call112 (woperations_9_c _ _) w).mono fun e w' ⟨he, hg⟩ => ⟨he.trans (tup (val_of (rfl)) rfl), hg⟩
    · exact (do_of 12 a b _ 114 (by decide) (by decide) (fun _ => by kernel_rfl) Tryz.call114 (woperations_10_c _ _) w).mono fun e w' ⟨he, hg⟩ => ⟨he.trans (tup (val_of (rfl)) rfl), hg⟩
    · exact (do_of 13 a b _ 115 (by decide) (by decide) (fun _ => by kernel_rfl) Tryz.call115 (woperations_11_c _ _) w).mono fun e w' ⟨he, hg⟩ => ⟨he.trans (tup (val_of (rfl)) rfl), hg⟩
    · exact (do_of 14 a b _ 116 (by decide) (by decide) (fun _ => by kernel_rfl) Tryz.call116 (woperations_12_c _ _) w).mono fun e w' ⟨he, hg⟩ => ⟨he.trans (tup (val_of (rfl)) rfl), hg⟩
  · refine (do_no op a b h w).mono fun e w' ⟨he, hg⟩ => ⟨he.trans ?_, hg⟩
    rw [val_no h, fault_no h]
end Go.Proofs.YtojflhkmonicoaaGreat
