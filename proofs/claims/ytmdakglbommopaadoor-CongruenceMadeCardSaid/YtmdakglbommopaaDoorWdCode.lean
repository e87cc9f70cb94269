/- Package word's Do answers what the plain arithmetic says. No condition. -/
import Derived.Test.YtmdakglbommopaaDoorStBase
import Derived.Test.YtmdakglbommopaaDoorWdRef
import Derived.Laws.EntriesVeiled
namespace Go.Proofs.YtmdakglbommopaaDoor
open Go.RowKit
set_option linter.unusedVariables false
set_option linter.unusedSimpArgs false
theorem wWrap_c (n : Int) (w : World) : Calls Tryd.prog 37 #[.int .i64 n] w fun e w' => e = .returned (.int .i64 (wrap32 n)) ∧ w = w' := by
  go_enter Tryd.func37, Tryd.ntmps37
  go_wp2
  go_ret
  have h : wrap64 (wrap32 n) = wrap32 n := wrap64_wrap32 n
  simp [h]
def fns : Value := .agg #[Value.nilFunc, Value.func (Fn.func 48) #[] #[], Value.func (Fn.func 49) #[] #[],
              Value.func (Fn.func 50) #[] #[], Value.func (Fn.func 51) #[] #[], Value.func (Fn.func 52) #[] #[],
              Value.func (Fn.func 53) #[] #[], Value.func (Fn.func 54) #[] #[], Value.func (Fn.func 55) #[] #[],
              Value.func (Fn.func 56) #[] #[], Value.func (Fn.func 58) #[] #[], Value.func (Fn.func 59) #[] #[],
              Value.func (Fn.func 61) #[] #[], Value.func (Fn.func 62) #[] #[], Value.func (Fn.func 63) #[] #[]]
theorem woperations_c (w : World) : Calls Tryd.prog 45 #[] w fun e w' => e = .returned fns ∧ Below w.heap.size w w' := by
  go_enter Tryd.func45, Tryd.ntmps45
  go_wp2
  refine bodyPost_ret (v := fns) (by simp [results, Tryd.results45, go_sem]; rfl) rfl ⟨rfl, (Below.refl _ _).alloc (Nat.le_refl _) _⟩
theorem wKnown_c (op : Int) (b : Bool) (h : decide (1 ≤ op ∧ op ≤ 14) = b) (w : World) : Calls Tryd.prog 44 #[.int .i64 op] w fun e w' => e = .returned (.bool b) ∧ w = w' := by
  go_enter Tryd.func44, Tryd.ntmps44
  by_cases h1 : 1 ≤ op <;> by_cases h2 : op ≤ 14
  all_goals
    go_wp2
    go_ret
    subst h
    simp [h1, h2]
theorem do_of (op a b v : Int) (F : Nat) (h1 : 1 ≤ op) (h14 : op ≤ 14) (hi : ∀ w, (Instr.index 56 fns (.int .i64 op)).run Tryd.prog w = .ok (Value.func (Fn.func F) #[] #[]) w)
    (he : ∀ args w, (callFunc F args).run Tryd.prog w = .ok (.enter F args) w)
    (hF0 : ∀ w, Calls Tryd.prog F #[.int .i64 (wrap32 a), .int .i64 (wrap32 b)] w fun e w' => e = .returned (.int .i64 v) ∧ w = w') (w : World) :
    Calls Tryd.prog 32 #[.int .i64 op, .int .i64 a, .int .i64 b] w fun e w' => e = .returned (.tuple #[.int .i64 (wrap32 v), .int .i64 0]) ∧ Below w.heap.size w w' := by
  have hF := Lib.hid hF0
  clear hF0
  have hkn : decide (1 ≤ op ∧ op ≤ 14) = true := by simp [h1, h14]
  have hKn := Lib.hid hkn
  clear hkn
  go_enter Tryd.func32, Tryd.ntmps32
  go_wp2_with (go_at_call 44; refine (wKnown_c _ true hKn.out _).mono ?_; rintro e w' ⟨rfl, rfl⟩)
  go_region_held3 (fun _ => True) (exact trivial) (first | (go_at_call 45; refine (woperations_c _).mono ?_; rintro e w1 ⟨rfl, hw1⟩) | (go_at_call 37; refine (wWrap_c _ _).mono ?_; rintro e w2 ⟨rfl, rfl⟩) | ((with_reducible refine (hF.out _).mono ?_); rintro e w2 ⟨rfl, rfl⟩))
  all_goals
    go_wp2
    go_ret2
    exact ⟨rfl, (below_drewN _ _ 1).trans hw1⟩

theorem ret_int {k : IntKind} {a b : Int} (h : a = b) : Ending.returned (.int k a) = .returned (.int k b) := by rw [h]
theorem wplaces_c (b : Int) (w : World) : Calls Tryd.prog 57 #[.int .i64 b] w fun e w' => e = .returned (.int .i64 (b % 32)) ∧ w = w' := by
  go_enter Tryd.func57, Tryd.ntmps57
  go_wp2
  go_ret
  simp [mask31]
theorem wtruth_c (b : Bool) (w : World) : Calls Tryd.prog 60 #[.bool b] w fun e w' => e = .returned (.int .i64 (one b)) ∧ w = w' := by
  cases b
  all_goals
    go_enter Tryd.func60, Tryd.ntmps60
    go_wp2
    go_ret
    simp [one]
theorem woperations_1_c (x y : Int) (w : World) : Calls Tryd.prog 48 #[.int .i64 x, .int .i64 y] w fun e w' => e = .returned (.int .i64 (wrap64 (x + y))) ∧ w = w' := by
  go_enter Tryd.func48, Tryd.ntmps48
  go_wp2
  go_ret
  simp
theorem woperations_2_c (x y : Int) (w : World) : Calls Tryd.prog 49 #[.int .i64 x, .int .i64 y] w fun e w' => e = .returned (.int .i64 (wrap64 (x - y))) ∧ w = w' := by
  go_enter Tryd.func49, Tryd.ntmps49
  go_wp2
  go_ret
  simp
theorem woperations_3_c (x y : Int) (w : World) : Calls Tryd.prog 50 #[.int .i64 x, .int .i64 y] w fun e w' => e = .returned (.int .i64 (wrap64 (x * y))) ∧ w = w' := by
  go_enter Tryd.func50, Tryd.ntmps50
  go_wp2
  go_ret
  simp
theorem woperations_4_c (x y : Int) (w : World) : Calls Tryd.prog 53 #[.int .i64 x, .int .i64 y] w fun e w' => e = .returned (.int .i64 (bits .and .i64 x y)) ∧ w = w' := by
  go_enter Tryd.func53, Tryd.ntmps53
  go_wp2
  go_ret
  simp
theorem woperations_5_c (x y : Int) (w : World) : Calls Tryd.prog 54 #[.int .i64 x, .int .i64 y] w fun e w' => e = .returned (.int .i64 (bits .or .i64 x y)) ∧ w = w' := by
  go_enter Tryd.func54, Tryd.ntmps54
  go_wp2
  go_ret
  simp
theorem woperations_6_c (x y : Int) (w : World) : Calls Tryd.prog 55 #[.int .i64 x, .int .i64 y] w fun e w' => e = .returned (.int .i64 (bits .xor .i64 x y)) ∧ w = w' := by
  go_enter Tryd.func55, Tryd.ntmps55
  go_wp2
  go_ret
  simp
theorem wquotient_c (x y : Int) (w : World) : Calls Tryd.prog 51 #[.int .i64 x, .int .i64 y] w fun e w' => e = .returned (.int .i64 (if y = 0 then 0 else wrap64 (x.tdiv y))) ∧ w = w' := by
  by_cases h : y = 0
  · subst h
    go_enter Tryd.func51, Tryd.ntmps51
    go_wp2
    go_ret
    simp
  · have hb : (y == 0) = false := by simp [h]
    rw [if_neg h]
    go_enter Tryd.func51, Tryd.ntmps51
    go_wp2
    go_ret
    simp
theorem wremainder_c (x y : Int) (w : World) : Calls Tryd.prog 52 #[.int .i64 x, .int .i64 y] w fun e w' => e = .returned (.int .i64 (if y = 0 then 0 else x.tmod y)) ∧ w = w' := by
  by_cases h : y = 0
  · subst h
    go_enter Tryd.func52, Tryd.ntmps52
    go_wp2
    go_ret
    simp
  · have hb : (y == 0) = false := by simp [h]
    rw [if_neg h]
    go_enter Tryd.func52, Tryd.ntmps52
    go_wp2
    go_ret
    simp
theorem woperations_7_c (x y : Int) (w : World) : Calls Tryd.prog 56 #[.int .i64 x, .int .i64 y] w fun e w' => e = .returned (.int .i64 (wrap64 (x * 2 ^ (y % 32).toNat))) ∧ w = w' := by
  have h0 : 0 ≤ y % 32 := by omega
  go_enter Tryd.func56, Tryd.ntmps56
  go_wp2_with (go_at_call 57; refine (wplaces_c _ _).mono ?_; rintro e w' ⟨rfl, rfl⟩)
  go_ret
  simp
theorem woperations_8_c (x y : Int) (w : World) : Calls Tryd.prog 58 #[.int .i64 x, .int .i64 y] w fun e w' => e = .returned (.int .i64 (x / 2 ^ (y % 32).toNat)) ∧ w = w' := by
  have h0 : 0 ≤ y % 32 := by omega
  go_enter Tryd.func58, Tryd.ntmps58
  go_wp2_with (go_at_call 57; refine (wplaces_c _ _).mono ?_; rintro e w' ⟨rfl, rfl⟩)
  go_ret
  simp
theorem woperations_9_c (x y : Int) (w : World) : Calls Tryd.prog 59 #[.int .i64 x, .int .i64 y] w fun e w' => e = .returned (.int .i64 (one (decide (x < y)))) ∧ w = w' := by
  go_enter Tryd.func59, Tryd.ntmps59
  go_wp2_with (go_at_call 60; refine (wtruth_c _ _).mono ?_; rintro e w' ⟨rfl, rfl⟩)
  go_ret
  simp
theorem woperations_10_c (x y : Int) (w : World) : Calls Tryd.prog 61 #[.int .i64 x, .int .i64 y] w fun e w' => e = .returned (.int .i64 (one (decide (x ≤ y)))) ∧ w = w' := by
  go_enter Tryd.func61, Tryd.ntmps61
  go_wp2_with (go_at_call 60; refine (wtruth_c _ _).mono ?_; rintro e w' ⟨rfl, rfl⟩)
  go_ret
  simp
theorem woperations_11_c (x y : Int) (w : World) : Calls Tryd.prog 62 #[.int .i64 x, .int .i64 y] w fun e w' => e = .returned (.int .i64 (one (x == y))) ∧ w = w' := by
  go_enter Tryd.func62, Tryd.ntmps62
  go_wp2_with (go_at_call 60; refine (wtruth_c _ _).mono ?_; rintro e w' ⟨rfl, rfl⟩)
  go_ret
  simp
theorem woperations_12_c (x y : Int) (w : World) : Calls Tryd.prog 63 #[.int .i64 x, .int .i64 y] w fun e w' => e = .returned (.int .i64 (one (x != y))) ∧ w = w' := by
  go_enter Tryd.func63, Tryd.ntmps63
  go_wp2_with (go_at_call 60; refine (wtruth_c _ _).mono ?_; rintro e w' ⟨rfl, rfl⟩)
  go_ret
  simp
theorem val_of {op a b v : Int} (h : wrap32 v = wrap32 (raw op (wrap32 a) (wrap32 b))) : wrap32 v = val op a b := h
theorem do_no (op a b : Int) (h : ¬ (1 ≤ op ∧ op ≤ 14)) (w : World) :
    Calls Tryd.prog 32 #[.int .i64 op, .int .i64 a, .int .i64 b] w fun e w' => e = .returned (.tuple #[.int .i64 0, .int .i64 6]) ∧ Below w.heap.size w w' := by
  have hk : decide (1 ≤ op ∧ op ≤ 14) = false := by simpa using h
  have hK := Lib.hid hk
  clear hk h
  go_enter Tryd.func32, Tryd.ntmps32
  go_wp2_with (go_at_call 44; refine (wKnown_c _ false hK.out _).mono ?_; rintro e w' ⟨rfl, rfl⟩)
  go_ret2
  exact ⟨rfl, Below.refl _ _⟩
/-- Do, for any numbers. -/
theorem do_any (op a b : Int) (w : World) :
    Calls Tryd.prog 32 #[.int .i64 op, .int .i64 a, .int .i64 b] w fun e w' => e = .returned (.tuple #[.int .i64 (val op a b), .int .i64 (fault op)]) ∧ Below w.heap.size w w' := by
  by_cases h : 1 ≤ op ∧ op ≤ 14
  · have hc : op = 1 ∨ op = 2 ∨ op = 3 ∨ op = 4 ∨ op = 5 ∨ op = 6 ∨ op = 7 ∨ op = 8 ∨ op = 9 ∨ op = 10 ∨ op = 11 ∨ op = 12 ∨ op = 13 ∨ op = 14 := by omega
    rcases hc with rfl | rfl | rfl | rfl | rfl | rfl | rfl | rfl | rfl | rfl | rfl | rfl | rfl | rfl
    · exact (do_of 1 a b _ 48 (by decide) (by decide) (fun _ => by kernel_rfl) Tryd.call48 (woperations_1_c _ _) w).mono fun e w' ⟨he, hg⟩ => ⟨he.trans (tup (val_of (wrap32_wrap64 _)) rfl), hg⟩
    · exact (do_of 2 a b _ 49 (by decide) (by decide) (fun _ => by kernel_rfl) Tryd.call49 (woperations_2_c _ _) w).mono fun e w' ⟨he, hg⟩ => ⟨he.trans (tup (val_of (wrap32_wrap64 _)) rfl), hg⟩
    · exact (do_of 3 a b _ 50 (by decide) (by decide) (fun _ => by kernel_rfl) Tryd.call50 (woperations_3_c _ _) w).mono fun e w' ⟨he, hg⟩ => ⟨he.trans (tup (val_of (wrap32_wrap64 _)) rfl), hg⟩
    · exact (do_of 4 a b _ 51 (by decide) (by decide) (fun _ => by kernel_rfl) Tryd.call51 (wquotient_c _ _) w).mono fun e w' ⟨he, hg⟩ => ⟨he.trans (tup (val_of (by show wrap32 (if wrap32 b = 0 then 0 else wrap64 ((wrap32 a).tdiv (wrap32 b))) = wrap32 (if wrap32 b = 0 then 0 else (wrap32 a).tdiv (wrap32 b)); split <;> simp only [wrap32_wrap64])) rfl), hg⟩
    · exact (do_of 5 a b _ 52 (by decide) (by decide) (fun _ => by kernel_rfl) Tryd.call52 (wremainder_c _ _) w).mono fun e w' ⟨he, hg⟩ => ⟨he.trans (tup (val_of (rfl)) rfl), hg⟩
    · exact (do_of 6 a b _ 53 (by decide) (by decide) (fun _ => by kernel_rfl) Tryd.call53 (woperations_4_c _ _) w).mono fun e w' ⟨he, hg⟩ => ⟨he.trans (tup (val_of (rfl)) rfl), hg⟩
    · exact (do_of 7 a b _ 54 (by decide) (by decide) (fun _ => by kernel_rfl) Tryd.call54 (woperations_5_c _ _) w).mono fun e w' ⟨he, hg⟩ => ⟨he.trans (tup (val_of (rfl)) rfl), hg⟩
    · exact (do_of 8 a b _ 55 (by decide) (by decide) (fun _ => by kernel_rfl) Tryd.call55 (woperations_6_c _ _) w).mono fun e w' ⟨he, hg⟩ => ⟨he.trans (tup (val_of (rfl)) rfl), hg⟩
    · exact (do_of 9 a b _ 56 (by decide) (by decide) (fun _ => by kernel_rfl) Tryd.call56 (woperations_7_c _ _) w).mono fun e w' ⟨he, hg⟩ => ⟨he.trans (tup (val_of (wrap32_wrap64 _)) rfl), hg⟩
    · exact (do_of 10 a b _ 58 (by decide) (by decide) (fun _ => by kernel_rfl) Tryd.call58 (woperations_8_c _ _) w).mono fun e w' ⟨he, hg⟩ => ⟨he.trans (tup (val_of (rfl)) rfl), hg⟩
    · exact (do_of 11 a b _ 59 (by decide) (by decide) (fun _ => by kernel_rfl) Tryd.call59 (woperations_9_c _ _) w).mono fun e w' ⟨he, hg⟩ => ⟨he.trans (tup (val_of (rfl)) rfl), hg⟩
    · exact (do_of 12 a b _ 61 (by decide) (by decide) (fun _ => by kernel_rfl) Tryd.call61 (woperations_10_c _ _) w).mono fun e w' ⟨he, hg⟩ => ⟨he.trans (tup (val_of (rfl)) rfl), hg⟩
    · exact (do_of 13 a b _ 62 (by decide) (by decide) (fun _ => by kernel_rfl) Tryd.call62 (woperations_11_c _ _) w).mono fun e w' ⟨he, hg⟩ => ⟨he.trans (tup (val_of (rfl)) rfl), hg⟩
    · exact (do_of 14 a b _ 63 (by decide) (by decide) (fun _ => by kernel_rfl) Tryd.call63 (woperations_12_c _ _) w).mono fun e w' ⟨he, hg⟩ => ⟨he.trans (tup (val_of (rfl)) rfl), hg⟩
  · refine (do_no op a b h w).mono fun e w' ⟨he, hg⟩ => ⟨he.trans ?_, hg⟩
    rw [val_no h, fault_no h]
end Go.Proofs.YtmdakglbommopaaDoor
