/- Each operator's function answers what the plain arithmetic says, and so Do does. No condition. -/
import Derived.Test.YtdladbekkmnnhaaDo
namespace Go.Proofs.Ytdladbekkmnnhaa
open Go.RowKit
set_option linter.unusedVariables false

theorem ret_int {k : IntKind} {a b : Int} (h : a = b) : Ending.returned (.int k a) = .returned (.int k b) := by rw [h]
theorem c30 (b : Int) (w : World) : Calls Try.prog 30 #[.int .i64 b] w fun e w' => e = .returned (.int .i64 (b % 32)) ∧ w = w' := by
  go_enter Try.func30, Try.ntmps30
  go_wp2
  go_ret
  simp [mask31]
theorem c33 (b : Bool) (w : World) : Calls Try.prog 33 #[.bool b] w fun e w' => e = .returned (.int .i64 (one b)) ∧ w = w' := by
  cases b
  all_goals
    go_enter Try.func33, Try.ntmps33
    go_wp2
    go_ret
    simp [one]
theorem c21 (x y : Int) (w : World) : Calls Try.prog 21 #[.int .i64 x, .int .i64 y] w fun e w' => e = .returned (.int .i64 (wrap64 (x + y))) ∧ w = w' := by
  go_enter Try.func21, Try.ntmps21
  go_wp2
  go_ret
  simp
theorem c22 (x y : Int) (w : World) : Calls Try.prog 22 #[.int .i64 x, .int .i64 y] w fun e w' => e = .returned (.int .i64 (wrap64 (x - y))) ∧ w = w' := by
  go_enter Try.func22, Try.ntmps22
  go_wp2
  go_ret
  simp
theorem c23 (x y : Int) (w : World) : Calls Try.prog 23 #[.int .i64 x, .int .i64 y] w fun e w' => e = .returned (.int .i64 (wrap64 (x * y))) ∧ w = w' := by
  go_enter Try.func23, Try.ntmps23
  go_wp2
  go_ret
  simp
theorem c26 (x y : Int) (w : World) : Calls Try.prog 26 #[.int .i64 x, .int .i64 y] w fun e w' => e = .returned (.int .i64 (bits .and .i64 x y)) ∧ w = w' := by
  go_enter Try.func26, Try.ntmps26
  go_wp2
  go_ret
  simp
theorem c27 (x y : Int) (w : World) : Calls Try.prog 27 #[.int .i64 x, .int .i64 y] w fun e w' => e = .returned (.int .i64 (bits .or .i64 x y)) ∧ w = w' := by
  go_enter Try.func27, Try.ntmps27
  go_wp2
  go_ret
  simp
theorem c28 (x y : Int) (w : World) : Calls Try.prog 28 #[.int .i64 x, .int .i64 y] w fun e w' => e = .returned (.int .i64 (bits .xor .i64 x y)) ∧ w = w' := by
  go_enter Try.func28, Try.ntmps28
  go_wp2
  go_ret
  simp
theorem c24 (x y : Int) (w : World) : Calls Try.prog 24 #[.int .i64 x, .int .i64 y] w fun e w' => e = .returned (.int .i64 (if y = 0 then 0 else wrap64 (x.tdiv y))) ∧ w = w' := by
  by_cases h : y = 0
  · subst h
    go_enter Try.func24, Try.ntmps24
    go_wp2
    go_ret
    simp
  · have hb : (y == 0) = false := by simp [h]
    rw [if_neg h]
    go_enter Try.func24, Try.ntmps24
    go_wp2
    go_ret
    simp
theorem c25 (x y : Int) (w : World) : Calls Try.prog 25 #[.int .i64 x, .int .i64 y] w fun e w' => e = .returned (.int .i64 (if y = 0 then 0 else x.tmod y)) ∧ w = w' := by
  by_cases h : y = 0
  · subst h
    go_enter Try.func25, Try.ntmps25
    go_wp2
    go_ret
    simp
  · have hb : (y == 0) = false := by simp [h]
    rw [if_neg h]
    go_enter Try.func25, Try.ntmps25
    go_wp2
    go_ret
    simp
theorem c29 (x y : Int) (w : World) : Calls Try.prog 29 #[.int .i64 x, .int .i64 y] w fun e w' => e = .returned (.int .i64 (wrap64 (x * 2 ^ (y % 32).toNat))) ∧ w = w' := by
  have h0 : 0 ≤ y % 32 := by omega
  go_enter Try.func29, Try.ntmps29
  go_wp2_with (go_at_call 30; refine (c30 _ _).mono ?_; rintro e w' ⟨rfl, rfl⟩)
  go_ret
  simp
theorem c31 (x y : Int) (w : World) : Calls Try.prog 31 #[.int .i64 x, .int .i64 y] w fun e w' => e = .returned (.int .i64 (x / 2 ^ (y % 32).toNat)) ∧ w = w' := by
  have h0 : 0 ≤ y % 32 := by omega
  go_enter Try.func31, Try.ntmps31
  go_wp2_with (go_at_call 30; refine (c30 _ _).mono ?_; rintro e w' ⟨rfl, rfl⟩)
  go_ret
  simp
theorem c32 (x y : Int) (w : World) : Calls Try.prog 32 #[.int .i64 x, .int .i64 y] w fun e w' => e = .returned (.int .i64 (one (decide (x < y)))) ∧ w = w' := by
  go_enter Try.func32, Try.ntmps32
  go_wp2_with (go_at_call 33; refine (c33 _ _).mono ?_; rintro e w' ⟨rfl, rfl⟩)
  go_ret
  simp
theorem c34 (x y : Int) (w : World) : Calls Try.prog 34 #[.int .i64 x, .int .i64 y] w fun e w' => e = .returned (.int .i64 (one (decide (x ≤ y)))) ∧ w = w' := by
  go_enter Try.func34, Try.ntmps34
  go_wp2_with (go_at_call 33; refine (c33 _ _).mono ?_; rintro e w' ⟨rfl, rfl⟩)
  go_ret
  simp
theorem c35 (x y : Int) (w : World) : Calls Try.prog 35 #[.int .i64 x, .int .i64 y] w fun e w' => e = .returned (.int .i64 (one (x == y))) ∧ w = w' := by
  go_enter Try.func35, Try.ntmps35
  go_wp2_with (go_at_call 33; refine (c33 _ _).mono ?_; rintro e w' ⟨rfl, rfl⟩)
  go_ret
  simp
theorem c36 (x y : Int) (w : World) : Calls Try.prog 36 #[.int .i64 x, .int .i64 y] w fun e w' => e = .returned (.int .i64 (one (x != y))) ∧ w = w' := by
  go_enter Try.func36, Try.ntmps36
  go_wp2_with (go_at_call 33; refine (c33 _ _).mono ?_; rintro e w' ⟨rfl, rfl⟩)
  go_ret
  simp
theorem tup {a b c d : Int} (h : a = c) (k : b = d) : Ending.returned (.tuple #[.int .i64 a, .int .i64 b]) = .returned (.tuple #[.int .i64 c, .int .i64 d]) := by rw [h, k]
theorem val_of {op a b v : Int} (h : wrap32 v = wrap32 (raw op (wrap32 a) (wrap32 b))) : wrap32 v = val op a b := h
theorem do_no (op a b : Int) (h : ¬ (1 ≤ op ∧ op ≤ 14)) (w : World) :
    Calls Try.prog 9 #[.int .i64 op, .int .i64 a, .int .i64 b] w fun e w' => e = .returned (.tuple #[.int .i64 0, .int .i64 6]) ∧ Grown w w' := by
  have hk : decide (1 ≤ op ∧ op ≤ 14) = false := by simpa using h
  have hK := Lib.hid hk
  clear hk h
  go_enter Try.func9, Try.ntmps9
  go_wp2_with (go_at_call 13; refine (c13 _ false hK.out _).mono ?_; rintro e w' ⟨rfl, rfl⟩)
  go_ret2
  exact ⟨rfl, Grown.refl _⟩
theorem val_no {op : Int} (h : ¬ (1 ≤ op ∧ op ≤ 14)) (a b : Int) : val op a b = 0 := by
  have e : raw op (wrap32 a) (wrap32 b) = 0 := by
    unfold raw
    repeat (rw [if_neg (by omega)])
  unfold val
  rw [e]
  exact wrap32_same (by omega)
theorem fault_yes {op : Int} (h : 1 ≤ op ∧ op ≤ 14) : fault op = 0 := if_pos h
theorem fault_no {op : Int} (h : ¬ (1 ≤ op ∧ op ≤ 14)) : fault op = 6 := if_neg h

/-- Do, for any numbers. -/
theorem do_any (op a b : Int) (w : World) :
    Calls Try.prog 9 #[.int .i64 op, .int .i64 a, .int .i64 b] w fun e w' => e = .returned (.tuple #[.int .i64 (val op a b), .int .i64 (fault op)]) ∧ Grown w w' := by
  by_cases h : 1 ≤ op ∧ op ≤ 14
  · have hc : op = 1 ∨ op = 2 ∨ op = 3 ∨ op = 4 ∨ op = 5 ∨ op = 6 ∨ op = 7 ∨ op = 8 ∨ op = 9 ∨ op = 10 ∨ op = 11 ∨ op = 12 ∨ op = 13 ∨ op = 14 := by omega
    rcases hc with rfl | rfl | rfl | rfl | rfl | rfl | rfl | rfl | rfl | rfl | rfl | rfl | rfl | rfl
    · exact (do_of 1 a b _ 21 (by decide) (by decide) (fun _ => by kernel_rfl) Try.call21 (c21 _ _) w).mono fun e w' ⟨he, hg⟩ => ⟨he.trans (tup (val_of (wrap32_wrap64 _)) rfl), hg⟩
    · exact (do_of 2 a b _ 22 (by decide) (by decide) (fun _ => by kernel_rfl) Try.call22 (c22 _ _) w).mono fun e w' ⟨he, hg⟩ => ⟨he.trans (tup (val_of (wrap32_wrap64 _)) rfl), hg⟩
    · exact (do_of 3 a b _ 23 (by decide) (by decide) (fun _ => by kernel_rfl) Try.call23 (c23 _ _) w).mono fun e w' ⟨he, hg⟩ => ⟨he.trans (tup (val_of (wrap32_wrap64 _)) rfl), hg⟩
    · exact (do_of 4 a b _ 24 (by decide) (by decide) (fun _ => by kernel_rfl) Try.call24 (c24 _ _) w).mono fun e w' ⟨he, hg⟩ => ⟨he.trans (tup (val_of (by show wrap32 (if wrap32 b = 0 then 0 else wrap64 ((wrap32 a).tdiv (wrap32 b))) = wrap32 (if wrap32 b = 0 then 0 else (wrap32 a).tdiv (wrap32 b)); split <;> simp only [wrap32_wrap64])) rfl), hg⟩
    · exact (do_of 5 a b _ 25 (by decide) (by decide) (fun _ => by kernel_rfl) Try.call25 (c25 _ _) w).mono fun e w' ⟨he, hg⟩ => ⟨he.trans (tup (val_of (rfl)) rfl), hg⟩
    · exact (do_of 6 a b _ 26 (by decide) (by decide) (fun _ => by kernel_rfl) Try.call26 (c26 _ _) w).mono fun e w' ⟨he, hg⟩ => ⟨he.trans (tup (val_of (rfl)) rfl), hg⟩
    · exact (do_of 7 a b _ 27 (by decide) (by decide) (fun _ => by kernel_rfl) Try.call27 (c27 _ _) w).mono fun e w' ⟨he, hg⟩ => ⟨he.trans (tup (val_of (rfl)) rfl), hg⟩
    · exact (do_of 8 a b _ 28 (by decide) (by decide) (fun _ => by kernel_rfl) Try.call28 (c28 _ _) w).mono fun e w' ⟨he, hg⟩ => ⟨he.trans (tup (val_of (rfl)) rfl), hg⟩
    · exact (do_of 9 a b _ 29 (by decide) (by decide) (fun _ => by kernel_rfl) Try.call29 (c29 _ _) w).mono fun e w' ⟨he, hg⟩ => ⟨he.trans (tup (val_of (wrap32_wrap64 _)) rfl), hg⟩
    · exact (do_of 10 a b _ 31 (by decide) (by decide) (fun _ => by kernel_rfl) Try.call31 (c31 _ _) w).mono fun e w' ⟨he, hg⟩ => ⟨he.trans (tup (val_of (rfl)) rfl), hg⟩
    · exact (do_of 11 a b _ 32 (by decide) (by decide) (fun _ => by kernel_rfl) Try.call32 (c32 _ _) w).mono fun e w' ⟨he, hg⟩ => ⟨he.trans (tup (val_of (rfl)) rfl), hg⟩
    · exact (do_of 12 a b _ 34 (by decide) (by decide) (fun _ => by kernel_rfl) Try.call34 (c34 _ _) w).mono fun e w' ⟨he, hg⟩ => ⟨he.trans (tup (val_of (rfl)) rfl), hg⟩
    · exact (do_of 13 a b _ 35 (by decide) (by decide) (fun _ => by kernel_rfl) Try.call35 (c35 _ _) w).mono fun e w' ⟨he, hg⟩ => ⟨he.trans (tup (val_of (rfl)) rfl), hg⟩
    · exact (do_of 14 a b _ 36 (by decide) (by decide) (fun _ => by kernel_rfl) Try.call36 (c36 _ _) w).mono fun e w' ⟨he, hg⟩ => ⟨he.trans (tup (val_of (rfl)) rfl), hg⟩
  · refine (do_no op a b h w).mono fun e w' ⟨he, hg⟩ => ⟨he.trans ?_, hg⟩
    rw [val_no h, fault_no h]
end Go.Proofs.Ytdladbekkmnnhaa
