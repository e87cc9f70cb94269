/- Package word's Do answers what the plain arithmetic says. No condition. -/
import Derived.Test.YtojnhdkclabkgaaStBase
import Derived.Test.YtojnhdkclabkgaaWdRef
import Derived.Laws.EntriesVeiled
namespace Go.Proofs.Ytojnhdkclabkgaa
open Go.RowKit
set_option linter.unusedVariables false
set_option linter.unusedSimpArgs false
theorem wWrap_c (n : Int) (w : World) : Calls Try.prog 114 #[.int .i64 n] w fun e w' => e = .returned (.int .i64 (wrap32 n)) ∧ w = w' := by
  go_enter Try.func114, Try.ntmps114
  go_wp2
  go_ret
  have h : wrap64 (wrap32 n) = wrap32 n := wrap64_wrap32 n
  simp [h]
def fns : Value := .agg #[Value.nilFunc, Value.func (Fn.func 158) #[] #[], Value.func (Fn.func 159) #[] #[],
              Value.func (Fn.func 160) #[] #[], Value.func (Fn.func 161) #[] #[], Value.func (Fn.func 162) #[] #[],
              Value.func (Fn.func 163) #[] #[], Value.func (Fn.func 164) #[] #[], Value.func (Fn.func 165) #[] #[],
              Value.func (Fn.func 166) #[] #[], Value.func (Fn.func 168) #[] #[], Value.func (Fn.func 169) #[] #[],
              Value.func (Fn.func 171) #[] #[], Value.func (Fn.func 172) #[] #[], Value.func (Fn.func 173) #[] #[]]
theorem woperations_c (w : World) : Calls Try.prog 154 #[] w fun e w' => e = .returned fns ∧ Below w.heap.size w w' := by
  go_enter Try.func154, Try.ntmps154
  go_wp2
  refine bodyPost_ret (v := fns) (by simp [results, Try.results154, go_sem]; rfl) rfl ⟨rfl, (Below.refl _ _).alloc (Nat.le_refl _) _⟩
theorem wKnown_c (op : Int) (b : Bool) (h : decide (1 ≤ op ∧ op ≤ 14) = b) (w : World) : Calls Try.prog 150 #[.int .i64 op] w fun e w' => e = .returned (.bool b) ∧ w = w' := by
  go_enter Try.func150, Try.ntmps150
  by_cases h1 : 1 ≤ op <;> by_cases h2 : op ≤ 14
  all_goals
    go_wp2
    go_ret
    subst h
    simp [h1, h2]
theorem do_of (op a b v : Int) (F : Nat) (h1 : 1 ≤ op) (h14 : op ≤ 14) (hi : ∀ w, (Instr.index 167 fns (.int .i64 op)).run Try.prog w = .ok (Value.func (Fn.func F) #[] #[]) w)
    (he : ∀ args w, (callFunc F args).run Try.prog w = .ok (.enter F args) w)
    (hF0 : ∀ w, Calls Try.prog F #[.int .i64 (wrap32 a), .int .i64 (wrap32 b)] w fun e w' => e = .returned (.int .i64 v) ∧ w = w') (w : World) :
    Calls Try.prog 127 #[.int .i64 op, .int .i64 a, .int .i64 b] w fun e w' => e = .returned (.tuple #[.int .i64 (wrap32 v), .int .i64 0]) ∧ Below w.heap.size w w' := by
  have hF := Lib.hid hF0
  clear hF0
  have hkn : decide (1 ≤ op ∧ op ≤ 14) = true := by simp [h1, h14]
  have hKn := Lib.hid hkn
  clear hkn
  go_enter Try.func127, Try.ntmps127
  go_wp2_with (go_at_call 150; refine (wKnown_c _ true hKn.out _).mono ?_; rintro e w' ⟨rfl, rfl⟩)
  go_region_held3 (fun _ => True) (exact trivial) (first | (go_at_call 154; refine (woperations_c _).mono ?_; rintro e w1 ⟨rfl, hw1⟩) | (go_at_call 114; refine (wWrap_c _ _).mono ?_; rintro e w2 ⟨rfl, rfl⟩) | ((with_reducible refine (hF.out _).mono ?_); rintro e w2 ⟨rfl, rfl⟩))
  all_goals
    go_wp2
    go_ret2
    exact ⟨rfl, (below_drewN _ _ 1).trans hw1⟩

theorem ret_int {k : IntKind} {a b : Int} (h : a = b) : Ending.returned (.int k a) = .returned (.int k b) := by rw [h]
theorem wplaces_c (b : Int) (w : World) : Calls Try.prog 167 #[.int .i64 b] w fun e w' => e = .returned (.int .i64 (b % 32)) ∧ w = w' := by
  go_enter Try.func167, Try.ntmps167
  go_wp2
  go_ret
  simp [mask31]
theorem wtruth_c (b : Bool) (w : World) : Calls Try.prog 170 #[.bool b] w fun e w' => e = .returned (.int .i64 (one b)) ∧ w = w' := by
  cases b
  all_goals
    go_enter Try.func170, Try.ntmps170
    go_wp2
    go_ret
    simp [one]
theorem woperations_1_c (x y : Int) (w : World) : Calls Try.prog 158 #[.int .i64 x, .int .i64 y] w fun e w' => e = .returned (.int .i64 (wrap64 (x + y))) ∧ w = w' := by
  go_enter Try.func158, Try.ntmps158
  go_wp2
  go_ret
  simp
theorem woperations_2_c (x y : Int) (w : World) : Calls Try.prog 159 #[.int .i64 x, .int .i64 y] w fun e w' => e = .returned (.int .i64 (wrap64 (x - y))) ∧ w = w' := by
  go_enter Try.func159, Try.ntmps159
  go_wp2
  go_ret
  simp
theorem woperations_3_c (x y : Int) (w : World) : Calls Try.prog 160 #[.int .i64 x, .int .i64 y] w fun e w' => e = .returned (.int .i64 (wrap64 (x * y))) ∧ w = w' := by
  go_enter Try.func160, Try.ntmps160
  go_wp2
  go_ret
  simp
theorem woperations_4_c (x y : Int) (w : World) : Calls Try.prog 163 #[.int .i64 x, .int .i64 y] w fun e w' => e = .returned (.int .i64 (bits .and .i64 x y)) ∧ w = w' := by
  go_enter Try.func163, Try.ntmps163
  go_wp2
  go_ret
  simp
theorem woperations_5_c (x y : Int) (w : World) : Calls Try.prog 164 #[.int .i64 x, .int .i64 y] w fun e w' => e = .returned (.int .i64 (bits .or .i64 x y)) ∧ w = w' := by
  go_enter Try.func164, Try.ntmps164
  go_wp2
  go_ret
  simp
theorem woperations_6_c (x y : Int) (w : World) : Calls Try.prog 165 #[.int .i64 x, .int .i64 y] w fun e w' => e = .returned (.int .i64 (bits .xor .i64 x y)) ∧ w = w' := by
  go_enter Try.func165, Try.ntmps165
  go_wp2
  go_ret
  simp
theorem wquotient_c (x y : Int) (w : World) : Calls Try.prog 161 #[.int .i64 x, .int .i64 y] w fun e w' => e = .returned (.int .i64 (if y = 0 then 0 else wrap64 (x.tdiv y))) ∧ w = w' := by
  by_cases h : y = 0
  · subst h
    go_enter Try.func161, Try.ntmps161
    go_wp2
    go_ret
    simp
  · have hb : (y == 0) = false := by simp [h]
    rw [if_neg h]
    go_enter Try.func161, Try.ntmps161
    go_wp2
    go_ret
    simp
theorem wremainder_c (x y : Int) (w : World) : Calls Try.prog 162 #[.int .i64 x, .int .i64 y] w fun e w' => e = .returned (.int .i64 (if y = 0 then 0 else x.tmod y)) ∧ w = w' := by
  by_cases h : y = 0
  · subst h
    go_enter Try.func162, Try.ntmps162
    go_wp2
    go_ret
    simp
  · have hb : (y == 0) = false := by simp [h]
    rw [if_neg h]
    go_enter Try.func162, Try.ntmps162
    go_wp2
    go_ret
    simp
theorem woperations_7_c (x y : Int) (w : World) : Calls Try.prog 166 #[.int .i64 x, .int .i64 y] w fun e w' => e = .returned (.int .i64 (wrap64 (x * 2 ^ (y % 32).toNat))) ∧ w = w' := by
  have h0 : 0 ≤ y % 32 := by omega
  go_enter Try.func166, Try.ntmps166
  go_wp2_with (go_at_call 167; refine (wplaces_c _ _).mono ?_; rintro e w' ⟨rfl, rfl⟩)
  go_ret
  simp
theorem woperations_8_c (x y : Int) (w : World) : Calls Try.prog 168 #[.int .i64 x, .int .i64 y] w fun e w' => e = .returned (.int .i64 (x / 2 ^ (y % 32).toNat)) ∧ w = w' := by
  have h0 : 0 ≤ y % 32 := by omega
  go_enter Try.func168, Try.ntmps168
  go_wp2_with (go_at_call 167; refine (wplaces_c _ _).mono ?_; rintro e w' ⟨rfl, rfl⟩)
  go_ret
  simp
theorem woperations_9_c (x y : Int) (w : World) : Calls Try.prog 169 #[.int .i64 x, .int .i64 y] w fun e w' => e = .returned (.int .i64 (one (decide (x < y)))) ∧ w = w' := by
  go_enter Try.func169, Try.ntmps169
  go_wp2_with (go_at_call 170; refine (wtruth_c _ _).mono ?_; rintro e w' ⟨rfl, rfl⟩)
  go_ret
  simp
theorem woperations_10_c (x y : Int) (w : World) : Calls Try.prog 171 #[.int .i64 x, .int .i64 y] w fun e w' => e = .returned (.int .i64 (one (decide (x ≤ y)))) ∧ w = w' := by
  go_enter Try.func171, Try.ntmps171
  go_wp2_with (go_at_call 170; refine (wtruth_c _ _).mono ?_; rintro e w' ⟨rfl, rfl⟩)
  go_ret
  simp
theorem woperations_11_c (x y : Int) (w : World) : Calls Try.prog 172 #[.int .i64 x, .int .i64 y] w fun e w' => e = .returned (.int .i64 (one (x == y))) ∧ w = w' := by
  go_enter Try.func172, Try.ntmps172
  go_wp2_with (go_at_call 170; refine (wtruth_c _ _).mono ?_; rintro e w' ⟨rfl, rfl⟩)
  go_ret
  simp
theorem woperations_12_c (x y : Int) (w : World) : Calls Try.prog 173 #[.int .i64 x, .int .i64 y] w fun e w' => e = .returned (.int .i64 (one (x != y))) ∧ w = w' := by
  go_enter Try.func173, Try.ntmps173
  go_wp2_with (go_at_call 170; refine (wtruth_c _ _).mono ?_; rintro e w' ⟨rfl, rfl⟩)
  go_ret
  simp
theorem val_of {op a b v : Int} (h : wrap32 v = wrap32 (raw op (wrap32 a) (wrap32 b))) : wrap32 v = val op a b := h
theorem do_no (op a b : Int) (h : ¬ (1 ≤ op ∧ op ≤ 14)) (w : World) :
    Calls Try.prog 127 #[.int .i64 op, .int .i64 a, .int .i64 b] w fun e w' => e = .returned (.tuple #[.int .i64 0, .int .i64 6]) ∧ Below w.heap.size w w' := by
  have hk : decide (1 ≤ op ∧ op ≤ 14) = false := by simpa using h
  have hK := Lib.hid hk
  clear hk h
  go_enter Try.func127, Try.ntmps127
  go_wp2_with (go_at_call 150; refine (wKnown_c _ false hK.out _).mono ?_; rintro e w' ⟨rfl, rfl⟩)
  go_ret2
  exact ⟨rfl, Below.refl _ _⟩
/-- Do, for any numbers. -/
theorem do_any (op a b : Int) (w : World) :
    Calls Try.prog 127 #[.int .i64 op, .int .i64 a, .int .i64 b] w fun e w' => e = .returned (.tuple #[.int .i64 (val op a b), .int .i64 (fault op)]) ∧ Below w.heap.size w w' := by
  by_cases h : 1 ≤ op ∧ op ≤ 14
  · have hc : op = 1 ∨ op = 2 ∨ op = 3 ∨ op = 4 ∨ op = 5 ∨ op = 6 ∨ op = 7 ∨ op = 8 ∨ op = 9 ∨ op = 10 ∨ op = 11 ∨ op = 12 ∨ op = 13 ∨ op = 14 := by omega
    rcases hc with rfl | rfl | rfl | rfl | rfl | rfl | rfl | rfl | rfl | rfl | rfl | rfl | rfl | rfl
    · exact (do_of 1 a b _ 158 (by decide) (by decide) (fun _ => by kernel_rfl) Try.call158 (woperations_1_c _ _) w).mono fun e w' ⟨he, hg⟩ => ⟨he.trans (tup (val_of (wrap32_wrap64 _)) rfl), hg⟩
    · exact (do_of 2 a b _ 159 (by decide) (by decide) (fun _ => by kernel_rfl) Try.call159 (woperations_2_c _ _) w).mono fun e w' ⟨he, hg⟩ => ⟨he.trans (tup (val_of (wrap32_wrap64 _)) rfl), hg⟩
    · exact (do_of 3 a b _ 160 (by decide) (by decide) (fun _ => by kernel_rfl) Try.call160 (woperations_3_c _ _) w).mono fun e w' ⟨he, hg⟩ => ⟨he.trans (tup (val_of (wrap32_wrap64 _)) rfl), hg⟩
    · exact (do_of 4 a b _ 161 (by decide) (by decide) (fun _ => by kernel_rfl) Try.call161 (wquotient_c _ _) w).mono fun e w' ⟨he, hg⟩ => ⟨he.trans (tup (val_of (by show wrap32 (if wrap32 b = 0 then 0 else wrap64 ((wrap32 a).tdiv (wrap32 b))) = wrap32 (if wrap32 b = 0 then 0 else (wrap32 a).tdiv (wrap32 b)); split <;> simp only [wrap32_wrap64])) rfl), hg⟩
    · exact (do_of 5 a b _ 162 (by decide) (by decide) (fun _ => by kernel_rfl) Try.call162 (wremainder_c _ _) w).mono fun e w' ⟨he, hg⟩ => ⟨he.trans (tup (val_of (rfl)) rfl), hg⟩
    · exact (do_of 6 a b _ 163 (by decide) (by decide) (fun _ => by kernel_rfl) Try.call163 (woperations_4_c _ _) w).mono fun e w' ⟨he, hg⟩ => ⟨he.trans (tup (val_of (rfl)) rfl), hg⟩
    · exact (do_of 7 a b _ 164 (by decide) (by decide) (fun _ => by kernel_rfl) Try.call164 (woperations_5_c _ _) w).mono fun e w' ⟨he, hg⟩ => ⟨he.trans (tup (val_of (rfl)) rfl), hg⟩
    · exact (do_of 8 a b _ 165 (by decide) (by decide) (fun _ => by kernel_rfl) Try.call165 (woperations_6_c _ _) w).mono fun e w' ⟨he, hg⟩ => ⟨he.trans (tup (val_of (rfl)) rfl), hg⟩
    · exact (do_of 9 a b _ 166 (by decide) (by decide) (fun _ => by kernel_rfl) Try.call166 (woperations_7_c _ _) w).mono fun e w' ⟨he, hg⟩ => ⟨he.trans (tup (val_of (wrap32_wrap64 _)) rfl), hg⟩
    · exact (do_of 10 a b _ 168 (by decide) (by decide) (fun _ => by kernel_rfl) Try.call168 (woperations_8_c _ _) w).mono fun e w' ⟨he, hg⟩ => ⟨he.trans (tup (val_of (rfl)) rfl), hg⟩
    · exact (do_of 11 a b _ 169 (by decide) (by decide) (fun _ => by kernel_rfl) Try.call169 (woperations_9_c _ _) w).mono fun e w' ⟨he, hg⟩ => ⟨he.trans (tup (val_of (rfl)) rfl), hg⟩
    · exact (do_of 12 a b _ 171 (by decide) (by decide) (fun _ => by kernel_rfl) Try.call171 (woperations_10_c _ _) w).mono fun e w' ⟨he, hg⟩ => ⟨he.trans (tup (val_of (rfl)) rfl), hg⟩
    · exact (do_of 13 a b _ 172 (by decide) (by decide) (fun _ => by kernel_rfl) Try.call172 (woperations_11_c _ _) w).mono fun e w' ⟨he, hg⟩ => ⟨he.trans (tup (val_of (rfl)) rfl), hg⟩
    · exact (do_of 14 a b _ 173 (by decide) (by decide) (fun _ => by kernel_rfl) Try.call173 (woperations_12_c _ _) w).mono fun e w' ⟨he, hg⟩ => ⟨he.trans (tup (val_of (rfl)) rfl), hg⟩
  · refine (do_no op a b h w).mono fun e w' ⟨he, hg⟩ => ⟨he.trans ?_, hg⟩
    rw [val_no h, fault_no h]
end Go.Proofs.Ytojnhdkclabkgaa
