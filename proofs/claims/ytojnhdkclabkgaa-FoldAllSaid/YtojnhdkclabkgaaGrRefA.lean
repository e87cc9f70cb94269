/- The specification of layer 12: the small functions of Check. No condition. -/
import Derived.Test.YtojnhdkclabkgaaGrMem
import Derived.Test.YtojnhdkclabkgaaWdRef
import Derived.RegionTactic
import Derived.ChangeAlike
namespace Go.Proofs.Ytojnhdkclabkgaa
open Go.RowKit
set_option linter.unusedVariables false
set_option linter.unusedSimpArgs false
attribute [local go_sem] y_undef
theorem rin_any (k n : Int) (r : Bool) (hr : Gr.inn k n = r) (w : World) : Calls Try.prog 49 #[.int .i64 k, .int .i64 n] w fun e w' => e = .returned (.bool r) ∧ w' = w := by
  subst hr
  unfold Gr.inn
  by_cases h1 : 0 ≤ k <;> by_cases h2 : k < n
  all_goals
    go_enter Try.func49, Try.ntmps49
    go_wp2
    go_ret
    exact ⟨by simp [h1, h2], rfl⟩
theorem rsize_any (n : Int) (r : Bool) (hr : decide (n = 1 ∨ n = 2 ∨ n = 4 ∨ n = 8 ∨ n = 16) = r) (w : World) : Calls Try.prog 47 #[.int .i64 n] w fun e w' => e = .returned (.bool r) ∧ w' = w := by
  subst hr
  by_cases h : n = 1 ∨ n = 2 ∨ n = 4 ∨ n = 8 ∨ n = 16
  · rcases h with rfl | rfl | rfl | rfl | rfl
    all_goals
      go_enter Try.func47, Try.ntmps47
      go_wp2
      go_ret
      exact ⟨rfl, rfl⟩
  · have e : decide (n = 1 ∨ n = 2 ∨ n = 4 ∨ n = 8 ∨ n = 16) = false := by simpa using h
    rw [e]
    simp only [not_or] at h
    obtain ⟨h1, h2, h4, h8, h16⟩ := h
    have e1 : (n == 1) = false := by simp [h1]
    have e2 : (n == 2) = false := by simp [h2]
    have e4 : (n == 4) = false := by simp [h4]
    have e8 : (n == 8) = false := by simp [h8]
    have e16 : (n == 16) = false := by simp [h16]
    clear h1 h2 h4 h8 h16 e
    go_enter Try.func47, Try.ntmps47
    go_wp2
    go_ret
    exact ⟨by simp [e16], rfl⟩
theorem isW_iff (n : Int) : Gr.isW n = (decide (-2147483648 ≤ n) && decide (n < 2147483648)) := by
  unfold Gr.isW
  by_cases h1 : -2147483648 ≤ n <;> by_cases h2 : n < 2147483648
  · have : wrap32 n = n := wrap32_same ⟨h1, by omega⟩
    simp [h1, h2, this]
  all_goals
    have : wrap32 n ≠ n := fun e => by have := wrap32_bounds n; omega
    simp [h1, h2, this]
theorem rword_any (n : Int) (r : Bool) (hr : Gr.isW n = r) (w : World) : Calls Try.prog 26 #[.int .i64 n] w fun e w' => e = .returned (.bool r) ∧ w' = w := by
  subst hr
  rw [isW_iff]
  by_cases h1 : -2147483648 ≤ n <;> by_cases h2 : n < 2147483648
  all_goals
    go_enter Try.func26, Try.ntmps26
    go_wp2
    go_ret
    exact ⟨by simp [h1, h2], rfl⟩
theorem rknown_any (n : Int) (r : Bool) (hr : Gr.knw n = r) (w : World) : Calls Try.prog 128 #[.int .i64 n] w fun e w' => e = .returned (.bool r) ∧ w' = w := by
  subst hr
  unfold Gr.knw
  by_cases h1 : 1 ≤ n <;> by_cases h2 : n ≤ 14
  all_goals
    go_enter Try.func128, Try.ntmps128
    go_wp2
    go_ret
    exact ⟨by simp [h1, h2], rfl⟩
/-- A number among the first n ones. -/
theorem rhas_any (A : Option Addr) (n c : Nat) (f : Nat → Int) (x : Int) (r : Bool) (hr : ((List.range n).any fun k => decide (f k = x)) = r) (w : World) (hv : ∀ k, k < n → ∃ b off, A = some ⟨b, off, none⟩ ∧ b < w.heap.size ∧ w.cell? ⟨b, off + k, none⟩ = some (.int .i64 (f k))) (hm : n ≤ maxLen) :
    Calls Try.prog 50 #[.slice A n c, .int .i64 x] w fun e w' => e = .returned (.bool r) ∧ w' = w := by
  have HV := Lib.hid hv
  have HR := Lib.hid hr
  unfold maxLen at hm
  clear hv hr
  go_enter Try.func50, Try.ntmps50
  go_wp2
  go_loop [5] (fun i => ∃ k : Nat, k ≤ n ∧ i = .int .i64 k ∧ Hid (∀ j, j < k → decide (f j = x) = false)) (fun i => n - (intOf i).toNat)
  case atStart => exact ⟨0, Nat.zero_le _, rfl, Lib.hid fun j hj => absurd hj (Nat.not_lt_zero _)⟩
  case round =>
    obtain ⟨k, hk, rfl, HF⟩ := hrel
    by_cases hlt : k < n
    · have hlt' : (k : Int) < n := by omega
      obtain ⟨b, off, rfl, hb, hx⟩ := HV.out k hlt
      have HK := Lib.hid (rfl : f k = f k)
      by_cases h : f k = x
      · have e : (f k == x) = true := by simp [h]
        have HX := Lib.hid (show decide (f k = x) = true by simp [h])
        clear h HV
        generalize f k = y at hx e
        go_wp2
        go_ret
        exact ⟨ret_bool (by rw [← HR.out]; symm; rw [List.any_eq_true]; exact ⟨k, by simpa using hlt, HX.out⟩), rfl⟩
      · have e : (f k == x) = false := by simp [h]
        have HX := Lib.hid (show decide (f k = x) = false by simp [h])
        clear h HV
        generalize f k = y at hx e
        go_wp2
        go_round
        case rel => exact ⟨k + 1, by omega, by first | rfl | go_num, Lib.hid fun j hj => by rcases Nat.lt_succ_iff_lt_or_eq.1 hj with h | rfl; exact HF.out j h; exact HX.out⟩
        case measure => simp [intOf]; omega
    · have hlt' : ¬ (k : Int) < n := by omega
      obtain rfl : k = n := by omega
      go_wp2
      go_ret
      exact ⟨ret_bool (by rw [← HR.out]; symm; rw [List.any_eq_false]; intro j hj; rw [HF.out j (by simpa using hj)]; decide), rfl⟩
theorem opsNle {l : List Gr.Blk} (hm : ∀ b ∈ l, b.ops.length ≤ 140737488355328) : ∀ k, k ≤ l.length → Gr.opsN l k ≤ k * 140737488355328
  | 0, _ => by simp [Gr.opsN]
  | k + 1, h => by
    have := opsNle hm k (by omega)
    have := hm _ (mem_getD (d := Gr.blk0) (show k < l.length by omega))
    unfold Gr.opsN
    rw [Nat.add_mul]
    omega
set_option maxHeartbeats 4000000 in
theorem rOps_any (Ai Aa Ab Ap Ah : Option Addr) (ni ci na ca nb cb np cp nh ch : Nat) (V K S : Int) (l : List Gr.Blk) (w : World) (hv : BlksIn w (.slice Ab nb cb) l) (hm : nb ≤ 64) (hm2 : ∀ b ∈ l, b.ops.length ≤ 140737488355328 ∧ b.next.length ≤ 140737488355328) :
    Calls Try.prog 46 #[.agg #[.slice Ai ni ci, .int .i64 V, .int .i64 K, .slice Aa na ca, .int .i64 S, .slice Ab nb cb, .slice Ap np cp, .slice Ah nh ch]] w fun e w' => e = .returned (.int .i64 (Gr.opsN l nb)) ∧ Below w.heap.size w w' := by
  obtain ⟨A, c, a1, a2, c1, c2, hA, ho⟩ := id hv
  injection hA with hA1 hA2 hA3
  subst hA1 hA3
  have HL := Lib.hid (opsNle fun b hb => (hm2 b hb).1)
  have HM := Lib.hid fun (k : Nat) (hk : k < l.length) => (hm2 _ (mem_getD (d := Gr.blk0) hk)).1
  have HO := Lib.hid ho
  rw [← hA2] at HO HL HM
  have HB := Lib.hid (bla (Below.refl w.heap.size w) (.cells #[.slice Ai ni ci, .int .i64 V, .int .i64 K, .slice Aa na ca, .int .i64 S, .slice Ab nb cb, .slice Ap np cp, .slice Ah nh ch] 40))
  have HG := Bk.new w 40 #[.slice Ai ni ci, .int .i64 V, .int .i64 K, .slice Aa na ca, .int .i64 S, .slice Ab nb cb, .slice Ap np cp, .slice Ah nh ch]
  have g5 := HG.cell 5
  clear hv ho hm2 hA2 HG
  go_enter Try.func46, Try.ntmps46
  go_wp2
  generalize hW : w.alloc (.cells #[.slice Ai ni ci, .int .i64 V, .int .i64 K, .slice Aa na ca, .int .i64 S, .slice Ab nb cb, .slice Ap np cp, .slice Ah nh ch] 40) = W at *
  clear hW
  go_loop [3, 4] (fun t i => ∃ k : Nat, k ≤ nb ∧ i = .int .i64 k ∧ t = .int .i64 (Gr.opsN l k)) (fun _ i => nb - (intOf i).toNat)
  case atStart => exact ⟨0, Nat.zero_le _, rfl, rfl⟩
  case round =>
    obtain ⟨k, hk, rfl, rfl⟩ := hrel
    have hel := HL.out k hk
    by_cases hlt : k < nb
    · have hlt' : (k : Int) < nb := by omega
      obtain ⟨bb, off, rfl, hbb, hx0, hx1, hx2, _, _⟩ := HO.out k hlt
      replace hx0 := (HB.out.cell (p := ⟨bb, off + k * 3, none⟩) hbb).trans hx0
      have HE := Lib.hid (show Gr.opsN l (k + 1) = Gr.opsN l k + (l.getD k Gr.blk0).ops.length from rfl)
      have hop := HM.out k hlt
      generalize (l.getD k Gr.blk0).ops.length = q1 at *
      generalize Gr.opsN l k = en at *
      clear HO HL HM hx1 hx2
      have hb1 : (en : Int) + q1 ≤ 9223372036854775807 := by omega
      go_wp2
      go_round
      case rel => exact ⟨k + 1, by omega, by first | rfl | go_num, by rw [HE.out]; first | rfl | go_num⟩
      case measure => simp [intOf]; omega
    · have hlt' : ¬ (k : Int) < nb := by omega
      obtain rfl : k = nb := by omega
      go_wp2
      go_ret
      exact ⟨rfl, HB.out⟩
end Go.Proofs.Ytojnhdkclabkgaa
