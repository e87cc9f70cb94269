/- The specification of layer 7: of, hull, truth and bits. No condition. -/
import Derived.Test.YtdajgopgaklipaaIvBox
import Derived.Deep.RegionWith
namespace Go.Proofs.Ytdajgopgaklipaa
open Go.RowKit
set_option linter.unusedVariables false
set_option linter.unusedSimpArgs false
attribute [local go_sem] y_undef
theorem rOf_any (p q : Int) (r : Iv) (h : Iv.mk' p q = r) (w : World) : Calls Try.prog 54 #[.int .i64 p, .int .i64 q] w fun e w' => e = .returned (.agg #[.int .i64 (r).lo, .int .i64 (r).hi]) ∧ Below w.heap.size w w' := by
  have hA := (Ahead.refl w).alloc (.cells #[.int .i64 0, .int .i64 0] 23)
  by_cases hq : q < p
  · obtain rfl : Iv.non = r := by rw [← h]; unfold Iv.mk'; rw [if_pos hq]
    clear h
    go_enter Try.func54, Try.ntmps54
    go_wp2_with fail
    refine (rNone_any _).mono ?_
    rintro e w1 ⟨rfl, hb⟩
    have hA1 := hA.below hb; obtain ⟨hc1, hf1⟩ := bcell hb; (try simp only [size_alloc] at hc1 hf1); clear hb; have hz10 : w.heap.size < w1.heap.size := (by have := hA1.2; omega)
    go_wp2
    refine bodyPost_ret (v := .agg #[.int .i64 (Iv.non).lo, .int .i64 (Iv.non).hi]) ?_ rfl ⟨rfl, ((hA1.set (by omega) _).set (by omega) _).1⟩
    simp [results, Try.results54, go_sem, hc1, hz10, Iv.non]
  · obtain rfl : (⟨p, q⟩ : Iv) = r := by rw [← h]; unfold Iv.mk'; rw [if_neg hq]
    clear h
    go_enter Try.func54, Try.ntmps54
    go_wp2
    refine bodyPost_ret (v := .agg #[.int .i64 p, .int .i64 q]) ?_ rfl ⟨rfl, ?_⟩
    · simp [results, Try.results54, go_sem]
    · exact ((Ahead.refl w).alloc _).1
theorem run_min4 (a b c d : Int) (ts : Array TypeId) (t : TypeId) (w : World) : (Builtin.min_ ts t #[.int .i64 a, .int .i64 b, .int .i64 c, .int .i64 d]).run Try.prog w = .ok (.int .i64 (Iv.min4 a b c d)) w := by
  simp [Builtin.min_, Builtin.min2]
  unfold Iv.min4
  simp only [Int.min_def]
  repeat' split
  all_goals first | rfl | omega
theorem run_max4 (a b c d : Int) (ts : Array TypeId) (t : TypeId) (w : World) : (Builtin.max_ ts t #[.int .i64 a, .int .i64 b, .int .i64 c, .int .i64 d]).run Try.prog w = .ok (.int .i64 (Iv.max4 a b c d)) w := by
  simp [Builtin.max_, Builtin.max2]
  unfold Iv.max4
  simp only [Int.max_def]
  repeat' split
  all_goals first | rfl | omega
set_option maxHeartbeats 1000000 in
theorem rHull_any (a b c d : Int) (r : Iv) (h : Iv.hull a b c d = r) (w : World) : Calls Try.prog 56 #[.int .i64 a, .int .i64 b, .int .i64 c, .int .i64 d] w fun e w' => e = .returned (.agg #[.int .i64 (r).lo, .int .i64 (r).hi]) ∧ Below w.heap.size w w' := by
  have hA := (Ahead.refl w).alloc (.cells #[.int .i64 0, .int .i64 0] 23)
  have hm := run_min4 a b c d
  have hM := run_max4 a b c d
  generalize hp : Iv.min4 a b c d = p at *
  generalize hq : Iv.max4 a b c d = q at *
  have hr : (if p < -2147483648 ∨ 2147483647 < q then Iv.all else Iv.mk' p q) = r := by rw [← h, ← hp, ← hq]; rfl
  have HR := Lib.hid hr
  clear h hp hq hr
  cases h1 : decide (p < -2147483648) <;> cases h2 : decide (2147483647 < q)
  case false.false =>
    have hr := HR.out
    rw [if_neg (by simp at h1 h2; omega)] at hr
    have HR' := Lib.hid hr
    clear hr HR
    go_enter Try.func56, Try.ntmps56
    go_wp2_with fail
    refine (rOf_any _ _ r HR'.out _).mono ?_
    rintro e w1 ⟨rfl, hb⟩
    have hA1 := hA.below hb; obtain ⟨hc1, hf1⟩ := bcell hb; (try simp only [size_alloc] at hc1 hf1); clear hb; have hz10 : w.heap.size < w1.heap.size := (by have := hA1.2; omega)
    go_wp2
    refine bodyPost_ret (v := .agg #[.int .i64 (r).lo, .int .i64 (r).hi]) ?_ rfl ⟨rfl, ((hA1.set (by omega) _).set (by omega) _).1⟩
    simp [results, Try.results56, go_sem, hc1, hz10]
  all_goals
    have hr := HR.out
    rw [if_pos (by simp at h1 h2; omega)] at hr
    subst hr
    clear HR
    go_enter Try.func56, Try.ntmps56
    go_wp2_with fail
    refine (rAll_any _).mono ?_
    rintro e w1 ⟨rfl, hb⟩
    have hA1 := hA.below hb; obtain ⟨hc1, hf1⟩ := bcell hb; (try simp only [size_alloc] at hc1 hf1); clear hb; have hz10 : w.heap.size < w1.heap.size := (by have := hA1.2; omega)
    go_wp2
    refine bodyPost_ret (v := .agg #[.int .i64 (Iv.all).lo, .int .i64 (Iv.all).hi]) ?_ rfl ⟨rfl, ((hA1.set (by omega) _).set (by omega) _).1⟩
    simp [results, Try.results56, go_sem, hc1, hz10, Iv.all]
theorem rTruth_any (a n : Bool) (r : Iv) (h : Iv.truth a n = r) (w : World) : Calls Try.prog 58 #[.bool a, .bool n] w fun e w' => e = .returned (.agg #[.int .i64 (r).lo, .int .i64 (r).hi]) ∧ Below w.heap.size w w' := by
  have hA := (Ahead.refl w).alloc (.cells #[.int .i64 0, .int .i64 0] 23)
  subst h
  cases a <;> cases n
  all_goals
    go_enter Try.func58, Try.ntmps58
    go_wp2_with fail
    refine (rOf_any _ _ _ (Iv.mk_le (by decide)) _).mono ?_
    rintro e w1 ⟨rfl, hb⟩
    have hA1 := hA.below hb; obtain ⟨hc1, hf1⟩ := bcell hb; (try simp only [size_alloc] at hc1 hf1); clear hb; have hz10 : w.heap.size < w1.heap.size := (by have := hA1.2; omega)
    go_wp2
    refine bodyPost_ret (v := .agg #[.int .i64 (Iv.truth _ _).lo, .int .i64 (Iv.truth _ _).hi]) ?_ rfl ⟨rfl, ((hA1.set (by omega) _).set (by omega) _).1⟩
    simp [results, Try.results58, go_sem, hc1, hz10, Iv.truth]
theorem rBits_any (n : Int) (hn : n ≤ 2147483647) (w : World) : Calls Try.prog 57 #[.int .i64 n] w fun e w' => e = .returned (.int .i64 (Iv.ones n)) ∧ w = w' := by
  go_enter Try.func57, Try.ntmps57
  go_wp2
  go_loop [3] (fun k => ∃ (j f : Nat) (v : Int), k = .int .i64 v ∧ 0 ≤ v ∧ v ≤ 2147483647 ∧ j + f = 32 ∧ Hid (v = ((2 ^ j : Nat) : Int) - 1 ∧ Iv.bitsFrom f v n = Iv.ones n)) (fun k => (n - intOf k).toNat)
  case atStart => exact ⟨0, 32, 0, rfl, by omega, by omega, rfl, Lib.hid ⟨rfl, rfl⟩⟩
  case round =>
    obtain ⟨j, f, v, rfl, h0, h1, hj, hR⟩ := hrel
    by_cases hlt : v < n
    · have hj31 : j < 31 := by
        have := hR.out.1
        by_cases e : j < 31
        · exact e
        · have : 2 ^ 31 ≤ 2 ^ j := Nat.pow_le_pow_right (by omega) (by omega)
          have : (2 ^ 31 : Nat) = 2147483648 := by decide
          omega
      have hv : v + 1 ≤ 1073741824 := by
        have : 2 ^ j ≤ 2 ^ 30 := Nat.pow_le_pow_right (by omega) (by omega)
        have e : (2 ^ 30 : Nat) = 1073741824 := by decide
        have := hR.out.1
        omega
      have hn1 : Hid (2 * v + 1 = ((2 ^ (j + 1) : Nat) : Int) - 1 ∧ Iv.bitsFrom (f - 1) (2 * v + 1) n = Iv.ones n) := by
        refine Lib.hid ⟨by rw [Nat.pow_succ]; have := hR.out.1; push_cast; push_cast at this; omega, ?_⟩
        obtain ⟨g, rfl⟩ : ∃ g, f = g + 1 := ⟨f - 1, by omega⟩
        rw [← hR.out.2]
        conv => rhs; unfold Iv.bitsFrom
        rw [if_pos hlt]; rfl
      clear hR
      go_wp2
      go_round
      case rel => exact ⟨j + 1, f - 1, 2 * v + 1, by go_num, by omega, by omega, by omega, hn1⟩
      case measure => simp [intOf]; omega
    · have hfin : Hid (Iv.ones n = v) := by
        refine Lib.hid ?_
        rw [← hR.out.2]
        cases f with
        | zero => rfl
        | succ g => unfold Iv.bitsFrom; rw [if_neg hlt]
      clear hR
      go_wp2
      go_ret
      exact ⟨by rw [hfin.out]; rfl, rfl⟩
end Go.Proofs.Ytdajgopgaklipaa
