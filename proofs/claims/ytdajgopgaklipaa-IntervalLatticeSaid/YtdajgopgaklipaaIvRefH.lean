/- The specification of layer 7: but. No condition. -/
import Derived.Test.YtdajgopgaklipaaIvRefG
import Derived.Deep.RegionWith
namespace Go.Proofs.Ytdajgopgaklipaa
open Go.RowKit
set_option linter.unusedVariables false
set_option linter.unusedSimpArgs false
attribute [local go_sem] y_undef
theorem Ahead.drewN {n : Nat} {w a : World} (h : Ahead n w a) (k : Nat) : Ahead n w (a.drewN k) := h.below (below_drewN _ a k)
set_option maxHeartbeats 8000000 in
theorem rBut_any (a b z : Iv) (la : -2147483648 ≤ a.lo) (ha : a.hi ≤ 2147483647) (lb : a.lo ≤ a.hi) (hz : Iv.but a b = z) (w : World) : Calls Try.prog 55 #[.agg #[.int .i64 (a).lo, .int .i64 (a).hi], .agg #[.int .i64 (b).lo, .int .i64 (b).hi]] w fun e w' => e = .returned (.agg #[.int .i64 (z).lo, .int .i64 (z).hi]) ∧ Below w.heap.size w w' := by
  have hA := (((Ahead.refl w).alloc (.cells #[.int .i64 a.lo, .int .i64 a.hi] 23)).alloc (.cells #[.int .i64 b.lo, .int .i64 b.hi] 23)).alloc (.cells #[.int .i64 0, .int .i64 0] 23)
  have hj : (if b.lo ≠ b.hi then a else Iv.mk' (if a.lo = b.lo then a.lo + 1 else a.lo) (if a.hi = b.lo then a.hi - 1 else a.hi)) = z := hz
  have HJ := Lib.hid hj
  clear hz hj
  cases e : (b.lo != b.hi)
  · have e' : b.lo = b.hi := by simpa using e
    have hj := HJ.out
    rw [if_neg (by simpa using e')] at hj
    have HE := Lib.hid hj
    clear HJ hj e'
    cases e1 : (a.lo == b.lo) <;> cases e2 : (a.hi == b.lo)
    all_goals
      go_enter Try.func55, Try.ntmps55
      go_wp2_with fail
      go_quiet (fail)
      go_wp2_with fail
      refine (rOf_any _ _ z ?_ _).mono ?_
      · have h1 := e1
        have h2 := e2
        simp at h1 h2
        rw [← HE.out]
        simp [h1, h2]
      rintro e w5 ⟨rfl, hb⟩
      replace hA := hA.drewN nq
      have hA5 := hA.below hb; obtain ⟨hc5, hf5⟩ := bcell hb; (try simp only [size_alloc] at hc5 hf5); clear hb; have hz50 : w.heap.size < w5.heap.size := (by have := hA5.2; omega); have hz51 : w.heap.size + 1 < w5.heap.size := (by have := hA5.2; omega); have hz52 : w.heap.size + 1 + 1 < w5.heap.size := (by have := hA5.2; omega)
      go_wp2
      refine bodyPost_ret (v := .agg #[.int .i64 (z).lo, .int .i64 (z).hi]) ?_ rfl ⟨rfl, ((hA5.set (by omega) _).set (by omega) _).1⟩
      simp [results, Try.results55, go_sem, hc5, hz50, hz51, hz52]
  · have e' : b.lo ≠ b.hi := by simpa using e
    have hj := HJ.out
    rw [if_pos e'] at hj
    subst hj
    clear HJ e'
    go_enter Try.func55, Try.ntmps55
    go_wp2
    refine bodyPost_ret (v := .agg #[.int .i64 (a).lo, .int .i64 (a).hi]) ?_ rfl ⟨rfl, ((((Ahead.refl w).alloc _).alloc _).alloc _).1⟩
    simp [results, Try.results55, go_sem]
end Go.Proofs.Ytdajgopgaklipaa
