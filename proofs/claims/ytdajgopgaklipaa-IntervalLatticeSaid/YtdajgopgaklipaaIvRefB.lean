/- The specification of layer 7: what its functions answer, all but Valid. No condition. -/
import Derived.Test.YtdajgopgaklipaaIvRef
namespace Go.Proofs.Ytdajgopgaklipaa
open Go.RowKit
set_option linter.unusedVariables false
set_option linter.unusedSimpArgs false
theorem rForm_any (lo hi : Int) (r : Iv) (h : Iv.form ⟨lo, hi⟩ = r) (w : World) : Calls Try.prog 52 #[.agg #[.int .i64 lo, .int .i64 hi]] w fun e w' => e = .returned (.agg #[.int .i64 r.lo, .int .i64 r.hi]) ∧ Below w.heap.size w w' := by
  have hA := ((Ahead.refl w).alloc (.cells #[.int .i64 lo, .int .i64 hi] 23)).alloc (.cells #[.int .i64 0, .int .i64 0] 23)
  cases hk : Iv.ok ⟨lo, hi⟩
  · have hr : r = Iv.all := by rw [← h]; unfold Iv.form; rw [if_neg (by simp [hk])]
    subst hr
    have hK := Lib.hid hk
    clear hk h
    go_enter Try.func52, Try.ntmps52
    go_wp2_with fail
    refine (rValid_any lo hi false hK.out _).mono ?_
    rintro e w1 ⟨rfl, hb⟩
    have hA1 := hA.below hb; obtain ⟨hc1, hf1⟩ := bcell hb; (try simp only [size_alloc] at hc1 hf1); clear hb; have hz10 : w.heap.size < w1.heap.size := (by have := hA1.2; omega); have hz11 : w.heap.size + 1 < w1.heap.size := (by have := hA1.2; omega)
    go_wp2_with fail
    refine (rAll_any _).mono ?_
    rintro e w2 ⟨rfl, hb⟩
    have hA2 := hA1.below hb; obtain ⟨hc2, hf2⟩ := bcell hb; (try simp only [size_alloc] at hc2 hf2); clear hb; have hz20 : w.heap.size < w2.heap.size := (by have := hA2.2; omega); have hz21 : w.heap.size + 1 < w2.heap.size := (by have := hA2.2; omega)
    go_wp2
    refine bodyPost_ret (v := .agg #[.int .i64 Iv.all.lo, .int .i64 Iv.all.hi]) ?_ rfl ⟨rfl, ((hA2.set (by omega) _).set (by omega) _).1⟩
    simp [results, Try.results52, go_sem, hc1, hc2, hz10, hz11, hz20, hz21, Iv.all]
  · have hr : r = ⟨lo, hi⟩ := by rw [← h]; unfold Iv.form; rw [if_pos hk]
    subst hr
    have hK := Lib.hid hk
    clear hk h
    go_enter Try.func52, Try.ntmps52
    go_wp2_with fail
    refine (rValid_any lo hi true hK.out _).mono ?_
    rintro e w1 ⟨rfl, hb⟩
    have hA1 := hA.below hb; obtain ⟨hc1, hf1⟩ := bcell hb; (try simp only [size_alloc] at hc1 hf1); clear hb; have hz10 : w.heap.size < w1.heap.size := (by have := hA1.2; omega); have hz11 : w.heap.size + 1 < w1.heap.size := (by have := hA1.2; omega)
    go_wp2
    refine bodyPost_ret (v := .agg #[.int .i64 lo, .int .i64 hi]) ?_ rfl ⟨rfl, ((hA1.set (by omega) _).set (by omega) _).1⟩
    simp [results, Try.results52, go_sem, hc1, hz10, hz11]
end Go.Proofs.Ytdajgopgaklipaa
