/- The helpers of the laws of layer 7: inside and awake. No condition. -/
import Derived.Test.YtdajgopgaklipaaIvAid
import Derived.Deep.RegionWith
namespace Go.Proofs.Ytdajgopgaklipaa
open Go.RowKit
set_option linter.unusedVariables false
set_option linter.unusedSimpArgs false
attribute [local go_sem] y_undef
def SomeIn (a : Iv) (w : World) (e : Ending) (w' : World) : Prop := ∃ i : Int, (a.lo ≤ i ∧ i ≤ a.hi) ∧ e = .returned (.int .i64 i) ∧ Below w.heap.size w w'
set_option maxHeartbeats 4000000 in
theorem inside_any (a : Iv) (n : Int) (ha : Iv.Good a) (hn : 0 ≤ n ∧ n ≤ 4294967295) (w : World) : Calls Try.prog 18 #[.agg #[.int .i64 (a).lo, .int .i64 (a).hi], .int .u32 n] w (SomeIn a w) := by
  have hA := (Ahead.refl w).alloc (.cells #[.int .i64 a.lo, .int .i64 a.hi] 23)
  obtain ⟨l1, l2, l3⟩ := ha
  obtain ⟨n1, n2⟩ := hn
  have w1 : IntKind.i64.wrap (a.hi - a.lo) = a.hi - a.lo := IntWalk.i64_in _ (by omega)
  have w2 : IntKind.i64.wrap (a.hi - a.lo + 1) = a.hi - a.lo + 1 := IntWalk.i64_in _ (by omega)
  have h0 : ¬ a.hi - a.lo + 1 = 0 := by omega
  have hm := Iv.tmod_pos (x := n) (y := a.hi - a.lo + 1) (by omega)
  have hr : n.tmod (a.hi - a.lo + 1) = n % (a.hi - a.lo + 1) := Int.tmod_eq_emod_of_nonneg n1
  have hb1 := Int.emod_nonneg n (show a.hi - a.lo + 1 ≠ 0 by omega)
  have hb2 := Int.emod_lt_of_pos n (show 0 < a.hi - a.lo + 1 by omega)
  have w3 : IntKind.i64.wrap (n % (a.hi - a.lo + 1)) = n % (a.hi - a.lo + 1) := IntWalk.i64_in _ (by omega)
  have w4 : IntKind.i64.wrap (a.lo + n % (a.hi - a.lo + 1)) = a.lo + n % (a.hi - a.lo + 1) := IntWalk.i64_in _ (by omega)
  have HI := Lib.hid (And.intro (show a.lo ≤ a.lo + n % (a.hi - a.lo + 1) by omega) (show a.lo + n % (a.hi - a.lo + 1) ≤ a.hi by omega))
  clear hm
  go_enter Try.func18, Try.ntmps18
  go_wp2_with fail
  go_quiet (fail)
  go_wp2
  go_ret
  refine ⟨_, HI.out, rfl, (hA.below (below_drewN _ _ _)).1⟩
set_option maxHeartbeats 4000000 in
theorem awake_any (w : World) : Calls Try.prog 14 #[] w fun e w' => e = .returned (.bool true) ∧ Below w.heap.size w w' := by
  have hg := iv_guard
  have e1 := iv_eql 11 22 11 22 true (by decide)
  have e2 := iv_eql 0 4 0 4 true (by decide)
  have e3 := iv_eql 1 5 1 5 true (by decide)
  go_enter Try.func14, Try.ntmps14
  go_wp2_with fail
  refine (iRefine_any 11 0 9 0 5 true (⟨0, 4⟩, ⟨1, 5⟩) (by decide) _).mono ?_
  rintro e w1 ⟨rfl, hb⟩
  have hA1 : Ahead 0 w w1 := ⟨hb, hb.size⟩
  clear hb
  go_wp2_with fail
  refine (iDo_any 1 1 2 10 20 ⟨11, 22⟩ (by decide) _).mono ?_
  rintro e w2 ⟨rfl, hb⟩
  obtain ⟨hc, hf⟩ := bcell hb
  (try simp only [size_alloc] at hc hf)
  have hB := ((hA1.alloc _).alloc _).below hb
  clear hb
  go_wp2
  go_ret
  exact ⟨rfl, hB.1⟩
end Go.Proofs.Ytdajgopgaklipaa
