/- The helpers of the laws of layer 7. No condition. -/
import Derived.Test.YtdajgopgaklipaaIvCode
import Derived.Deep.RegionWith
namespace Go.Proofs.Ytdajgopgaklipaa
open Go.RowKit
set_option linter.unusedVariables false
set_option linter.unusedSimpArgs false
attribute [local go_sem] y_undef
/-- An interval that is valid. -/
def SomeIv (w : World) (e : Ending) (w' : World) : Prop := ∃ z : Iv, Iv.Ok z ∧ e = .returned (.agg #[.int .i64 (z).lo, .int .i64 (z).hi]) ∧ Below w.heap.size w w'
theorem tmod_lt (a n : Int) (hn : 0 < n) : -n < a.tmod n ∧ a.tmod n < n := by
  have h := Iv.tmod_pos (x := a) (y := n) (by omega)
  by_cases c : 0 ≤ a
  · have := h.1 c; omega
  · have := h.2 (by omega); omega
theorem good_mk {x y : Int} (h1 : -2147483648 ≤ x) (h2 : x ≤ y) (h3 : y ≤ 2147483647) : Iv.Good ⟨x, y⟩ := ⟨h1, h2, h3⟩
set_option maxHeartbeats 4000000 in
theorem of_any (a b h : Int) (ha : -2147483648 ≤ a ∧ a ≤ 2147483647) (hb : -2147483648 ≤ b ∧ b ≤ 2147483647) (hh : 0 ≤ h ∧ h ≤ 255) (w : World) : Calls Try.prog 15 #[.int .i32 a, .int .i32 b, .int .u8 h] w (SomeIv w) := by
  have hA := (Ahead.refl w).alloc (.cells #[.int .i64 0, .int .i64 0] 23)
  obtain ⟨a0, a1⟩ := ha
  obtain ⟨b0, b1⟩ := hb
  obtain ⟨h0, h1⟩ := hh
  have t1 := tmod_lt a 20 (by omega)
  have t2 := tmod_lt a 40 (by omega)
  obtain ⟨t3, t4⟩ := t1
  obtain ⟨t5, t6⟩ := t2
  go_enter Try.func15, Try.ntmps15
  go_wp2_with fail
  all_goals first
    | (refine (iNone_any _).mono ?_
       rintro e w1 ⟨rfl, hb⟩
       have hA1 := hA.below hb; obtain ⟨hc1, hf1⟩ := bcell hb; (try simp only [size_alloc] at hc1 hf1); clear hb; have hz10 : w.heap.size < w1.heap.size := (by have := hA1.2; omega)
       go_wp2
       refine bodyPost_ret (v := .agg #[.int .i64 (Iv.non).lo, .int .i64 (Iv.non).hi]) ?_ rfl ⟨Iv.non, .inl rfl, rfl, ((hA1.set (by omega) _).set (by omega) _).1⟩
       simp [results, Try.results15, go_sem, hc1, hz10, Iv.non])
    | ((try generalize a.tmod 20 = m1 at *)
       (try generalize a.tmod 40 = m2 at *)
       refine' bodyPost_ret ?_ rfl ?_
       rotate_left
       focus (simp [results, Try.results15, go_sem]; rfl)
       refine ⟨⟨_, _⟩, .inr (good_mk ?_ ?_ ?_), rfl, ((Ahead.refl w).alloc _).1⟩
       all_goals (try unfold wrap64)
       all_goals omega)
end Go.Proofs.Ytdajgopgaklipaa
