/- The laws' own helpers: do answers the value that Do answers, and awake answers true. No condition. -/
import Derived.Test.YtdladbekkmnnhaaOps
namespace Go.Proofs.Ytdladbekkmnnhaa
open Go.RowKit
set_option linter.unusedVariables false

theorem c18 (op a b : Int) (w : World) : Calls Try.prog 18 #[.int .i64 op, .int .i64 a, .int .i64 b] w fun e w' => e = .returned (.int .i64 (val op a b)) ∧ Grown w w' := by
  go_enter Try.func18, Try.ntmps18
  go_wp2_with (go_at_call 9; refine (do_any _ _ _ _).mono ?_; rintro e w' ⟨rfl, hg⟩)
  go_ret
  exact ⟨rfl, hg⟩
theorem awake1 : val 1 2147483647 1 = -2147483648 := by simp [val, raw, wrap32]
theorem awake2 : val 5 (-7) 2 = -1 := by
  simp [val, raw, wrap32]
theorem awake3 : val 4 5 0 = 0 := by simp [val, raw, wrap32]
theorem awake4 : wrap32 4294967301 = 5 := by simp [wrap32]
theorem fault1 : fault 1 = 0 := by decide
theorem fault4 : fault 4 = 0 := by decide
theorem fault5 : fault 5 = 0 := by decide
theorem c17 (w : World) : Calls Try.prog 17 #[] w fun e w' => e = .returned (.bool true) ∧ Grown w w' := by
  have hG := Grown.refl w
  have h1 := awake1
  have h2 := awake2
  have h3 := awake3
  have h4 := awake4
  have e1 := fault1
  have e4 := fault4
  have e5 := fault5
  go_enter Try.func17, Try.ntmps17
  go_wp2_with (first | (go_at_call 9; refine (do_any _ _ _ _).mono ?_; rintro e w' ⟨rfl, hg⟩; replace hG := grown_trans hG hg; clear hg) | (go_at_call 11; refine (c11 _ _).mono ?_; rintro e w' ⟨rfl, rfl⟩) | (go_at_call 13; refine (c13 _ true (by decide) _).mono ?_; rintro e w' ⟨rfl, rfl⟩))
  go_ret
  exact ⟨rfl, hG⟩
end Go.Proofs.Ytdladbekkmnnhaa
