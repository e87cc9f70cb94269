/- The code of layer 12: the small functions of Check. No condition. -/
import Derived.Test.YtojnhdkclabkgaaGrFind
import Derived.Test.YtojnhdkclabkgaaWdCode
namespace Go.Proofs.Ytojnhdkclabkgaa
open Go.RowKit
set_option linter.unusedVariables false
set_option linter.unusedSimpArgs false
attribute [local go_sem] y_undef
theorem gbelow_any (k n : Int) (r : Bool) (hr : Gr.inn k n = r) (w : World) : Calls Try.prog 72 #[.int .i64 k, .int .i64 n] w fun e w' => e = .returned (.bool r) ∧ w' = w := by
  subst hr
  unfold Gr.inn
  by_cases h1 : 0 ≤ k <;> by_cases h2 : k < n
  all_goals
    go_enter Try.func72, Try.ntmps72
    go_wp2
    go_ret
    exact ⟨by simp [h1, h2], rfl⟩
theorem gword_any (n : Int) (r : Bool) (hr : Gr.isW n = r) (w : World) : Calls Try.prog 75 #[.int .i64 n] w fun e w' => e = .returned (.bool r) ∧ w' = w := by
  subst hr
  unfold Gr.isW
  by_cases h1 : wrap32 n = n
  · have e1 : (wrap32 n == n) = true := by simp [h1]
    have e2 : decide (wrap32 n = n) = true := by simp [h1]
    rw [e2]
    clear h1 e2
    go_enter Try.func75, Try.ntmps75
    go_wp2_with (go_at_call 114; refine (wWrap_c _ _).mono ?_; rintro e w' ⟨rfl, rfl⟩)
    go_ret
    exact ⟨by simp [e1], rfl⟩
  · have e1 : (wrap32 n == n) = false := by simp [h1]
    have e2 : decide (wrap32 n = n) = false := by simp [h1]
    rw [e2]
    clear h1 e2
    go_enter Try.func75, Try.ntmps75
    go_wp2_with (go_at_call 114; refine (wWrap_c _ _).mono ?_; rintro e w' ⟨rfl, rfl⟩)
    go_ret
    exact ⟨by simp [e1], rfl⟩
theorem rdin_any (s : ByteArray) (x y : Int) (r : Bool) (hr : Gr.inOk (s, x, y) = r) (w : World) : Calls Try.prog 74 #[.agg #[.string s, .int .i64 x, .int .i64 y]] w fun e w' => e = .returned (.bool r) ∧ Below w.heap.size w w' := by
  subst hr
  have HB := Lib.hid ((Below.refl w.heap.size w).alloc (Nat.le_refl _) (.cells #[.string s, .int .i64 x, .int .i64 y] 57))
  unfold Gr.inOk
  simp only
  cases h1 : Gr.isW x
  · have H1 := Lib.hid h1
    clear h1
    go_enter Try.func74, Try.ntmps74
    go_wp2_with (go_at_call 75; refine (gword_any x _ H1.out _).mono ?_; rintro e w' ⟨rfl, rfl⟩)
    go_ret
    exact ⟨rfl, HB.out⟩
  · cases h2 : Gr.isW y
    · have H1 := Lib.hid h1
      have H2 := Lib.hid h2
      clear h1 h2
      go_enter Try.func74, Try.ntmps74
      go_wp2_with fail
      refine (gword_any x _ H1.out _).mono ?_
      rintro e w' ⟨rfl, rfl⟩
      go_wp2_with fail
      refine (gword_any y _ H2.out _).mono ?_
      rintro e w' ⟨rfl, rfl⟩
      go_wp2
      go_ret
      exact ⟨rfl, HB.out⟩
    · by_cases h3 : x ≤ y
      all_goals
        have H1 := Lib.hid h1
        have H2 := Lib.hid h2
        clear h1 h2
        go_enter Try.func74, Try.ntmps74
        go_wp2_with fail
        refine (gword_any x _ H1.out _).mono ?_
        rintro e w' ⟨rfl, rfl⟩
        go_wp2_with fail
        refine (gword_any y _ H2.out _).mono ?_
        rintro e w' ⟨rfl, rfl⟩
        go_wp2
        go_ret
        exact ⟨by simp [h3], HB.out⟩
theorem rdar_any (s : ByteArray) (x : Int) (r : Bool) (hr : Gr.arOk (s, x) = r) (w : World) : Calls Try.prog 77 #[.agg #[.string s, .int .i64 x]] w fun e w' => e = .returned (.bool r) ∧ Below w.heap.size w w' := by
  subst hr
  have HB := Lib.hid ((Below.refl w.heap.size w).alloc (Nat.le_refl _) (.cells #[.string s, .int .i64 x] 30))
  unfold Gr.arOk
  simp only
  by_cases h1 : 1 ≤ x
  · by_cases h2 : x ≤ 16
    · have hc : x = 1 ∨ x = 2 ∨ x = 3 ∨ x = 4 ∨ x = 5 ∨ x = 6 ∨ x = 7 ∨ x = 8 ∨ x = 9 ∨ x = 10 ∨ x = 11 ∨ x = 12 ∨ x = 13 ∨ x = 14 ∨ x = 15 ∨ x = 16 := by omega
      clear h1 h2
      rcases hc with rfl | rfl | rfl | rfl | rfl | rfl | rfl | rfl | rfl | rfl | rfl | rfl | rfl | rfl | rfl | rfl
      all_goals
        go_enter Try.func77, Try.ntmps77
        go_wp2
        go_ret
        exact ⟨rfl, HB.out⟩
    · have e : decide (x = 1 ∨ x = 2 ∨ x = 4 ∨ x = 8 ∨ x = 16) = false := by simp; omega
      rw [e]
      go_enter Try.func77, Try.ntmps77
      go_wp2
      go_ret
      exact ⟨rfl, HB.out⟩
  · have e : decide (x = 1 ∨ x = 2 ∨ x = 4 ∨ x = 8 ∨ x = 16) = false := by simp; omega
    rw [e]
    go_enter Try.func77, Try.ntmps77
    go_wp2
    go_ret
    exact ⟨rfl, HB.out⟩
end Go.Proofs.Ytojnhdkclabkgaa
