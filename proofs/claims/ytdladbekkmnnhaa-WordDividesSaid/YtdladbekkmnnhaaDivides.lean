/- WordDivides answers true for every input: quotient and remainder belong together, and shifts multiply and divide by powers of two. No condition. -/
import Derived.Test.YtdladbekkmnnhaaAid
import Derived.Test.YtdladbekkmnnhaaDivPlain
import Derived.WalkKit
import Derived.ProofKit
import Derived.OpenShut
namespace Go.Proofs.Ytdladbekkmnnhaa.wordDivides
open Go.ChangeShapes Go.WideShapes Go.ChangeAt Go.RowKit
set_option linter.unusedVariables false      -- a walk need not use every 'w<i>' (that an integer argument fits its kind)

theorem own : ownKnob Try.prog.godebug = none := by kernel_rfl

theorem bounds32 {a : Int} (h : (Lit.int .i32 a).wf = true) : -2147483648 ≤ a ∧ a ≤ 2147483647 := by
  simpa [Lit.wf, IntKind.min, IntKind.max, IntKind.signed, IntKind.bits] using h
theorem bounds8 {a : Int} (h : (Lit.int .u8 a).wf = true) : 0 ≤ a ∧ a ≤ 255 := by
  simpa [Lit.wf, IntKind.min, IntKind.max, IntKind.signed, IntKind.bits] using h
theorem yes {a b : Int} (h : a = b) : (a == b) = true := beq_iff_eq.2 h
theorem no {a b : Int} (h : a = b) : (a != b) = false := by simp [h]
set_option maxHeartbeats 400000 in
theorem lowYes (a0 a1 a2 : Int) (l0 : -2147483648 ≤ a0) (u0 : a0 ≤ 2147483647) (l1 : -2147483648 ≤ a1) (u1 : a1 ≤ 2147483647) (l2 : 0 ≤ a2) (u2 : a2 ≤ 255) (h80 : a2 < 80) (hz : ¬ a2 - 40 = 0) (w : World) :
    Calls Try.prog 6 #[.int .i32 a0, .int .i32 a1, .int .u8 a2] w fun e w' => e = .returned (.bool true) ∧ Grown w w' := by
  have hG := Grown.refl w
  have hk : 0 ≤ a2 % 31 ∧ a2 % 31 ≤ 30 := by omega
  have hx : -2147483648 ≤ a0 ∧ a0 ≤ 2147483647 := ⟨l0, u0⟩
  have hy : -2147483648 ≤ a2 - 40 ∧ a2 - 40 ≤ 2147483647 := by omega
  have hz2 : (a2 - 40 == 0) = false := by simp; omega
  have g1 := no (div_parts a0 (a2 - 40) hx hy hz)
  have g2 : decide (wrap64 ((a2 - 40) * (a2 - 40)) ≤ wrap64 (val 5 a0 (a2 - 40) * val 5 a0 (a2 - 40))) = false := by simpa using rem_small a0 (a2 - 40) hx hy hz
  have g3 : decide (wrap64 (val 5 a0 (a2 - 40) * a0) < 0) = false := by simpa using rem_sign a0 (a2 - 40) hx hy hz
  have g4 := decide_eq_true (shr_low a0 (a2 % 31) hx hk)
  have g5 := decide_eq_true (shr_high a0 (a2 % 31) hx hk)
  have g6 := yes (shl_mul a0 (a2 % 31) hk)
  clear hx hy hk hz
  go_enter Try.func6, Try.ntmps6
  go_wp2_with (first | (go_at_call 18; refine (c18 _ _ _ _).mono ?_; rintro e w' ⟨rfl, hg⟩; replace hG := grown_trans hG hg; clear hg) | (go_at_call 17; refine (c17 _).mono ?_; rintro e w' ⟨rfl, hg⟩; replace hG := grown_trans hG hg; clear hg))
  go_ret
  exact ⟨rfl, hG⟩
set_option maxHeartbeats 400000 in
theorem highYes (a0 a1 a2 : Int) (l0 : -2147483648 ≤ a0) (u0 : a0 ≤ 2147483647) (l1 : -2147483648 ≤ a1) (u1 : a1 ≤ 2147483647) (l2 : 0 ≤ a2) (u2 : a2 ≤ 255) (h80 : ¬ a2 < 80) (hz : ¬ a1 = 0) (w : World) :
    Calls Try.prog 6 #[.int .i32 a0, .int .i32 a1, .int .u8 a2] w fun e w' => e = .returned (.bool true) ∧ Grown w w' := by
  have hG := Grown.refl w
  have hk : 0 ≤ a2 % 31 ∧ a2 % 31 ≤ 30 := by omega
  have hx : -2147483648 ≤ a0 ∧ a0 ≤ 2147483647 := ⟨l0, u0⟩
  have hy : -2147483648 ≤ a1 ∧ a1 ≤ 2147483647 := by omega
  have hz2 : (a1 == 0) = false := by simp; omega
  have g1 := no (div_parts a0 (a1) hx hy hz)
  have g2 : decide (wrap64 ((a1) * (a1)) ≤ wrap64 (val 5 a0 (a1) * val 5 a0 (a1))) = false := by simpa using rem_small a0 (a1) hx hy hz
  have g3 : decide (wrap64 (val 5 a0 (a1) * a0) < 0) = false := by simpa using rem_sign a0 (a1) hx hy hz
  have g4 := decide_eq_true (shr_low a0 (a2 % 31) hx hk)
  have g5 := decide_eq_true (shr_high a0 (a2 % 31) hx hk)
  have g6 := yes (shl_mul a0 (a2 % 31) hk)
  clear hx hy hk hz
  go_enter Try.func6, Try.ntmps6
  go_wp2_with (first | (go_at_call 18; refine (c18 _ _ _ _).mono ?_; rintro e w' ⟨rfl, hg⟩; replace hG := grown_trans hG hg; clear hg) | (go_at_call 17; refine (c17 _).mono ?_; rintro e w' ⟨rfl, hg⟩; replace hG := grown_trans hG hg; clear hg))
  go_ret
  exact ⟨rfl, hG⟩
theorem lowNo (a0 a1 a2 : Int) (l0 : -2147483648 ≤ a0) (u0 : a0 ≤ 2147483647) (l1 : -2147483648 ≤ a1) (u1 : a1 ≤ 2147483647) (l2 : 0 ≤ a2) (u2 : a2 ≤ 255) (h80 : a2 < 80) (hz : a2 - 40 = 0) (w : World) :
    Calls Try.prog 6 #[.int .i32 a0, .int .i32 a1, .int .u8 a2] w fun e w' => e = .returned (.bool true) ∧ Grown w w' := by
  have hG := Grown.refl w
  obtain ⟨g1, g2⟩ := div_zero a0
  obtain rfl : a2 = 40 := by omega
  go_enter Try.func6, Try.ntmps6
  go_wp2_with (first | (go_at_call 18; refine (c18 _ _ _ _).mono ?_; rintro e w' ⟨rfl, hg⟩; replace hG := grown_trans hG hg; clear hg) | (go_at_call 17; refine (c17 _).mono ?_; rintro e w' ⟨rfl, hg⟩; replace hG := grown_trans hG hg; clear hg))
  go_ret
  exact ⟨rfl, hG⟩
theorem highNo (a0 a1 a2 : Int) (l0 : -2147483648 ≤ a0) (u0 : a0 ≤ 2147483647) (l1 : -2147483648 ≤ a1) (u1 : a1 ≤ 2147483647) (l2 : 0 ≤ a2) (u2 : a2 ≤ 255) (h80 : ¬ a2 < 80) (hz : a1 = 0) (w : World) :
    Calls Try.prog 6 #[.int .i32 a0, .int .i32 a1, .int .u8 a2] w fun e w' => e = .returned (.bool true) ∧ Grown w w' := by
  have hG := Grown.refl w
  obtain ⟨g1, g2⟩ := div_zero a0
  obtain rfl : a1 = 0 := hz
  go_enter Try.func6, Try.ntmps6
  go_wp2_with (first | (go_at_call 18; refine (c18 _ _ _ _).mono ?_; rintro e w' ⟨rfl, hg⟩; replace hG := grown_trans hG hg; clear hg) | (go_at_call 17; refine (c17 _).mono ?_; rintro e w' ⟨rfl, hg⟩; replace hG := grown_trans hG hg; clear hg))
  go_ret
  exact ⟨rfl, hG⟩
theorem walk (a0 : Int) (a1 : Int) (a2 : Int) (w0 : (Lit.int .i32 a0).wf = true) (w1 : (Lit.int .i32 a1).wf = true) (w2 : (Lit.int .u8 a2).wf = true) (w : World) :
    Calls Try.prog 6 #[.int .i32 a0, .int .i32 a1, .int .u8 a2] w fun e w' => e = .returned (.bool true) ∧ Grown w w' := by
  obtain ⟨l0, u0⟩ := bounds32 w0
  obtain ⟨l1, u1⟩ := bounds32 w1
  obtain ⟨l2, u2⟩ := bounds8 w2
  by_cases h80 : a2 < 80
  · by_cases hz : a2 - 40 = 0
    · exact lowNo a0 a1 a2 l0 u0 l1 u1 l2 u2 h80 hz w
    · exact lowYes a0 a1 a2 l0 u0 l1 u1 l2 u2 h80 hz w
  · by_cases hz : a1 = 0
    · exact highNo a0 a1 a2 l0 u0 l1 u1 l2 u2 h80 hz w
    · exact highYes a0 a1 a2 l0 u0 l1 u1 l2 u2 h80 hz w

/-! ### THE ROW's STEP: WRITTEN OUT: LEAVE IT -/
set_option maxRecDepth 100000 in
theorem lifted (os : Os) (started : os.Started) (H : Type) (enc : TypeId × Value → H) :
    ReturnsInHanded {} Try.checked os 6 .any (Rows.wordDividesSpec.pre6 enc Try.prog Try.f6 Rows.wordDividesRow.domain false) (Rows.wordDividesSpec.post enc Try.prog Try.f6 false true false false) := by
  refine returnsInHanded_of_change (C := Try.checked) own started (by kernel_rfl) Try.func6
    (ChangeSpec.witness6 (enc := enc) (C := Try.checked) false ⟨#[], #[.int .i32 0, .int .i32 0, .int .u8 0], []⟩ 8 (by kernel_rfl) (by kernel_rfl) (by kernel_rfl) (by kernel_rfl)) ?_
  intro W base args ds gs before hval0 hW hcnd _
  have hval : ∀ (j : Nat) t v, Try.f6.params[j]? = some t → args[j]? = some v → Value.okWide Try.prog W .any base t v := hval0
  have hW' := hW
  obtain ⟨p, q, hA0, hV, rfl, hfz, hnd⟩ := hW
  have hA : DataW.TrodAll enc Try.prog W 0 (fun _ => true) true Try.f6.params.toList args.toList ds p := hA0
  rw [Try.params6] at hA hval
  obtain ⟨v0, vs0, d0, ds0, p0, q0, hargs, rfl, rfl, h0, r0⟩ := trodAll_cons hA
  obtain ⟨v1, vs1, d1, ds1, p1, q1, rfl, rfl, rfl, h1, r1⟩ := trodAll_cons r0
  obtain ⟨v2, vs2, d2, ds2, p2, q2, rfl, rfl, rfl, h2, r2⟩ := trodAll_cons r1
  obtain ⟨rfl, rfl, rfl⟩ := trodAll_nil r2
  obtain rfl : args = #[v0, v1, v2] := by cases args; simp_all
  obtain ⟨rfl, rfl⟩ := trodVars_none hV
  obtain ⟨a0, rfl, rfl, rfl, w0⟩ := open_int Try.underlying21 (hval 0 21 v0 rfl rfl) h0
  obtain ⟨a1, rfl, rfl, rfl, w1⟩ := open_int Try.underlying21 (hval 1 21 v1 rfl rfl) h1
  obtain ⟨a2, rfl, rfl, rfl, w2⟩ := open_int Try.underlying5 (hval 2 5 v2 rfl rfl) h2
  clear hA0 hval0
  simp only [List.append_nil] at hW'
  refine (walk a0 a1 a2 w0 w1 w2 W).mono fun e W' ⟨he, hg⟩ => ?_
  subst he
  exact ⟨_, rfl, post_of_same (pa := []) (pv := []) hW' (fun _ _ _ => (trodAll_cons_mk (shut_bool Try.underlying4 _) trodAll_mk0)) (fun sp _ => (trodAll_cons_mk (shut_int Try.underlying21 w0) (trodAll_cons_mk (shut_int Try.underlying21 w1) (trodAll_cons_mk (shut_int Try.underlying5 w2) trodAll_mk0)))) (fun _ _ => rfl) rfl
    (hg.frame _) hg.2.1 (ok_one (by kernel_rfl) rfl (okWide_bool_mk Try.underlying4 _))⟩

theorem over : Rows.wordDividesRow.holds Try.pinned (OpenSpec.ofChange Rows.wordDividesSpec) :=
  OpenClaim.holds_of_wide 6 Try.f6 rfl rfl rfl rfl rfl rfl rfl ⟨rfl, rfl, rfl, rfl, rfl⟩ rfl rfl rfl rfl rfl (by kernel_rfl) Try.func6 (by kernel_rfl)
    (of_decide_eq_true (by kernel_rfl)) (by unfold Func.isWrapper; first | (rw [if_pos (by decide +kernel)]; kernel_rfl) | (rw [if_neg (by decide +kernel)]; exact ⟨rfl, rfl⟩))
    (fun os started H enc _ => lifted os started H enc)

/-- ████ THE STATEMENT ████ -/
theorem proved : Rows.WordDividesSaid :=
  over
end Go.Proofs.Ytdladbekkmnnhaa.wordDivides
