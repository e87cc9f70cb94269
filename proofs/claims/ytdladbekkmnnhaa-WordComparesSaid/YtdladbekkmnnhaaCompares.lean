/- WordCompares answers true for every input: exactly one of less, equal and greater holds, and the other comparisons follow. No condition. -/
import Derived.Test.YtdladbekkmnnhaaAid
import Derived.WalkKit
import Derived.ProofKit
import Derived.OpenShut
namespace Go.Proofs.Ytdladbekkmnnhaa.wordCompares
open Go.ChangeShapes Go.WideShapes Go.ChangeAt Go.RowKit
set_option linter.unusedVariables false      -- a walk need not use every 'w<i>' (that an integer argument fits its kind)

theorem own : ownKnob Try.prog.godebug = none := by kernel_rfl

theorem bounds32 {a : Int} (h : (Lit.int .i32 a).wf = true) : -2147483648 ≤ a ∧ a ≤ 2147483647 := by
  simpa [Lit.wf, IntKind.min, IntKind.max, IntKind.signed, IntKind.bits] using h
theorem yes {a b : Int} (h : a = b) : (a == b) = true := beq_iff_eq.2 h
theorem no {a b : Int} (h : a = b) : (a != b) = false := by simp [h]
theorem cmp (op a b : Int) (ha : -2147483648 ≤ a ∧ a ≤ 2147483647) (hb : -2147483648 ≤ b ∧ b ≤ 2147483647) {c : Bool} (h : raw op a b = one c) : val op a b = one c := by
  unfold val
  rw [wrap32_same ha, wrap32_same hb, h]
  exact wrap32_same (by unfold one; split <;> omega)
set_option maxHeartbeats 400000 in
/-- The law at two numbers, the second chosen. -/
theorem way (a0 a1 y : Int) (same : Bool) (hy : y = if same then a0 else a1) (l0 : -2147483648 ≤ a0) (u0 : a0 ≤ 2147483647) (l1 : -2147483648 ≤ a1) (u1 : a1 ≤ 2147483647) (w : World) :
    Calls Try.prog 7 #[.int .i32 a0, .int .i32 a1, .bool same] w fun e w' => e = .returned (.bool true) ∧ Grown w w' := by
  have hG := Grown.refl w
  have ly : -2147483648 ≤ y := by rw [hy]; split <;> assumption
  have uy : y ≤ 2147483647 := by rw [hy]; split <;> assumption
  have v1 : val 11 a0 y = one (decide (a0 < y)) := cmp 11 a0 y ⟨l0, u0⟩ ⟨ly, uy⟩ rfl
  have v2 : val 11 y a0 = one (decide (y < a0)) := cmp 11 y a0 ⟨ly, uy⟩ ⟨l0, u0⟩ rfl
  have v3 : val 13 a0 y = one (a0 == y) := cmp 13 a0 y ⟨l0, u0⟩ ⟨ly, uy⟩ rfl
  have v4 : val 12 a0 y = one (decide (a0 ≤ y)) := cmp 12 a0 y ⟨l0, u0⟩ ⟨ly, uy⟩ rfl
  have v5 : val 14 a0 y = one (a0 != y) := cmp 14 a0 y ⟨l0, u0⟩ ⟨ly, uy⟩ rfl
  rcases Int.lt_trichotomy a0 y with h | h | h
  · have b1 : decide (a0 < y) = true := by simp [h]
    have n1 : ¬ y < a0 := by omega
    have n2 : ¬ a0 = y := by omega
    have n3 : a0 ≤ y := by omega
    simp [one, h, n1, n2, n3] at v1 v2 v3 v4 v5
    clear n1 n2 n3
    cases same
    case true => simp at hy; omega
    all_goals
      simp at hy
      subst hy
      go_enter Try.func7, Try.ntmps7
      go_wp2_with (first | (go_at_call 18; refine (c18 _ _ _ _).mono ?_; rintro e w' ⟨rfl, hg⟩; replace hG := grown_trans hG hg; clear hg) | (go_at_call 17; refine (c17 _).mono ?_; rintro e w' ⟨rfl, hg⟩; replace hG := grown_trans hG hg; clear hg))
      go_ret
      exact ⟨rfl, hG⟩
  · subst h
    simp [one] at v1 v2 v3 v4 v5
    clear v2 ly uy
    cases same
    all_goals
      simp at hy
      try subst hy
      go_enter Try.func7, Try.ntmps7
      go_wp2_with (first | (go_at_call 18; refine (c18 _ _ _ _).mono ?_; rintro e w' ⟨rfl, hg⟩; replace hG := grown_trans hG hg; clear hg) | (go_at_call 17; refine (c17 _).mono ?_; rintro e w' ⟨rfl, hg⟩; replace hG := grown_trans hG hg; clear hg))
      go_ret
      exact ⟨rfl, hG⟩
  · have b1 : decide (a0 < y) = false := by simp; omega
    have n1 : ¬ a0 < y := by omega
    have n2 : ¬ a0 = y := by omega
    have n3 : ¬ a0 ≤ y := by omega
    simp [one, h, n1, n2, n3] at v1 v2 v3 v4 v5
    cases same
    case true => simp at hy; omega
    all_goals
      simp at hy
      subst hy
      go_enter Try.func7, Try.ntmps7
      go_wp2_with (first | (go_at_call 18; refine (c18 _ _ _ _).mono ?_; rintro e w' ⟨rfl, hg⟩; replace hG := grown_trans hG hg; clear hg) | (go_at_call 17; refine (c17 _).mono ?_; rintro e w' ⟨rfl, hg⟩; replace hG := grown_trans hG hg; clear hg))
      go_ret
      exact ⟨rfl, hG⟩
theorem walk (a0 : Int) (a1 : Int) (a2 : Bool) (w0 : (Lit.int .i32 a0).wf = true) (w1 : (Lit.int .i32 a1).wf = true) (w : World) :
    Calls Try.prog 7 #[.int .i32 a0, .int .i32 a1, .bool a2] w fun e w' => e = .returned (.bool true) ∧ Grown w w' :=
  way a0 a1 _ a2 rfl (bounds32 w0).1 (bounds32 w0).2 (bounds32 w1).1 (bounds32 w1).2 w

/-! ### THE ROW's STEP: WRITTEN OUT: LEAVE IT -/
set_option maxRecDepth 100000 in
theorem lifted (os : Os) (started : os.Started) (H : Type) (enc : TypeId × Value → H) :
    ReturnsInHanded {} Try.checked os 7 .any (Rows.wordComparesSpec.pre6 enc Try.prog Try.f7 Rows.wordComparesRow.domain false) (Rows.wordComparesSpec.post enc Try.prog Try.f7 false true false false) := by
  refine returnsInHanded_of_change (C := Try.checked) own started (by kernel_rfl) Try.func7
    (ChangeSpec.witness6 (enc := enc) (C := Try.checked) false ⟨#[], #[.int .i32 0, .int .i32 0, .bool false], []⟩ 8 (by kernel_rfl) (by kernel_rfl) (by kernel_rfl) (by kernel_rfl)) ?_
  intro W base args ds gs before hval0 hW hcnd _
  have hval : ∀ (j : Nat) t v, Try.f7.params[j]? = some t → args[j]? = some v → Value.okWide Try.prog W .any base t v := hval0
  have hW' := hW
  obtain ⟨p, q, hA0, hV, rfl, hfz, hnd⟩ := hW
  have hA : DataW.TrodAll enc Try.prog W 0 (fun _ => true) true Try.f7.params.toList args.toList ds p := hA0
  rw [Try.params7] at hA hval
  obtain ⟨v0, vs0, d0, ds0, p0, q0, hargs, rfl, rfl, h0, r0⟩ := trodAll_cons hA
  obtain ⟨v1, vs1, d1, ds1, p1, q1, rfl, rfl, rfl, h1, r1⟩ := trodAll_cons r0
  obtain ⟨v2, vs2, d2, ds2, p2, q2, rfl, rfl, rfl, h2, r2⟩ := trodAll_cons r1
  obtain ⟨rfl, rfl, rfl⟩ := trodAll_nil r2
  obtain rfl : args = #[v0, v1, v2] := by cases args; simp_all
  obtain ⟨rfl, rfl⟩ := trodVars_none hV
  obtain ⟨a0, rfl, rfl, rfl, w0⟩ := open_int Try.underlying21 (hval 0 21 v0 rfl rfl) h0
  obtain ⟨a1, rfl, rfl, rfl, w1⟩ := open_int Try.underlying21 (hval 1 21 v1 rfl rfl) h1
  obtain ⟨a2, rfl, rfl, rfl⟩ := open_bool Try.underlying4 (hval 2 4 v2 rfl rfl) h2
  clear hA0 hval0
  simp only [List.append_nil] at hW'
  refine (walk a0 a1 a2 w0 w1 W).mono fun e W' ⟨he, hg⟩ => ?_
  subst he
  exact ⟨_, rfl, post_of_same (pa := []) (pv := []) hW' (fun _ _ _ => (trodAll_cons_mk (shut_bool Try.underlying4 _) trodAll_mk0)) (fun sp _ => (trodAll_cons_mk (shut_int Try.underlying21 w0) (trodAll_cons_mk (shut_int Try.underlying21 w1) (trodAll_cons_mk (shut_bool Try.underlying4 _) trodAll_mk0)))) (fun _ _ => rfl) rfl
    (hg.frame _) hg.2.1 (ok_one (by kernel_rfl) rfl (okWide_bool_mk Try.underlying4 _))⟩

theorem over : Rows.wordComparesRow.holds Try.pinned (OpenSpec.ofChange Rows.wordComparesSpec) :=
  OpenClaim.holds_of_wide 7 Try.f7 rfl rfl rfl rfl rfl rfl rfl ⟨rfl, rfl, rfl, rfl, rfl⟩ rfl rfl rfl rfl rfl (by kernel_rfl) Try.func7 (by kernel_rfl)
    (of_decide_eq_true (by kernel_rfl)) (by unfold Func.isWrapper; first | (rw [if_pos (by decide +kernel)]; kernel_rfl) | (rw [if_neg (by decide +kernel)]; exact ⟨rfl, rfl⟩))
    (fun os started H enc _ => lifted os started H enc)

/-- ████ THE STATEMENT ████ -/
theorem proved : Rows.WordComparesSaid :=
  over
end Go.Proofs.Ytdladbekkmnnhaa.wordCompares
