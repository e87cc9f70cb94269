/- The code of layer 14: by what a block branches. No condition. -/
import Derived.Test.YtojnhdkclabkgaaFoLearnB
namespace Go.Proofs.Ytojnhdkclabkgaa
open Go.RowKit Go.Maps
set_option linter.unusedVariables false
set_option linter.unusedSimpArgs false
attribute [local go_sem] y_undef
/-- What branch answers: a condition, and which of both successors (0: both). -/
def brV (s : Fo.S) (cond : Int) (b off c : Nat) : Value := match s.wd (Fo.use s cond) with
  | none => .tuple #[.int .i64 (Fo.use s cond), .slice (some ⟨b, off, none⟩) 2 c]
  | some m => if m = 0 then .tuple #[.int .i64 0, .slice (some ⟨b, off + 1, none⟩) 1 (c - 1)] else .tuple #[.int .i64 0, .slice (some ⟨b, off, none⟩) 1 c]
set_option maxHeartbeats 4000000 in
theorem branch_any (s : Fo.S) (B1 B2 n : Nat) (cond : Int) (b off c : Nat) (hc : 2 ≤ c) (hcm : c ≤ maxLen) (w : World) (hk : Kn w B1 B2 n s) (hv : Wf cond) (hu : Wf (Fo.use s cond)) :
    Calls Try.prog 45 #[.agg #[.map (some B1), .map (some B2)], .int .i64 cond, .slice (some ⟨b, off, none⟩) 2 c] w fun e w' => e = .returned (brV s cond b off c) ∧ Below w.heap.size w w' := by
  have hal : Below w.heap.size w (w.alloc (.cells #[.map (some B1), .map (some B2)] 77)) := bla (Below.refl _ _) _
  have HB := Lib.hid hal
  have HK := Lib.hid (hk.below hal)
  have HKb := Lib.hid (Bk.new w 77 #[.map (some B1), .map (some B2)])
  have HVc := Lib.hid hv
  have HVu := Lib.hid hu
  unfold maxLen at hcm
  have hc1 : (1 : Int) ≤ (c : Int) := by omega
  have hc2 : (2 : Int) ≤ (c : Int) := by omega
  clear hk hal hv hu
  obtain ⟨u, huse⟩ : ∃ u, Fo.use s cond = u := ⟨_, rfl⟩
  have HU := Lib.hid huse
  unfold brV
  rw [huse] at HVu ⊢
  obtain ⟨x, hx⟩ : ∃ x, s.wd u = x := ⟨_, rfl⟩
  have HX := Lib.hid hx
  rw [hx]
  clear huse hx
  cases x with
  | none =>
    dsimp only
    go_enter Try.func45, Try.ntmps45
    go_wp2_with fail
    refine (source_any s B1 B2 n cond _ HU.out _ HK.out HVc.out).mono ?_
    rintro e w1 ⟨rfl, hb1⟩
    have k0 := (HKb.out.below hb1).cell 0
    have k1 := (HKb.out.below hb1).cell 1
    have HB1 := Lib.hid (blt HB.out hb1)
    obtain ⟨D1, hown1, hD1⟩ := (HK.out.below hb1).1
    have h1 : Maps.has D1 (.int .i64 u) = false := by have := (hD1 u HVu.out).1; rw [HX.out] at this; exact this
    clear hb1 hD1
    go_wp2_with (first | (at_lookup; refine wpList_lookup_own_ok_int _ rfl _ _ 75 rfl 3 3 .i64 mlaw Try.underlying75 Try.underlying3 (mzero _) B1 n _ rfl hown1 _ _ rfl (keyOf_int_mk Try.underlying3 HVu.out.lit) ?_; intro c0 hat hwc) | fail)
    go_ret2
    exact ⟨rfl, HB1.out⟩
  | some m =>
    dsimp only
    by_cases hm : m = 0
    · rw [if_pos hm]
      have HM := Lib.hid hm
      clear hm
      go_enter Try.func45, Try.ntmps45
      go_wp2_with fail
      refine (source_any s B1 B2 n cond _ HU.out _ HK.out HVc.out).mono ?_
      rintro e w1 ⟨rfl, hb1⟩
      have k0 := (HKb.out.below hb1).cell 0
      have k1 := (HKb.out.below hb1).cell 1
      have HB1 := Lib.hid (blt HB.out hb1)
      obtain ⟨D1, hown1, hD1⟩ := (HK.out.below hb1).1
      have h1 : Maps.has D1 (.int .i64 u) = true := by have := (hD1 u HVu.out).1; rw [HX.out] at this; exact this
      have HD2 := Lib.hid (show ∀ q : Int, D1.atKey (.int .i64 u) (.lit (.int .i64 0)) = .lit (.int .i64 q) → (q != 0) = false from fun q hq => by
        have := (hD1 u HVu.out).2
        rw [HX.out, hq] at this
        have := lit_int_inj this
        rw [this, HM.out]
        rfl)
      clear hb1 hD1
      go_wp2_with (first | (at_lookup; refine wpList_lookup_own_ok_int _ rfl _ _ 75 rfl 3 3 .i64 mlaw Try.underlying75 Try.underlying3 (mzero _) B1 n _ rfl hown1 _ _ rfl (keyOf_int_mk Try.underlying3 HVu.out.lit) ?_; intro c0 hat hwc; have hc0 := HD2.out c0 hat) | fail)
      go_quiet (fail)
      go_wp2
      go_ret2
      exact ⟨rfl, HB1.out.trans (below_drewN _ _ _)⟩
    · rw [if_neg hm]
      have HM := Lib.hid hm
      clear hm
      go_enter Try.func45, Try.ntmps45
      go_wp2_with fail
      refine (source_any s B1 B2 n cond _ HU.out _ HK.out HVc.out).mono ?_
      rintro e w1 ⟨rfl, hb1⟩
      have k0 := (HKb.out.below hb1).cell 0
      have k1 := (HKb.out.below hb1).cell 1
      have HB1 := Lib.hid (blt HB.out hb1)
      obtain ⟨D1, hown1, hD1⟩ := (HK.out.below hb1).1
      have h1 : Maps.has D1 (.int .i64 u) = true := by have := (hD1 u HVu.out).1; rw [HX.out] at this; exact this
      have HD2 := Lib.hid (show ∀ q : Int, D1.atKey (.int .i64 u) (.lit (.int .i64 0)) = .lit (.int .i64 q) → (q != 0) = true from fun q hq => by
        have := (hD1 u HVu.out).2
        rw [HX.out, hq] at this
        have := lit_int_inj this
        rw [this]
        simpa using HM.out)
      clear hb1 hD1
      go_wp2_with (first | (at_lookup; refine wpList_lookup_own_ok_int _ rfl _ _ 75 rfl 3 3 .i64 mlaw Try.underlying75 Try.underlying3 (mzero _) B1 n _ rfl hown1 _ _ rfl (keyOf_int_mk Try.underlying3 HVu.out.lit) ?_; intro c0 hat hwc; have hc0 := HD2.out c0 hat) | fail)
      go_quiet (fail)
      go_wp2
      go_ret2
      exact ⟨rfl, HB1.out.trans (below_drewN _ _ _)⟩
end Go.Proofs.Ytojnhdkclabkgaa
