/- The code of layer 7: exact's six functions, quotient, remainder, and, left, right. No condition. -/
import Derived.Test.YtdajgopgaklipaaIcOps
namespace Go.Proofs.Ytdajgopgaklipaa
open Go.RowKit
set_option linter.unusedVariables false
set_option linter.unusedSimpArgs false
attribute [local go_sem] y_undef
theorem add_ans (x y : Int) (hx : -2147483648 ≤ x ∧ x ≤ 2147483647) (hy : -2147483648 ≤ y ∧ y ≤ 2147483647) : Ans 35 x y (x + y) := by
  intro w
  go_enter Try.func35, Try.ntmps35
  go_wp2
  go_ret
  exact ⟨rfl, Below.refl _ _⟩
theorem sub_ans (x y : Int) (hx : -2147483648 ≤ x ∧ x ≤ 2147483647) (hy : -2147483648 ≤ y ∧ y ≤ 2147483647) : Ans 36 x y (x - y) := by
  intro w
  go_enter Try.func36, Try.ntmps36
  go_wp2
  go_ret
  exact ⟨rfl, Below.refl _ _⟩
theorem mul_in {x y : Int} (hx : -2147483648 ≤ x ∧ x ≤ 2147483647) (hy : -2147483648 ≤ y ∧ y ≤ 2147483647) : -9223372036854775808 ≤ x * y ∧ x * y ≤ 9223372036854775807 := by
  have h := Iv.mul_corners hx hy
  have e1 : Iv.min4 (-2147483648 * -2147483648) (-2147483648 * 2147483647) (2147483647 * -2147483648) (2147483647 * 2147483647) = -4611686016279904256 := by decide
  have e2 : Iv.max4 (-2147483648 * -2147483648) (-2147483648 * 2147483647) (2147483647 * -2147483648) (2147483647 * 2147483647) = 4611686018427387904 := by decide
  omega
theorem shl_in {x y : Int} (hx : 0 ≤ x ∧ x ≤ 2147483647) (hy : 0 ≤ y ∧ y ≤ 31) : -9223372036854775808 ≤ x * 2 ^ y.toNat ∧ x * 2 ^ y.toNat ≤ 9223372036854775807 := by
  have h1 := Iv.pow_mono (show y.toNat ≤ 31 by omega)
  have h2 := Iv.pow_pos' y.toNat
  have e : (2 : Int) ^ 31 = 2147483648 := by decide
  rw [e] at h1
  generalize (2 : Int) ^ y.toNat = c at *
  have k1 : 0 ≤ x * c := Int.mul_nonneg hx.1 (by omega)
  have k2 : x * c ≤ x * 2147483648 := Int.mul_le_mul_of_nonneg_left h1 hx.1
  omega
theorem mul_ans (x y : Int) (hx : -2147483648 ≤ x ∧ x ≤ 2147483647) (hy : -2147483648 ≤ y ∧ y ≤ 2147483647) : Ans 37 x y (x * y) := by
  intro w
  have hw := Lib.hid (wrap64_same (mul_in hx hy))
  go_enter Try.func37, Try.ntmps37
  go_wp2
  go_ret
  exact ⟨by (rw [hw.out]; rfl), Below.refl _ _⟩
theorem quo_ans (x y : Int) (hx : -2147483648 ≤ x ∧ x ≤ 2147483647) (hy : 1 ≤ y ∧ y ≤ 2147483647) : Ans 59 x y (x.tdiv y) := by
  intro w
  have h0 : ¬ y = 0 := by omega
  go_enter Try.func59, Try.ntmps59
  go_wp2
  go_ret
  exact ⟨rfl, Below.refl _ _⟩
theorem shl_ans (x y : Int) (hx : 0 ≤ x ∧ x ≤ 2147483647) (hy : 0 ≤ y ∧ y ≤ 31) : Ans 62 x y (x * 2 ^ y.toNat) := by
  intro w
  have h0 : ¬ y < 0 := by omega
  have hw := Lib.hid (wrap64_same (shl_in hx hy))
  go_enter Try.func62, Try.ntmps62
  go_wp2
  go_ret
  exact ⟨by (rw [hw.out]; rfl), Below.refl _ _⟩
theorem shr_ans (x y : Int) (hx : -2147483648 ≤ x ∧ x ≤ 2147483647) (hy : 0 ≤ y ∧ y ≤ 31) : Ans 63 x y (x / 2 ^ y.toNat) := by
  intro w
  have h0 : ¬ y < 0 := by omega
  go_enter Try.func63, Try.ntmps63
  go_wp2
  go_ret
  exact ⟨rfl, Below.refl _ _⟩
set_option maxHeartbeats 4000000 in
theorem quotient_any (a b : Iv) (ga : Iv.Good a) (gb : Iv.Good b) (z : Iv) (hz : (if 1 ≤ b.lo then Iv.hull (a.lo.tdiv b.lo) (a.lo.tdiv b.hi) (a.hi.tdiv b.lo) (a.hi.tdiv b.hi) else Iv.all) = z) (w : World) : Calls Try.prog 38 #[.agg #[.int .i64 (a).lo, .int .i64 (a).hi], .agg #[.int .i64 (b).lo, .int .i64 (b).hi]] w fun e w' => e = .returned (.agg #[.int .i64 (z).lo, .int .i64 (z).hi]) ∧ Below w.heap.size w w' := by
  have hHeld := bx_new w a b 23
  obtain ⟨l1, l2, l3⟩ := ga
  obtain ⟨r1, r2, r3⟩ := gb
  have HJ' := Lib.hid hz
  clear hz
  by_cases h1 : b.lo < 1
  · have hj := HJ'.out
    rw [if_neg (by omega)] at hj
    subst hj
    clear HJ'
    go_enter Try.func38, Try.ntmps38
    go_wp2_with fail
    refine (iAll_any _).mono ?_
    rintro e w1 ⟨rfl, hb⟩
    replace hHeld := hHeld.below hb
    clear hb
    obtain ⟨hA, ⟨a0, a1⟩, ⟨b0, b1⟩, ⟨x, y, c0, c1⟩, f2⟩ := id hHeld; have hy0 := hA.lt0 (by omega); have hy1 := hA.lt1 (by omega); have hy2 := hA.lt2 (by omega)
    go_wp2
    refine bodyPost_ret (v := .agg #[.int .i64 (Iv.all).lo, .int .i64 (Iv.all).hi]) ?_ rfl ⟨rfl, hHeld.set.1.1⟩
    simp [results, Try.results38, go_sem, c0, c1, Iv.all]
  · have hj := HJ'.out
    rw [if_pos (by omega)] at hj
    have HJ := Lib.hid hj
    have HQ1 := Lib.hid (quo_ans a.lo b.lo ⟨l1, by omega⟩ ⟨by omega, by omega⟩)
    have HQ2 := Lib.hid (quo_ans a.lo b.hi ⟨l1, by omega⟩ ⟨by omega, by omega⟩)
    have HQ3 := Lib.hid (quo_ans a.hi b.lo ⟨by omega, l3⟩ ⟨by omega, by omega⟩)
    have HQ4 := Lib.hid (quo_ans a.hi b.hi ⟨by omega, l3⟩ ⟨by omega, by omega⟩)
    clear HJ' hj
    go_enter Try.func38, Try.ntmps38
    go_wp2_with fail
    refine (exact_any 59 a b _ _ _ _ z (fun args w => by kernel_rfl) HQ1.out HQ2.out HQ3.out HQ4.out HJ.out _).mono ?_
    rintro e w1 ⟨rfl, hb⟩
    replace hHeld := hHeld.below hb
    clear hb
    obtain ⟨hA, ⟨a0, a1⟩, ⟨b0, b1⟩, ⟨x, y, c0, c1⟩, f2⟩ := id hHeld; have hy0 := hA.lt0 (by omega); have hy1 := hA.lt1 (by omega); have hy2 := hA.lt2 (by omega)
    go_wp2
    refine bodyPost_ret (v := .agg #[.int .i64 (z).lo, .int .i64 (z).hi]) ?_ rfl ⟨rfl, hHeld.set.1.1⟩
    simp [results, Try.results38, go_sem, c0, c1]
set_option maxHeartbeats 4000000 in
theorem remainder_any (a b : Iv) (ga : Iv.Good a) (gb : Iv.Good b) (z : Iv) (hz : (if 1 ≤ b.lo then Iv.mk' (if 0 ≤ a.lo then 0 else max a.lo (1 - b.hi)) (if a.hi ≤ 0 then 0 else min a.hi (b.hi - 1)) else Iv.all) = z) (w : World) : Calls Try.prog 39 #[.agg #[.int .i64 (a).lo, .int .i64 (a).hi], .agg #[.int .i64 (b).lo, .int .i64 (b).hi]] w fun e w' => e = .returned (.agg #[.int .i64 (z).lo, .int .i64 (z).hi]) ∧ Below w.heap.size w w' := by
  have hHeld := bx_new w a b 23
  obtain ⟨l1, l2, l3⟩ := ga
  obtain ⟨r1, r2, r3⟩ := gb
  have HJ' := Lib.hid hz
  clear hz
  by_cases h1 : b.lo < 1
  · have hj := HJ'.out
    rw [if_neg (by omega)] at hj
    subst hj
    clear HJ'
    go_enter Try.func39, Try.ntmps39
    go_wp2_with fail
    refine (iAll_any _).mono ?_
    rintro e w1 ⟨rfl, hb⟩
    replace hHeld := hHeld.below hb
    clear hb
    obtain ⟨hA, ⟨a0, a1⟩, ⟨b0, b1⟩, ⟨x, y, c0, c1⟩, f2⟩ := id hHeld; have hy0 := hA.lt0 (by omega); have hy1 := hA.lt1 (by omega); have hy2 := hA.lt2 (by omega)
    go_wp2
    refine bodyPost_ret (v := .agg #[.int .i64 (Iv.all).lo, .int .i64 (Iv.all).hi]) ?_ rfl ⟨rfl, hHeld.set.1.1⟩
    simp [results, Try.results39, go_sem, c0, c1, Iv.all]
  · have hj := HJ'.out
    rw [if_pos (by omega), Iv.rem_code l2 (by omega) r2] at hj
    obtain ⟨m, hm⟩ : ∃ m, b.hi - 1 = m := ⟨_, rfl⟩
    obtain ⟨n1, hn1⟩ : ∃ n, min a.lo 0 = n := ⟨_, rfl⟩
    obtain ⟨n2, hn2⟩ : ∃ n, max n1 (-m) = n := ⟨_, rfl⟩
    obtain ⟨n3, hn3⟩ : ∃ n, max a.hi 0 = n := ⟨_, rfl⟩
    obtain ⟨n4, hn4⟩ : ∃ n, min n3 m = n := ⟨_, rfl⟩
    rw [hm, hn1, hn2, hn3, hn4] at hj
    subst hj
    have hm1 : wrap64 (b.hi - 1) = m := by rw [hm]; exact wrap64_same (by omega)
    have hm2 : IntKind.i64.wrap (-m) = -m := IntWalk.i64_in _ (by omega)
    have HN1 := Lib.hid hn1
    have HN2 := Lib.hid hn2
    have HN3 := Lib.hid hn3
    have HN4 := Lib.hid hn4
    clear HJ' hm hn1 hn2 hn3 hn4 l1 l2 l3 r1 r2 r3
    go_enter Try.func39, Try.ntmps39
    go_wp2
    refine wp_region_held_drew (S := (fun w' => Bx w a b w')) (by kernel_rfl) (hHeld.drew) (fun hHeld => ?_)
    generalize (((w.alloc (.cells #[.int .i64 a.lo, .int .i64 a.hi] 23)).alloc (.cells #[.int .i64 b.lo, .int .i64 b.hi] 23)).alloc (.cells #[.int .i64 0, .int .i64 0] 23)).drew = u0 at *
    refine' mh4 (Pre := fun (v2 : Value) (v6 : Value) (v10 : Value) (v13 : Value) (w' : World) => Sl [0] v2 w' ∧ Sl [-m] v6 w' ∧ Sl [0] v10 w' ∧ Sl [m] v13 w' ∧ ((fun w' => Bx w a b w')) w') _ #[true, true, true, true, true, true, true, true, true, true, true, true, true, true, false, false, false] _ (fun HK1_abcdefg => ?ha1_abcdefg) (fun v2 v6 v10 v13 w' hpre => ?hb1_abcdefg)
    case' ha1_abcdefg => skip
    refine' mh4 (Pre := fun (v2 : Value) (v6 : Value) (v10 : Value) (v13 : Value) (w' : World) => Sl [0] v2 w' ∧ Sl [-m] v6 w' ∧ Sl [0] v10 w' ∧ Sl [m] v13 w' ∧ ((fun w' => Bx w a b w')) w') _ #[true, true, true, true, true, true, true, true, true, true, true, false, true, true, false, false, false] _ (fun HK1_abcdeg => ?ha1_abcdeg) (fun v2 v6 v10 v13 w' hpre => ?hb1_abcdeg)
    case' ha1_abcdeg => skip
    refine' mh4 (Pre := fun (v2 : Value) (v6 : Value) (v10 : Value) (v13 : Value) (w' : World) => Sl [0] v2 w' ∧ Sl [-m] v6 w' ∧ Sl [0] v10 w' ∧ Sl [m] v13 w' ∧ ((fun w' => Bx w a b w')) w') _ #[true, true, true, true, true, true, true, false, true, true, true, false, true, true, false, false, false] _ (fun HK1_abceg => ?ha1_abceg) (fun v2 v6 v10 v13 w' hpre => ?hb1_abceg)
    case' ha1_abceg => skip
    refine' mh3 (Pre := fun (v2 : Value) (v6 : Value) (v13 : Value) (w' : World) => Sl [0] v2 w' ∧ Sl [-m] v6 w' ∧ Sl [m] v13 w' ∧ ((fun w' => Bx w a b w')) w') _ #[true, true, true, true, true, true, true, true, true, true, false, false, true, true, false, false, false] _ (fun HK1_abcdg => ?ha1_abcdg) (fun v2 v6 v13 w' hpre => ?hb1_abcdg)
    case' ha1_abcdg => skip
    refine' mh3 (Pre := fun (v2 : Value) (v6 : Value) (v10 : Value) (w' : World) => Sl [0] v2 w' ∧ Sl [-m] v6 w' ∧ Sl [0] v10 w' ∧ ((fun w' => Bx w a b w')) w') _ #[true, true, true, true, true, true, true, true, true, true, true, false, true, false, false, false, false] _ (fun HK1_abcde => ?ha1_abcde) (fun v2 v6 v10 w' hpre => ?hb1_abcde)
    case' ha1_abcde => skip
    refine' mh4 (Pre := fun (v2 : Value) (v6 : Value) (v10 : Value) (v13 : Value) (w' : World) => Sl [0] v2 w' ∧ Sl [-m] v6 w' ∧ Sl [0] v10 w' ∧ Sl [m] v13 w' ∧ ((fun w' => Bx w a b w')) w') _ #[true, true, true, false, true, true, true, false, true, true, true, false, true, true, false, false, false] _ (fun HK1_aceg => ?ha1_aceg) (fun v2 v6 v10 v13 w' hpre => ?hb1_aceg)
    case' ha1_aceg => skip
    refine' mh3 (Pre := fun (v2 : Value) (v10 : Value) (v13 : Value) (w' : World) => Sl [0] v2 w' ∧ Sl [0] v10 w' ∧ Sl [m] v13 w' ∧ ((fun w' => Bx w a b w')) w') _ #[true, true, true, true, true, true, false, false, true, true, true, false, true, true, false, false, false] _ (fun HK1_abeg => ?ha1_abeg) (fun v2 v10 v13 w' hpre => ?hb1_abeg)
    case' ha1_abeg => skip
    refine' mh3 (Pre := fun (v2 : Value) (v6 : Value) (v13 : Value) (w' : World) => Sl [0] v2 w' ∧ Sl [-m] v6 w' ∧ Sl [m] v13 w' ∧ ((fun w' => Bx w a b w')) w') _ #[true, true, true, true, true, true, true, false, true, true, false, false, true, true, false, false, false] _ (fun HK1_abcg => ?ha1_abcg) (fun v2 v6 v13 w' hpre => ?hb1_abcg)
    case' ha1_abcg => skip
    refine' mh3 (Pre := fun (v2 : Value) (v6 : Value) (v10 : Value) (w' : World) => Sl [0] v2 w' ∧ Sl [-m] v6 w' ∧ Sl [0] v10 w' ∧ ((fun w' => Bx w a b w')) w') _ #[true, true, true, true, true, true, true, false, true, true, true, false, true, false, false, false, false] _ (fun HK1_abce => ?ha1_abce) (fun v2 v6 v10 w' hpre => ?hb1_abce)
    case' ha1_abce => skip
    refine' mh3 (Pre := fun (v6 : Value) (v10 : Value) (v13 : Value) (w' : World) => Sl [-m] v6 w' ∧ Sl [0] v10 w' ∧ Sl [m] v13 w' ∧ ((fun w' => Bx w a b w')) w') _ #[true, true, false, false, true, true, true, false, true, true, true, false, true, true, false, false, false] _ (fun HK1_ceg => ?ha1_ceg) (fun v6 v10 v13 w' hpre => ?hb1_ceg)
    case' ha1_ceg => skip
    refine' mh3 (Pre := fun (v2 : Value) (v10 : Value) (v13 : Value) (w' : World) => Sl [0] v2 w' ∧ Sl [0] v10 w' ∧ Sl [m] v13 w' ∧ ((fun w' => Bx w a b w')) w') _ #[true, true, true, false, true, true, false, false, true, true, true, false, true, true, false, false, false] _ (fun HK1_aeg => ?ha1_aeg) (fun v2 v10 v13 w' hpre => ?hb1_aeg)
    case' ha1_aeg => skip
    refine' mh3 (Pre := fun (v2 : Value) (v6 : Value) (v13 : Value) (w' : World) => Sl [0] v2 w' ∧ Sl [-m] v6 w' ∧ Sl [m] v13 w' ∧ ((fun w' => Bx w a b w')) w') _ #[true, true, true, false, true, true, true, false, true, true, false, false, true, true, false, false, false] _ (fun HK1_acg => ?ha1_acg) (fun v2 v6 v13 w' hpre => ?hb1_acg)
    case' ha1_acg => skip
    refine' mh3 (Pre := fun (v2 : Value) (v6 : Value) (v10 : Value) (w' : World) => Sl [0] v2 w' ∧ Sl [-m] v6 w' ∧ Sl [0] v10 w' ∧ ((fun w' => Bx w a b w')) w') _ #[true, true, true, false, true, true, true, false, true, true, true, false, true, false, false, false, false] _ (fun HK1_ace => ?ha1_ace) (fun v2 v6 v10 w' hpre => ?hb1_ace)
    case' ha1_ace => skip
    refine' mh2 (Pre := fun (v2 : Value) (v13 : Value) (w' : World) => Sl [0] v2 w' ∧ Sl [m] v13 w' ∧ ((fun w' => Bx w a b w')) w') _ #[true, true, true, true, true, true, false, false, true, true, false, false, true, true, false, false, false] _ (fun HK1_abg => ?ha1_abg) (fun v2 v13 w' hpre => ?hb1_abg)
    case' ha1_abg => skip
    refine' mh2 (Pre := fun (v2 : Value) (v10 : Value) (w' : World) => Sl [0] v2 w' ∧ Sl [0] v10 w' ∧ ((fun w' => Bx w a b w')) w') _ #[true, true, true, true, true, true, false, false, true, true, true, false, true, false, false, false, false] _ (fun HK1_abe => ?ha1_abe) (fun v2 v10 w' hpre => ?hb1_abe)
    case' ha1_abe => skip
    refine' mh2 (Pre := fun (v2 : Value) (v6 : Value) (w' : World) => Sl [0] v2 w' ∧ Sl [-m] v6 w' ∧ ((fun w' => Bx w a b w')) w') _ #[true, true, true, true, true, true, true, false, true, true, false, false, true, false, false, false, false] _ (fun HK1_abc => ?ha1_abc) (fun v2 v6 w' hpre => ?hb1_abc)
    case' ha1_abc => skip
    refine' mh2 (Pre := fun (v10 : Value) (v13 : Value) (w' : World) => Sl [0] v10 w' ∧ Sl [m] v13 w' ∧ ((fun w' => Bx w a b w')) w') _ #[true, true, false, false, true, true, false, false, true, true, true, false, true, true, false, false, false] _ (fun HK1_eg => ?ha1_eg) (fun v10 v13 w' hpre => ?hb1_eg)
    case' ha1_eg => skip
    refine' mh2 (Pre := fun (v6 : Value) (v13 : Value) (w' : World) => Sl [-m] v6 w' ∧ Sl [m] v13 w' ∧ ((fun w' => Bx w a b w')) w') _ #[true, true, false, false, true, true, true, false, true, true, false, false, true, true, false, false, false] _ (fun HK1_cg => ?ha1_cg) (fun v6 v13 w' hpre => ?hb1_cg)
    case' ha1_cg => skip
    refine' mh2 (Pre := fun (v6 : Value) (v10 : Value) (w' : World) => Sl [-m] v6 w' ∧ Sl [0] v10 w' ∧ ((fun w' => Bx w a b w')) w') _ #[true, true, false, false, true, true, true, false, true, true, true, false, true, false, false, false, false] _ (fun HK1_ce => ?ha1_ce) (fun v6 v10 w' hpre => ?hb1_ce)
    case' ha1_ce => skip
    refine' mh2 (Pre := fun (v2 : Value) (v13 : Value) (w' : World) => Sl [0] v2 w' ∧ Sl [m] v13 w' ∧ ((fun w' => Bx w a b w')) w') _ #[true, true, true, false, true, true, false, false, true, true, false, false, true, true, false, false, false] _ (fun HK1_ag => ?ha1_ag) (fun v2 v13 w' hpre => ?hb1_ag)
    case' ha1_ag => skip
    refine' mh2 (Pre := fun (v2 : Value) (v10 : Value) (w' : World) => Sl [0] v2 w' ∧ Sl [0] v10 w' ∧ ((fun w' => Bx w a b w')) w') _ #[true, true, true, false, true, true, false, false, true, true, true, false, true, false, false, false, false] _ (fun HK1_ae => ?ha1_ae) (fun v2 v10 w' hpre => ?hb1_ae)
    case' ha1_ae => skip
    refine' mh2 (Pre := fun (v2 : Value) (v6 : Value) (w' : World) => Sl [0] v2 w' ∧ Sl [-m] v6 w' ∧ ((fun w' => Bx w a b w')) w') _ #[true, true, true, false, true, true, true, false, true, true, false, false, true, false, false, false, false] _ (fun HK1_ac => ?ha1_ac) (fun v2 v6 w' hpre => ?hb1_ac)
    case ha1_ac =>
      refine' wpAnyH_take (i := 0) (v := _) ?_ ?_ ?_ ?_ ?_ ?_ ?_ ?_
      rotate_left 2
      focus (simp only [List.getElem?_toArray, List.getElem?_cons_succ, List.getElem?_cons_zero]; rfl)
      focus kernel_rfl
      focus kernel_rfl
      focus kernel_rfl
      focus exact (fun _ _ _ h => h)
      refine Or.inl ⟨?_, ?_⟩
      focus (go_simp; done)
      focus (intro w hSw; obtain ⟨_, ⟨a0, a1⟩, ⟨b0, b1⟩, _⟩ := hSw; (first | (go_simp; done) | (go_simp; with_reducible rfl)))
      focus assumption
      (try simp only [Act.put, List.setIfInBounds_toArray, List.set_cons_zero, List.set_cons_succ])
      refine' wpAnyH_take (i := 1) (v := _) ?_ ?_ ?_ ?_ ?_ ?_ ?_ ?_
      rotate_left 2
      focus (simp only [List.getElem?_toArray, List.getElem?_cons_succ, List.getElem?_cons_zero]; rfl)
      focus kernel_rfl
      focus kernel_rfl
      focus kernel_rfl
      focus exact (fun _ _ _ h => h)
      refine Or.inl ⟨?_, ?_⟩
      focus (go_simp; done)
      focus (intro w hSw; obtain ⟨_, ⟨a0, a1⟩, ⟨b0, b1⟩, _⟩ := hSw; (first | (go_simp; done) | (go_simp; with_reducible rfl)))
      focus assumption
      (try simp only [Act.put, List.setIfInBounds_toArray, List.set_cons_zero, List.set_cons_succ])
      refine' wpAnyH_take (i := 4) (v := _) ?_ ?_ ?_ ?_ ?_ ?_ ?_ ?_
      rotate_left 2
      focus (simp only [List.getElem?_toArray, List.getElem?_cons_succ, List.getElem?_cons_zero]; rfl)
      focus kernel_rfl
      focus kernel_rfl
      focus kernel_rfl
      focus exact (fun _ _ _ h => h)
      refine Or.inl ⟨?_, ?_⟩
      focus (go_simp; done)
      focus (intro w hSw; obtain ⟨_, ⟨a0, a1⟩, ⟨b0, b1⟩, _⟩ := hSw; (first | (go_simp; done) | (go_simp; with_reducible rfl)))
      focus assumption
      (try simp only [Act.put, List.setIfInBounds_toArray, List.set_cons_zero, List.set_cons_succ])
      refine' wpAnyH_take (i := 5) (v := _) ?_ ?_ ?_ ?_ ?_ ?_ ?_ ?_
      rotate_left 2
      focus (simp only [List.getElem?_toArray, List.getElem?_cons_succ, List.getElem?_cons_zero]; rfl)
      focus kernel_rfl
      focus kernel_rfl
      focus kernel_rfl
      focus exact (fun _ _ _ h => h)
      refine Or.inl ⟨?_, ?_⟩
      focus (go_simp; done)
      focus (intro w hSw; obtain ⟨_, ⟨a0, a1⟩, ⟨b0, b1⟩, _⟩ := hSw; (first | (go_simp; done) | (go_simp; with_reducible rfl)))
      focus assumption
      (try simp only [Act.put, List.setIfInBounds_toArray, List.set_cons_zero, List.set_cons_succ])
      refine' wpAnyH_take (i := 8) (v := _) ?_ ?_ ?_ ?_ ?_ ?_ ?_ ?_
      rotate_left 2
      focus (simp only [List.getElem?_toArray, List.getElem?_cons_succ, List.getElem?_cons_zero]; rfl)
      focus kernel_rfl
      focus kernel_rfl
      focus kernel_rfl
      focus exact (fun _ _ _ h => h)
      refine Or.inl ⟨?_, ?_⟩
      focus (go_simp; done)
      focus (intro w hSw; obtain ⟨_, ⟨a0, a1⟩, ⟨b0, b1⟩, _⟩ := hSw; (first | (go_simp; done) | (go_simp; with_reducible rfl)))
      focus assumption
      (try simp only [Act.put, List.setIfInBounds_toArray, List.set_cons_zero, List.set_cons_succ])
      refine' wpAnyH_take (i := 9) (v := _) ?_ ?_ ?_ ?_ ?_ ?_ ?_ ?_
      rotate_left 2
      focus (simp only [List.getElem?_toArray, List.getElem?_cons_succ, List.getElem?_cons_zero]; rfl)
      focus kernel_rfl
      focus kernel_rfl
      focus kernel_rfl
      focus exact (fun _ _ _ h => h)
      refine Or.inl ⟨?_, ?_⟩
      focus (go_simp; done)
      focus (intro w hSw; obtain ⟨_, ⟨a0, a1⟩, ⟨b0, b1⟩, _⟩ := hSw; (first | (go_simp; done) | (go_simp; with_reducible rfl)))
      focus assumption
      (try simp only [Act.put, List.setIfInBounds_toArray, List.set_cons_zero, List.set_cons_succ])
      refine' wpAnyH_take (i := 12) (v := _) ?_ ?_ ?_ ?_ ?_ ?_ ?_ ?_
      rotate_left 2
      focus (simp only [List.getElem?_toArray, List.getElem?_cons_succ, List.getElem?_cons_zero]; rfl)
      focus kernel_rfl
      focus kernel_rfl
      focus kernel_rfl
      focus exact (fun _ _ _ h => h)
      refine Or.inl ⟨?_, ?_⟩
      focus (go_simp; done)
      focus (intro w hSw; obtain ⟨_, ⟨a0, a1⟩, ⟨b0, b1⟩, _⟩ := hSw; (first | (go_simp; done) | (go_simp; with_reducible rfl)))
      focus assumption
      (try simp only [Act.put, List.setIfInBounds_toArray, List.set_cons_zero, List.set_cons_succ])
      refine wpAnyH_ready (rs := [2, 6, 10, 13]) (by kernel_rfl) (by simp) ?_
      refine' AllReadyH.cons ?_ (fun K hK => ?_) ?_
      rotate_left
      focus (simp only [List.getElem?_toArray, List.getElem?_cons_succ, List.getElem?_cons_zero]; rfl)
      focus
        go_simp
        have hb := (Below.refl u0.heap.size u0).alloc (Nat.le_refl _) (.cells #[.int .i64 (0)] 3)
        have hS := Bx.below hHeld hb
        clear hb
        have hs2 := sl_new1 (0) 3 u0
        generalize (Value.slice (some ⟨u0.heap.size, 0, none⟩) 1 1) = v2 at *
        generalize (u0.alloc (.cells #[.int .i64 (0)] 3)) = u2 at *
        refine hK.out _ _ hS (fun hHeld => ?_)
        clear hK K hS
        (try simp only [Act.put, List.setIfInBounds_toArray, List.set_cons_zero, List.set_cons_succ])
        refine wpAnyH_ready (rs := [3, 6, 10, 13]) (by kernel_rfl) (by simp) ?_
        refine' AllReadyH.cons ?_ (fun K hK => ?_) ?_
        rotate_left
        focus (simp only [List.getElem?_toArray, List.getElem?_cons_succ, List.getElem?_cons_zero]; rfl)
        focus
          go_simp
          (go_at_call 50; (with_reducible refine (least1 _ _ n1 HN1.out _ _ hs2).mono ?_); rintro e u3 ⟨rfl, hb⟩)
          have hS := Bx.below hHeld hb
          replace hs2 := hs2.below hb
          clear hb
          refine hK.out _ _ hS (fun hHeld => ?_)
          clear hK K hS
          (try simp only [Act.put, List.setIfInBounds_toArray, List.set_cons_zero, List.set_cons_succ])
          refine wpAnyH_ready (rs := [6, 10, 13]) (by kernel_rfl) (by simp) ?_
          refine' AllReadyH.cons ?_ (fun K hK => ?_) ?_
          rotate_left
          focus (simp only [List.getElem?_toArray, List.getElem?_cons_succ, List.getElem?_cons_zero]; rfl)
          focus
            go_simp
            have hb := (Below.refl u3.heap.size u3).alloc (Nat.le_refl _) (.cells #[.int .i64 (-m)] 3)
            have hS := Bx.below hHeld hb
            replace hs2 := hs2.below hb
            clear hb
            have hs6 := sl_new1 (-m) 3 u3
            generalize (Value.slice (some ⟨u3.heap.size, 0, none⟩) 1 1) = v6 at *
            generalize (u3.alloc (.cells #[.int .i64 (-m)] 3)) = u6 at *
            refine hK.out _ _ hS (fun hHeld => ?_)
            clear hK K hS
            (try simp only [Act.put, List.setIfInBounds_toArray, List.set_cons_zero, List.set_cons_succ])
            refine wpAnyH_listed (listed' := #[true, true, true, true, true, true, true, false, true, true, false, false, true, false, false, false, false]) (by kernel_rfl) ?_
            exact HK1_abc v2 v6 u6 ⟨hs2, hs6, hHeld⟩
          refine' AllReadyH.cons ?_ (fun K hK => ?_) ?_
          rotate_left
          focus (simp only [List.getElem?_toArray, List.getElem?_cons_succ, List.getElem?_cons_zero]; rfl)
          focus
            go_simp
            have hb := (Below.refl u3.heap.size u3).alloc (Nat.le_refl _) (.cells #[.int .i64 (0)] 3)
            have hS := Bx.below hHeld hb
            replace hs2 := hs2.below hb
            clear hb
            have hs10 := sl_new1 (0) 3 u3
            generalize (Value.slice (some ⟨u3.heap.size, 0, none⟩) 1 1) = v10 at *
            generalize (u3.alloc (.cells #[.int .i64 (0)] 3)) = u10 at *
            refine hK.out _ _ hS (fun hHeld => ?_)
            clear hK K hS
            (try simp only [Act.put, List.setIfInBounds_toArray, List.set_cons_zero, List.set_cons_succ])
            refine wpAnyH_listed (listed' := #[true, true, true, true, true, true, false, false, true, true, true, false, true, false, false, false, false]) (by kernel_rfl) ?_
            exact HK1_abe v2 v10 u10 ⟨hs2, hs10, hHeld⟩
          refine' AllReadyH.cons ?_ (fun K hK => ?_) ?_
          rotate_left
          focus (simp only [List.getElem?_toArray, List.getElem?_cons_succ, List.getElem?_cons_zero]; rfl)
          focus
            go_simp
            have hb := (Below.refl u3.heap.size u3).alloc (Nat.le_refl _) (.cells #[.int .i64 (m)] 3)
            have hS := Bx.below hHeld hb
            replace hs2 := hs2.below hb
            clear hb
            have hs13 := sl_new1 (m) 3 u3
            generalize (Value.slice (some ⟨u3.heap.size, 0, none⟩) 1 1) = v13 at *
            generalize (u3.alloc (.cells #[.int .i64 (m)] 3)) = u13 at *
            refine hK.out _ _ hS (fun hHeld => ?_)
            clear hK K hS
            (try simp only [Act.put, List.setIfInBounds_toArray, List.set_cons_zero, List.set_cons_succ])
            refine wpAnyH_listed (listed' := #[true, true, true, true, true, true, false, false, true, true, false, false, true, true, false, false, false]) (by kernel_rfl) ?_
            exact HK1_abg v2 v13 u13 ⟨hs2, hs13, hHeld⟩
          exact AllReadyH.nil
        refine' AllReadyH.cons ?_ (fun K hK => ?_) ?_
        rotate_left
        focus (simp only [List.getElem?_toArray, List.getElem?_cons_succ, List.getElem?_cons_zero]; rfl)
        focus
          go_simp
          have hb := (Below.refl u2.heap.size u2).alloc (Nat.le_refl _) (.cells #[.int .i64 (-m)] 3)
          have hS := Bx.below hHeld hb
          replace hs2 := hs2.below hb
          clear hb
          have hs6 := sl_new1 (-m) 3 u2
          generalize (Value.slice (some ⟨u2.heap.size, 0, none⟩) 1 1) = v6 at *
          generalize (u2.alloc (.cells #[.int .i64 (-m)] 3)) = u6 at *
          refine hK.out _ _ hS (fun hHeld => ?_)
          clear hK K hS
          (try simp only [Act.put, List.setIfInBounds_toArray, List.set_cons_zero, List.set_cons_succ])
          refine wpAnyH_listed (listed' := #[true, true, true, false, true, true, true, false, true, true, false, false, true, false, false, false, false]) (by kernel_rfl) ?_
          exact HK1_ac v2 v6 u6 ⟨hs2, hs6, hHeld⟩
        refine' AllReadyH.cons ?_ (fun K hK => ?_) ?_
        rotate_left
        focus (simp only [List.getElem?_toArray, List.getElem?_cons_succ, List.getElem?_cons_zero]; rfl)
        focus
          go_simp
          have hb := (Below.refl u2.heap.size u2).alloc (Nat.le_refl _) (.cells #[.int .i64 (0)] 3)
          have hS := Bx.below hHeld hb
          replace hs2 := hs2.below hb
          clear hb
          have hs10 := sl_new1 (0) 3 u2
          generalize (Value.slice (some ⟨u2.heap.size, 0, none⟩) 1 1) = v10 at *
          generalize (u2.alloc (.cells #[.int .i64 (0)] 3)) = u10 at *
          refine hK.out _ _ hS (fun hHeld => ?_)
          clear hK K hS
          (try simp only [Act.put, List.setIfInBounds_toArray, List.set_cons_zero, List.set_cons_succ])
          refine wpAnyH_listed (listed' := #[true, true, true, false, true, true, false, false, true, true, true, false, true, false, false, false, false]) (by kernel_rfl) ?_
          exact HK1_ae v2 v10 u10 ⟨hs2, hs10, hHeld⟩
        refine' AllReadyH.cons ?_ (fun K hK => ?_) ?_
        rotate_left
        focus (simp only [List.getElem?_toArray, List.getElem?_cons_succ, List.getElem?_cons_zero]; rfl)
        focus
          go_simp
          have hb := (Below.refl u2.heap.size u2).alloc (Nat.le_refl _) (.cells #[.int .i64 (m)] 3)
          have hS := Bx.below hHeld hb
          replace hs2 := hs2.below hb
          clear hb
          have hs13 := sl_new1 (m) 3 u2
          generalize (Value.slice (some ⟨u2.heap.size, 0, none⟩) 1 1) = v13 at *
          generalize (u2.alloc (.cells #[.int .i64 (m)] 3)) = u13 at *
          refine hK.out _ _ hS (fun hHeld => ?_)
          clear hK K hS
          (try simp only [Act.put, List.setIfInBounds_toArray, List.set_cons_zero, List.set_cons_succ])
          refine wpAnyH_listed (listed' := #[true, true, true, false, true, true, false, false, true, true, false, false, true, true, false, false, false]) (by kernel_rfl) ?_
          exact HK1_ag v2 v13 u13 ⟨hs2, hs13, hHeld⟩
        exact AllReadyH.nil
      refine' AllReadyH.cons ?_ (fun K hK => ?_) ?_
      rotate_left
      focus (simp only [List.getElem?_toArray, List.getElem?_cons_succ, List.getElem?_cons_zero]; rfl)
      focus
        go_simp
        have hb := (Below.refl u0.heap.size u0).alloc (Nat.le_refl _) (.cells #[.int .i64 (-m)] 3)
        have hS := Bx.below hHeld hb
        clear hb
        have hs6 := sl_new1 (-m) 3 u0
        generalize (Value.slice (some ⟨u0.heap.size, 0, none⟩) 1 1) = v6 at *
        generalize (u0.alloc (.cells #[.int .i64 (-m)] 3)) = u6 at *
        refine hK.out _ _ hS (fun hHeld => ?_)
        clear hK K hS
        (try simp only [Act.put, List.setIfInBounds_toArray, List.set_cons_zero, List.set_cons_succ])
        refine wpAnyH_ready (rs := [2, 10, 13]) (by kernel_rfl) (by simp) ?_
        refine' AllReadyH.cons ?_ (fun K hK => ?_) ?_
        rotate_left
        focus (simp only [List.getElem?_toArray, List.getElem?_cons_succ, List.getElem?_cons_zero]; rfl)
        focus
          go_simp
          have hb := (Below.refl u6.heap.size u6).alloc (Nat.le_refl _) (.cells #[.int .i64 (0)] 3)
          have hS := Bx.below hHeld hb
          replace hs6 := hs6.below hb
          clear hb
          have hs2 := sl_new1 (0) 3 u6
          generalize (Value.slice (some ⟨u6.heap.size, 0, none⟩) 1 1) = v2 at *
          generalize (u6.alloc (.cells #[.int .i64 (0)] 3)) = u2 at *
          refine hK.out _ _ hS (fun hHeld => ?_)
          clear hK K hS
          (try simp only [Act.put, List.setIfInBounds_toArray, List.set_cons_zero, List.set_cons_succ])
          refine wpAnyH_listed (listed' := #[true, true, true, false, true, true, true, false, true, true, false, false, true, false, false, false, false]) (by kernel_rfl) ?_
          exact HK1_ac v2 v6 u2 ⟨hs2, hs6, hHeld⟩
        refine' AllReadyH.cons ?_ (fun K hK => ?_) ?_
        rotate_left
        focus (simp only [List.getElem?_toArray, List.getElem?_cons_succ, List.getElem?_cons_zero]; rfl)
        focus
          go_simp
          have hb := (Below.refl u6.heap.size u6).alloc (Nat.le_refl _) (.cells #[.int .i64 (0)] 3)
          have hS := Bx.below hHeld hb
          replace hs6 := hs6.below hb
          clear hb
          have hs10 := sl_new1 (0) 3 u6
          generalize (Value.slice (some ⟨u6.heap.size, 0, none⟩) 1 1) = v10 at *
          generalize (u6.alloc (.cells #[.int .i64 (0)] 3)) = u10 at *
          refine hK.out _ _ hS (fun hHeld => ?_)
          clear hK K hS
          (try simp only [Act.put, List.setIfInBounds_toArray, List.set_cons_zero, List.set_cons_succ])
          refine wpAnyH_listed (listed' := #[true, true, false, false, true, true, true, false, true, true, true, false, true, false, false, false, false]) (by kernel_rfl) ?_
          exact HK1_ce v6 v10 u10 ⟨hs6, hs10, hHeld⟩
        refine' AllReadyH.cons ?_ (fun K hK => ?_) ?_
        rotate_left
        focus (simp only [List.getElem?_toArray, List.getElem?_cons_succ, List.getElem?_cons_zero]; rfl)
        focus
          go_simp
          have hb := (Below.refl u6.heap.size u6).alloc (Nat.le_refl _) (.cells #[.int .i64 (m)] 3)
          have hS := Bx.below hHeld hb
          replace hs6 := hs6.below hb
          clear hb
          have hs13 := sl_new1 (m) 3 u6
          generalize (Value.slice (some ⟨u6.heap.size, 0, none⟩) 1 1) = v13 at *
          generalize (u6.alloc (.cells #[.int .i64 (m)] 3)) = u13 at *
          refine hK.out _ _ hS (fun hHeld => ?_)
          clear hK K hS
          (try simp only [Act.put, List.setIfInBounds_toArray, List.set_cons_zero, List.set_cons_succ])
          refine wpAnyH_listed (listed' := #[true, true, false, false, true, true, true, false, true, true, false, false, true, true, false, false, false]) (by kernel_rfl) ?_
          exact HK1_cg v6 v13 u13 ⟨hs6, hs13, hHeld⟩
        exact AllReadyH.nil
      refine' AllReadyH.cons ?_ (fun K hK => ?_) ?_
      rotate_left
      focus (simp only [List.getElem?_toArray, List.getElem?_cons_succ, List.getElem?_cons_zero]; rfl)
      focus
        go_simp
        have hb := (Below.refl u0.heap.size u0).alloc (Nat.le_refl _) (.cells #[.int .i64 (0)] 3)
        have hS := Bx.below hHeld hb
        clear hb
        have hs10 := sl_new1 (0) 3 u0
        generalize (Value.slice (some ⟨u0.heap.size, 0, none⟩) 1 1) = v10 at *
        generalize (u0.alloc (.cells #[.int .i64 (0)] 3)) = u10 at *
        refine hK.out _ _ hS (fun hHeld => ?_)
        clear hK K hS
        (try simp only [Act.put, List.setIfInBounds_toArray, List.set_cons_zero, List.set_cons_succ])
        refine wpAnyH_ready (rs := [2, 6, 13]) (by kernel_rfl) (by simp) ?_
        refine' AllReadyH.cons ?_ (fun K hK => ?_) ?_
        rotate_left
        focus (simp only [List.getElem?_toArray, List.getElem?_cons_succ, List.getElem?_cons_zero]; rfl)
        focus
          go_simp
          have hb := (Below.refl u10.heap.size u10).alloc (Nat.le_refl _) (.cells #[.int .i64 (0)] 3)
          have hS := Bx.below hHeld hb
          replace hs10 := hs10.below hb
          clear hb
          have hs2 := sl_new1 (0) 3 u10
          generalize (Value.slice (some ⟨u10.heap.size, 0, none⟩) 1 1) = v2 at *
          generalize (u10.alloc (.cells #[.int .i64 (0)] 3)) = u2 at *
          refine hK.out _ _ hS (fun hHeld => ?_)
          clear hK K hS
          (try simp only [Act.put, List.setIfInBounds_toArray, List.set_cons_zero, List.set_cons_succ])
          refine wpAnyH_listed (listed' := #[true, true, true, false, true, true, false, false, true, true, true, false, true, false, false, false, false]) (by kernel_rfl) ?_
          exact HK1_ae v2 v10 u2 ⟨hs2, hs10, hHeld⟩
        refine' AllReadyH.cons ?_ (fun K hK => ?_) ?_
        rotate_left
        focus (simp only [List.getElem?_toArray, List.getElem?_cons_succ, List.getElem?_cons_zero]; rfl)
        focus
          go_simp
          have hb := (Below.refl u10.heap.size u10).alloc (Nat.le_refl _) (.cells #[.int .i64 (-m)] 3)
          have hS := Bx.below hHeld hb
          replace hs10 := hs10.below hb
          clear hb
          have hs6 := sl_new1 (-m) 3 u10
          generalize (Value.slice (some ⟨u10.heap.size, 0, none⟩) 1 1) = v6 at *
          generalize (u10.alloc (.cells #[.int .i64 (-m)] 3)) = u6 at *
          refine hK.out _ _ hS (fun hHeld => ?_)
          clear hK K hS
          (try simp only [Act.put, List.setIfInBounds_toArray, List.set_cons_zero, List.set_cons_succ])
          refine wpAnyH_listed (listed' := #[true, true, false, false, true, true, true, false, true, true, true, false, true, false, false, false, false]) (by kernel_rfl) ?_
          exact HK1_ce v6 v10 u6 ⟨hs6, hs10, hHeld⟩
        refine' AllReadyH.cons ?_ (fun K hK => ?_) ?_
        rotate_left
        focus (simp only [List.getElem?_toArray, List.getElem?_cons_succ, List.getElem?_cons_zero]; rfl)
        focus
          go_simp
          have hb := (Below.refl u10.heap.size u10).alloc (Nat.le_refl _) (.cells #[.int .i64 (m)] 3)
          have hS := Bx.below hHeld hb
          replace hs10 := hs10.below hb
          clear hb
          have hs13 := sl_new1 (m) 3 u10
          generalize (Value.slice (some ⟨u10.heap.size, 0, none⟩) 1 1) = v13 at *
          generalize (u10.alloc (.cells #[.int .i64 (m)] 3)) = u13 at *
          refine hK.out _ _ hS (fun hHeld => ?_)
          clear hK K hS
          (try simp only [Act.put, List.setIfInBounds_toArray, List.set_cons_zero, List.set_cons_succ])
          refine wpAnyH_listed (listed' := #[true, true, false, false, true, true, false, false, true, true, true, false, true, true, false, false, false]) (by kernel_rfl) ?_
          exact HK1_eg v10 v13 u13 ⟨hs10, hs13, hHeld⟩
        exact AllReadyH.nil
      refine' AllReadyH.cons ?_ (fun K hK => ?_) ?_
      rotate_left
      focus (simp only [List.getElem?_toArray, List.getElem?_cons_succ, List.getElem?_cons_zero]; rfl)
      focus
        go_simp
        have hb := (Below.refl u0.heap.size u0).alloc (Nat.le_refl _) (.cells #[.int .i64 (m)] 3)
        have hS := Bx.below hHeld hb
        clear hb
        have hs13 := sl_new1 (m) 3 u0
        generalize (Value.slice (some ⟨u0.heap.size, 0, none⟩) 1 1) = v13 at *
        generalize (u0.alloc (.cells #[.int .i64 (m)] 3)) = u13 at *
        refine hK.out _ _ hS (fun hHeld => ?_)
        clear hK K hS
        (try simp only [Act.put, List.setIfInBounds_toArray, List.set_cons_zero, List.set_cons_succ])
        refine wpAnyH_ready (rs := [2, 6, 10]) (by kernel_rfl) (by simp) ?_
        refine' AllReadyH.cons ?_ (fun K hK => ?_) ?_
        rotate_left
        focus (simp only [List.getElem?_toArray, List.getElem?_cons_succ, List.getElem?_cons_zero]; rfl)
        focus
          go_simp
          have hb := (Below.refl u13.heap.size u13).alloc (Nat.le_refl _) (.cells #[.int .i64 (0)] 3)
          have hS := Bx.below hHeld hb
          replace hs13 := hs13.below hb
          clear hb
          have hs2 := sl_new1 (0) 3 u13
          generalize (Value.slice (some ⟨u13.heap.size, 0, none⟩) 1 1) = v2 at *
          generalize (u13.alloc (.cells #[.int .i64 (0)] 3)) = u2 at *
          refine hK.out _ _ hS (fun hHeld => ?_)
          clear hK K hS
          (try simp only [Act.put, List.setIfInBounds_toArray, List.set_cons_zero, List.set_cons_succ])
          refine wpAnyH_listed (listed' := #[true, true, true, false, true, true, false, false, true, true, false, false, true, true, false, false, false]) (by kernel_rfl) ?_
          exact HK1_ag v2 v13 u2 ⟨hs2, hs13, hHeld⟩
        refine' AllReadyH.cons ?_ (fun K hK => ?_) ?_
        rotate_left
        focus (simp only [List.getElem?_toArray, List.getElem?_cons_succ, List.getElem?_cons_zero]; rfl)
        focus
          go_simp
          have hb := (Below.refl u13.heap.size u13).alloc (Nat.le_refl _) (.cells #[.int .i64 (-m)] 3)
          have hS := Bx.below hHeld hb
          replace hs13 := hs13.below hb
          clear hb
          have hs6 := sl_new1 (-m) 3 u13
          generalize (Value.slice (some ⟨u13.heap.size, 0, none⟩) 1 1) = v6 at *
          generalize (u13.alloc (.cells #[.int .i64 (-m)] 3)) = u6 at *
          refine hK.out _ _ hS (fun hHeld => ?_)
          clear hK K hS
          (try simp only [Act.put, List.setIfInBounds_toArray, List.set_cons_zero, List.set_cons_succ])
          refine wpAnyH_listed (listed' := #[true, true, false, false, true, true, true, false, true, true, false, false, true, true, false, false, false]) (by kernel_rfl) ?_
          exact HK1_cg v6 v13 u6 ⟨hs6, hs13, hHeld⟩
        refine' AllReadyH.cons ?_ (fun K hK => ?_) ?_
        rotate_left
        focus (simp only [List.getElem?_toArray, List.getElem?_cons_succ, List.getElem?_cons_zero]; rfl)
        focus
          go_simp
          have hb := (Below.refl u13.heap.size u13).alloc (Nat.le_refl _) (.cells #[.int .i64 (0)] 3)
          have hS := Bx.below hHeld hb
          replace hs13 := hs13.below hb
          clear hb
          have hs10 := sl_new1 (0) 3 u13
          generalize (Value.slice (some ⟨u13.heap.size, 0, none⟩) 1 1) = v10 at *
          generalize (u13.alloc (.cells #[.int .i64 (0)] 3)) = u10 at *
          refine hK.out _ _ hS (fun hHeld => ?_)
          clear hK K hS
          (try simp only [Act.put, List.setIfInBounds_toArray, List.set_cons_zero, List.set_cons_succ])
          refine wpAnyH_listed (listed' := #[true, true, false, false, true, true, false, false, true, true, true, false, true, true, false, false, false]) (by kernel_rfl) ?_
          exact HK1_eg v10 v13 u10 ⟨hs10, hs13, hHeld⟩
        exact AllReadyH.nil
      exact AllReadyH.nil
    case hb1_ac =>
      obtain ⟨hs2, hs6, hHeld⟩ := hpre
      refine wpAnyH_ready (rs := [3, 10, 13]) (by kernel_rfl) (by simp) ?_
      refine' AllReadyH.cons ?_ (fun K hK => ?_) ?_
      rotate_left
      focus (simp only [List.getElem?_toArray, List.getElem?_cons_succ, List.getElem?_cons_zero]; rfl)
      focus
        go_simp
        (go_at_call 50; (with_reducible refine (least1 _ _ n1 HN1.out _ _ hs2).mono ?_); rintro e u3 ⟨rfl, hb⟩)
        have hS := Bx.below hHeld hb
        replace hs2 := hs2.below hb
        replace hs6 := hs6.below hb
        clear hb
        refine hK.out _ _ hS (fun hHeld => ?_)
        clear hK K hS
        (try simp only [Act.put, List.setIfInBounds_toArray, List.set_cons_zero, List.set_cons_succ])
        refine wpAnyH_listed (listed' := #[true, true, true, true, true, true, true, false, true, true, false, false, true, false, false, false, false]) (by kernel_rfl) ?_
        exact HK1_abc v2 v6 u3 ⟨hs2, hs6, hHeld⟩
      refine' AllReadyH.cons ?_ (fun K hK => ?_) ?_
      rotate_left
      focus (simp only [List.getElem?_toArray, List.getElem?_cons_succ, List.getElem?_cons_zero]; rfl)
      focus
        go_simp
        have hb := (Below.refl w'.heap.size w').alloc (Nat.le_refl _) (.cells #[.int .i64 (0)] 3)
        have hS := Bx.below hHeld hb
        replace hs2 := hs2.below hb
        replace hs6 := hs6.below hb
        clear hb
        have hs10 := sl_new1 (0) 3 w'
        generalize (Value.slice (some ⟨w'.heap.size, 0, none⟩) 1 1) = v10 at *
        generalize (w'.alloc (.cells #[.int .i64 (0)] 3)) = u10 at *
        refine hK.out _ _ hS (fun hHeld => ?_)
        clear hK K hS
        (try simp only [Act.put, List.setIfInBounds_toArray, List.set_cons_zero, List.set_cons_succ])
        refine wpAnyH_listed (listed' := #[true, true, true, false, true, true, true, false, true, true, true, false, true, false, false, false, false]) (by kernel_rfl) ?_
        exact HK1_ace v2 v6 v10 u10 ⟨hs2, hs6, hs10, hHeld⟩
      refine' AllReadyH.cons ?_ (fun K hK => ?_) ?_
      rotate_left
      focus (simp only [List.getElem?_toArray, List.getElem?_cons_succ, List.getElem?_cons_zero]; rfl)
      focus
        go_simp
        have hb := (Below.refl w'.heap.size w').alloc (Nat.le_refl _) (.cells #[.int .i64 (m)] 3)
        have hS := Bx.below hHeld hb
        replace hs2 := hs2.below hb
        replace hs6 := hs6.below hb
        clear hb
        have hs13 := sl_new1 (m) 3 w'
        generalize (Value.slice (some ⟨w'.heap.size, 0, none⟩) 1 1) = v13 at *
        generalize (w'.alloc (.cells #[.int .i64 (m)] 3)) = u13 at *
        refine hK.out _ _ hS (fun hHeld => ?_)
        clear hK K hS
        (try simp only [Act.put, List.setIfInBounds_toArray, List.set_cons_zero, List.set_cons_succ])
        refine wpAnyH_listed (listed' := #[true, true, true, false, true, true, true, false, true, true, false, false, true, true, false, false, false]) (by kernel_rfl) ?_
        exact HK1_acg v2 v6 v13 u13 ⟨hs2, hs6, hs13, hHeld⟩
      exact AllReadyH.nil
    case hb1_ae =>
      obtain ⟨hs2, hs10, hHeld⟩ := hpre
      refine wpAnyH_ready (rs := [3, 6, 13]) (by kernel_rfl) (by simp) ?_
      refine' AllReadyH.cons ?_ (fun K hK => ?_) ?_
      rotate_left
      focus (simp only [List.getElem?_toArray, List.getElem?_cons_succ, List.getElem?_cons_zero]; rfl)
      focus
        go_simp
        (go_at_call 50; (with_reducible refine (least1 _ _ n1 HN1.out _ _ hs2).mono ?_); rintro e u3 ⟨rfl, hb⟩)
        have hS := Bx.below hHeld hb
        replace hs2 := hs2.below hb
        replace hs10 := hs10.below hb
        clear hb
        refine hK.out _ _ hS (fun hHeld => ?_)
        clear hK K hS
        (try simp only [Act.put, List.setIfInBounds_toArray, List.set_cons_zero, List.set_cons_succ])
        refine wpAnyH_listed (listed' := #[true, true, true, true, true, true, false, false, true, true, true, false, true, false, false, false, false]) (by kernel_rfl) ?_
        exact HK1_abe v2 v10 u3 ⟨hs2, hs10, hHeld⟩
      refine' AllReadyH.cons ?_ (fun K hK => ?_) ?_
      rotate_left
      focus (simp only [List.getElem?_toArray, List.getElem?_cons_succ, List.getElem?_cons_zero]; rfl)
      focus
        go_simp
        have hb := (Below.refl w'.heap.size w').alloc (Nat.le_refl _) (.cells #[.int .i64 (-m)] 3)
        have hS := Bx.below hHeld hb
        replace hs2 := hs2.below hb
        replace hs10 := hs10.below hb
        clear hb
        have hs6 := sl_new1 (-m) 3 w'
        generalize (Value.slice (some ⟨w'.heap.size, 0, none⟩) 1 1) = v6 at *
        generalize (w'.alloc (.cells #[.int .i64 (-m)] 3)) = u6 at *
        refine hK.out _ _ hS (fun hHeld => ?_)
        clear hK K hS
        (try simp only [Act.put, List.setIfInBounds_toArray, List.set_cons_zero, List.set_cons_succ])
        refine wpAnyH_listed (listed' := #[true, true, true, false, true, true, true, false, true, true, true, false, true, false, false, false, false]) (by kernel_rfl) ?_
        exact HK1_ace v2 v6 v10 u6 ⟨hs2, hs6, hs10, hHeld⟩
      refine' AllReadyH.cons ?_ (fun K hK => ?_) ?_
      rotate_left
      focus (simp only [List.getElem?_toArray, List.getElem?_cons_succ, List.getElem?_cons_zero]; rfl)
      focus
        go_simp
        have hb := (Below.refl w'.heap.size w').alloc (Nat.le_refl _) (.cells #[.int .i64 (m)] 3)
        have hS := Bx.below hHeld hb
        replace hs2 := hs2.below hb
        replace hs10 := hs10.below hb
        clear hb
        have hs13 := sl_new1 (m) 3 w'
        generalize (Value.slice (some ⟨w'.heap.size, 0, none⟩) 1 1) = v13 at *
        generalize (w'.alloc (.cells #[.int .i64 (m)] 3)) = u13 at *
        refine hK.out _ _ hS (fun hHeld => ?_)
        clear hK K hS
        (try simp only [Act.put, List.setIfInBounds_toArray, List.set_cons_zero, List.set_cons_succ])
        refine wpAnyH_listed (listed' := #[true, true, true, false, true, true, false, false, true, true, true, false, true, true, false, false, false]) (by kernel_rfl) ?_
        exact HK1_aeg v2 v10 v13 u13 ⟨hs2, hs10, hs13, hHeld⟩
      exact AllReadyH.nil
    case hb1_ag =>
      obtain ⟨hs2, hs13, hHeld⟩ := hpre
      refine wpAnyH_ready (rs := [3, 6, 10]) (by kernel_rfl) (by simp) ?_
      refine' AllReadyH.cons ?_ (fun K hK => ?_) ?_
      rotate_left
      focus (simp only [List.getElem?_toArray, List.getElem?_cons_succ, List.getElem?_cons_zero]; rfl)
      focus
        go_simp
        (go_at_call 50; (with_reducible refine (least1 _ _ n1 HN1.out _ _ hs2).mono ?_); rintro e u3 ⟨rfl, hb⟩)
        have hS := Bx.below hHeld hb
        replace hs2 := hs2.below hb
        replace hs13 := hs13.below hb
        clear hb
        refine hK.out _ _ hS (fun hHeld => ?_)
        clear hK K hS
        (try simp only [Act.put, List.setIfInBounds_toArray, List.set_cons_zero, List.set_cons_succ])
        refine wpAnyH_listed (listed' := #[true, true, true, true, true, true, false, false, true, true, false, false, true, true, false, false, false]) (by kernel_rfl) ?_
        exact HK1_abg v2 v13 u3 ⟨hs2, hs13, hHeld⟩
      refine' AllReadyH.cons ?_ (fun K hK => ?_) ?_
      rotate_left
      focus (simp only [List.getElem?_toArray, List.getElem?_cons_succ, List.getElem?_cons_zero]; rfl)
      focus
        go_simp
        have hb := (Below.refl w'.heap.size w').alloc (Nat.le_refl _) (.cells #[.int .i64 (-m)] 3)
        have hS := Bx.below hHeld hb
        replace hs2 := hs2.below hb
        replace hs13 := hs13.below hb
        clear hb
        have hs6 := sl_new1 (-m) 3 w'
        generalize (Value.slice (some ⟨w'.heap.size, 0, none⟩) 1 1) = v6 at *
        generalize (w'.alloc (.cells #[.int .i64 (-m)] 3)) = u6 at *
        refine hK.out _ _ hS (fun hHeld => ?_)
        clear hK K hS
        (try simp only [Act.put, List.setIfInBounds_toArray, List.set_cons_zero, List.set_cons_succ])
        refine wpAnyH_listed (listed' := #[true, true, true, false, true, true, true, false, true, true, false, false, true, true, false, false, false]) (by kernel_rfl) ?_
        exact HK1_acg v2 v6 v13 u6 ⟨hs2, hs6, hs13, hHeld⟩
      refine' AllReadyH.cons ?_ (fun K hK => ?_) ?_
      rotate_left
      focus (simp only [List.getElem?_toArray, List.getElem?_cons_succ, List.getElem?_cons_zero]; rfl)
      focus
        go_simp
        have hb := (Below.refl w'.heap.size w').alloc (Nat.le_refl _) (.cells #[.int .i64 (0)] 3)
        have hS := Bx.below hHeld hb
        replace hs2 := hs2.below hb
        replace hs13 := hs13.below hb
        clear hb
        have hs10 := sl_new1 (0) 3 w'
        generalize (Value.slice (some ⟨w'.heap.size, 0, none⟩) 1 1) = v10 at *
        generalize (w'.alloc (.cells #[.int .i64 (0)] 3)) = u10 at *
        refine hK.out _ _ hS (fun hHeld => ?_)
        clear hK K hS
        (try simp only [Act.put, List.setIfInBounds_toArray, List.set_cons_zero, List.set_cons_succ])
        refine wpAnyH_listed (listed' := #[true, true, true, false, true, true, false, false, true, true, true, false, true, true, false, false, false]) (by kernel_rfl) ?_
        exact HK1_aeg v2 v10 v13 u10 ⟨hs2, hs10, hs13, hHeld⟩
      exact AllReadyH.nil
    case hb1_ce =>
      obtain ⟨hs6, hs10, hHeld⟩ := hpre
      refine wpAnyH_ready (rs := [2, 13]) (by kernel_rfl) (by simp) ?_
      refine' AllReadyH.cons ?_ (fun K hK => ?_) ?_
      rotate_left
      focus (simp only [List.getElem?_toArray, List.getElem?_cons_succ, List.getElem?_cons_zero]; rfl)
      focus
        go_simp
        have hb := (Below.refl w'.heap.size w').alloc (Nat.le_refl _) (.cells #[.int .i64 (0)] 3)
        have hS := Bx.below hHeld hb
        replace hs6 := hs6.below hb
        replace hs10 := hs10.below hb
        clear hb
        have hs2 := sl_new1 (0) 3 w'
        generalize (Value.slice (some ⟨w'.heap.size, 0, none⟩) 1 1) = v2 at *
        generalize (w'.alloc (.cells #[.int .i64 (0)] 3)) = u2 at *
        refine hK.out _ _ hS (fun hHeld => ?_)
        clear hK K hS
        (try simp only [Act.put, List.setIfInBounds_toArray, List.set_cons_zero, List.set_cons_succ])
        refine wpAnyH_listed (listed' := #[true, true, true, false, true, true, true, false, true, true, true, false, true, false, false, false, false]) (by kernel_rfl) ?_
        exact HK1_ace v2 v6 v10 u2 ⟨hs2, hs6, hs10, hHeld⟩
      refine' AllReadyH.cons ?_ (fun K hK => ?_) ?_
      rotate_left
      focus (simp only [List.getElem?_toArray, List.getElem?_cons_succ, List.getElem?_cons_zero]; rfl)
      focus
        go_simp
        have hb := (Below.refl w'.heap.size w').alloc (Nat.le_refl _) (.cells #[.int .i64 (m)] 3)
        have hS := Bx.below hHeld hb
        replace hs6 := hs6.below hb
        replace hs10 := hs10.below hb
        clear hb
        have hs13 := sl_new1 (m) 3 w'
        generalize (Value.slice (some ⟨w'.heap.size, 0, none⟩) 1 1) = v13 at *
        generalize (w'.alloc (.cells #[.int .i64 (m)] 3)) = u13 at *
        refine hK.out _ _ hS (fun hHeld => ?_)
        clear hK K hS
        (try simp only [Act.put, List.setIfInBounds_toArray, List.set_cons_zero, List.set_cons_succ])
        refine wpAnyH_listed (listed' := #[true, true, false, false, true, true, true, false, true, true, true, false, true, true, false, false, false]) (by kernel_rfl) ?_
        exact HK1_ceg v6 v10 v13 u13 ⟨hs6, hs10, hs13, hHeld⟩
      exact AllReadyH.nil
    case hb1_cg =>
      obtain ⟨hs6, hs13, hHeld⟩ := hpre
      refine wpAnyH_ready (rs := [2, 10]) (by kernel_rfl) (by simp) ?_
      refine' AllReadyH.cons ?_ (fun K hK => ?_) ?_
      rotate_left
      focus (simp only [List.getElem?_toArray, List.getElem?_cons_succ, List.getElem?_cons_zero]; rfl)
      focus
        go_simp
        have hb := (Below.refl w'.heap.size w').alloc (Nat.le_refl _) (.cells #[.int .i64 (0)] 3)
        have hS := Bx.below hHeld hb
        replace hs6 := hs6.below hb
        replace hs13 := hs13.below hb
        clear hb
        have hs2 := sl_new1 (0) 3 w'
        generalize (Value.slice (some ⟨w'.heap.size, 0, none⟩) 1 1) = v2 at *
        generalize (w'.alloc (.cells #[.int .i64 (0)] 3)) = u2 at *
        refine hK.out _ _ hS (fun hHeld => ?_)
        clear hK K hS
        (try simp only [Act.put, List.setIfInBounds_toArray, List.set_cons_zero, List.set_cons_succ])
        refine wpAnyH_listed (listed' := #[true, true, true, false, true, true, true, false, true, true, false, false, true, true, false, false, false]) (by kernel_rfl) ?_
        exact HK1_acg v2 v6 v13 u2 ⟨hs2, hs6, hs13, hHeld⟩
      refine' AllReadyH.cons ?_ (fun K hK => ?_) ?_
      rotate_left
      focus (simp only [List.getElem?_toArray, List.getElem?_cons_succ, List.getElem?_cons_zero]; rfl)
      focus
        go_simp
        have hb := (Below.refl w'.heap.size w').alloc (Nat.le_refl _) (.cells #[.int .i64 (0)] 3)
        have hS := Bx.below hHeld hb
        replace hs6 := hs6.below hb
        replace hs13 := hs13.below hb
        clear hb
        have hs10 := sl_new1 (0) 3 w'
        generalize (Value.slice (some ⟨w'.heap.size, 0, none⟩) 1 1) = v10 at *
        generalize (w'.alloc (.cells #[.int .i64 (0)] 3)) = u10 at *
        refine hK.out _ _ hS (fun hHeld => ?_)
        clear hK K hS
        (try simp only [Act.put, List.setIfInBounds_toArray, List.set_cons_zero, List.set_cons_succ])
        refine wpAnyH_listed (listed' := #[true, true, false, false, true, true, true, false, true, true, true, false, true, true, false, false, false]) (by kernel_rfl) ?_
        exact HK1_ceg v6 v10 v13 u10 ⟨hs6, hs10, hs13, hHeld⟩
      exact AllReadyH.nil
    case hb1_eg =>
      obtain ⟨hs10, hs13, hHeld⟩ := hpre
      refine wpAnyH_ready (rs := [2, 6]) (by kernel_rfl) (by simp) ?_
      refine' AllReadyH.cons ?_ (fun K hK => ?_) ?_
      rotate_left
      focus (simp only [List.getElem?_toArray, List.getElem?_cons_succ, List.getElem?_cons_zero]; rfl)
      focus
        go_simp
        have hb := (Below.refl w'.heap.size w').alloc (Nat.le_refl _) (.cells #[.int .i64 (0)] 3)
        have hS := Bx.below hHeld hb
        replace hs10 := hs10.below hb
        replace hs13 := hs13.below hb
        clear hb
        have hs2 := sl_new1 (0) 3 w'
        generalize (Value.slice (some ⟨w'.heap.size, 0, none⟩) 1 1) = v2 at *
        generalize (w'.alloc (.cells #[.int .i64 (0)] 3)) = u2 at *
        refine hK.out _ _ hS (fun hHeld => ?_)
        clear hK K hS
        (try simp only [Act.put, List.setIfInBounds_toArray, List.set_cons_zero, List.set_cons_succ])
        refine wpAnyH_listed (listed' := #[true, true, true, false, true, true, false, false, true, true, true, false, true, true, false, false, false]) (by kernel_rfl) ?_
        exact HK1_aeg v2 v10 v13 u2 ⟨hs2, hs10, hs13, hHeld⟩
      refine' AllReadyH.cons ?_ (fun K hK => ?_) ?_
      rotate_left
      focus (simp only [List.getElem?_toArray, List.getElem?_cons_succ, List.getElem?_cons_zero]; rfl)
      focus
        go_simp
        have hb := (Below.refl w'.heap.size w').alloc (Nat.le_refl _) (.cells #[.int .i64 (-m)] 3)
        have hS := Bx.below hHeld hb
        replace hs10 := hs10.below hb
        replace hs13 := hs13.below hb
        clear hb
        have hs6 := sl_new1 (-m) 3 w'
        generalize (Value.slice (some ⟨w'.heap.size, 0, none⟩) 1 1) = v6 at *
        generalize (w'.alloc (.cells #[.int .i64 (-m)] 3)) = u6 at *
        refine hK.out _ _ hS (fun hHeld => ?_)
        clear hK K hS
        (try simp only [Act.put, List.setIfInBounds_toArray, List.set_cons_zero, List.set_cons_succ])
        refine wpAnyH_listed (listed' := #[true, true, false, false, true, true, true, false, true, true, true, false, true, true, false, false, false]) (by kernel_rfl) ?_
        exact HK1_ceg v6 v10 v13 u6 ⟨hs6, hs10, hs13, hHeld⟩
      exact AllReadyH.nil
    case hb1_abc =>
      obtain ⟨hs2, hs6, hHeld⟩ := hpre
      refine wpAnyH_ready (rs := [7, 10, 13]) (by kernel_rfl) (by simp) ?_
      refine' AllReadyH.cons ?_ (fun K hK => ?_) ?_
      rotate_left
      focus (simp only [List.getElem?_toArray, List.getElem?_cons_succ, List.getElem?_cons_zero]; rfl)
      focus
        go_simp
        (go_at_call 42; (with_reducible refine (greatest1 _ _ n2 HN2.out _ _ hs6).mono ?_); rintro e u7 ⟨rfl, hb⟩)
        have hS := Bx.below hHeld hb
        replace hs2 := hs2.below hb
        replace hs6 := hs6.below hb
        clear hb
        refine hK.out _ _ hS (fun hHeld => ?_)
        clear hK K hS
        (try simp only [Act.put, List.setIfInBounds_toArray, List.set_cons_zero, List.set_cons_succ])
        refine wpAnyH_ready (rs := [10, 13]) (by kernel_rfl) (by simp) ?_
        refine' AllReadyH.cons ?_ (fun K hK => ?_) ?_
        rotate_left
        focus (simp only [List.getElem?_toArray, List.getElem?_cons_succ, List.getElem?_cons_zero]; rfl)
        focus
          go_simp
          have hb := (Below.refl u7.heap.size u7).alloc (Nat.le_refl _) (.cells #[.int .i64 (0)] 3)
          have hS := Bx.below hHeld hb
          replace hs2 := hs2.below hb
          replace hs6 := hs6.below hb
          clear hb
          have hs10 := sl_new1 (0) 3 u7
          generalize (Value.slice (some ⟨u7.heap.size, 0, none⟩) 1 1) = v10 at *
          generalize (u7.alloc (.cells #[.int .i64 (0)] 3)) = u10 at *
          refine hK.out _ _ hS (fun hHeld => ?_)
          clear hK K hS
          (try simp only [Act.put, List.setIfInBounds_toArray, List.set_cons_zero, List.set_cons_succ])
          refine wpAnyH_listed (listed' := #[true, true, true, true, true, true, true, true, true, true, true, false, true, false, false, false, false]) (by kernel_rfl) ?_
          exact HK1_abcde v2 v6 v10 u10 ⟨hs2, hs6, hs10, hHeld⟩
        refine' AllReadyH.cons ?_ (fun K hK => ?_) ?_
        rotate_left
        focus (simp only [List.getElem?_toArray, List.getElem?_cons_succ, List.getElem?_cons_zero]; rfl)
        focus
          go_simp
          have hb := (Below.refl u7.heap.size u7).alloc (Nat.le_refl _) (.cells #[.int .i64 (m)] 3)
          have hS := Bx.below hHeld hb
          replace hs2 := hs2.below hb
          replace hs6 := hs6.below hb
          clear hb
          have hs13 := sl_new1 (m) 3 u7
          generalize (Value.slice (some ⟨u7.heap.size, 0, none⟩) 1 1) = v13 at *
          generalize (u7.alloc (.cells #[.int .i64 (m)] 3)) = u13 at *
          refine hK.out _ _ hS (fun hHeld => ?_)
          clear hK K hS
          (try simp only [Act.put, List.setIfInBounds_toArray, List.set_cons_zero, List.set_cons_succ])
          refine wpAnyH_listed (listed' := #[true, true, true, true, true, true, true, true, true, true, false, false, true, true, false, false, false]) (by kernel_rfl) ?_
          exact HK1_abcdg v2 v6 v13 u13 ⟨hs2, hs6, hs13, hHeld⟩
        exact AllReadyH.nil
      refine' AllReadyH.cons ?_ (fun K hK => ?_) ?_
      rotate_left
      focus (simp only [List.getElem?_toArray, List.getElem?_cons_succ, List.getElem?_cons_zero]; rfl)
      focus
        go_simp
        have hb := (Below.refl w'.heap.size w').alloc (Nat.le_refl _) (.cells #[.int .i64 (0)] 3)
        have hS := Bx.below hHeld hb
        replace hs2 := hs2.below hb
        replace hs6 := hs6.below hb
        clear hb
        have hs10 := sl_new1 (0) 3 w'
        generalize (Value.slice (some ⟨w'.heap.size, 0, none⟩) 1 1) = v10 at *
        generalize (w'.alloc (.cells #[.int .i64 (0)] 3)) = u10 at *
        refine hK.out _ _ hS (fun hHeld => ?_)
        clear hK K hS
        (try simp only [Act.put, List.setIfInBounds_toArray, List.set_cons_zero, List.set_cons_succ])
        refine wpAnyH_listed (listed' := #[true, true, true, true, true, true, true, false, true, true, true, false, true, false, false, false, false]) (by kernel_rfl) ?_
        exact HK1_abce v2 v6 v10 u10 ⟨hs2, hs6, hs10, hHeld⟩
      refine' AllReadyH.cons ?_ (fun K hK => ?_) ?_
      rotate_left
      focus (simp only [List.getElem?_toArray, List.getElem?_cons_succ, List.getElem?_cons_zero]; rfl)
      focus
        go_simp
        have hb := (Below.refl w'.heap.size w').alloc (Nat.le_refl _) (.cells #[.int .i64 (m)] 3)
        have hS := Bx.below hHeld hb
        replace hs2 := hs2.below hb
        replace hs6 := hs6.below hb
        clear hb
        have hs13 := sl_new1 (m) 3 w'
        generalize (Value.slice (some ⟨w'.heap.size, 0, none⟩) 1 1) = v13 at *
        generalize (w'.alloc (.cells #[.int .i64 (m)] 3)) = u13 at *
        refine hK.out _ _ hS (fun hHeld => ?_)
        clear hK K hS
        (try simp only [Act.put, List.setIfInBounds_toArray, List.set_cons_zero, List.set_cons_succ])
        refine wpAnyH_listed (listed' := #[true, true, true, true, true, true, true, false, true, true, false, false, true, true, false, false, false]) (by kernel_rfl) ?_
        exact HK1_abcg v2 v6 v13 u13 ⟨hs2, hs6, hs13, hHeld⟩
      exact AllReadyH.nil
    case hb1_abe =>
      obtain ⟨hs2, hs10, hHeld⟩ := hpre
      refine wpAnyH_ready (rs := [6, 13]) (by kernel_rfl) (by simp) ?_
      refine' AllReadyH.cons ?_ (fun K hK => ?_) ?_
      rotate_left
      focus (simp only [List.getElem?_toArray, List.getElem?_cons_succ, List.getElem?_cons_zero]; rfl)
      focus
        go_simp
        have hb := (Below.refl w'.heap.size w').alloc (Nat.le_refl _) (.cells #[.int .i64 (-m)] 3)
        have hS := Bx.below hHeld hb
        replace hs2 := hs2.below hb
        replace hs10 := hs10.below hb
        clear hb
        have hs6 := sl_new1 (-m) 3 w'
        generalize (Value.slice (some ⟨w'.heap.size, 0, none⟩) 1 1) = v6 at *
        generalize (w'.alloc (.cells #[.int .i64 (-m)] 3)) = u6 at *
        refine hK.out _ _ hS (fun hHeld => ?_)
        clear hK K hS
        (try simp only [Act.put, List.setIfInBounds_toArray, List.set_cons_zero, List.set_cons_succ])
        refine wpAnyH_listed (listed' := #[true, true, true, true, true, true, true, false, true, true, true, false, true, false, false, false, false]) (by kernel_rfl) ?_
        exact HK1_abce v2 v6 v10 u6 ⟨hs2, hs6, hs10, hHeld⟩
      refine' AllReadyH.cons ?_ (fun K hK => ?_) ?_
      rotate_left
      focus (simp only [List.getElem?_toArray, List.getElem?_cons_succ, List.getElem?_cons_zero]; rfl)
      focus
        go_simp
        have hb := (Below.refl w'.heap.size w').alloc (Nat.le_refl _) (.cells #[.int .i64 (m)] 3)
        have hS := Bx.below hHeld hb
        replace hs2 := hs2.below hb
        replace hs10 := hs10.below hb
        clear hb
        have hs13 := sl_new1 (m) 3 w'
        generalize (Value.slice (some ⟨w'.heap.size, 0, none⟩) 1 1) = v13 at *
        generalize (w'.alloc (.cells #[.int .i64 (m)] 3)) = u13 at *
        refine hK.out _ _ hS (fun hHeld => ?_)
        clear hK K hS
        (try simp only [Act.put, List.setIfInBounds_toArray, List.set_cons_zero, List.set_cons_succ])
        refine wpAnyH_listed (listed' := #[true, true, true, true, true, true, false, false, true, true, true, false, true, true, false, false, false]) (by kernel_rfl) ?_
        exact HK1_abeg v2 v10 v13 u13 ⟨hs2, hs10, hs13, hHeld⟩
      exact AllReadyH.nil
    case hb1_abg =>
      obtain ⟨hs2, hs13, hHeld⟩ := hpre
      refine wpAnyH_ready (rs := [6, 10]) (by kernel_rfl) (by simp) ?_
      refine' AllReadyH.cons ?_ (fun K hK => ?_) ?_
      rotate_left
      focus (simp only [List.getElem?_toArray, List.getElem?_cons_succ, List.getElem?_cons_zero]; rfl)
      focus
        go_simp
        have hb := (Below.refl w'.heap.size w').alloc (Nat.le_refl _) (.cells #[.int .i64 (-m)] 3)
        have hS := Bx.below hHeld hb
        replace hs2 := hs2.below hb
        replace hs13 := hs13.below hb
        clear hb
        have hs6 := sl_new1 (-m) 3 w'
        generalize (Value.slice (some ⟨w'.heap.size, 0, none⟩) 1 1) = v6 at *
        generalize (w'.alloc (.cells #[.int .i64 (-m)] 3)) = u6 at *
        refine hK.out _ _ hS (fun hHeld => ?_)
        clear hK K hS
        (try simp only [Act.put, List.setIfInBounds_toArray, List.set_cons_zero, List.set_cons_succ])
        refine wpAnyH_listed (listed' := #[true, true, true, true, true, true, true, false, true, true, false, false, true, true, false, false, false]) (by kernel_rfl) ?_
        exact HK1_abcg v2 v6 v13 u6 ⟨hs2, hs6, hs13, hHeld⟩
      refine' AllReadyH.cons ?_ (fun K hK => ?_) ?_
      rotate_left
      focus (simp only [List.getElem?_toArray, List.getElem?_cons_succ, List.getElem?_cons_zero]; rfl)
      focus
        go_simp
        have hb := (Below.refl w'.heap.size w').alloc (Nat.le_refl _) (.cells #[.int .i64 (0)] 3)
        have hS := Bx.below hHeld hb
        replace hs2 := hs2.below hb
        replace hs13 := hs13.below hb
        clear hb
        have hs10 := sl_new1 (0) 3 w'
        generalize (Value.slice (some ⟨w'.heap.size, 0, none⟩) 1 1) = v10 at *
        generalize (w'.alloc (.cells #[.int .i64 (0)] 3)) = u10 at *
        refine hK.out _ _ hS (fun hHeld => ?_)
        clear hK K hS
        (try simp only [Act.put, List.setIfInBounds_toArray, List.set_cons_zero, List.set_cons_succ])
        refine wpAnyH_listed (listed' := #[true, true, true, true, true, true, false, false, true, true, true, false, true, true, false, false, false]) (by kernel_rfl) ?_
        exact HK1_abeg v2 v10 v13 u10 ⟨hs2, hs10, hs13, hHeld⟩
      exact AllReadyH.nil
    case hb1_ace =>
      obtain ⟨hs2, hs6, hs10, hHeld⟩ := hpre
      refine wpAnyH_ready (rs := [3, 13]) (by kernel_rfl) (by simp) ?_
      refine' AllReadyH.cons ?_ (fun K hK => ?_) ?_
      rotate_left
      focus (simp only [List.getElem?_toArray, List.getElem?_cons_succ, List.getElem?_cons_zero]; rfl)
      focus
        go_simp
        (go_at_call 50; (with_reducible refine (least1 _ _ n1 HN1.out _ _ hs2).mono ?_); rintro e u3 ⟨rfl, hb⟩)
        have hS := Bx.below hHeld hb
        replace hs2 := hs2.below hb
        replace hs6 := hs6.below hb
        replace hs10 := hs10.below hb
        clear hb
        refine hK.out _ _ hS (fun hHeld => ?_)
        clear hK K hS
        (try simp only [Act.put, List.setIfInBounds_toArray, List.set_cons_zero, List.set_cons_succ])
        refine wpAnyH_listed (listed' := #[true, true, true, true, true, true, true, false, true, true, true, false, true, false, false, false, false]) (by kernel_rfl) ?_
        exact HK1_abce v2 v6 v10 u3 ⟨hs2, hs6, hs10, hHeld⟩
      refine' AllReadyH.cons ?_ (fun K hK => ?_) ?_
      rotate_left
      focus (simp only [List.getElem?_toArray, List.getElem?_cons_succ, List.getElem?_cons_zero]; rfl)
      focus
        go_simp
        have hb := (Below.refl w'.heap.size w').alloc (Nat.le_refl _) (.cells #[.int .i64 (m)] 3)
        have hS := Bx.below hHeld hb
        replace hs2 := hs2.below hb
        replace hs6 := hs6.below hb
        replace hs10 := hs10.below hb
        clear hb
        have hs13 := sl_new1 (m) 3 w'
        generalize (Value.slice (some ⟨w'.heap.size, 0, none⟩) 1 1) = v13 at *
        generalize (w'.alloc (.cells #[.int .i64 (m)] 3)) = u13 at *
        refine hK.out _ _ hS (fun hHeld => ?_)
        clear hK K hS
        (try simp only [Act.put, List.setIfInBounds_toArray, List.set_cons_zero, List.set_cons_succ])
        refine wpAnyH_listed (listed' := #[true, true, true, false, true, true, true, false, true, true, true, false, true, true, false, false, false]) (by kernel_rfl) ?_
        exact HK1_aceg v2 v6 v10 v13 u13 ⟨hs2, hs6, hs10, hs13, hHeld⟩
      exact AllReadyH.nil
    case hb1_acg =>
      obtain ⟨hs2, hs6, hs13, hHeld⟩ := hpre
      refine wpAnyH_ready (rs := [3, 10]) (by kernel_rfl) (by simp) ?_
      refine' AllReadyH.cons ?_ (fun K hK => ?_) ?_
      rotate_left
      focus (simp only [List.getElem?_toArray, List.getElem?_cons_succ, List.getElem?_cons_zero]; rfl)
      focus
        go_simp
        (go_at_call 50; (with_reducible refine (least1 _ _ n1 HN1.out _ _ hs2).mono ?_); rintro e u3 ⟨rfl, hb⟩)
        have hS := Bx.below hHeld hb
        replace hs2 := hs2.below hb
        replace hs6 := hs6.below hb
        replace hs13 := hs13.below hb
        clear hb
        refine hK.out _ _ hS (fun hHeld => ?_)
        clear hK K hS
        (try simp only [Act.put, List.setIfInBounds_toArray, List.set_cons_zero, List.set_cons_succ])
        refine wpAnyH_listed (listed' := #[true, true, true, true, true, true, true, false, true, true, false, false, true, true, false, false, false]) (by kernel_rfl) ?_
        exact HK1_abcg v2 v6 v13 u3 ⟨hs2, hs6, hs13, hHeld⟩
      refine' AllReadyH.cons ?_ (fun K hK => ?_) ?_
      rotate_left
      focus (simp only [List.getElem?_toArray, List.getElem?_cons_succ, List.getElem?_cons_zero]; rfl)
      focus
        go_simp
        have hb := (Below.refl w'.heap.size w').alloc (Nat.le_refl _) (.cells #[.int .i64 (0)] 3)
        have hS := Bx.below hHeld hb
        replace hs2 := hs2.below hb
        replace hs6 := hs6.below hb
        replace hs13 := hs13.below hb
        clear hb
        have hs10 := sl_new1 (0) 3 w'
        generalize (Value.slice (some ⟨w'.heap.size, 0, none⟩) 1 1) = v10 at *
        generalize (w'.alloc (.cells #[.int .i64 (0)] 3)) = u10 at *
        refine hK.out _ _ hS (fun hHeld => ?_)
        clear hK K hS
        (try simp only [Act.put, List.setIfInBounds_toArray, List.set_cons_zero, List.set_cons_succ])
        refine wpAnyH_listed (listed' := #[true, true, true, false, true, true, true, false, true, true, true, false, true, true, false, false, false]) (by kernel_rfl) ?_
        exact HK1_aceg v2 v6 v10 v13 u10 ⟨hs2, hs6, hs10, hs13, hHeld⟩
      exact AllReadyH.nil
    case hb1_aeg =>
      obtain ⟨hs2, hs10, hs13, hHeld⟩ := hpre
      refine wpAnyH_ready (rs := [3, 6]) (by kernel_rfl) (by simp) ?_
      refine' AllReadyH.cons ?_ (fun K hK => ?_) ?_
      rotate_left
      focus (simp only [List.getElem?_toArray, List.getElem?_cons_succ, List.getElem?_cons_zero]; rfl)
      focus
        go_simp
        (go_at_call 50; (with_reducible refine (least1 _ _ n1 HN1.out _ _ hs2).mono ?_); rintro e u3 ⟨rfl, hb⟩)
        have hS := Bx.below hHeld hb
        replace hs2 := hs2.below hb
        replace hs10 := hs10.below hb
        replace hs13 := hs13.below hb
        clear hb
        refine hK.out _ _ hS (fun hHeld => ?_)
        clear hK K hS
        (try simp only [Act.put, List.setIfInBounds_toArray, List.set_cons_zero, List.set_cons_succ])
        refine wpAnyH_listed (listed' := #[true, true, true, true, true, true, false, false, true, true, true, false, true, true, false, false, false]) (by kernel_rfl) ?_
        exact HK1_abeg v2 v10 v13 u3 ⟨hs2, hs10, hs13, hHeld⟩
      refine' AllReadyH.cons ?_ (fun K hK => ?_) ?_
      rotate_left
      focus (simp only [List.getElem?_toArray, List.getElem?_cons_succ, List.getElem?_cons_zero]; rfl)
      focus
        go_simp
        have hb := (Below.refl w'.heap.size w').alloc (Nat.le_refl _) (.cells #[.int .i64 (-m)] 3)
        have hS := Bx.below hHeld hb
        replace hs2 := hs2.below hb
        replace hs10 := hs10.below hb
        replace hs13 := hs13.below hb
        clear hb
        have hs6 := sl_new1 (-m) 3 w'
        generalize (Value.slice (some ⟨w'.heap.size, 0, none⟩) 1 1) = v6 at *
        generalize (w'.alloc (.cells #[.int .i64 (-m)] 3)) = u6 at *
        refine hK.out _ _ hS (fun hHeld => ?_)
        clear hK K hS
        (try simp only [Act.put, List.setIfInBounds_toArray, List.set_cons_zero, List.set_cons_succ])
        refine wpAnyH_listed (listed' := #[true, true, true, false, true, true, true, false, true, true, true, false, true, true, false, false, false]) (by kernel_rfl) ?_
        exact HK1_aceg v2 v6 v10 v13 u6 ⟨hs2, hs6, hs10, hs13, hHeld⟩
      exact AllReadyH.nil
    case hb1_ceg =>
      obtain ⟨hs6, hs10, hs13, hHeld⟩ := hpre
      refine wpAnyH_ready (rs := [2]) (by kernel_rfl) (by simp) ?_
      refine' AllReadyH.cons ?_ (fun K hK => ?_) AllReadyH.nil
      rotate_left
      focus (simp only [List.getElem?_toArray, List.getElem?_cons_succ, List.getElem?_cons_zero]; rfl)
      go_simp
      have hb := (Below.refl w'.heap.size w').alloc (Nat.le_refl _) (.cells #[.int .i64 (0)] 3)
      have hS := Bx.below hHeld hb
      replace hs6 := hs6.below hb
      replace hs10 := hs10.below hb
      replace hs13 := hs13.below hb
      clear hb
      have hs2 := sl_new1 (0) 3 w'
      generalize (Value.slice (some ⟨w'.heap.size, 0, none⟩) 1 1) = v2 at *
      generalize (w'.alloc (.cells #[.int .i64 (0)] 3)) = u2 at *
      refine hK.out _ _ hS (fun hHeld => ?_)
      clear hK K hS
      (try simp only [Act.put, List.setIfInBounds_toArray, List.set_cons_zero, List.set_cons_succ])
      refine wpAnyH_listed (listed' := #[true, true, true, false, true, true, true, false, true, true, true, false, true, true, false, false, false]) (by kernel_rfl) ?_
      exact HK1_aceg v2 v6 v10 v13 u2 ⟨hs2, hs6, hs10, hs13, hHeld⟩
    case hb1_abce =>
      obtain ⟨hs2, hs6, hs10, hHeld⟩ := hpre
      refine wpAnyH_ready (rs := [7, 13]) (by kernel_rfl) (by simp) ?_
      refine' AllReadyH.cons ?_ (fun K hK => ?_) ?_
      rotate_left
      focus (simp only [List.getElem?_toArray, List.getElem?_cons_succ, List.getElem?_cons_zero]; rfl)
      focus
        go_simp
        (go_at_call 42; (with_reducible refine (greatest1 _ _ n2 HN2.out _ _ hs6).mono ?_); rintro e u7 ⟨rfl, hb⟩)
        have hS := Bx.below hHeld hb
        replace hs2 := hs2.below hb
        replace hs6 := hs6.below hb
        replace hs10 := hs10.below hb
        clear hb
        refine hK.out _ _ hS (fun hHeld => ?_)
        clear hK K hS
        (try simp only [Act.put, List.setIfInBounds_toArray, List.set_cons_zero, List.set_cons_succ])
        refine wpAnyH_listed (listed' := #[true, true, true, true, true, true, true, true, true, true, true, false, true, false, false, false, false]) (by kernel_rfl) ?_
        exact HK1_abcde v2 v6 v10 u7 ⟨hs2, hs6, hs10, hHeld⟩
      refine' AllReadyH.cons ?_ (fun K hK => ?_) ?_
      rotate_left
      focus (simp only [List.getElem?_toArray, List.getElem?_cons_succ, List.getElem?_cons_zero]; rfl)
      focus
        go_simp
        have hb := (Below.refl w'.heap.size w').alloc (Nat.le_refl _) (.cells #[.int .i64 (m)] 3)
        have hS := Bx.below hHeld hb
        replace hs2 := hs2.below hb
        replace hs6 := hs6.below hb
        replace hs10 := hs10.below hb
        clear hb
        have hs13 := sl_new1 (m) 3 w'
        generalize (Value.slice (some ⟨w'.heap.size, 0, none⟩) 1 1) = v13 at *
        generalize (w'.alloc (.cells #[.int .i64 (m)] 3)) = u13 at *
        refine hK.out _ _ hS (fun hHeld => ?_)
        clear hK K hS
        (try simp only [Act.put, List.setIfInBounds_toArray, List.set_cons_zero, List.set_cons_succ])
        refine wpAnyH_listed (listed' := #[true, true, true, true, true, true, true, false, true, true, true, false, true, true, false, false, false]) (by kernel_rfl) ?_
        exact HK1_abceg v2 v6 v10 v13 u13 ⟨hs2, hs6, hs10, hs13, hHeld⟩
      exact AllReadyH.nil
    case hb1_abcg =>
      obtain ⟨hs2, hs6, hs13, hHeld⟩ := hpre
      refine wpAnyH_ready (rs := [7, 10]) (by kernel_rfl) (by simp) ?_
      refine' AllReadyH.cons ?_ (fun K hK => ?_) ?_
      rotate_left
      focus (simp only [List.getElem?_toArray, List.getElem?_cons_succ, List.getElem?_cons_zero]; rfl)
      focus
        go_simp
        (go_at_call 42; (with_reducible refine (greatest1 _ _ n2 HN2.out _ _ hs6).mono ?_); rintro e u7 ⟨rfl, hb⟩)
        have hS := Bx.below hHeld hb
        replace hs2 := hs2.below hb
        replace hs6 := hs6.below hb
        replace hs13 := hs13.below hb
        clear hb
        refine hK.out _ _ hS (fun hHeld => ?_)
        clear hK K hS
        (try simp only [Act.put, List.setIfInBounds_toArray, List.set_cons_zero, List.set_cons_succ])
        refine wpAnyH_listed (listed' := #[true, true, true, true, true, true, true, true, true, true, false, false, true, true, false, false, false]) (by kernel_rfl) ?_
        exact HK1_abcdg v2 v6 v13 u7 ⟨hs2, hs6, hs13, hHeld⟩
      refine' AllReadyH.cons ?_ (fun K hK => ?_) ?_
      rotate_left
      focus (simp only [List.getElem?_toArray, List.getElem?_cons_succ, List.getElem?_cons_zero]; rfl)
      focus
        go_simp
        have hb := (Below.refl w'.heap.size w').alloc (Nat.le_refl _) (.cells #[.int .i64 (0)] 3)
        have hS := Bx.below hHeld hb
        replace hs2 := hs2.below hb
        replace hs6 := hs6.below hb
        replace hs13 := hs13.below hb
        clear hb
        have hs10 := sl_new1 (0) 3 w'
        generalize (Value.slice (some ⟨w'.heap.size, 0, none⟩) 1 1) = v10 at *
        generalize (w'.alloc (.cells #[.int .i64 (0)] 3)) = u10 at *
        refine hK.out _ _ hS (fun hHeld => ?_)
        clear hK K hS
        (try simp only [Act.put, List.setIfInBounds_toArray, List.set_cons_zero, List.set_cons_succ])
        refine wpAnyH_listed (listed' := #[true, true, true, true, true, true, true, false, true, true, true, false, true, true, false, false, false]) (by kernel_rfl) ?_
        exact HK1_abceg v2 v6 v10 v13 u10 ⟨hs2, hs6, hs10, hs13, hHeld⟩
      exact AllReadyH.nil
    case hb1_abeg =>
      obtain ⟨hs2, hs10, hs13, hHeld⟩ := hpre
      refine wpAnyH_ready (rs := [6]) (by kernel_rfl) (by simp) ?_
      refine' AllReadyH.cons ?_ (fun K hK => ?_) AllReadyH.nil
      rotate_left
      focus (simp only [List.getElem?_toArray, List.getElem?_cons_succ, List.getElem?_cons_zero]; rfl)
      go_simp
      have hb := (Below.refl w'.heap.size w').alloc (Nat.le_refl _) (.cells #[.int .i64 (-m)] 3)
      have hS := Bx.below hHeld hb
      replace hs2 := hs2.below hb
      replace hs10 := hs10.below hb
      replace hs13 := hs13.below hb
      clear hb
      have hs6 := sl_new1 (-m) 3 w'
      generalize (Value.slice (some ⟨w'.heap.size, 0, none⟩) 1 1) = v6 at *
      generalize (w'.alloc (.cells #[.int .i64 (-m)] 3)) = u6 at *
      refine hK.out _ _ hS (fun hHeld => ?_)
      clear hK K hS
      (try simp only [Act.put, List.setIfInBounds_toArray, List.set_cons_zero, List.set_cons_succ])
      refine wpAnyH_listed (listed' := #[true, true, true, true, true, true, true, false, true, true, true, false, true, true, false, false, false]) (by kernel_rfl) ?_
      exact HK1_abceg v2 v6 v10 v13 u6 ⟨hs2, hs6, hs10, hs13, hHeld⟩
    case hb1_aceg =>
      obtain ⟨hs2, hs6, hs10, hs13, hHeld⟩ := hpre
      refine wpAnyH_ready (rs := [3]) (by kernel_rfl) (by simp) ?_
      refine' AllReadyH.cons ?_ (fun K hK => ?_) AllReadyH.nil
      rotate_left
      focus (simp only [List.getElem?_toArray, List.getElem?_cons_succ, List.getElem?_cons_zero]; rfl)
      go_simp
      (go_at_call 50; (with_reducible refine (least1 _ _ n1 HN1.out _ _ hs2).mono ?_); rintro e u3 ⟨rfl, hb⟩)
      have hS := Bx.below hHeld hb
      replace hs2 := hs2.below hb
      replace hs6 := hs6.below hb
      replace hs10 := hs10.below hb
      replace hs13 := hs13.below hb
      clear hb
      refine hK.out _ _ hS (fun hHeld => ?_)
      clear hK K hS
      (try simp only [Act.put, List.setIfInBounds_toArray, List.set_cons_zero, List.set_cons_succ])
      refine wpAnyH_listed (listed' := #[true, true, true, true, true, true, true, false, true, true, true, false, true, true, false, false, false]) (by kernel_rfl) ?_
      exact HK1_abceg v2 v6 v10 v13 u3 ⟨hs2, hs6, hs10, hs13, hHeld⟩
    case hb1_abcde =>
      obtain ⟨hs2, hs6, hs10, hHeld⟩ := hpre
      refine wpAnyH_ready (rs := [11, 13]) (by kernel_rfl) (by simp) ?_
      refine' AllReadyH.cons ?_ (fun K hK => ?_) ?_
      rotate_left
      focus (simp only [List.getElem?_toArray, List.getElem?_cons_succ, List.getElem?_cons_zero]; rfl)
      focus
        go_simp
        (go_at_call 42; (with_reducible refine (greatest1 _ _ n3 HN3.out _ _ hs10).mono ?_); rintro e u11 ⟨rfl, hb⟩)
        have hS := Bx.below hHeld hb
        replace hs2 := hs2.below hb
        replace hs6 := hs6.below hb
        replace hs10 := hs10.below hb
        clear hb
        refine hK.out _ _ hS (fun hHeld => ?_)
        clear hK K hS
        (try simp only [Act.put, List.setIfInBounds_toArray, List.set_cons_zero, List.set_cons_succ])
        refine wpAnyH_ready (rs := [13]) (by kernel_rfl) (by simp) ?_
        refine' AllReadyH.cons ?_ (fun K hK => ?_) AllReadyH.nil
        rotate_left
        focus (simp only [List.getElem?_toArray, List.getElem?_cons_succ, List.getElem?_cons_zero]; rfl)
        go_simp
        have hb := (Below.refl u11.heap.size u11).alloc (Nat.le_refl _) (.cells #[.int .i64 (m)] 3)
        have hS := Bx.below hHeld hb
        replace hs2 := hs2.below hb
        replace hs6 := hs6.below hb
        replace hs10 := hs10.below hb
        clear hb
        have hs13 := sl_new1 (m) 3 u11
        generalize (Value.slice (some ⟨u11.heap.size, 0, none⟩) 1 1) = v13 at *
        generalize (u11.alloc (.cells #[.int .i64 (m)] 3)) = u13 at *
        refine hK.out _ _ hS (fun hHeld => ?_)
        clear hK K hS
        (try simp only [Act.put, List.setIfInBounds_toArray, List.set_cons_zero, List.set_cons_succ])
        refine wpAnyH_listed (listed' := #[true, true, true, true, true, true, true, true, true, true, true, true, true, true, false, false, false]) (by kernel_rfl) ?_
        exact HK1_abcdefg v2 v6 v10 v13 u13 ⟨hs2, hs6, hs10, hs13, hHeld⟩
      refine' AllReadyH.cons ?_ (fun K hK => ?_) ?_
      rotate_left
      focus (simp only [List.getElem?_toArray, List.getElem?_cons_succ, List.getElem?_cons_zero]; rfl)
      focus
        go_simp
        have hb := (Below.refl w'.heap.size w').alloc (Nat.le_refl _) (.cells #[.int .i64 (m)] 3)
        have hS := Bx.below hHeld hb
        replace hs2 := hs2.below hb
        replace hs6 := hs6.below hb
        replace hs10 := hs10.below hb
        clear hb
        have hs13 := sl_new1 (m) 3 w'
        generalize (Value.slice (some ⟨w'.heap.size, 0, none⟩) 1 1) = v13 at *
        generalize (w'.alloc (.cells #[.int .i64 (m)] 3)) = u13 at *
        refine hK.out _ _ hS (fun hHeld => ?_)
        clear hK K hS
        (try simp only [Act.put, List.setIfInBounds_toArray, List.set_cons_zero, List.set_cons_succ])
        refine wpAnyH_listed (listed' := #[true, true, true, true, true, true, true, true, true, true, true, false, true, true, false, false, false]) (by kernel_rfl) ?_
        exact HK1_abcdeg v2 v6 v10 v13 u13 ⟨hs2, hs6, hs10, hs13, hHeld⟩
      exact AllReadyH.nil
    case hb1_abcdg =>
      obtain ⟨hs2, hs6, hs13, hHeld⟩ := hpre
      refine wpAnyH_ready (rs := [10]) (by kernel_rfl) (by simp) ?_
      refine' AllReadyH.cons ?_ (fun K hK => ?_) AllReadyH.nil
      rotate_left
      focus (simp only [List.getElem?_toArray, List.getElem?_cons_succ, List.getElem?_cons_zero]; rfl)
      go_simp
      have hb := (Below.refl w'.heap.size w').alloc (Nat.le_refl _) (.cells #[.int .i64 (0)] 3)
      have hS := Bx.below hHeld hb
      replace hs2 := hs2.below hb
      replace hs6 := hs6.below hb
      replace hs13 := hs13.below hb
      clear hb
      have hs10 := sl_new1 (0) 3 w'
      generalize (Value.slice (some ⟨w'.heap.size, 0, none⟩) 1 1) = v10 at *
      generalize (w'.alloc (.cells #[.int .i64 (0)] 3)) = u10 at *
      refine hK.out _ _ hS (fun hHeld => ?_)
      clear hK K hS
      (try simp only [Act.put, List.setIfInBounds_toArray, List.set_cons_zero, List.set_cons_succ])
      refine wpAnyH_listed (listed' := #[true, true, true, true, true, true, true, true, true, true, true, false, true, true, false, false, false]) (by kernel_rfl) ?_
      exact HK1_abcdeg v2 v6 v10 v13 u10 ⟨hs2, hs6, hs10, hs13, hHeld⟩
    case hb1_abceg =>
      obtain ⟨hs2, hs6, hs10, hs13, hHeld⟩ := hpre
      refine wpAnyH_ready (rs := [7]) (by kernel_rfl) (by simp) ?_
      refine' AllReadyH.cons ?_ (fun K hK => ?_) AllReadyH.nil
      rotate_left
      focus (simp only [List.getElem?_toArray, List.getElem?_cons_succ, List.getElem?_cons_zero]; rfl)
      go_simp
      (go_at_call 42; (with_reducible refine (greatest1 _ _ n2 HN2.out _ _ hs6).mono ?_); rintro e u7 ⟨rfl, hb⟩)
      have hS := Bx.below hHeld hb
      replace hs2 := hs2.below hb
      replace hs6 := hs6.below hb
      replace hs10 := hs10.below hb
      replace hs13 := hs13.below hb
      clear hb
      refine hK.out _ _ hS (fun hHeld => ?_)
      clear hK K hS
      (try simp only [Act.put, List.setIfInBounds_toArray, List.set_cons_zero, List.set_cons_succ])
      refine wpAnyH_listed (listed' := #[true, true, true, true, true, true, true, true, true, true, true, false, true, true, false, false, false]) (by kernel_rfl) ?_
      exact HK1_abcdeg v2 v6 v10 v13 u7 ⟨hs2, hs6, hs10, hs13, hHeld⟩
    case hb1_abcdeg =>
      obtain ⟨hs2, hs6, hs10, hs13, hHeld⟩ := hpre
      refine wpAnyH_ready (rs := [11]) (by kernel_rfl) (by simp) ?_
      refine' AllReadyH.cons ?_ (fun K hK => ?_) AllReadyH.nil
      rotate_left
      focus (simp only [List.getElem?_toArray, List.getElem?_cons_succ, List.getElem?_cons_zero]; rfl)
      go_simp
      (go_at_call 42; (with_reducible refine (greatest1 _ _ n3 HN3.out _ _ hs10).mono ?_); rintro e u11 ⟨rfl, hb⟩)
      have hS := Bx.below hHeld hb
      replace hs2 := hs2.below hb
      replace hs6 := hs6.below hb
      replace hs10 := hs10.below hb
      replace hs13 := hs13.below hb
      clear hb
      refine hK.out _ _ hS (fun hHeld => ?_)
      clear hK K hS
      (try simp only [Act.put, List.setIfInBounds_toArray, List.set_cons_zero, List.set_cons_succ])
      refine wpAnyH_listed (listed' := #[true, true, true, true, true, true, true, true, true, true, true, true, true, true, false, false, false]) (by kernel_rfl) ?_
      exact HK1_abcdefg v2 v6 v10 v13 u11 ⟨hs2, hs6, hs10, hs13, hHeld⟩
    obtain ⟨hs2, hs6, hs10, hs13, hHeld⟩ := hpre
    refine wpAnyH_ready (rs := [14]) (by kernel_rfl) (by simp) ?_
    refine' AllReadyH.cons ?_ (fun K hK => ?_) AllReadyH.nil
    rotate_left
    focus (simp only [List.getElem?_toArray, List.getElem?_cons_succ, List.getElem?_cons_zero]; rfl)
    go_simp
    (go_at_call 50; (with_reducible refine (least1 _ _ n4 HN4.out _ _ hs13).mono ?_); rintro e u14 ⟨rfl, hb⟩)
    have hS := Bx.below hHeld hb
    replace hs2 := hs2.below hb
    replace hs6 := hs6.below hb
    replace hs10 := hs10.below hb
    replace hs13 := hs13.below hb
    clear hb
    refine hK.out _ _ hS (fun hHeld => ?_)
    clear hK K hS
    (try simp only [Act.put, List.setIfInBounds_toArray, List.set_cons_zero, List.set_cons_succ])
    refine' wpAnyH_take (i := 15) (v := _) ?_ ?_ ?_ ?_ ?_ ?_ ?_ ?_
    rotate_left 2
    focus (simp only [List.getElem?_toArray, List.getElem?_cons_succ, List.getElem?_cons_zero]; rfl)
    focus kernel_rfl
    focus kernel_rfl
    focus kernel_rfl
    focus exact (fun _ _ _ h => h)
    refine Or.inl ⟨?_, ?_⟩
    focus (go_simp; done)
    focus (intro w hSw; obtain ⟨_, ⟨a0, a1⟩, ⟨b0, b1⟩, _⟩ := hSw; (first | (go_simp; done) | (go_simp; with_reducible rfl)))
    focus assumption
    (try simp only [Act.put, List.setIfInBounds_toArray, List.set_cons_zero, List.set_cons_succ])
    refine wpAnyH_ready (rs := [16]) (by kernel_rfl) (by simp) ?_
    refine' AllReadyH.cons ?_ (fun K hK => ?_) AllReadyH.nil
    rotate_left
    focus (simp only [List.getElem?_toArray, List.getElem?_cons_succ, List.getElem?_cons_zero]; rfl)
    obtain ⟨hA, ⟨a0, a1⟩, ⟨b0, b1⟩, ⟨x, y, c0, c1⟩, f2⟩ := id hHeld; have hy0 := hA.lt0 (by omega); have hy1 := hA.lt1 (by omega); have hy2 := hA.lt2 (by omega)
    go_simp
    have hS := Bx.set (x := .int .i64 (n2)) (y := .int .i64 (n4)) hHeld
    refine hK.out _ _ hS (fun hHeld => ?_)
    clear hK K hS
    (try simp only [Act.put, List.setIfInBounds_toArray, List.set_cons_zero, List.set_cons_succ])
    refine wpAnyH_done (by kernel_rfl) ?_ _
    go_wp2
    refine bodyPost_ret (v := .agg #[.int .i64 n2, .int .i64 n4]) ?_ rfl ⟨rfl, hHeld.1.1⟩
    simp [results, Try.results39, go_sem, c0, c1]
end Go.Proofs.Ytdajgopgaklipaa
