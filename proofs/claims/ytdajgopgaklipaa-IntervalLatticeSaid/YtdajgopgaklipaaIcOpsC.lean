/- The code of layer 7: and, or, left, right. No condition. -/
import Derived.Test.YtdajgopgaklipaaIcOpsB
import Derived.Test.YtdajgopgaklipaaShelf
namespace Go.Proofs.Ytdajgopgaklipaa
open Go.RowKit
set_option linter.unusedVariables false
set_option linter.unusedSimpArgs false
attribute [local go_sem] y_undef
theorem sl_at (x : Int) (t : TypeId) (u : World) (n : Nat) (h : n = u.heap.size) : Sl [x] (.slice (some ⟨n, 0, none⟩) 1 1) (u.alloc (.cells #[.int .i64 x] t)) := by subst h; exact sl_new1 x t u
set_option maxHeartbeats 4000000 in
theorem and_any (a b : Iv) (ga : Iv.Good a) (gb : Iv.Good b) (z : Iv) (hz : (if 0 ≤ a.lo ∧ 0 ≤ b.lo then Iv.mk' 0 (min a.hi b.hi) else if 0 ≤ a.lo then Iv.mk' 0 a.hi else if 0 ≤ b.lo then Iv.mk' 0 b.hi else Iv.all) = z) (w : World) : Calls Try.prog 40 #[.agg #[.int .i64 (a).lo, .int .i64 (a).hi], .agg #[.int .i64 (b).lo, .int .i64 (b).hi]] w fun e w' => e = .returned (.agg #[.int .i64 (z).lo, .int .i64 (z).hi]) ∧ Below w.heap.size w w' := by
  have hHeld := bx_new w a b 23
  obtain ⟨l1, l2, l3⟩ := ga
  obtain ⟨r1, r2, r3⟩ := gb
  have HJ' := Lib.hid hz
  clear hz
  cases h1 : decide (0 ≤ a.lo) <;> cases h2 : decide (0 ≤ b.lo)
  case false.false =>
    have hj := HJ'.out
    rw [if_neg (by simp at h1 h2; omega), if_neg (by simp at h1 h2; omega), if_neg (by simp at h1 h2; omega)] at hj
    subst hj
    clear HJ'
    go_enter Try.func40, Try.ntmps40
    go_wp2_with fail
    refine (iAll_any _).mono ?_
    rintro e w1 ⟨rfl, hb⟩
    replace hHeld := hHeld.below hb
    clear hb
    obtain ⟨hA, ⟨a0, a1⟩, ⟨b0, b1⟩, ⟨x, y, c0, c1⟩, f2⟩ := id hHeld; have hy0 := hA.lt0 (by omega); have hy1 := hA.lt1 (by omega); have hy2 := hA.lt2 (by omega)
    go_wp2
    refine bodyPost_ret (v := .agg #[.int .i64 (Iv.all).lo, .int .i64 (Iv.all).hi]) ?_ rfl ⟨rfl, hHeld.set.1.1⟩
    simp [results, Try.results40, go_sem, c0, c1, Iv.all]
  case false.true =>
    have hj := HJ'.out
    rw [if_neg (by simp at h1 h2; omega), if_neg (by simp at h1 h2; omega), if_pos (by simp at h1 h2; omega), Iv.mk_le (by simp at h1 h2; omega)] at hj
    subst hj
    clear HJ'
    go_enter Try.func40, Try.ntmps40
    obtain ⟨hA, ⟨a0, a1⟩, ⟨b0, b1⟩, ⟨x, y, c0, c1⟩, f2⟩ := id hHeld; have hy0 := hA.lt0 (by omega); have hy1 := hA.lt1 (by omega); have hy2 := hA.lt2 (by omega)
    go_wp2
    refine bodyPost_ret (v := .agg #[.int .i64 0, .int .i64 (b.hi)]) ?_ rfl ⟨rfl, ((((Ahead.refl w).alloc _).alloc _).alloc _).1⟩
    simp [results, Try.results40, go_sem, c0, c1]
  case true.false =>
    have hj := HJ'.out
    rw [if_neg (by simp at h1 h2; omega), if_pos (by simp at h1 h2; omega), Iv.mk_le (by simp at h1 h2; omega)] at hj
    subst hj
    clear HJ'
    go_enter Try.func40, Try.ntmps40
    obtain ⟨hA, ⟨a0, a1⟩, ⟨b0, b1⟩, ⟨x, y, c0, c1⟩, f2⟩ := id hHeld; have hy0 := hA.lt0 (by omega); have hy1 := hA.lt1 (by omega); have hy2 := hA.lt2 (by omega)
    go_wp2
    refine bodyPost_ret (v := .agg #[.int .i64 0, .int .i64 (a.hi)]) ?_ rfl ⟨rfl, ((((Ahead.refl w).alloc _).alloc _).alloc _).1⟩
    simp [results, Try.results40, go_sem, c0, c1]
  case true.true =>
    have hj := HJ'.out
    rw [if_pos (by simp at h1 h2; omega), Iv.mk_le (by simp at h1 h2; omega)] at hj
    obtain ⟨m, hm⟩ : ∃ m, min a.hi b.hi = m := ⟨_, rfl⟩
    rw [hm] at hj
    subst hj
    have HM := Lib.hid hm
    clear HJ' hm
    go_enter Try.func40, Try.ntmps40
    go_wp2_with fail
    refine (least1 _ _ m HM.out _ _ (sl_at b.hi 3 _ _ (by simp))).mono ?_
    have hb0 := (Below.refl (((w.alloc (.cells #[.int .i64 a.lo, .int .i64 a.hi] 23)).alloc (.cells #[.int .i64 b.lo, .int .i64 b.hi] 23)).alloc (.cells #[.int .i64 0, .int .i64 0] 23)).heap.size (((w.alloc (.cells #[.int .i64 a.lo, .int .i64 a.hi] 23)).alloc (.cells #[.int .i64 b.lo, .int .i64 b.hi] 23)).alloc (.cells #[.int .i64 0, .int .i64 0] 23))).alloc (Nat.le_refl _) (.cells #[.int .i64 (b.hi)] 3)
    replace hHeld := hHeld.below hb0
    clear hb0
    rintro e w1 ⟨rfl, hb⟩
    replace hHeld := hHeld.below hb
    clear hb
    obtain ⟨hA, ⟨a0, a1⟩, ⟨b0, b1⟩, ⟨x, y, c0, c1⟩, f2⟩ := id hHeld; have hy0 := hA.lt0 (by omega); have hy1 := hA.lt1 (by omega); have hy2 := hA.lt2 (by omega)
    go_wp2
    refine bodyPost_ret (v := .agg #[.int .i64 0, .int .i64 m]) ?_ rfl ⟨rfl, hHeld.set.1.1⟩
    simp [results, Try.results40, go_sem, c0, c1]
set_option maxHeartbeats 4000000 in
theorem or_any (a b : Iv) (lo : Int) (ga : Iv.Good a) (gb : Iv.Good b) (z : Iv) (hz : (if 0 ≤ a.lo ∧ 0 ≤ b.lo then (⟨lo, Iv.ones (max a.hi b.hi)⟩ : Iv) else Iv.all) = z) (w : World) : Calls Try.prog 41 #[.agg #[.int .i64 (a).lo, .int .i64 (a).hi], .agg #[.int .i64 (b).lo, .int .i64 (b).hi], .int .i64 lo] w fun e w' => e = .returned (.agg #[.int .i64 (z).lo, .int .i64 (z).hi]) ∧ Below w.heap.size w w' := by
  have hHeld := bx_new w a b 23
  obtain ⟨l1, l2, l3⟩ := ga
  obtain ⟨r1, r2, r3⟩ := gb
  have HJ' := Lib.hid hz
  clear hz
  cases h1 : decide (a.lo < 0)
  case true =>
    have hj := HJ'.out
    rw [if_neg (by simp at h1; omega)] at hj
    subst hj
    clear HJ'
    go_enter Try.func41, Try.ntmps41
    go_wp2_with fail
    refine (iAll_any _).mono ?_
    rintro e w1 ⟨rfl, hb⟩
    replace hHeld := hHeld.below hb
    clear hb
    obtain ⟨hA, ⟨a0, a1⟩, ⟨b0, b1⟩, ⟨x, y, c0, c1⟩, f2⟩ := id hHeld; have hy0 := hA.lt0 (by omega); have hy1 := hA.lt1 (by omega); have hy2 := hA.lt2 (by omega)
    go_wp2
    refine bodyPost_ret (v := .agg #[.int .i64 (Iv.all).lo, .int .i64 (Iv.all).hi]) ?_ rfl ⟨rfl, hHeld.set.1.1⟩
    simp [results, Try.results41, go_sem, c0, c1, Iv.all]
  case false =>
  cases h2 : decide (b.lo < 0)
  case true =>
    have hj := HJ'.out
    rw [if_neg (by simp at h2; omega)] at hj
    subst hj
    clear HJ'
    go_enter Try.func41, Try.ntmps41
    go_wp2_with fail
    refine (iAll_any _).mono ?_
    rintro e w1 ⟨rfl, hb⟩
    replace hHeld := hHeld.below hb
    clear hb
    obtain ⟨hA, ⟨a0, a1⟩, ⟨b0, b1⟩, ⟨x, y, c0, c1⟩, f2⟩ := id hHeld; have hy0 := hA.lt0 (by omega); have hy1 := hA.lt1 (by omega); have hy2 := hA.lt2 (by omega)
    go_wp2
    refine bodyPost_ret (v := .agg #[.int .i64 (Iv.all).lo, .int .i64 (Iv.all).hi]) ?_ rfl ⟨rfl, hHeld.set.1.1⟩
    simp [results, Try.results41, go_sem, c0, c1, Iv.all]
  case false =>
    have hj := HJ'.out
    rw [if_pos (by simp at h1 h2; omega)] at hj
    obtain ⟨m, hm⟩ : ∃ m, max a.hi b.hi = m := ⟨_, rfl⟩
    rw [hm] at hj
    subst hj
    have hm0 : 0 ≤ m ∧ m ≤ 2147483647 := by simp at h1 h2; omega
    obtain ⟨e1, e2⟩ := Iv.ones_bitLen hm0.1 hm0.2
    have hcv : IntKind.u64.wrap m = m := by simp [IntKind.wrap, IntKind.bits, IntKind.signed]; omega
    have hcw : m % 18446744073709551616 = m := by omega
    have hp : (2 ^ Lib.bitLen m.toNat : Nat) ≤ 2 ^ 31 := Nat.pow_le_pow_right (by omega) e2
    have hp0 : 1 ≤ (2 ^ Lib.bitLen m.toNat : Nat) := Nat.pow_pos (by omega)
    have hp2 : (2 ^ 31 : Nat) = 2147483648 := by decide
    have HL := Lib.hid (fun (W : World) => Try.bits_Len m W hm0.1 (by omega))
    generalize Lib.bitLen m.toNat = k at *
    have HM := Lib.hid hm
    clear HJ' hm
    go_enter Try.func41, Try.ntmps41
    go_wp2_with fail
    refine (greatest1 _ _ m HM.out _ _ (sl_at b.hi 3 _ _ (by simp))).mono ?_
    have hb0 := (Below.refl (((w.alloc (.cells #[.int .i64 a.lo, .int .i64 a.hi] 23)).alloc (.cells #[.int .i64 b.lo, .int .i64 b.hi] 23)).alloc (.cells #[.int .i64 0, .int .i64 0] 23)).heap.size (((w.alloc (.cells #[.int .i64 a.lo, .int .i64 a.hi] 23)).alloc (.cells #[.int .i64 b.lo, .int .i64 b.hi] 23)).alloc (.cells #[.int .i64 0, .int .i64 0] 23))).alloc (Nat.le_refl _) (.cells #[.int .i64 (b.hi)] 3)
    replace hHeld := hHeld.below hb0
    clear hb0
    rintro e w1 ⟨rfl, hb⟩
    replace hHeld := hHeld.below hb
    clear hb
    go_wp2_with fail
    refine (HL.out _).mono ?_
    rintro e w2 ⟨rfl, hw2⟩
    subst hw2
    clear HL
    have E := Lib.hid (show wrap64 (wrap64 ((2 : Int) ^ k) - 1) = Iv.ones m by
      rw [← Iv.pow_cast, wrap64_same (show -9223372036854775808 ≤ ((2 ^ k : Nat) : Int) ∧ ((2 ^ k : Nat) : Int) ≤ 9223372036854775807 by omega), wrap64_same (by omega), e1])
    clear e1 hp hp0 hp2 hcv hcw hm0
    obtain ⟨hA, ⟨a0, a1⟩, ⟨b0, b1⟩, ⟨x, y, c0, c1⟩, f2⟩ := id hHeld; have hy0 := hA.lt0 (by omega); have hy1 := hA.lt1 (by omega); have hy2 := hA.lt2 (by omega)
    go_wp2
    rw [E.out]
    refine bodyPost_ret (v := .agg #[.int .i64 lo, .int .i64 (Iv.ones m)]) ?_ rfl ⟨rfl, hHeld.set.1.1⟩
    simp [results, Try.results41, go_sem, c0, c1]
set_option maxHeartbeats 4000000 in
theorem left_any (a b : Iv) (ga : Iv.Good a) (gb : Iv.Good b) (z : Iv) (hz : (if b.lo = b.hi ∧ 0 ≤ b.lo ∧ b.lo ≤ 31 ∧ 0 ≤ a.lo ∧ a.hi * 2 ^ b.lo.toNat ≤ 2147483647 then Iv.mk' (a.lo * 2 ^ b.lo.toNat) (a.hi * 2 ^ b.lo.toNat) else Iv.all) = z) (w : World) : Calls Try.prog 43 #[.agg #[.int .i64 (a).lo, .int .i64 (a).hi], .agg #[.int .i64 (b).lo, .int .i64 (b).hi]] w fun e w' => e = .returned (.agg #[.int .i64 (z).lo, .int .i64 (z).hi]) ∧ Below w.heap.size w w' := by
  have hHeld := bx_new w a b 23
  obtain ⟨l1, l2, l3⟩ := ga
  obtain ⟨r1, r2, r3⟩ := gb
  have HJ' := Lib.hid hz
  clear hz
  obtain ⟨pl, hpl⟩ : ∃ t, (decide (0 ≤ b.lo) && decide (b.hi ≤ 31)) = t := ⟨_, rfl⟩
  cases h1 : (b.lo != b.hi)
  case true =>
    have hj := HJ'.out
    rw [if_neg (by simp at h1; omega)] at hj
    subst hj
    clear HJ' hpl
    go_enter Try.func43, Try.ntmps43
    go_wp2_with fail
    refine (iAll_any _).mono ?_
    rintro e w1 ⟨rfl, hb⟩
    replace hHeld := hHeld.below hb
    clear hb
    obtain ⟨hA, ⟨a0, a1⟩, ⟨b0, b1⟩, ⟨x, y, c0, c1⟩, f2⟩ := id hHeld; have hy0 := hA.lt0 (by omega); have hy1 := hA.lt1 (by omega); have hy2 := hA.lt2 (by omega)
    go_wp2
    refine bodyPost_ret (v := .agg #[.int .i64 (Iv.all).lo, .int .i64 (Iv.all).hi]) ?_ rfl ⟨rfl, hHeld.set.1.1⟩
    simp [results, Try.results43, go_sem, c0, c1, Iv.all]
  case false =>
  have hb1 : b.lo = b.hi := by simpa using h1
  have HB := Lib.hid hb1
  clear hb1
  cases pl
  case false =>
    have hj := HJ'.out
    rw [if_neg (by have := HB.out; simp at hpl; omega)] at hj
    subst hj
    have HP := Lib.hid hpl
    clear HJ' hpl
    go_enter Try.func43, Try.ntmps43
    go_wp2_with fail
    refine (places_any b.lo b.hi _ HP.out _).mono ?_
    rintro e w1 ⟨rfl, hb⟩
    replace hHeld := hHeld.below hb
    clear hb
    go_wp2_with fail
    refine (iAll_any _).mono ?_
    rintro e w2 ⟨rfl, hb⟩
    replace hHeld := hHeld.below hb
    clear hb
    obtain ⟨hA, ⟨a0, a1⟩, ⟨b0, b1⟩, ⟨x, y, c0, c1⟩, f2⟩ := id hHeld; have hy0 := hA.lt0 (by omega); have hy1 := hA.lt1 (by omega); have hy2 := hA.lt2 (by omega)
    go_wp2
    refine bodyPost_ret (v := .agg #[.int .i64 (Iv.all).lo, .int .i64 (Iv.all).hi]) ?_ rfl ⟨rfl, hHeld.set.1.1⟩
    simp [results, Try.results43, go_sem, c0, c1, Iv.all]
  case true =>
  cases h3 : decide (a.lo < 0)
  case true =>
    have hj := HJ'.out
    rw [if_neg (by simp at h3; omega)] at hj
    subst hj
    have HP := Lib.hid hpl
    clear HJ' hpl
    go_enter Try.func43, Try.ntmps43
    go_wp2_with fail
    refine (places_any b.lo b.hi _ HP.out _).mono ?_
    rintro e w1 ⟨rfl, hb⟩
    replace hHeld := hHeld.below hb
    clear hb
    obtain ⟨hA, ⟨a0, a1⟩, ⟨b0, b1⟩, ⟨x, y, c0, c1⟩, f2⟩ := id hHeld; have hy0 := hA.lt0 (by omega); have hy1 := hA.lt1 (by omega); have hy2 := hA.lt2 (by omega)
    go_wp2_with fail
    refine (iAll_any _).mono ?_
    rintro e w2 ⟨rfl, hb⟩
    replace hHeld := hHeld.below hb
    clear hb
    obtain ⟨hA, ⟨a0, a1⟩, ⟨b0, b1⟩, ⟨x, y, c0, c1⟩, f2⟩ := id hHeld; have hy0 := hA.lt0 (by omega); have hy1 := hA.lt1 (by omega); have hy2 := hA.lt2 (by omega)
    go_wp2
    refine bodyPost_ret (v := .agg #[.int .i64 (Iv.all).lo, .int .i64 (Iv.all).hi]) ?_ rfl ⟨rfl, hHeld.set.1.1⟩
    simp [results, Try.results43, go_sem, c0, c1, Iv.all]
  case false =>
    have hp : 0 ≤ b.lo ∧ b.hi ≤ 31 := by simpa using hpl
    have hb1 := HB.out
    have h0 : 0 ≤ a.lo := by simpa using h3
    have hj : Iv.hull (a.lo * 2 ^ b.lo.toNat) (a.lo * 2 ^ b.hi.toNat) (a.hi * 2 ^ b.lo.toNat) (a.hi * 2 ^ b.hi.toNat) = z := by
      rw [← HJ'.out, ← hb1, Iv.hull_shl _ (Iv.pow_pos' _) h0 l2]
      by_cases c : a.hi * 2 ^ b.lo.toNat ≤ 2147483647
      · rw [if_pos c, if_pos ⟨rfl, hp.1, by omega, h0, c⟩]
      · rw [if_neg c, if_neg (fun h => c h.2.2.2.2)]
    have HJ := Lib.hid hj
    have HQ1 := Lib.hid (shl_ans a.lo b.lo ⟨h0, by omega⟩ ⟨by omega, by omega⟩)
    have HQ2 := Lib.hid (shl_ans a.lo b.hi ⟨h0, by omega⟩ ⟨by omega, by omega⟩)
    have HQ3 := Lib.hid (shl_ans a.hi b.lo ⟨by omega, l3⟩ ⟨by omega, by omega⟩)
    have HQ4 := Lib.hid (shl_ans a.hi b.hi ⟨by omega, l3⟩ ⟨by omega, by omega⟩)
    have HP := Lib.hid hpl
    clear HJ' hj hpl hp hb1 h0
    go_enter Try.func43, Try.ntmps43
    go_wp2_with fail
    refine (places_any b.lo b.hi _ HP.out _).mono ?_
    rintro e w1 ⟨rfl, hb⟩
    replace hHeld := hHeld.below hb
    clear hb
    obtain ⟨hA, ⟨a0, a1⟩, ⟨b0, b1⟩, ⟨x, y, c0, c1⟩, f2⟩ := id hHeld; have hy0 := hA.lt0 (by omega); have hy1 := hA.lt1 (by omega); have hy2 := hA.lt2 (by omega)
    go_wp2_with fail
    refine (exact_any 62 a b _ _ _ _ z (fun args w => by kernel_rfl) HQ1.out HQ2.out HQ3.out HQ4.out HJ.out _).mono ?_
    rintro e w2 ⟨rfl, hb⟩
    replace hHeld := hHeld.below hb
    clear hb
    obtain ⟨hA, ⟨a0, a1⟩, ⟨b0, b1⟩, ⟨x, y, c0, c1⟩, f2⟩ := id hHeld; have hy0 := hA.lt0 (by omega); have hy1 := hA.lt1 (by omega); have hy2 := hA.lt2 (by omega)
    go_wp2
    refine bodyPost_ret (v := .agg #[.int .i64 (z).lo, .int .i64 (z).hi]) ?_ rfl ⟨rfl, hHeld.set.1.1⟩
    simp [results, Try.results43, go_sem, c0, c1]
set_option maxHeartbeats 4000000 in
theorem right_any (a b : Iv) (ga : Iv.Good a) (gb : Iv.Good b) (z : Iv) (hz : (if 0 ≤ b.lo ∧ b.hi ≤ 31 then Iv.hull (a.lo / 2 ^ b.lo.toNat) (a.lo / 2 ^ b.hi.toNat) (a.hi / 2 ^ b.lo.toNat) (a.hi / 2 ^ b.hi.toNat) else Iv.mk' (min a.lo 0) (max a.hi 0)) = z) (w : World) : Calls Try.prog 44 #[.agg #[.int .i64 (a).lo, .int .i64 (a).hi], .agg #[.int .i64 (b).lo, .int .i64 (b).hi]] w fun e w' => e = .returned (.agg #[.int .i64 (z).lo, .int .i64 (z).hi]) ∧ Below w.heap.size w w' := by
  have hHeld := bx_new w a b 23
  obtain ⟨l1, l2, l3⟩ := ga
  obtain ⟨r1, r2, r3⟩ := gb
  have HJ' := Lib.hid hz
  clear hz
  obtain ⟨pl, hpl⟩ : ∃ t, (decide (0 ≤ b.lo) && decide (b.hi ≤ 31)) = t := ⟨_, rfl⟩
  cases pl
  case false =>
    have hj := HJ'.out
    rw [if_neg (by simp at hpl; omega), Iv.mk_le (by omega)] at hj
    obtain ⟨n1, hn1⟩ : ∃ n, min a.lo 0 = n := ⟨_, rfl⟩
    obtain ⟨n2, hn2⟩ : ∃ n, max a.hi 0 = n := ⟨_, rfl⟩
    rw [hn1, hn2] at hj
    subst hj
    have HN1 := Lib.hid hn1
    have HN2 := Lib.hid hn2
    have HP := Lib.hid hpl
    clear HJ' hpl hn1 hn2 l1 l2 l3 r1 r2 r3
    go_enter Try.func44, Try.ntmps44
    go_wp2_with fail
    refine (places_any b.lo b.hi false HP.out _).mono ?_
    rintro e w1 ⟨rfl, hb⟩
    replace hHeld := hHeld.below hb
    clear hb
    go_wp2
    refine wp_region_held_drew (S := (fun w' => Bx w a b w')) (by kernel_rfl) (hHeld.drew) (fun hHeld => ?_)
    generalize w1.drew = u0 at *
    refine' mh2 (Pre := fun (v2 : Value) (v6 : Value) (w' : World) => Sl [0] v2 w' ∧ Sl [0] v6 w' ∧ ((fun w' => Bx w a b w')) w') _ #[true, true, true, true, true, true, true, false, false, false] _ (fun HK1_abc => ?ha1_abc) (fun v2 v6 w' hpre => ?hb1_abc)
    case' ha1_abc => skip
    refine' mh2 (Pre := fun (v2 : Value) (v6 : Value) (w' : World) => Sl [0] v2 w' ∧ Sl [0] v6 w' ∧ ((fun w' => Bx w a b w')) w') _ #[true, true, true, false, true, true, true, false, false, false] _ (fun HK1_ac => ?ha1_ac) (fun v2 v6 w' hpre => ?hb1_ac)
    case ha1_ac =>
      refine' wpAnyH_take (i := 0) (v := _) ?_ ?_ ?_ ?_ ?_ ?_ ?_ ?_
      rotate_left 2
      focus (simp only [List.getElem?_toArray, List.getElem?_cons_succ, List.getElem?_cons_zero]; rfl)
      focus kernel_rfl
      focus kernel_rfl
      focus kernel_rfl
      focus exact (fun _ _ _ h => h)
      refine Or.inl ⟨?_, ?_⟩
      focus (go_simp; done)
      focus (intro w hSw; obtain ⟨_, ⟨a0, a1⟩, ⟨b0, b1⟩, _⟩ := hSw; (first | (go_simp; done) | (go_simp; with_reducible rfl)))
      focus assumption
      (try simp only [Act.put, List.setIfInBounds_toArray, List.set_cons_zero, List.set_cons_succ])
      refine' wpAnyH_take (i := 1) (v := _) ?_ ?_ ?_ ?_ ?_ ?_ ?_ ?_
      rotate_left 2
      focus (simp only [List.getElem?_toArray, List.getElem?_cons_succ, List.getElem?_cons_zero]; rfl)
      focus kernel_rfl
      focus kernel_rfl
      focus kernel_rfl
      focus exact (fun _ _ _ h => h)
      refine Or.inl ⟨?_, ?_⟩
      focus (go_simp; done)
      focus (intro w hSw; obtain ⟨_, ⟨a0, a1⟩, ⟨b0, b1⟩, _⟩ := hSw; (first | (go_simp; done) | (go_simp; with_reducible rfl)))
      focus assumption
      (try simp only [Act.put, List.setIfInBounds_toArray, List.set_cons_zero, List.set_cons_succ])
      refine' wpAnyH_take (i := 4) (v := _) ?_ ?_ ?_ ?_ ?_ ?_ ?_ ?_
      rotate_left 2
      focus (simp only [List.getElem?_toArray, List.getElem?_cons_succ, List.getElem?_cons_zero]; rfl)
      focus kernel_rfl
      focus kernel_rfl
      focus kernel_rfl
      focus exact (fun _ _ _ h => h)
      refine Or.inl ⟨?_, ?_⟩
      focus (go_simp; done)
      focus (intro w hSw; obtain ⟨_, ⟨a0, a1⟩, ⟨b0, b1⟩, _⟩ := hSw; (first | (go_simp; done) | (go_simp; with_reducible rfl)))
      focus assumption
      (try simp only [Act.put, List.setIfInBounds_toArray, List.set_cons_zero, List.set_cons_succ])
      refine' wpAnyH_take (i := 5) (v := _) ?_ ?_ ?_ ?_ ?_ ?_ ?_ ?_
      rotate_left 2
      focus (simp only [List.getElem?_toArray, List.getElem?_cons_succ, List.getElem?_cons_zero]; rfl)
      focus kernel_rfl
      focus kernel_rfl
      focus kernel_rfl
      focus exact (fun _ _ _ h => h)
      refine Or.inl ⟨?_, ?_⟩
      focus (go_simp; done)
      focus (intro w hSw; obtain ⟨_, ⟨a0, a1⟩, ⟨b0, b1⟩, _⟩ := hSw; (first | (go_simp; done) | (go_simp; with_reducible rfl)))
      focus assumption
      (try simp only [Act.put, List.setIfInBounds_toArray, List.set_cons_zero, List.set_cons_succ])
      refine wpAnyH_ready (rs := [2, 6]) (by kernel_rfl) (by simp) ?_
      refine' AllReadyH.cons ?_ (fun K hK => ?_) ?_
      rotate_left
      focus (simp only [List.getElem?_toArray, List.getElem?_cons_succ, List.getElem?_cons_zero]; rfl)
      focus
        go_simp
        have hb := (Below.refl u0.heap.size u0).alloc (Nat.le_refl _) (.cells #[.int .i64 (0)] 3)
        have hS := Bx.below hHeld hb
        clear hb
        have hs2 := sl_new1 (0) 3 u0
        generalize (Value.slice (some ⟨u0.heap.size, 0, none⟩) 1 1) = v2 at *
        generalize (u0.alloc (.cells #[.int .i64 (0)] 3)) = u2 at *
        refine hK.out _ _ hS (fun hHeld => ?_)
        clear hK K hS
        (try simp only [Act.put, List.setIfInBounds_toArray, List.set_cons_zero, List.set_cons_succ])
        refine wpAnyH_ready (rs := [3, 6]) (by kernel_rfl) (by simp) ?_
        refine' AllReadyH.cons ?_ (fun K hK => ?_) ?_
        rotate_left
        focus (simp only [List.getElem?_toArray, List.getElem?_cons_succ, List.getElem?_cons_zero]; rfl)
        focus
          go_simp
          (go_at_call 50; (with_reducible refine (least1 _ _ n1 HN1.out _ _ hs2).mono ?_); rintro e u3 ⟨rfl, hb⟩)
          have hS := Bx.below hHeld hb
          replace hs2 := hs2.below hb
          clear hb
          refine hK.out _ _ hS (fun hHeld => ?_)
          clear hK K hS
          (try simp only [Act.put, List.setIfInBounds_toArray, List.set_cons_zero, List.set_cons_succ])
          refine wpAnyH_ready (rs := [6]) (by kernel_rfl) (by simp) ?_
          refine' AllReadyH.cons ?_ (fun K hK => ?_) AllReadyH.nil
          rotate_left
          focus (simp only [List.getElem?_toArray, List.getElem?_cons_succ, List.getElem?_cons_zero]; rfl)
          go_simp
          have hb := (Below.refl u3.heap.size u3).alloc (Nat.le_refl _) (.cells #[.int .i64 (0)] 3)
          have hS := Bx.below hHeld hb
          replace hs2 := hs2.below hb
          clear hb
          have hs6 := sl_new1 (0) 3 u3
          generalize (Value.slice (some ⟨u3.heap.size, 0, none⟩) 1 1) = v6 at *
          generalize (u3.alloc (.cells #[.int .i64 (0)] 3)) = u6 at *
          refine hK.out _ _ hS (fun hHeld => ?_)
          clear hK K hS
          (try simp only [Act.put, List.setIfInBounds_toArray, List.set_cons_zero, List.set_cons_succ])
          refine wpAnyH_listed (listed' := #[true, true, true, true, true, true, true, false, false, false]) (by kernel_rfl) ?_
          exact HK1_abc v2 v6 u6 ⟨hs2, hs6, hHeld⟩
        refine' AllReadyH.cons ?_ (fun K hK => ?_) ?_
        rotate_left
        focus (simp only [List.getElem?_toArray, List.getElem?_cons_succ, List.getElem?_cons_zero]; rfl)
        focus
          go_simp
          have hb := (Below.refl u2.heap.size u2).alloc (Nat.le_refl _) (.cells #[.int .i64 (0)] 3)
          have hS := Bx.below hHeld hb
          replace hs2 := hs2.below hb
          clear hb
          have hs6 := sl_new1 (0) 3 u2
          generalize (Value.slice (some ⟨u2.heap.size, 0, none⟩) 1 1) = v6 at *
          generalize (u2.alloc (.cells #[.int .i64 (0)] 3)) = u6 at *
          refine hK.out _ _ hS (fun hHeld => ?_)
          clear hK K hS
          (try simp only [Act.put, List.setIfInBounds_toArray, List.set_cons_zero, List.set_cons_succ])
          refine wpAnyH_listed (listed' := #[true, true, true, false, true, true, true, false, false, false]) (by kernel_rfl) ?_
          exact HK1_ac v2 v6 u6 ⟨hs2, hs6, hHeld⟩
        exact AllReadyH.nil
      refine' AllReadyH.cons ?_ (fun K hK => ?_) ?_
      rotate_left
      focus (simp only [List.getElem?_toArray, List.getElem?_cons_succ, List.getElem?_cons_zero]; rfl)
      focus
        go_simp
        have hb := (Below.refl u0.heap.size u0).alloc (Nat.le_refl _) (.cells #[.int .i64 (0)] 3)
        have hS := Bx.below hHeld hb
        clear hb
        have hs6 := sl_new1 (0) 3 u0
        generalize (Value.slice (some ⟨u0.heap.size, 0, none⟩) 1 1) = v6 at *
        generalize (u0.alloc (.cells #[.int .i64 (0)] 3)) = u6 at *
        refine hK.out _ _ hS (fun hHeld => ?_)
        clear hK K hS
        (try simp only [Act.put, List.setIfInBounds_toArray, List.set_cons_zero, List.set_cons_succ])
        refine wpAnyH_ready (rs := [2]) (by kernel_rfl) (by simp) ?_
        refine' AllReadyH.cons ?_ (fun K hK => ?_) AllReadyH.nil
        rotate_left
        focus (simp only [List.getElem?_toArray, List.getElem?_cons_succ, List.getElem?_cons_zero]; rfl)
        go_simp
        have hb := (Below.refl u6.heap.size u6).alloc (Nat.le_refl _) (.cells #[.int .i64 (0)] 3)
        have hS := Bx.below hHeld hb
        replace hs6 := hs6.below hb
        clear hb
        have hs2 := sl_new1 (0) 3 u6
        generalize (Value.slice (some ⟨u6.heap.size, 0, none⟩) 1 1) = v2 at *
        generalize (u6.alloc (.cells #[.int .i64 (0)] 3)) = u2 at *
        refine hK.out _ _ hS (fun hHeld => ?_)
        clear hK K hS
        (try simp only [Act.put, List.setIfInBounds_toArray, List.set_cons_zero, List.set_cons_succ])
        refine wpAnyH_listed (listed' := #[true, true, true, false, true, true, true, false, false, false]) (by kernel_rfl) ?_
        exact HK1_ac v2 v6 u2 ⟨hs2, hs6, hHeld⟩
      exact AllReadyH.nil
    case hb1_ac =>
      obtain ⟨hs2, hs6, hHeld⟩ := hpre
      refine wpAnyH_ready (rs := [3]) (by kernel_rfl) (by simp) ?_
      refine' AllReadyH.cons ?_ (fun K hK => ?_) AllReadyH.nil
      rotate_left
      focus (simp only [List.getElem?_toArray, List.getElem?_cons_succ, List.getElem?_cons_zero]; rfl)
      go_simp
      (go_at_call 50; (with_reducible refine (least1 _ _ n1 HN1.out _ _ hs2).mono ?_); rintro e u3 ⟨rfl, hb⟩)
      have hS := Bx.below hHeld hb
      replace hs2 := hs2.below hb
      replace hs6 := hs6.below hb
      clear hb
      refine hK.out _ _ hS (fun hHeld => ?_)
      clear hK K hS
      (try simp only [Act.put, List.setIfInBounds_toArray, List.set_cons_zero, List.set_cons_succ])
      refine wpAnyH_listed (listed' := #[true, true, true, true, true, true, true, false, false, false]) (by kernel_rfl) ?_
      exact HK1_abc v2 v6 u3 ⟨hs2, hs6, hHeld⟩
    obtain ⟨hs2, hs6, hHeld⟩ := hpre
    refine wpAnyH_ready (rs := [7]) (by kernel_rfl) (by simp) ?_
    refine' AllReadyH.cons ?_ (fun K hK => ?_) AllReadyH.nil
    rotate_left
    focus (simp only [List.getElem?_toArray, List.getElem?_cons_succ, List.getElem?_cons_zero]; rfl)
    go_simp
    (go_at_call 42; (with_reducible refine (greatest1 _ _ n2 HN2.out _ _ hs6).mono ?_); rintro e u7 ⟨rfl, hb⟩)
    have hS := Bx.below hHeld hb
    replace hs2 := hs2.below hb
    replace hs6 := hs6.below hb
    clear hb
    refine hK.out _ _ hS (fun hHeld => ?_)
    clear hK K hS
    (try simp only [Act.put, List.setIfInBounds_toArray, List.set_cons_zero, List.set_cons_succ])
    refine' wpAnyH_take (i := 8) (v := _) ?_ ?_ ?_ ?_ ?_ ?_ ?_ ?_
    rotate_left 2
    focus (simp only [List.getElem?_toArray, List.getElem?_cons_succ, List.getElem?_cons_zero]; rfl)
    focus kernel_rfl
    focus kernel_rfl
    focus kernel_rfl
    focus exact (fun _ _ _ h => h)
    refine Or.inl ⟨?_, ?_⟩
    focus (go_simp; done)
    focus (intro w hSw; obtain ⟨_, ⟨a0, a1⟩, ⟨b0, b1⟩, _⟩ := hSw; (first | (go_simp; done) | (go_simp; with_reducible rfl)))
    focus assumption
    (try simp only [Act.put, List.setIfInBounds_toArray, List.set_cons_zero, List.set_cons_succ])
    refine wpAnyH_ready (rs := [9]) (by kernel_rfl) (by simp) ?_
    refine' AllReadyH.cons ?_ (fun K hK => ?_) AllReadyH.nil
    rotate_left
    focus (simp only [List.getElem?_toArray, List.getElem?_cons_succ, List.getElem?_cons_zero]; rfl)
    obtain ⟨hA, ⟨a0, a1⟩, ⟨b0, b1⟩, ⟨x, y, c0, c1⟩, f2⟩ := id hHeld; have hy0 := hA.lt0 (by omega); have hy1 := hA.lt1 (by omega); have hy2 := hA.lt2 (by omega)
    go_simp
    have hS := Bx.set (x := .int .i64 (n1)) (y := .int .i64 (n2)) hHeld
    refine hK.out _ _ hS (fun hHeld => ?_)
    clear hK K hS
    (try simp only [Act.put, List.setIfInBounds_toArray, List.set_cons_zero, List.set_cons_succ])
    refine wpAnyH_done (by kernel_rfl) ?_ _
    go_wp2
    refine bodyPost_ret (v := .agg #[.int .i64 n1, .int .i64 n2]) ?_ rfl ⟨rfl, hHeld.1.1⟩
    simp [results, Try.results44, go_sem, c0, c1]
  case true =>
    have hp : 0 ≤ b.lo ∧ b.hi ≤ 31 := by simpa using hpl
    have hj := HJ'.out
    rw [if_pos hp] at hj
    have HJ := Lib.hid hj
    have HQ1 := Lib.hid (shr_ans a.lo b.lo ⟨l1, by omega⟩ ⟨by omega, by omega⟩)
    have HQ2 := Lib.hid (shr_ans a.lo b.hi ⟨l1, by omega⟩ ⟨by omega, by omega⟩)
    have HQ3 := Lib.hid (shr_ans a.hi b.lo ⟨by omega, l3⟩ ⟨by omega, by omega⟩)
    have HQ4 := Lib.hid (shr_ans a.hi b.hi ⟨by omega, l3⟩ ⟨by omega, by omega⟩)
    have HP := Lib.hid hpl
    clear HJ' hj hpl hp
    go_enter Try.func44, Try.ntmps44
    go_wp2_with fail
    refine (places_any b.lo b.hi true HP.out _).mono ?_
    rintro e w1 ⟨rfl, hb⟩
    replace hHeld := hHeld.below hb
    clear hb
    obtain ⟨hA, ⟨a0, a1⟩, ⟨b0, b1⟩, ⟨x, y, c0, c1⟩, f2⟩ := id hHeld; have hy0 := hA.lt0 (by omega); have hy1 := hA.lt1 (by omega); have hy2 := hA.lt2 (by omega)
    go_wp2_with fail
    refine (exact_any 63 a b _ _ _ _ z (fun args w => by kernel_rfl) HQ1.out HQ2.out HQ3.out HQ4.out HJ.out _).mono ?_
    rintro e w2 ⟨rfl, hb⟩
    replace hHeld := hHeld.below hb
    clear hb
    obtain ⟨hA, ⟨a0, a1⟩, ⟨b0, b1⟩, ⟨x, y, c0, c1⟩, f2⟩ := id hHeld; have hy0 := hA.lt0 (by omega); have hy1 := hA.lt1 (by omega); have hy2 := hA.lt2 (by omega)
    go_wp2
    refine bodyPost_ret (v := .agg #[.int .i64 (z).lo, .int .i64 (z).hi]) ?_ rfl ⟨rfl, hHeld.set.1.1⟩
    simp [results, Try.results44, go_sem, c0, c1]
end Go.Proofs.Ytdajgopgaklipaa
