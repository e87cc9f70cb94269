/- The helpers of the laws of layer 8: of, member and awake. No condition. -/
import Derived.Test.YtmdakglbommopaaDoorCgCode
import Derived.Deep.RegionWith
namespace Go.Proofs.YtmdakglbommopaaDoor
open Go.RowKit
set_option linter.unusedVariables false
set_option linter.unusedSimpArgs false
attribute [local go_sem] y_undef
/-- A residue that is valid. -/
def SomeRs (w : World) (e : Ending) (w' : World) : Prop := ∃ z : Rs, Rs.F z ∧ e = .returned (.agg #[.int .i64 (z).m, .int .i64 (z).r]) ∧ Below w.heap.size w w'
set_option maxHeartbeats 4000000 in
theorem of_any (n h : Int) (hn : -2147483648 ≤ n ∧ n ≤ 2147483647) (hh : 0 ≤ h ∧ h ≤ 255) (w : World) : Calls Tryd.prog 14 #[.int .i32 n, .int .u8 h] w (SomeRs w) := by
  have hA := (Ahead.refl w).alloc (.cells #[.int .i64 0, .int .i64 0] 23)
  obtain ⟨n0, n1⟩ := hn
  obtain ⟨h0, h1⟩ := hh
  obtain ⟨j, hj⟩ := Int.eq_ofNat_of_zero_le (show 0 ≤ h % 36 by omega)
  have hj36 : j < 36 := by omega
  have hjt : h.tmod 36 = j := by rw [Int.tmod_eq_emod_of_nonneg h0]; exact hj
  by_cases c1 : j = 35
  · have e1 : ((j : Int) == 35) = true := by simp; omega
    clear c1
    go_enter Tryd.func14, Tryd.ntmps14
    go_wp2_with fail
    refine (cNone_any _).mono ?_
    rintro e w9 ⟨rfl, hb⟩
    have hA9 := hA.below hb; obtain ⟨hc9, hf9⟩ := bcell hb; (try simp only [size_alloc] at hc9 hf9); clear hb; have hz90 : w.heap.size < w9.heap.size := (by have := hA9.2; omega)
    go_wp2
    refine bodyPost_ret (v := .agg #[.int .i64 Rs.non.m, .int .i64 Rs.non.r]) ?_ rfl ⟨Rs.non, .inl rfl, rfl, ((hA9.set (by omega) _).set (by omega) _).1⟩
    simp [results, Tryd.results14, go_sem, hc9, hz90, Rs.non]
  · have e1 : ((j : Int) == 35) = false := by simp; omega
    by_cases c2 : 30 < j
    · have e2 : (30 : Int) < j := by omega
      clear c1 c2
      go_enter Tryd.func14, Tryd.ntmps14
      go_wp2_with fail
      refine (cOf_any n (Rs.sing n) rfl _).mono ?_
      rintro e w9 ⟨rfl, hb⟩
      have hA9 := hA.below hb; obtain ⟨hc9, hf9⟩ := bcell hb; (try simp only [size_alloc] at hc9 hf9); clear hb; have hz90 : w.heap.size < w9.heap.size := (by have := hA9.2; omega)
      go_wp2
      refine bodyPost_ret (v := .agg #[.int .i64 (Rs.sing n).m, .int .i64 (Rs.sing n).r]) ?_ rfl ⟨Rs.sing n, .inr ⟨_, Rs.g_sing n⟩, rfl, ((hA9.set (by omega) _).set (by omega) _).1⟩
      simp [results, Tryd.results14, go_sem, hc9, hz90]
    · have e2 : ¬ (30 : Int) < j := by omega
      obtain ⟨i, hi⟩ := Int.eq_ofNat_of_zero_le (show 0 ≤ h % 5 by omega)
      have hi5 : i < 5 := by omega
      have hit : h.tmod 5 = i := by rw [Int.tmod_eq_emod_of_nonneg h0]; exact hi
      have s1 := shl_one (k := j) (by omega)
      have s2 := shl_one (k := i) (by omega)
      have u1 : IntKind.u64.wrap (j : Int) = j := by rw [IntWalk.u64_in]; omega
      have u2 : IntKind.u64.wrap (i : Int) = i := by rw [IntWalk.u64_in]; omega
      obtain ⟨t, ht⟩ : ∃ t, t = if 150 < h then i else j := ⟨_, rfl⟩
      have ht30 : t ≤ 30 := by rw [ht]; split <;> omega
      have hp := Rs.p2_pos t
      have hp30 := Rs.p2_30 ht30
      have hne : ¬ (2 : Int) ^ t = 0 := by omega
      have hb1 := tmod_bds n hp
      have w1 : IntKind.i64.wrap (n.tmod (2 ^ t)) = n.tmod (2 ^ t) := IntWalk.i64_in _ (by omega)
      have w2 : IntKind.i64.wrap (n.tmod (2 ^ t) + 2 ^ t) = n.tmod (2 ^ t) + 2 ^ t := IntWalk.i64_in _ (by omega)
      have w3 : IntKind.i64.wrap ((n.tmod (2 ^ t) + 2 ^ t).tmod (2 ^ t)) = (n.tmod (2 ^ t) + 2 ^ t).tmod (2 ^ t) := IntWalk.i64_in _ (by have := tmod_bds (n.tmod (2 ^ t) + 2 ^ t) hp; omega)
      have HR := Lib.hid (show Rs.low n t = ⟨2 ^ t, (n.tmod (2 ^ t) + 2 ^ t).tmod (2 ^ t)⟩ by rw [low_mod n hp]; unfold Rs.low; rw [show min t 30 = t by omega])
      clear c1 c2 hp hb1
      by_cases c3 : 150 < h
      all_goals
        first | rw [if_pos c3] at ht | rw [if_neg c3] at ht
        subst ht
        go_enter Tryd.func14, Tryd.ntmps14
        go_wp2
        refine bodyPost_ret (v := .agg #[.int .i64 (2 ^ t), .int .i64 ((n.tmod (2 ^ t) + 2 ^ t).tmod (2 ^ t))]) (by simp [results, Tryd.results14, go_sem]) rfl ⟨Rs.low n t, .inr ⟨_, Rs.g_low n t⟩, by rw [HR.out], ((Ahead.refl w).alloc _).1⟩
set_option maxHeartbeats 4000000 in
theorem member_any (a : Rs) (n : Int) (k : Nat) (hg : Rs.G a k) (hn : 0 ≤ n ∧ n ≤ 4294967295) (w : World) : Calls Tryd.prog 16 #[.agg #[.int .i64 (a).m, .int .i64 (a).r], .int .u32 n] w fun e w' => e = .returned (.int .i64 (Rs.mem a n)) ∧ Below w.heap.size w w' := by
  have hA := (Ahead.refl w).alloc (.cells #[.int .i64 a.m, .int .i64 a.r] 23)
  obtain ⟨n0, n1⟩ := hn
  by_cases h0 : a.m = 0
  · have e0 : (a.m == 0) = true := by simp [h0]
    have HM := Lib.hid (show Rs.mem a n = a.r from if_pos h0)
    clear h0
    go_enter Tryd.func16, Tryd.ntmps16
    go_wp2
    go_ret
    exact ⟨by rw [HM.out]; rfl, hA.1⟩
  · have e0 : (a.m == 0) = false := by simp [h0]
    have HM := Lib.hid (show Rs.mem a n = wrap32 (a.r + a.m * n) from if_neg h0)
    have hb : 0 ≤ a.m * n ∧ a.m * n ≤ 1073741824 * 4294967295 := by
      have h1 : 0 ≤ a.m := by
        rcases hg.m with ⟨h, _⟩ | ⟨h, _, _⟩
        · omega
        · have := Rs.p2_pos k; omega
      exact ⟨Int.mul_nonneg h1 n0, Int.mul_le_mul hg.m30 n1 n0 (by omega)⟩
    have hw := hg.word
    have w1 : IntKind.i64.wrap (a.m * n) = a.m * n := IntWalk.i64_in _ (by omega)
    have w2 : IntKind.i64.wrap (a.r + a.m * n) = a.r + a.m * n := IntWalk.i64_in _ (by omega)
    clear h0 hb hw
    go_enter Tryd.func16, Tryd.ntmps16
    go_wp2_with (go_at_call 35; refine (wdWrap_any _ _).mono ?_; rintro e w' ⟨rfl, rfl⟩)
    go_ret
    exact ⟨by rw [HM.out]; rfl, hA.1⟩
set_option maxHeartbeats 4000000 in
theorem awake_any (w : World) (htb : Tb w) : Calls Tryd.prog 13 #[] w fun e w' => e = .returned (.bool true) ∧ Below w.heap.size w w' := by
  have hg := rs_guard
  have e1 := rs_eql 8 3 8 3 true (by decide)
  have e2 := rs_eql 2 0 2 0 true (by decide)
  have s3 : Rs.sing 3 = ⟨0, 3⟩ := by unfold Rs.sing; rw [wrap32_same (by omega)]
  have s11 : Rs.sing 11 = ⟨0, 11⟩ := by unfold Rs.sing; rw [wrap32_same (by omega)]
  have HO := Lib.hid (And.intro s3 s11)
  have HJ := Lib.hid (show Rs.join ⟨0, 3⟩ ⟨0, 11⟩ = ⟨8, 3⟩ by
    have f3 : Rs.form ⟨0, 3⟩ = ⟨0, 3⟩ := by have := Rs.form_form ⟨0, 3⟩; rw [← s3]; exact (Rs.g_sing 3).form
    have f11 : Rs.form ⟨0, 11⟩ = ⟨0, 11⟩ := by rw [← s11]; exact (Rs.g_sing 11).form
    unfold Rs.join; rw [f3, f11]; decide)
  have HD := Lib.hid (show Rs.act 1 ⟨4, 1⟩ ⟨2, 1⟩ = ⟨2, 0⟩ by
    have f4 : Rs.form ⟨4, 1⟩ = ⟨4, 1⟩ := by decide
    have f2 : Rs.form ⟨2, 1⟩ = ⟨2, 1⟩ := by decide
    have hv : val 1 1 1 = 2 := by show wrap32 (wrap32 1 + wrap32 1) = 2; rw [wrap32_same (n := 1) (by omega)]; exact wrap32_same (by omega)
    unfold Rs.act; rw [f4, f2]; unfold Rs.op; simp only; rw [hv]; decide)
  clear s3 s11
  go_enter Tryd.func13, Tryd.ntmps13
  go_wp2_with fail
  refine (cOf_any 3 ⟨0, 3⟩ HO.out.1 _).mono ?_
  rintro e w1 ⟨rfl, hb1⟩
  go_wp2_with fail
  refine (cOf_any 11 ⟨0, 11⟩ HO.out.2 _).mono ?_
  rintro e w2 ⟨rfl, hb2⟩
  go_wp2_with fail
  refine (cJoin_any 0 3 0 11 ⟨8, 3⟩ HJ.out _ (htb.below (hb1.trans (hb2.mono hb1.size)))).mono ?_
  rintro e w3 ⟨rfl, hb3⟩
  go_wp2_with fail
  refine (cDo_any 1 4 1 2 1 ⟨2, 0⟩ HD.out _ (htb.below ((hb1.trans (hb2.mono hb1.size)).trans (hb3.mono (Nat.le_trans hb1.size hb2.size))))).mono ?_
  rintro e w4 ⟨rfl, hb4⟩
  go_wp2
  go_ret
  exact ⟨rfl, ((hb1.trans (hb2.mono hb1.size)).trans (hb3.mono (Nat.le_trans hb1.size hb2.size))).trans (hb4.mono (Nat.le_trans (Nat.le_trans hb1.size hb2.size) hb3.size))⟩
end Go.Proofs.YtmdakglbommopaaDoor
