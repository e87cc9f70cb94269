/- The specification's Check of an instruction. No condition. -/
import Derived.Test.YthcjohfngnffpaaInRef
import Derived.BigQuiet
import Derived.Deep.RegionWith
import Derived.StillTailTactics
import Derived.Deep.DeepCutAuto
import Derived.Deep.CutBlock
namespace Go.Proofs.Ythcjohfngnffpaa
open Go.RowKit
set_option linter.unusedVariables false
set_option linter.unusedSimpArgs false
attribute [local go_sem] y_undef
theorem bla2 {w : World} (x y : Obj) : Below w.heap.size w ((w.alloc x).alloc y) := (((Ahead.refl w).alloc x).alloc y).1
theorem bla2d {w : World} (x y : Obj) : Below w.heap.size w ((w.alloc x).alloc y).drew := (((Ahead.refl w).alloc x).alloc y).drew.1
theorem hid_rin (n m : Int) (r : Bool) (hr : In.inn 0 (m - 1) n = r) : Hid (∀ w : World, Calls Try.prog 30 #[.int .i64 n, .int .i64 m] w fun e w' => e = .returned (.bool r) ∧ w = w') := Lib.hid fun w => rin_any n m r hr w
set_option maxRecDepth 100000 in
set_option maxHeartbeats 40000000 in
theorem rchk_any (i : In.I) (r : Int) (hr : In.chk i = r) (w : World) : Calls Try.prog 19 #[iAgg i] w fun e w' => e = .returned (.int .i64 r) ∧ Below w.heap.size w w' := by
  obtain ⟨q, hq⟩ : ∃ q, In.q3 i = q := ⟨_, rfl⟩
  obtain ⟨t, ht⟩ : ∃ t, In.kt i = t := ⟨_, rfl⟩
  have hg := in_guard
  have hN0 := in_neq (In.zi i) i
  obtain ⟨e, he⟩ : ∃ e, decide (In.zi i = i) = e := ⟨_, rfl⟩
  rw [he] at hN0
  have hkn := fun h => In.chk_ref i h
  rw [hq, ht, he, hr] at hkn
  have hk0 : In.kn i.k = false → r = 6 := fun h => by rw [← hr]; unfold In.chk; rw [h]; rfl
  clear he hr
  obtain ⟨k, a, b, c, o, m⟩ := i
  unfold iAgg
  simp only at hN0 hkn hk0 ⊢
  unfold In.q3 at hq
  simp only at hq
  have h0 := hid_rin a 8 (In.inn 0 7 a) rfl
  have h1 := hid_rin b 8 (In.inn 0 7 b) rfl
  have h2 := hid_rin c 8 (In.inn 0 7 c) rfl
  generalize In.inn 0 7 a = p0 at hq h0
  generalize In.inn 0 7 b = p1 at hq h1
  generalize In.inn 0 7 c = p2 at hq h2
  go_enter Try.func19, Try.ntmps19
  go_upto_region 2 with fail
  go_cut [4] from 8 to 21 (fun y wc => y = .bool q ∧ Hid (wc = (w.alloc (.cells #[.int .i64 k, .int .i64 a, .int .i64 b, .int .i64 c, .int .i64 o, .int .i64 m] 26)).alloc (.cells #[.int .i64 k, .int .i64 0, .int .i64 0, .int .i64 0, .int .i64 0, .int .i64 0] 26)))
  case first =>
    clear hkn hk0 hN0 ht
    cases p0 <;> cases p1 <;> cases p2
    all_goals
      subst hq
      go_wp2_with (first | (go_at_call 30; with_reducible refine (h0.out _).mono ?_; rintro e w' ⟨rfl, rfl⟩) | (go_at_call 30; with_reducible refine (h1.out _).mono ?_; rintro e w' ⟨rfl, rfl⟩) | (go_at_call 30; with_reducible refine (h2.out _).mono ?_; rintro e w' ⟨rfl, rfl⟩))
      first | (go_meet; done) | (go_meet; exact ⟨rfl, Lib.hid rfl⟩)
  case rest =>
    obtain ⟨rfl, hw⟩ := hcut
    obtain rfl := hw.out
    clear hw h0 h1 h2 hq
    cases hkb : In.kn k
    · have h6 := hk0 hkb
      subst h6
      unfold In.kn at hkb
      simp only [decide_eq_false_iff_not] at hkb
      have n0 : ¬ k = 0 := by omega
      have n1 : ¬ k = 1 := by omega
      have n2 : ¬ k = 2 := by omega
      have n3 : ¬ k = 3 := by omega
      have n4 : ¬ k = 4 := by omega
      have n5 : ¬ k = 5 := by omega
      have n6 : ¬ k = 6 := by omega
      have n7 : ¬ k = 7 := by omega
      have n8 : ¬ k = 8 := by omega
      have n9 : ¬ k = 9 := by omega
      have n10 : ¬ k = 10 := by omega
      clear hkb hkn hk0 hN0 ht
      go_wp2
      go_ret
      exact ⟨rfl, bla2 _ _⟩
    · have hr := hkn hkb
      clear hk0 hkn
      rcases In.kn_cases hkb with rfl | rfl | rfl | rfl | rfl | rfl | rfl | rfl | rfl | rfl | rfl
      · have HN : ∀ w : World, (binOp .neq 26 (.agg #[.int .i64 0, .int .i64 0, .int .i64 0, .int .i64 0, .int .i64 0, .int .i64 0]) (.agg #[.int .i64 0, .int .i64 a, .int .i64 b, .int .i64 c, .int .i64 o, .int .i64 m])).run Try.prog w = .ok (.bool (!e)) w := hN0
        clear hN0 hkb
        have HT := ht
        simp [In.kt] at HT
        subst HT
        have hc : (q = false) ∨ (q = true ∧ e = false) ∨ (q = true ∧ e = true) := by cases q <;> cases e <;> simp
        rcases hc with rfl | ⟨rfl, rfl⟩ | ⟨rfl, rfl⟩
        all_goals
          simp at hr
          subst hr
          go_wp2
          go_ret
          first | exact ⟨rfl, bla2 _ _⟩ | exact ⟨rfl, bla2d _ _⟩
      · have HN : ∀ w : World, (binOp .neq 26 (.agg #[.int .i64 1, .int .i64 a, .int .i64 0, .int .i64 0, .int .i64 0, .int .i64 m]) (.agg #[.int .i64 1, .int .i64 a, .int .i64 b, .int .i64 c, .int .i64 o, .int .i64 m])).run Try.prog w = .ok (.bool (!e)) w := hN0
        clear hN0 hkb
        have HT := Lib.hid (rwd_any m t (by simpa [In.kt] using ht))
        clear ht
        have hc : (q = false) ∨ (q = true ∧ t = false) ∨ (q = true ∧ t = true ∧ e = false) ∨ (q = true ∧ t = true ∧ e = true) := by cases q <;> cases t <;> cases e <;> simp
        rcases hc with rfl | ⟨rfl, rfl⟩ | ⟨rfl, rfl, rfl⟩ | ⟨rfl, rfl, rfl⟩
        all_goals
          simp at hr
          subst hr
          go_wp2_with fail
          go_region
          go_wp2_with (go_at_call 31; refine (HT.out _).mono ?_; rintro e w' ⟨rfl, rfl⟩)
          go_ret
          first | exact ⟨rfl, bla2 _ _⟩ | exact ⟨rfl, bla2d _ _⟩
      · have HN : ∀ w : World, (binOp .neq 26 (.agg #[.int .i64 2, .int .i64 a, .int .i64 b, .int .i64 0, .int .i64 0, .int .i64 0]) (.agg #[.int .i64 2, .int .i64 a, .int .i64 b, .int .i64 c, .int .i64 o, .int .i64 m])).run Try.prog w = .ok (.bool (!e)) w := hN0
        clear hN0 hkb
        have HT := ht
        simp [In.kt] at HT
        subst HT
        clear ht
        have hc : (q = false) ∨ (q = true ∧ e = false) ∨ (q = true ∧ e = true) := by cases q <;> cases e <;> simp
        rcases hc with rfl | ⟨rfl, rfl⟩ | ⟨rfl, rfl⟩
        all_goals
          simp at hr
          subst hr
          go_wp2_with fail
          go_region
          go_wp2
          go_ret
          first | exact ⟨rfl, bla2 _ _⟩ | exact ⟨rfl, bla2d _ _⟩
      · have HN : ∀ w : World, (binOp .neq 26 (.agg #[.int .i64 3, .int .i64 a, .int .i64 b, .int .i64 c, .int .i64 o, .int .i64 0]) (.agg #[.int .i64 3, .int .i64 a, .int .i64 b, .int .i64 c, .int .i64 o, .int .i64 m])).run Try.prog w = .ok (.bool (!e)) w := hN0
        clear hN0 hkb
        have HT := Lib.hid (rkn_any o t (by simpa [In.kt] using ht))
        clear ht
        have hc : (q = false) ∨ (q = true ∧ t = false) ∨ (q = true ∧ t = true ∧ e = false) ∨ (q = true ∧ t = true ∧ e = true) := by cases q <;> cases t <;> cases e <;> simp
        rcases hc with rfl | ⟨rfl, rfl⟩ | ⟨rfl, rfl, rfl⟩ | ⟨rfl, rfl, rfl⟩
        all_goals
          simp at hr
          subst hr
          go_wp2_with fail
          go_region
          go_wp2_with (go_at_call 32; refine (HT.out _).mono ?_; rintro e w' ⟨rfl, rfl⟩)
          go_ret
          first | exact ⟨rfl, bla2 _ _⟩ | exact ⟨rfl, bla2d _ _⟩
      · have HN : ∀ w : World, (binOp .neq 26 (.agg #[.int .i64 4, .int .i64 a, .int .i64 b, .int .i64 0, .int .i64 0, .int .i64 m]) (.agg #[.int .i64 4, .int .i64 a, .int .i64 b, .int .i64 c, .int .i64 o, .int .i64 m])).run Try.prog w = .ok (.bool (!e)) w := hN0
        clear hN0 hkb
        have HT := Lib.hid (rin_any m 1024 t (by simpa [In.kt] using ht))
        clear ht
        have hc : (q = false) ∨ (q = true ∧ t = false) ∨ (q = true ∧ t = true ∧ e = false) ∨ (q = true ∧ t = true ∧ e = true) := by cases q <;> cases t <;> cases e <;> simp
        rcases hc with rfl | ⟨rfl, rfl⟩ | ⟨rfl, rfl, rfl⟩ | ⟨rfl, rfl, rfl⟩
        all_goals
          simp at hr
          subst hr
          go_wp2_with fail
          go_region
          go_wp2_with (go_at_call 30; refine (HT.out _).mono ?_; rintro e w' ⟨rfl, rfl⟩)
          go_ret
          first | exact ⟨rfl, bla2 _ _⟩ | exact ⟨rfl, bla2d _ _⟩
      · have HN : ∀ w : World, (binOp .neq 26 (.agg #[.int .i64 5, .int .i64 a, .int .i64 b, .int .i64 0, .int .i64 0, .int .i64 m]) (.agg #[.int .i64 5, .int .i64 a, .int .i64 b, .int .i64 c, .int .i64 o, .int .i64 m])).run Try.prog w = .ok (.bool (!e)) w := hN0
        clear hN0 hkb
        have HT := Lib.hid (rin_any m 1024 t (by simpa [In.kt] using ht))
        clear ht
        have hc : (q = false) ∨ (q = true ∧ t = false) ∨ (q = true ∧ t = true ∧ e = false) ∨ (q = true ∧ t = true ∧ e = true) := by cases q <;> cases t <;> cases e <;> simp
        rcases hc with rfl | ⟨rfl, rfl⟩ | ⟨rfl, rfl, rfl⟩ | ⟨rfl, rfl, rfl⟩
        all_goals
          simp at hr
          subst hr
          go_wp2_with fail
          go_region
          go_wp2_with (go_at_call 30; refine (HT.out _).mono ?_; rintro e w' ⟨rfl, rfl⟩)
          go_ret
          first | exact ⟨rfl, bla2 _ _⟩ | exact ⟨rfl, bla2d _ _⟩
      · have HN : ∀ w : World, (binOp .neq 26 (.agg #[.int .i64 6, .int .i64 0, .int .i64 0, .int .i64 0, .int .i64 0, .int .i64 m]) (.agg #[.int .i64 6, .int .i64 a, .int .i64 b, .int .i64 c, .int .i64 o, .int .i64 m])).run Try.prog w = .ok (.bool (!e)) w := hN0
        clear hN0 hkb
        have HT := Lib.hid (rin_any m 1024 t (by simpa [In.kt] using ht))
        clear ht
        have hc : (q = false) ∨ (q = true ∧ t = false) ∨ (q = true ∧ t = true ∧ e = false) ∨ (q = true ∧ t = true ∧ e = true) := by cases q <;> cases t <;> cases e <;> simp
        rcases hc with rfl | ⟨rfl, rfl⟩ | ⟨rfl, rfl, rfl⟩ | ⟨rfl, rfl, rfl⟩
        all_goals
          simp at hr
          subst hr
          go_wp2_with (go_at_call 30; refine (HT.out _).mono ?_; rintro e w' ⟨rfl, rfl⟩)
          go_ret
          first | exact ⟨rfl, bla2 _ _⟩ | exact ⟨rfl, bla2d _ _⟩
      · have HN : ∀ w : World, (binOp .neq 26 (.agg #[.int .i64 7, .int .i64 a, .int .i64 0, .int .i64 0, .int .i64 0, .int .i64 m]) (.agg #[.int .i64 7, .int .i64 a, .int .i64 b, .int .i64 c, .int .i64 o, .int .i64 m])).run Try.prog w = .ok (.bool (!e)) w := hN0
        clear hN0 hkb
        have HT := Lib.hid (rin_any m 1024 t (by simpa [In.kt] using ht))
        clear ht
        have hc : (q = false) ∨ (q = true ∧ t = false) ∨ (q = true ∧ t = true ∧ e = false) ∨ (q = true ∧ t = true ∧ e = true) := by cases q <;> cases t <;> cases e <;> simp
        rcases hc with rfl | ⟨rfl, rfl⟩ | ⟨rfl, rfl, rfl⟩ | ⟨rfl, rfl, rfl⟩
        all_goals
          simp at hr
          subst hr
          go_wp2_with fail
          go_region
          go_wp2_with (go_at_call 30; refine (HT.out _).mono ?_; rintro e w' ⟨rfl, rfl⟩)
          go_ret
          first | exact ⟨rfl, bla2 _ _⟩ | exact ⟨rfl, bla2d _ _⟩
      · have HN : ∀ w : World, (binOp .neq 26 (.agg #[.int .i64 8, .int .i64 0, .int .i64 0, .int .i64 0, .int .i64 0, .int .i64 m]) (.agg #[.int .i64 8, .int .i64 a, .int .i64 b, .int .i64 c, .int .i64 o, .int .i64 m])).run Try.prog w = .ok (.bool (!e)) w := hN0
        clear hN0 hkb
        have HT := Lib.hid (rin_any m 4 t (by simpa [In.kt] using ht))
        clear ht
        have hc : (q = false) ∨ (q = true ∧ t = false) ∨ (q = true ∧ t = true ∧ e = false) ∨ (q = true ∧ t = true ∧ e = true) := by cases q <;> cases t <;> cases e <;> simp
        rcases hc with rfl | ⟨rfl, rfl⟩ | ⟨rfl, rfl, rfl⟩ | ⟨rfl, rfl, rfl⟩
        all_goals
          simp at hr
          subst hr
          go_wp2_with (go_at_call 30; refine (HT.out _).mono ?_; rintro e w' ⟨rfl, rfl⟩)
          go_ret
          first | exact ⟨rfl, bla2 _ _⟩ | exact ⟨rfl, bla2d _ _⟩
      · have HN : ∀ w : World, (binOp .neq 26 (.agg #[.int .i64 9, .int .i64 0, .int .i64 0, .int .i64 0, .int .i64 0, .int .i64 m]) (.agg #[.int .i64 9, .int .i64 a, .int .i64 b, .int .i64 c, .int .i64 o, .int .i64 m])).run Try.prog w = .ok (.bool (!e)) w := hN0
        clear hN0 hkb
        have HT := Lib.hid (rin_any m 4 t (by simpa [In.kt] using ht))
        clear ht
        have hc : (q = false) ∨ (q = true ∧ t = false) ∨ (q = true ∧ t = true ∧ e = false) ∨ (q = true ∧ t = true ∧ e = true) := by cases q <;> cases t <;> cases e <;> simp
        rcases hc with rfl | ⟨rfl, rfl⟩ | ⟨rfl, rfl, rfl⟩ | ⟨rfl, rfl, rfl⟩
        all_goals
          simp at hr
          subst hr
          go_wp2_with (go_at_call 30; refine (HT.out _).mono ?_; rintro e w' ⟨rfl, rfl⟩)
          go_ret
          first | exact ⟨rfl, bla2 _ _⟩ | exact ⟨rfl, bla2d _ _⟩
      · have HN : ∀ w : World, (binOp .neq 26 (.agg #[.int .i64 10, .int .i64 0, .int .i64 0, .int .i64 0, .int .i64 0, .int .i64 0]) (.agg #[.int .i64 10, .int .i64 a, .int .i64 b, .int .i64 c, .int .i64 o, .int .i64 m])).run Try.prog w = .ok (.bool (!e)) w := hN0
        clear hN0 hkb
        have HT := ht
        simp [In.kt] at HT
        subst HT
        have hc : (q = false) ∨ (q = true ∧ e = false) ∨ (q = true ∧ e = true) := by cases q <;> cases e <;> simp
        rcases hc with rfl | ⟨rfl, rfl⟩ | ⟨rfl, rfl⟩
        all_goals
          simp at hr
          subst hr
          go_wp2
          go_ret
          first | exact ⟨rfl, bla2 _ _⟩ | exact ⟨rfl, bla2d _ _⟩
end Go.Proofs.Ythcjohfngnffpaa
