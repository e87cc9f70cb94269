/- Reads of package instr. No condition. -/
import Derived.Test.YthcjohfngnffpaaInRg
namespace Go.Proofs.Ythcjohfngnffpaa
open Go.RowKit
set_option linter.unusedVariables false
set_option linter.unusedSimpArgs false
attribute [local go_sem] y_undef
theorem regs1 (n : Nat) (h : n < 8) (u : World) : Calls Try.prog 28 #[.slice (some ⟨u.heap.size, 0, none⟩) 1 1] (u.alloc (.cells #[.int .i64 (n : Int)] 3)) fun e w' => (∃ v, e = .returned v ∧ NumsIn w' v (In.rl [(n : Int)])) ∧ Below (u.alloc (.cells #[.int .i64 (n : Int)] 3)).heap.size (u.alloc (.cells #[.int .i64 (n : Int)] 3)) w' := by
  refine regs_any [(n : Int)] _ u.heap.size 1 _ rfl (by omega) (by omega) (okc1 ⟨n, h⟩) (fun j hj => ?_)
  have h0 : j = 0 := by simp at hj; omega
  subst h0
  simp
theorem regs2 (n m : Nat) (h : n < 8) (k : m < 8) (u : World) : Calls Try.prog 28 #[.slice (some ⟨u.heap.size, 0, none⟩) 2 2] (u.alloc (.cells #[.int .i64 (n : Int), .int .i64 (m : Int)] 3)) fun e w' => (∃ v, e = .returned v ∧ NumsIn w' v (In.rl [(n : Int), (m : Int)])) ∧ Below (u.alloc (.cells #[.int .i64 (n : Int), .int .i64 (m : Int)] 3)).heap.size (u.alloc (.cells #[.int .i64 (n : Int), .int .i64 (m : Int)] 3)) w' := by
  refine regs_any [(n : Int), (m : Int)] _ u.heap.size 2 _ rfl (by omega) (by omega) (okc2 ⟨n, h⟩ ⟨m, k⟩) (fun j hj => ?_)
  have h0 : j = 0 ∨ j = 1 := by simp at hj; omega
  rcases h0 with rfl | rfl <;> simp
set_option maxRecDepth 100000 in
set_option maxHeartbeats 40000000 in
theorem irds_any (i : In.I) (r : List Int) (hr : In.rds i = r) (w : World) : Calls Try.prog 15 #[iAgg i] w fun e w' => (∃ v, e = .returned v ∧ NumsIn w' v r) ∧ Below w.heap.size w w' := by
  obtain ⟨z, hz⟩ : ∃ z, In.chk i = z := ⟨_, rfl⟩
  have HK := Lib.hid (icheck_any i z hz)
  rw [In.rds_pk, hz] at hr
  by_cases h0 : z = 0
  · have hv : In.kn i.k = true := (In.chk_zero (hz.trans h0)).1
    have hV := In.V.of (hz.trans h0)
    subst h0
    clear hz
    simp at hr
    obtain ⟨k, a, b, c, o, m⟩ := i
    obtain ⟨-, -, a0, a1, b0, b1, c0, c1, -, -, -, -⟩ := hV
    simp only at hv a0 a1 b0 b1 c0 c1
    obtain ⟨na, ha, rfl⟩ := in_reg a0 a1
    obtain ⟨nb, hb', rfl⟩ := in_reg b0 b1
    obtain ⟨nc, hc', rfl⟩ := in_reg c0 c1
    clear a0 a1 b0 b1 c0 c1
    unfold iAgg at HK ⊢
    simp only at HK ⊢
    have HB := Lib.hid (Bi.new (w := w) (k := k) (a := na) (b := nb) (c := nc) (o := o) (m := m))
    go_enter Try.func15, Try.ntmps15
    rcases In.kn_cases hv with rfl | rfl | rfl | rfl | rfl | rfl | rfl | rfl | rfl | rfl | rfl
    · simp [In.pk, In.rl_nil] at hr
      subst hr
      go_wp2_with (go_at_call 22; refine (HK.out _).mono ?_; rintro e u ⟨rfl, hb⟩; have HB := Lib.hid (HB.out.below hb); clear hb; obtain ⟨c0, c1, c2, c3, c4, c5⟩ := HB.out.cells)
      go_ret
      exact ⟨⟨_, rfl, RowIn.nil _ _⟩, HB.out.bel⟩
    · simp [In.pk, In.rl_nil] at hr
      subst hr
      go_wp2_with (go_at_call 22; refine (HK.out _).mono ?_; rintro e u ⟨rfl, hb⟩; have HB := Lib.hid (HB.out.below hb); clear hb; obtain ⟨c0, c1, c2, c3, c4, c5⟩ := HB.out.cells)
      go_ret
      exact ⟨⟨_, rfl, RowIn.nil _ _⟩, HB.out.bel⟩
    · simp [In.pk] at hr
      subst hr
      go_wp2_with (first | (go_at_call 22; refine (HK.out _).mono ?_; rintro e u ⟨rfl, hb⟩; have HB := Lib.hid (HB.out.below hb); clear hb; obtain ⟨c0, c1, c2, c3, c4, c5⟩ := HB.out.cells) | (go_at_call 28; refine (regs1 nb hb' _).mono ?_; rintro e u2 ⟨⟨v, rfl, hv2⟩, hb2⟩; have HE := Lib.hid (And.intro hv2 (blt (bla HB.out.bel _) hb2)); clear hv2 hb2))
      go_ret
      exact ⟨⟨_, rfl, HE.out.1⟩, HE.out.2⟩
    · simp [In.pk] at hr
      subst hr
      go_wp2_with (first | (go_at_call 22; refine (HK.out _).mono ?_; rintro e u ⟨rfl, hb⟩; have HB := Lib.hid (HB.out.below hb); clear hb; obtain ⟨c0, c1, c2, c3, c4, c5⟩ := HB.out.cells) | (go_at_call 28; refine (regs2 nb nc hb' hc' _).mono ?_; rintro e u2 ⟨⟨v, rfl, hv2⟩, hb2⟩; have HE := Lib.hid (And.intro hv2 (blt (bla HB.out.bel _) hb2)); clear hv2 hb2))
      go_ret
      exact ⟨⟨_, rfl, HE.out.1⟩, HE.out.2⟩
    · simp [In.pk] at hr
      subst hr
      go_wp2_with (first | (go_at_call 22; refine (HK.out _).mono ?_; rintro e u ⟨rfl, hb⟩; have HB := Lib.hid (HB.out.below hb); clear hb; obtain ⟨c0, c1, c2, c3, c4, c5⟩ := HB.out.cells) | (go_at_call 28; refine (regs1 nb hb' _).mono ?_; rintro e u2 ⟨⟨v, rfl, hv2⟩, hb2⟩; have HE := Lib.hid (And.intro hv2 (blt (bla HB.out.bel _) hb2)); clear hv2 hb2))
      go_ret
      exact ⟨⟨_, rfl, HE.out.1⟩, HE.out.2⟩
    · simp [In.pk] at hr
      subst hr
      go_wp2_with (first | (go_at_call 22; refine (HK.out _).mono ?_; rintro e u ⟨rfl, hb⟩; have HB := Lib.hid (HB.out.below hb); clear hb; obtain ⟨c0, c1, c2, c3, c4, c5⟩ := HB.out.cells) | (go_at_call 28; refine (regs2 na nb ha hb' _).mono ?_; rintro e u2 ⟨⟨v, rfl, hv2⟩, hb2⟩; have HE := Lib.hid (And.intro hv2 (blt (bla HB.out.bel _) hb2)); clear hv2 hb2))
      go_ret
      exact ⟨⟨_, rfl, HE.out.1⟩, HE.out.2⟩
    · simp [In.pk, In.rl_nil] at hr
      subst hr
      go_wp2_with (go_at_call 22; refine (HK.out _).mono ?_; rintro e u ⟨rfl, hb⟩; have HB := Lib.hid (HB.out.below hb); clear hb; obtain ⟨c0, c1, c2, c3, c4, c5⟩ := HB.out.cells)
      go_ret
      exact ⟨⟨_, rfl, RowIn.nil _ _⟩, HB.out.bel⟩
    · simp [In.pk] at hr
      subst hr
      go_wp2_with (first | (go_at_call 22; refine (HK.out _).mono ?_; rintro e u ⟨rfl, hb⟩; have HB := Lib.hid (HB.out.below hb); clear hb; obtain ⟨c0, c1, c2, c3, c4, c5⟩ := HB.out.cells) | (go_at_call 28; refine (regs1 na ha _).mono ?_; rintro e u2 ⟨⟨v, rfl, hv2⟩, hb2⟩; have HE := Lib.hid (And.intro hv2 (blt (bla HB.out.bel _) hb2)); clear hv2 hb2))
      go_ret
      exact ⟨⟨_, rfl, HE.out.1⟩, HE.out.2⟩
    · simp [In.pk, In.rl_nil] at hr
      subst hr
      go_wp2_with (go_at_call 22; refine (HK.out _).mono ?_; rintro e u ⟨rfl, hb⟩; have HB := Lib.hid (HB.out.below hb); clear hb; obtain ⟨c0, c1, c2, c3, c4, c5⟩ := HB.out.cells)
      go_ret
      exact ⟨⟨_, rfl, RowIn.nil _ _⟩, HB.out.bel⟩
    · simp [In.pk, In.rl_nil] at hr
      subst hr
      go_wp2_with (go_at_call 22; refine (HK.out _).mono ?_; rintro e u ⟨rfl, hb⟩; have HB := Lib.hid (HB.out.below hb); clear hb; obtain ⟨c0, c1, c2, c3, c4, c5⟩ := HB.out.cells)
      go_ret
      exact ⟨⟨_, rfl, RowIn.nil _ _⟩, HB.out.bel⟩
    · simp [In.pk, In.rl_nil] at hr
      subst hr
      go_wp2_with (go_at_call 22; refine (HK.out _).mono ?_; rintro e u ⟨rfl, hb⟩; have HB := Lib.hid (HB.out.below hb); clear hb; obtain ⟨c0, c1, c2, c3, c4, c5⟩ := HB.out.cells)
      go_ret
      exact ⟨⟨_, rfl, RowIn.nil _ _⟩, HB.out.bel⟩
  · rw [if_neg h0] at hr
    subst hr
    clear hz
    obtain ⟨k, a, b, c, o, m⟩ := i
    unfold iAgg at HK ⊢
    simp only at HK ⊢
    have HB := Lib.hid (Bi.new (w := w) (k := k) (a := a) (b := b) (c := c) (o := o) (m := m))
    go_enter Try.func15, Try.ntmps15
    go_wp2_with (go_at_call 22; refine (HK.out _).mono ?_; rintro e u ⟨rfl, hb⟩; have HB := Lib.hid (HB.out.below hb); clear hb)
    go_ret
    exact ⟨⟨_, rfl, RowIn.nil _ _⟩, HB.out.bel⟩
end Go.Proofs.Ythcjohfngnffpaa
