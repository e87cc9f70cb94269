/- Writes of an instruction, of both. No condition. -/
import Derived.Test.YthcjohfngnffpaaInRefC
import Derived.Test.YthcjohfngnffpaaInChk
namespace Go.Proofs.Ythcjohfngnffpaa
open Go.RowKit
set_option linter.unusedVariables false
set_option linter.unusedSimpArgs false
attribute [local go_sem] y_undef
def iArr (i : In.I) : Array Value := #[.int .i64 i.k, .int .i64 i.a, .int .i64 i.b, .int .i64 i.c, .int .i64 i.o, .int .i64 i.m]
/-- The box of an instruction. -/
structure Bi (w : World) (k a b c o m : Int) (u : World) : Prop where
  bel : Below w.heap.size w u
  bi : Bk u w.heap.size 26 #[.int .i64 k, .int .i64 a, .int .i64 b, .int .i64 c, .int .i64 o, .int .i64 m]
section
variable {w u v : World} {k a b c o m : Int}
theorem Bi.below (h : Bi w k a b c o m u) (hb : Below u.heap.size u v) : Bi w k a b c o m v := ⟨blt h.bel hb, h.bi.below hb⟩
theorem Bi.new : Bi w k a b c o m (w.alloc (.cells #[.int .i64 k, .int .i64 a, .int .i64 b, .int .i64 c, .int .i64 o, .int .i64 m] 26)) := ⟨bla (Below.refl _ _) _, Bk.new _ _ _⟩
theorem Bi.cells (h : Bi w k a b c o m u) : u.cell? ⟨w.heap.size, 0, none⟩ = some (.int .i64 k) ∧ u.cell? ⟨w.heap.size, 1, none⟩ = some (.int .i64 a) ∧ u.cell? ⟨w.heap.size, 2, none⟩ = some (.int .i64 b) ∧ u.cell? ⟨w.heap.size, 3, none⟩ = some (.int .i64 c) ∧ u.cell? ⟨w.heap.size, 4, none⟩ = some (.int .i64 o) ∧ u.cell? ⟨w.heap.size, 5, none⟩ = some (.int .i64 m) :=
  ⟨h.bi.cell 0, h.bi.cell 1, h.bi.cell 2, h.bi.cell 3, h.bi.cell 4, h.bi.cell 5⟩
end
set_option maxHeartbeats 8000000 in
theorem iwr_any (i : In.I) (r : Int) (hr : In.wr i = r) (w : World) : Calls Try.prog 17 #[iAgg i] w fun e w' => e = .returned (.int .i64 r) ∧ Below w.heap.size w w' := by
  obtain ⟨z, hz⟩ : ∃ z, In.chk i = z := ⟨_, rfl⟩
  have HK := Lib.hid (icheck_any i z hz)
  unfold In.wr at hr
  rw [hz] at hr
  obtain ⟨k, a, b, c, o, m⟩ := i
  unfold iAgg at HK ⊢
  simp only at HK hr ⊢
  have HB := Lib.hid (Bi.new (w := w) (k := k) (a := a) (b := b) (c := c) (o := o) (m := m))
  by_cases h0 : z = 0
  · have hv : In.kn k = true := (In.chk_zero (hz.trans h0)).1
    subst h0
    clear hz
    rcases In.kn_cases hv with rfl | rfl | rfl | rfl | rfl | rfl | rfl | rfl | rfl | rfl | rfl
    all_goals
      clear hv
      simp at hr
      subst hr
      go_enter Try.func17, Try.ntmps17
      go_wp2_with (go_at_call 22; refine (HK.out _).mono ?_; rintro e u ⟨rfl, hb⟩; have HB := Lib.hid (HB.out.below hb); clear hb; obtain ⟨c0, c1, c2, c3, c4, c5⟩ := HB.out.cells)
      go_ret
      exact ⟨rfl, HB.out.bel⟩
  · rw [if_neg (fun h => h0 h.1)] at hr
    subst hr
    clear hz
    go_enter Try.func17, Try.ntmps17
    go_wp2_with (go_at_call 22; refine (HK.out _).mono ?_; rintro e u ⟨rfl, hb⟩; have HB := Lib.hid (HB.out.below hb); clear hb)
    go_ret
    exact ⟨rfl, HB.out.bel⟩
set_option maxHeartbeats 8000000 in
theorem rwr_any (i : In.I) (r : Int) (hr : In.wr i = r) (w : World) : Calls Try.prog 23 #[iAgg i] w fun e w' => e = .returned (.int .i64 r) ∧ Below w.heap.size w w' := by
  obtain ⟨z, hz⟩ : ∃ z, In.chk i = z := ⟨_, rfl⟩
  have HK := Lib.hid (rchk_any i z hz)
  unfold In.wr at hr
  rw [hz] at hr
  obtain ⟨k, a, b, c, o, m⟩ := i
  unfold iAgg at HK ⊢
  simp only at HK hr ⊢
  have HB := Lib.hid (Bi.new (w := w) (k := k) (a := a) (b := b) (c := c) (o := o) (m := m))
  by_cases h0 : z = 0
  · have hv : In.kn k = true := (In.chk_zero (hz.trans h0)).1
    subst h0
    clear hz
    rcases In.kn_cases hv with rfl | rfl | rfl | rfl | rfl | rfl | rfl | rfl | rfl | rfl | rfl
    all_goals
      clear hv
      simp at hr
      subst hr
      go_enter Try.func23, Try.ntmps23
      go_wp2_with (go_at_call 19; refine (HK.out _).mono ?_; rintro e u ⟨rfl, hb⟩; have HB := Lib.hid (HB.out.below hb); clear hb; obtain ⟨c0, c1, c2, c3, c4, c5⟩ := HB.out.cells)
      go_ret
      exact ⟨rfl, HB.out.bel⟩
  · rw [if_neg (fun h => h0 h.1)] at hr
    subst hr
    clear hz
    go_enter Try.func23, Try.ntmps23
    go_wp2_with (go_at_call 19; refine (HK.out _).mono ?_; rintro e u ⟨rfl, hb⟩; have HB := Lib.hid (HB.out.below hb); clear hb)
    go_ret
    exact ⟨rfl, HB.out.bel⟩
end Go.Proofs.Ythcjohfngnffpaa
