/- Check of an instruction, of both. No condition. -/
import Derived.Test.YthcjohfngnffpaaInMath
import Derived.BigQuiet
import Derived.Deep.RegionWith
import Derived.StillTailTactics
namespace Go.Proofs.Ythcjohfngnffpaa
open Go.RowKit
set_option linter.unusedVariables false
set_option linter.unusedSimpArgs false
attribute [local go_sem] y_undef
theorem bla {w a : World} (h : Below w.heap.size w a) (o : Obj) : Below w.heap.size w (a.alloc o) := h.alloc h.size o
theorem blt {w a b : World} (h : Below w.heap.size w a) (k : Below a.heap.size a b) : Below w.heap.size w b := h.trans (k.mono h.size)
def shAgg (s : In.Sh) : Value := .agg #[.int .i64 s.a0, .int .i64 s.a1, .int .i64 s.b0, .int .i64 s.b1, .int .i64 s.c0, .int .i64 s.c1, .int .i64 s.o0, .int .i64 s.o1, .int .i64 s.m0, .int .i64 s.m1]
set_option maxHeartbeats 8000000 in
theorem shape_any (k : Int) (w : World) : Calls Try.prog 34 #[.int .i64 k] w fun e w' => e = .returned (.tuple #[shAgg (In.sh k), .bool (In.kn k)]) ∧ Below w.heap.size w w' := by
  by_cases h : In.kn k = true
  · rcases In.kn_cases h with rfl | rfl | rfl | rfl | rfl | rfl | rfl | rfl | rfl | rfl | rfl
    all_goals
      clear h
      go_enter Try.func34, Try.ntmps34
      go_wp2
      refine bodyPost_ret (v := .tuple #[shAgg (In.sh _), .bool (In.kn _)]) ?_ rfl ⟨rfl, ?_⟩
      · simp [results, Try.results34, go_sem]
        exact ⟨rfl, rfl⟩
      · exact bla (bla (bla (bla (Below.refl _ _) _) _) _) _
  · have hf : In.kn k = false := by simpa using h
    have hz : In.sh k = ⟨0, 0, 0, 0, 0, 0, 0, 0, 0, 0⟩ := by
      unfold In.kn at hf
      simp only [decide_eq_false_iff_not] at hf
      unfold In.sh
      rw [if_neg (by omega), if_neg (by omega), if_neg (by omega), if_neg (by omega), if_neg (by omega), if_neg (by omega), if_neg (by omega), if_neg (by omega)]
    rw [hf, hz]
    unfold In.kn at hf
    simp only [decide_eq_false_iff_not] at hf
    have n0 : ¬ k = 0 := by omega
    have n1 : ¬ k = 1 := by omega
    have n2 : ¬ k = 2 := by omega
    have n3 : ¬ k = 3 := by omega
    have n4 : ¬ k = 4 := by omega
    have n5 : ¬ k = 5 := by omega
    have n6 : ¬ k = 6 := by omega
    have n7 : ¬ k = 7 := by omega
    have n8 : ¬ k = 8 := by omega
    have n9 : ¬ k = 9 := by omega
    have n10 : ¬ k = 10 := by omega
    clear h hf hz
    go_enter Try.func34, Try.ntmps34
    go_wp2
    refine bodyPost_ret (v := .tuple #[shAgg ⟨0, 0, 0, 0, 0, 0, 0, 0, 0, 0⟩, .bool false]) ?_ rfl ⟨rfl, ?_⟩
    · simp [results, Try.results34, go_sem]
      exact rfl
    · exact bla (bla (bla (bla (Below.refl _ _) _) _) _) _
set_option maxHeartbeats 8000000 in
theorem span_any (lo hi n : Int) (w : World) : Calls Try.prog 35 #[.agg #[.int .i64 lo, .int .i64 hi], .int .i64 n] w fun e w' => e = .returned (.bool (In.inn lo hi n)) ∧ Below w.heap.size w w' := by
  unfold In.inn
  go_enter Try.func35, Try.ntmps35
  by_cases h1 : lo ≤ n <;> by_cases h2 : n ≤ hi
  all_goals
    go_wp2
    go_ret
    simp [h1, h2]
    exact bla (Below.refl _ _) _
/-- The boxes of Check. -/
structure Ck (w : World) (g : Nat) (k a b c o m s0 s1 s2 s3 s4 s5 s6 s7 s8 s9 : Int) (u : World) : Prop where
  bel : Below w.heap.size w u
  bi : Bk u w.heap.size 26 #[.int .i64 k, .int .i64 a, .int .i64 b, .int .i64 c, .int .i64 o, .int .i64 m]
  bs : Bk u g 86 #[.int .i64 s0, .int .i64 s1, .int .i64 s2, .int .i64 s3, .int .i64 s4, .int .i64 s5, .int .i64 s6, .int .i64 s7, .int .i64 s8, .int .i64 s9]
section
variable {w u v : World} {g : Nat} {k a b c o m s0 s1 s2 s3 s4 s5 s6 s7 s8 s9 : Int}
theorem Ck.below (h : Ck w g k a b c o m s0 s1 s2 s3 s4 s5 s6 s7 s8 s9 u) (hb : Below u.heap.size u v) : Ck w g k a b c o m s0 s1 s2 s3 s4 s5 s6 s7 s8 s9 v := ⟨blt h.bel hb, h.bi.below hb, h.bs.below hb⟩
theorem Ck.cells (h : Ck w g k a b c o m s0 s1 s2 s3 s4 s5 s6 s7 s8 s9 u) : u.cell? ⟨w.heap.size, 0, none⟩ = some (.int .i64 k) ∧ u.cell? ⟨w.heap.size, 1, none⟩ = some (.int .i64 a) ∧ u.cell? ⟨w.heap.size, 2, none⟩ = some (.int .i64 b) ∧ u.cell? ⟨w.heap.size, 3, none⟩ = some (.int .i64 c) ∧ u.cell? ⟨w.heap.size, 4, none⟩ = some (.int .i64 o) ∧ u.cell? ⟨w.heap.size, 5, none⟩ = some (.int .i64 m) ∧
    u.cell? ⟨g, 0, none⟩ = some (.int .i64 s0) ∧ u.cell? ⟨g, 1, none⟩ = some (.int .i64 s1) ∧ u.cell? ⟨g, 2, none⟩ = some (.int .i64 s2) ∧ u.cell? ⟨g, 3, none⟩ = some (.int .i64 s3) ∧ u.cell? ⟨g, 4, none⟩ = some (.int .i64 s4) ∧ u.cell? ⟨g, 5, none⟩ = some (.int .i64 s5) ∧ u.cell? ⟨g, 6, none⟩ = some (.int .i64 s6) ∧ u.cell? ⟨g, 7, none⟩ = some (.int .i64 s7) ∧ u.cell? ⟨g, 8, none⟩ = some (.int .i64 s8) ∧ u.cell? ⟨g, 9, none⟩ = some (.int .i64 s9) :=
  ⟨h.bi.cell 0, h.bi.cell 1, h.bi.cell 2, h.bi.cell 3, h.bi.cell 4, h.bi.cell 5, h.bs.cell 0, h.bs.cell 1, h.bs.cell 2, h.bs.cell 3, h.bs.cell 4, h.bs.cell 5, h.bs.cell 6, h.bs.cell 7, h.bs.cell 8, h.bs.cell 9⟩
end
def EIns (i : In.I) : Array Value := #[.int .i64 i.k, .int .i64 i.a, .int .i64 i.b, .int .i64 i.c, .int .i64 i.o, .int .i64 i.m]
set_option maxHeartbeats 8000000 in
theorem icheck_any (i : In.I) (r : Int) (hr : In.chk i = r) (w : World) : Calls Try.prog 22 #[iAgg i] w fun e w' => e = .returned (.int .i64 r) ∧ Below w.heap.size w w' := by
  obtain ⟨k, a, b, c, o, m⟩ := i
  unfold iAgg
  unfold In.chk In.right at hr
  simp only at hr ⊢
  have hsh := shape_any k
  obtain ⟨s, hs⟩ : ∃ s, In.sh k = s := ⟨_, rfl⟩
  obtain ⟨b0, hb0⟩ : ∃ b, In.kn k = b := ⟨_, rfl⟩
  rw [hs, hb0] at hsh
  rw [hs, hb0] at hr
  have HS := Lib.hid hsh
  clear hs hb0 hsh
  obtain ⟨s0, s1, s2, s3, s4, s5, s6, s7, s8, s9⟩ := s
  unfold shAgg at HS
  simp only at hr
  have HA := Lib.hid (span_any s0 s1 a)
  have HB := Lib.hid (span_any s2 s3 b)
  have HC0 := Lib.hid (span_any s4 s5 c)
  have HO := Lib.hid (span_any s6 s7 o)
  have HM := Lib.hid (span_any s8 s9 m)
  generalize In.inn s0 s1 a = q0 at hr HA
  generalize In.inn s2 s3 b = q1 at hr HB
  generalize In.inn s4 s5 c = q2 at hr HC0
  generalize In.inn s6 s7 o = q3 at hr HO
  generalize In.inn s8 s9 m = q4 at hr HM
  have hX := (Ahead.refl w).alloc (.cells #[.int .i64 k, .int .i64 a, .int .i64 b, .int .i64 c, .int .i64 o, .int .i64 m] 26)
  have hbi := Bk.new w 26 #[.int .i64 k, .int .i64 a, .int .i64 b, .int .i64 c, .int .i64 o, .int .i64 m]
  go_enter Try.func22, Try.ntmps22
  cases b0
  · go_wp2_with (go_at_call 34; refine (HS.out _).mono ?_; rintro e u ⟨rfl, hb⟩)
    go_ret
    simp at hr
    subst hr
    exact ⟨rfl, bla (blt hX.1 hb) _⟩
  · simp at hr
    have hq : q0 = false ∨ (q0 = true ∧ q1 = false) ∨ (q0 = true ∧ q1 = true ∧ q2 = false) ∨ (q0 = true ∧ q1 = true ∧ q2 = true ∧ q3 = false) ∨ (q0 = true ∧ q1 = true ∧ q2 = true ∧ q3 = true ∧ q4 = false) ∨ (q0 = true ∧ q1 = true ∧ q2 = true ∧ q3 = true ∧ q4 = true) := by
      cases q0 <;> cases q1 <;> cases q2 <;> cases q3 <;> cases q4 <;> simp
    rcases hq with rfl | ⟨rfl, rfl⟩ | ⟨rfl, rfl, rfl⟩ | ⟨rfl, rfl, rfl, rfl⟩ | ⟨rfl, rfl, rfl, rfl, rfl⟩ | ⟨rfl, rfl, rfl, rfl, rfl⟩
    all_goals
      simp at hr
      have HR := Lib.hid hr
      clear hr
      go_wp2_with (first | (go_at_call 34; refine (HS.out _).mono ?_; rintro e u ⟨rfl, hb⟩; have HC := Lib.hid (show Ck w u.heap.size k a b c o m s0 s1 s2 s3 s4 s5 s6 s7 s8 s9 (u.alloc (.cells #[.int .i64 s0, .int .i64 s1, .int .i64 s2, .int .i64 s3, .int .i64 s4, .int .i64 s5, .int .i64 s6, .int .i64 s7, .int .i64 s8, .int .i64 s9] 86)) from ⟨bla (blt hX.1 hb) _, (hbi.below hb).below (bla (Below.refl _ _) _), Bk.new _ _ _⟩); clear hbi hX hb; obtain ⟨c0, c1, c2, c3, c4, c5, d0, d1, d2, d3, d4, d5, d6, d7, d8, d9⟩ := HC.out.cells) | (go_at_call 35; with_reducible refine (HA.out _).mono ?_; rintro e v ⟨rfl, hb⟩; have HC := Lib.hid (HC.out.below hb); clear hb; obtain ⟨c0, c1, c2, c3, c4, c5, d0, d1, d2, d3, d4, d5, d6, d7, d8, d9⟩ := HC.out.cells) | (go_at_call 35; with_reducible refine (HB.out _).mono ?_; rintro e v ⟨rfl, hb⟩; have HC := Lib.hid (HC.out.below hb); clear hb; obtain ⟨c0, c1, c2, c3, c4, c5, d0, d1, d2, d3, d4, d5, d6, d7, d8, d9⟩ := HC.out.cells) | (go_at_call 35; with_reducible refine (HC0.out _).mono ?_; rintro e v ⟨rfl, hb⟩; have HC := Lib.hid (HC.out.below hb); clear hb; obtain ⟨c0, c1, c2, c3, c4, c5, d0, d1, d2, d3, d4, d5, d6, d7, d8, d9⟩ := HC.out.cells) | (go_at_call 35; with_reducible refine (HO.out _).mono ?_; rintro e v ⟨rfl, hb⟩; have HC := Lib.hid (HC.out.below hb); clear hb; obtain ⟨c0, c1, c2, c3, c4, c5, d0, d1, d2, d3, d4, d5, d6, d7, d8, d9⟩ := HC.out.cells) | (go_at_call 35; with_reducible refine (HM.out _).mono ?_; rintro e v ⟨rfl, hb⟩; have HC := Lib.hid (HC.out.below hb); clear hb; obtain ⟨c0, c1, c2, c3, c4, c5, d0, d1, d2, d3, d4, d5, d6, d7, d8, d9⟩ := HC.out.cells))
      go_ret
      exact ⟨by rw [← HR.out]; rfl, HC.out.bel⟩
end Go.Proofs.Ythcjohfngnffpaa
