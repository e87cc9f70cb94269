/- What folding keeps: operations that a graph can have. No condition. -/
import Derived.Test.YtojnhdkclabkgaaFoMath
import Derived.Test.YtojnhdkclabkgaaFoMap
namespace Go.Proofs.Ytojnhdkclabkgaa
namespace Fo
open Go.RowKit (wrap32 wrap64)
/-- An operation that a graph can have. -/
structure Good (V : Int) (o : Gr.Op) : Prop where
  kind : 1 ≤ o.kind ∧ o.kind ≤ 7
  dst : 0 ≤ o.dst ∧ o.dst ≤ V
  a : 0 ≤ o.a ∧ o.a ≤ V
  b : 0 ≤ o.b ∧ o.b ≤ V
  imm : -2147483648 ≤ o.imm ∧ o.imm ≤ 2147483647
  a2 : 2 ≤ o.kind ∧ o.kind ≤ 5 → o.a < V
  b3 : o.kind = 3 ∨ o.kind = 5 → o.b < V
  d4 : 1 ≤ o.kind ∧ o.kind ≤ 4 → o.dst < V
theorem inn_of {k n : Int} (h : Gr.inn k n = true) : 0 ≤ k ∧ k < n := by unfold Gr.inn at h; simpa using h
theorem zer_of {k : Int} (h : Gr.zer k = true) : k = 0 := by unfold Gr.zer at h; simpa using h
theorem good_of {V A : Int} (hA : 0 ≤ A ∧ A ≤ 2147483647) {o : Gr.Op} (hV : 0 ≤ V) (h : Gr.opOk V A o = true) : Good V o := by
  obtain ⟨k, d, a, b, i⟩ := o
  unfold Gr.opOk at h
  simp only at h
  split at h
  · rename_i hk
    simp only [Bool.and_eq_true] at h
    have h1 := inn_of h.1.1.1
    have h2 := zer_of h.1.2
    have h3 := zer_of h.2
    have h4 : wrap32 i = i := by have := h.1.1.2; unfold Gr.isW at this; simpa using this
    have h5 := wrap32_bounds i
    exact ⟨by simp only; omega, by simp only; omega, by simp only; omega, by simp only; omega, by simp only; omega, by simp only; omega, by simp only; omega, by simp only; omega⟩
  · split at h
    · rename_i hk
      simp only [Bool.and_eq_true] at h
      have h1 := inn_of h.1.1.1
      have h2 := inn_of h.1.1.2
      have h3 := zer_of h.1.2
      have h4 := zer_of h.2
      exact ⟨by simp only; omega, by simp only; omega, by simp only; omega, by simp only; omega, by simp only; omega, by simp only; omega, by simp only; omega, by simp only; omega⟩
    · split at h
      · rename_i hk
        simp only [Bool.and_eq_true] at h
        have h1 := inn_of h.1.1.1
        have h2 := inn_of h.1.1.2
        have h3 := inn_of h.1.2
        have h4 : 1 ≤ i ∧ i ≤ 14 := by have := h.2; unfold Gr.knw at this; simpa using this
        exact ⟨by simp only; omega, by simp only; omega, by simp only; omega, by simp only; omega, by simp only; omega, by simp only; omega, by simp only; omega, by simp only; omega⟩
      · split at h
        · rename_i hk
          simp only [Bool.and_eq_true] at h
          have h1 := inn_of h.1.1.1
          have h2 := inn_of h.1.1.2
          have h3 := inn_of h.1.2
          have h4 := zer_of h.2
          exact ⟨by simp only; omega, by simp only; omega, by simp only; omega, by simp only; omega, by simp only; omega, by simp only; omega, by simp only; omega, by simp only; omega⟩
        · split at h
          · rename_i hk
            simp only [Bool.and_eq_true] at h
            have h1 := inn_of h.1.1.1
            have h2 := inn_of h.1.1.2
            have h3 := inn_of h.1.2
            have h4 := zer_of h.2
            exact ⟨by simp only; omega, by simp only; omega, by simp only; omega, by simp only; omega, by simp only; omega, by simp only; omega, by simp only; omega, by simp only; omega⟩
          · split at h
            · rename_i hk
              simp only [Bool.and_eq_true] at h
              have h1 := inn_of h.1.1.1
              have h2 := zer_of h.1.1.2
              have h3 := zer_of h.1.2
              have h4 := zer_of h.2
              exact ⟨by simp only; omega, by simp only; omega, by simp only; omega, by simp only; omega, by simp only; omega, by simp only; omega, by simp only; omega, by simp only; omega⟩
            · exact absurd h (by decide)
theorem Good.direct {V : Int} {s : S} {o : Gr.Op} (hs : Ok V s) (h : Good V o) : Good V (direct s o) := by
  obtain ⟨k, d, a, b, i⟩ := o
  have hk := h.kind
  have ha := h.a
  have hb := h.b
  have ha2 := h.a2
  have hb3 := h.b3
  simp only at hk ha hb ha2 hb3
  unfold Fo.direct
  simp only
  split
  · rename_i h3
    have h1 := use_in hs ha.1 (ha2 (by omega))
    have h2 := use_in hs hb.1 (hb3 h3)
    exact ⟨hk, h.dst, by simp only; omega, by simp only; omega, h.imm, fun _ => h1.2, fun _ => h2.2, h.d4⟩
  · split
    · rename_i h3
      have h1 := use_in hs ha.1 (ha2 (by omega))
      exact ⟨hk, h.dst, by simp only; omega, hb, h.imm, fun _ => h1.2, hb3, h.d4⟩
    · exact h
theorem result_in {V : Int} {s : S} {o : Gr.Op} (hs : Ok V s) {n : Int} (h : result s o = some n) : (-2147483648 ≤ n ∧ n ≤ 2147483647) ∧ (o.kind = 2 ∨ o.kind = 3) := by
  unfold result at h
  split at h
  · rename_i h2
    exact ⟨hs.wd _ _ h, .inl h2⟩
  · split at h
    · rename_i h3
      cases h1 : s.wd o.a with
      | none => rw [h1] at h; cases h
      | some x =>
        rw [h1] at h
        cases h2 : s.wd o.b with
        | none => rw [h2] at h; cases h
        | some y =>
          rw [h2] at h
          injection h with h
          subst h
          exact ⟨val_bounds _ _ _, .inr h3⟩
    · cases h
theorem Good.const {V : Int} {s : S} {o : Gr.Op} (hs : Ok V s) (hV : 0 ≤ V) (h : Good V o) : Good V (const s o) := by
  unfold Fo.const
  cases hr : result s o with
  | none => exact h
  | some n =>
    obtain ⟨h1, h2⟩ := result_in hs hr
    have hd := h.dst
    have hd4 := h.d4
    exact ⟨by simp only; omega, hd, by simp only; omega, by simp only; omega, h1, fun h => by simp only at h; omega, fun h => by simp only at h; omega, fun _ => hd4 (by omega)⟩
theorem Good.step {V : Int} {s : S} {o : Gr.Op} (hs : Ok V s) (hV : 0 ≤ V) (h : Good V o) : Good V (step s o) := (h.direct hs).const hs hV
theorem runs_ok {V : Int} (hV : 0 ≤ V) {l : List Gr.Op} (h : ∀ k, k < l.length → Good V (l.getD k Gr.op0)) : ∀ k, k ≤ l.length → Ok V (runs l k)
  | 0, _ => ok0 V
  | k + 1, hk => by
    have ih := runs_ok hV h k (by omega)
    have hg := (h k (by omega)).step ih hV
    exact ih.learn (fun _ => hg.imm) (fun h2 => ⟨hg.a.1, hg.a2 (by omega)⟩)
theorem opAt_good {V : Int} (hV : 0 ≤ V) {l : List Gr.Op} (h : ∀ k, k < l.length → Good V (l.getD k Gr.op0)) {k : Nat} (hk : k < l.length) : Good V (opAt l k) := (h k hk).step (runs_ok hV h k (by omega)) hV
theorem Good.wf {V : Int} (hV : V ≤ 1000) {o : Gr.Op} (h : Good V o) : Wf o.dst ∧ Wf o.a ∧ Wf o.b ∧ Wf o.imm := by
  have := h.dst
  have := h.a
  have := h.b
  have := h.imm
  unfold Wf
  omega
end Fo
/-- A block as a graph within its bounds has it. -/
structure Bg (b : Gr.Blk) : Prop where
  len : b.ops.length ≤ 1000
  good : ∃ V : Int, 0 ≤ V ∧ V ≤ 1000 ∧ ∀ k, k < b.ops.length → Fo.Good V (b.ops.getD k Gr.op0)
  nx : b.next.length ≤ 2
  cond : 0 ≤ b.cond ∧ b.cond ≤ 1000
end Go.Proofs.Ytojnhdkclabkgaa
