/- What folding does, as plain functions of lists. No condition. Maps of numbers that a call has made, as functions. No condition. What folding keeps: operations that a graph can have. No condition. How large a graph is that Check lets pass. No condition. -/
import Derived.Test.YthjolbgkancohaaGrMath
import Derived.Test.YthjolbgkancohaaGrMem
import Derived.Maps.OwnSet
import Derived.Maps.RangeWalk
namespace Go.Proofs.Ythjolbgkancohaa
namespace Fo
open Go.RowKit (wrap32 wrap64)
/-- What is known of variables: words, and of what they are copies. -/
structure S where
  wd : Int → Option Int
  cp : Int → Option Int
def s0 : S := ⟨fun _ => none, fun _ => none⟩
def use (s : S) (v : Int) : Int := (s.cp v).getD v
/-- The operands' sources. -/
def direct (s : S) (o : Gr.Op) : Gr.Op :=
  if o.kind = 3 ∨ o.kind = 5 then { o with a := use s o.a, b := use s o.b } else if o.kind = 2 ∨ o.kind = 4 then { o with a := use s o.a } else o
/-- What an operation computes from known words. -/
def result (s : S) (o : Gr.Op) : Option Int :=
  if o.kind = 2 then s.wd o.a else if o.kind = 3 then (s.wd o.a).bind fun x => (s.wd o.b).map fun y => val o.imm x y else none
def const (s : S) (o : Gr.Op) : Gr.Op := match result s o with
  | some n => ⟨1, o.dst, 0, 0, n⟩
  | none => o
def upd (f : Int → Option Int) (d : Int) (x : Option Int) : Int → Option Int := fun v => if v = d then x else f v
/-- No variable is a copy of d any more, nor is d one. -/
def cut (f : Int → Option Int) (d : Int) : Int → Option Int := fun v => if v = d ∨ f v = some d then none else f v
def learn (s : S) (o : Gr.Op) : S :=
  if o.kind = 5 ∨ o.kind = 6 ∨ o.kind = 7 then s
  else ⟨upd s.wd o.dst (if o.kind = 1 then some o.imm else none), if o.kind = 2 ∧ o.a ≠ o.dst then upd (cut s.cp o.dst) o.dst (some o.a) else cut s.cp o.dst⟩
def step (s : S) (o : Gr.Op) : Gr.Op := const s (direct s o)
/-- The first k operations, folded, and what is known behind them. -/
def runs (l : List Gr.Op) : Nat → S
  | 0 => s0
  | k + 1 => learn (runs l k) (step (runs l k) (l.getD k Gr.op0))
def opAt (l : List Gr.Op) (k : Nat) : Gr.Op := step (runs l k) (l.getD k Gr.op0)
def ops (l : List Gr.Op) : List Gr.Op := (List.range l.length).map (opAt l)
/-- A block, folded. -/
def blk (b : Gr.Blk) : Gr.Blk :=
  let s := runs b.ops b.ops.length
  if b.next.length = 2 then
    match s.wd (use s b.cond) with
    | some n => ⟨ops b.ops, 0, [if n = 0 then b.next.getD 1 0 else b.next.getD 0 0]⟩
    | none => ⟨ops b.ops, use s b.cond, b.next⟩
  else ⟨ops b.ops, b.cond, b.next⟩
def gr (g : Gr.G) : Gr.G := { g with blks := g.blks.map blk }
def ones (n : Nat) : List (List Int) := (List.range n).map fun (i : Nat) => [(i : Int)]
/-- All that is known speaks of variables below V, and of words. -/
structure Ok (V : Int) (s : S) : Prop where
  cp : ∀ v u, s.cp v = some u → 0 ≤ u ∧ u < V
  wd : ∀ v n, s.wd v = some n → -2147483648 ≤ n ∧ n ≤ 2147483647
theorem ok0 (V : Int) : Ok V s0 := ⟨fun v u h => (by cases h), fun v u h => (by cases h)⟩
theorem use_in {V : Int} {s : S} (h : Ok V s) {v : Int} (h0 : 0 ≤ v) (hV : v < V) : 0 ≤ use s v ∧ use s v < V := by
  unfold use
  cases hc : s.cp v with
  | none => exact ⟨h0, hV⟩
  | some u => exact h.cp v u hc
theorem Ok.learn {V : Int} {s : S} (h : Ok V s) {o : Gr.Op} (hi : o.kind = 1 → -2147483648 ≤ o.imm ∧ o.imm ≤ 2147483647) (ha : o.kind = 2 → 0 ≤ o.a ∧ o.a < V) : Ok V (learn s o) := by
  unfold Fo.learn
  by_cases hk : o.kind = 5 ∨ o.kind = 6 ∨ o.kind = 7
  · rw [if_pos hk]; exact h
  · rw [if_neg hk]
    have hcut : ∀ v u, cut s.cp o.dst v = some u → 0 ≤ u ∧ u < V := fun v u hv => by
      unfold cut at hv
      split at hv
      · cases hv
      · exact h.cp v u hv
    refine ⟨fun v u hv => ?_, fun v n hv => ?_⟩
    · simp only at hv
      split at hv
      · rename_i h2
        unfold upd at hv
        split at hv
        · injection hv with hv; subst hv; exact ha h2.1
        · exact hcut v u hv
      · exact hcut v u hv
    · simp only [upd] at hv
      split at hv
      · split at hv
        · rename_i h1
          injection hv with hv
          subst hv
          exact hi h1
        · cases hv
      · exact h.wd v n hv
end Fo
end Go.Proofs.Ythjolbgkancohaa
namespace Go.Proofs.Ythjolbgkancohaa
open Go.RowKit Go.Maps
set_option linter.unusedVariables false
set_option linter.unusedSimpArgs false
theorem mlaw : Keyed Try.prog 3 := int_keyed Try.underlying3
theorem mzero (w : World) : (zeroValue 3).run Try.prog w = .ok (.int .i64 0) w := by kernel_rfl
/-- A number that an int can be. -/
def Wf (z : Int) : Prop := -9223372036854775808 ≤ z ∧ z ≤ 9223372036854775807
theorem Wf.lit {z : Int} (h : Wf z) : (Lit.int .i64 z).wf = true := WalkArith.wf_i64 h
/-- Block b is a map of at most n entries: at z it has f z. -/
def MapF (u : World) (b n : Nat) (f : Int → Option Int) : Prop :=
  ∃ D : DataW Unit, u.ownsMap Try.prog 3 (plainElem Try.prog 3) b n D ∧ ∀ z, Wf z → Maps.has D (.int .i64 z) = (f z).isSome ∧ D.atKey (.int .i64 z) (.lit (.int .i64 0)) = .lit (.int .i64 ((f z).getD 0))
theorem MapF.lt {u : World} {b n : Nat} {f : Int → Option Int} (h : MapF u b n f) : b < u.heap.size := by
  obtain ⟨D, ⟨es, clock, hb, _⟩, _⟩ := h
  rcases Nat.lt_or_ge b u.heap.size with h | h
  · exact h
  · rw [Array.getElem?_eq_none h] at hb; exact absurd hb (by simp)
theorem MapF.kept {u u' : World} {b n : Nat} {f : Int → Option Int} (h : MapF u b n f) (hb : u'.heap[b]? = u.heap[b]?) : MapF u' b n f := by
  obtain ⟨D, ⟨es, clock, h1, h2⟩, h3⟩ := h
  exact ⟨D, ⟨es, clock, hb.trans h1, h2⟩, h3⟩
theorem MapF.below {u u' : World} {b n : Nat} {f : Int → Option Int} (h : MapF u b n f) (hb : Below u.heap.size u u') : MapF u' b n f := h.kept (hb.block b h.lt)
theorem lit_ne {a b : Int} (h : a ≠ b) : (Lit.int .i64 a) ≠ .int .i64 b := fun e => h (by injection e)
theorem mapf_put {D : DataW Unit} {f : Int → Option Int} {d x : Int} (hm : IsMap D) (hD : ∀ z, Wf z → Maps.has D (.int .i64 z) = (f z).isSome ∧ D.atKey (.int .i64 z) (.lit (.int .i64 0)) = .lit (.int .i64 ((f z).getD 0))) (z : Int) (hz : Wf z) :
    Maps.has (D.put (.int .i64 d) (.lit (.int .i64 x))) (.int .i64 z) = (Fo.upd f d (some x) z).isSome ∧ (D.put (.int .i64 d) (.lit (.int .i64 x))).atKey (.int .i64 z) (.lit (.int .i64 0)) = .lit (.int .i64 ((Fo.upd f d (some x) z).getD 0)) := by
  unfold Fo.upd
  by_cases h : z = d
  · subst h
    rw [if_pos rfl]
    exact ⟨has_put_same hm (show WideAt.IsKeyLit (.int .i64 z) from trivial) _, atKey_put_same hm (show WideAt.IsKeyLit (.int .i64 z) from trivial) _ _⟩
  · rw [if_neg h, has_put_other (lit_ne h), atKey_put_other (lit_ne h)]
    exact hD z hz
theorem mapf_del {D : DataW Unit} {f : Int → Option Int} {d : Int} (hD : ∀ z, Wf z → Maps.has D (.int .i64 z) = (f z).isSome ∧ D.atKey (.int .i64 z) (.lit (.int .i64 0)) = .lit (.int .i64 ((f z).getD 0))) (z : Int) (hz : Wf z) :
    Maps.has (D.del (.int .i64 d)) (.int .i64 z) = (Fo.upd f d none z).isSome ∧ (D.del (.int .i64 d)).atKey (.int .i64 z) (.lit (.int .i64 0)) = .lit (.int .i64 ((Fo.upd f d none z).getD 0)) := by
  unfold Fo.upd
  by_cases h : z = d
  · subst h
    rw [if_pos rfl]
    exact ⟨has_del_same, atKey_del_same _⟩
  · rw [if_neg h, has_del_other (lit_ne h), atKey_del_other (lit_ne h)]
    exact hD z hz
end Go.Proofs.Ythjolbgkancohaa
namespace Go.Proofs.Ythjolbgkancohaa
namespace Fo
open Go.RowKit (wrap32 wrap64)
/-- An operation that a graph can have. -/
structure Good (V : Int) (o : Gr.Op) : Prop where
  kind : 1 ≤ o.kind ∧ o.kind ≤ 7
  dst : 0 ≤ o.dst ∧ o.dst ≤ V
  a : 0 ≤ o.a ∧ o.a ≤ V
  b : 0 ≤ o.b ∧ o.b ≤ V
  imm : -2147483648 ≤ o.imm ∧ o.imm ≤ 2147483647
  a2 : 2 ≤ o.kind ∧ o.kind ≤ 5 → o.a < V
  b3 : o.kind = 3 ∨ o.kind = 5 → o.b < V
  d4 : 1 ≤ o.kind ∧ o.kind ≤ 4 → o.dst < V
theorem inn_of {k n : Int} (h : Gr.inn k n = true) : 0 ≤ k ∧ k < n := by unfold Gr.inn at h; simpa using h
theorem zer_of {k : Int} (h : Gr.zer k = true) : k = 0 := by unfold Gr.zer at h; simpa using h
theorem good_of {V A : Int} (hA : 0 ≤ A ∧ A ≤ 2147483647) {o : Gr.Op} (hV : 0 ≤ V) (h : Gr.opOk V A o = true) : Good V o := by
  obtain ⟨k, d, a, b, i⟩ := o
  unfold Gr.opOk at h
  simp only at h
  split at h
  · rename_i hk
    simp only [Bool.and_eq_true] at h
    have h1 := inn_of h.1.1.1
    have h2 := zer_of h.1.2
    have h3 := zer_of h.2
    have h4 : wrap32 i = i := by have := h.1.1.2; unfold Gr.isW at this; simpa using this
    have h5 := wrap32_bounds i
    exact ⟨by simp only; omega, by simp only; omega, by simp only; omega, by simp only; omega, by simp only; omega, by simp only; omega, by simp only; omega, by simp only; omega⟩
  · split at h
    · rename_i hk
      simp only [Bool.and_eq_true] at h
      have h1 := inn_of h.1.1.1
      have h2 := inn_of h.1.1.2
      have h3 := zer_of h.1.2
      have h4 := zer_of h.2
      exact ⟨by simp only; omega, by simp only; omega, by simp only; omega, by simp only; omega, by simp only; omega, by simp only; omega, by simp only; omega, by simp only; omega⟩
    · split at h
      · rename_i hk
        simp only [Bool.and_eq_true] at h
        have h1 := inn_of h.1.1.1
        have h2 := inn_of h.1.1.2
        have h3 := inn_of h.1.2
        have h4 : 1 ≤ i ∧ i ≤ 14 := by have := h.2; unfold Gr.knw at this; simpa using this
        exact ⟨by simp only; omega, by simp only; omega, by simp only; omega, by simp only; omega, by simp only; omega, by simp only; omega, by simp only; omega, by simp only; omega⟩
      · split at h
        · rename_i hk
          simp only [Bool.and_eq_true] at h
          have h1 := inn_of h.1.1.1
          have h2 := inn_of h.1.1.2
          have h3 := inn_of h.1.2
          have h4 := zer_of h.2
          exact ⟨by simp only; omega, by simp only; omega, by simp only; omega, by simp only; omega, by simp only; omega, by simp only; omega, by simp only; omega, by simp only; omega⟩
        · split at h
          · rename_i hk
            simp only [Bool.and_eq_true] at h
            have h1 := inn_of h.1.1.1
            have h2 := inn_of h.1.1.2
            have h3 := inn_of h.1.2
            have h4 := zer_of h.2
            exact ⟨by simp only; omega, by simp only; omega, by simp only; omega, by simp only; omega, by simp only; omega, by simp only; omega, by simp only; omega, by simp only; omega⟩
          · split at h
            · rename_i hk
              simp only [Bool.and_eq_true] at h
              have h1 := inn_of h.1.1.1
              have h2 := zer_of h.1.1.2
              have h3 := zer_of h.1.2
              have h4 := zer_of h.2
              exact ⟨by simp only; omega, by simp only; omega, by simp only; omega, by simp only; omega, by simp only; omega, by simp only; omega, by simp only; omega, by simp only; omega⟩
            · exact absurd h (by decide)
theorem Good.direct {V : Int} {s : S} {o : Gr.Op} (hs : Ok V s) (h : Good V o) : Good V (direct s o) := by
  obtain ⟨k, d, a, b, i⟩ := o
  have hk := h.kind
  have ha := h.a
  have hb := h.b
  have ha2 := h.a2
  have hb3 := h.b3
  simp only at hk ha hb ha2 hb3
  unfold Fo.direct
  simp only
  split
  · rename_i h3
    have h1 := use_in hs ha.1 (ha2 (by omega))
    have h2 := use_in hs hb.1 (hb3 h3)
    exact ⟨hk, h.dst, by simp only; omega, by simp only; omega, h.imm, fun _ => h1.2, fun _ => h2.2, h.d4⟩
  · split
    · rename_i h3
      have h1 := use_in hs ha.1 (ha2 (by omega))
      exact ⟨hk, h.dst, by simp only; omega, hb, h.imm, fun _ => h1.2, hb3, h.d4⟩
    · exact h
theorem result_in {V : Int} {s : S} {o : Gr.Op} (hs : Ok V s) {n : Int} (h : result s o = some n) : (-2147483648 ≤ n ∧ n ≤ 2147483647) ∧ (o.kind = 2 ∨ o.kind = 3) := by
  unfold result at h
  split at h
  · rename_i h2
    exact ⟨hs.wd _ _ h, .inl h2⟩
  · split at h
    · rename_i h3
      cases h1 : s.wd o.a with
      | none => rw [h1] at h; cases h
      | some x =>
        rw [h1] at h
        cases h2 : s.wd o.b with
        | none => rw [h2] at h; cases h
        | some y =>
          rw [h2] at h
          injection h with h
          subst h
          exact ⟨val_bounds _ _ _, .inr h3⟩
    · cases h
theorem Good.const {V : Int} {s : S} {o : Gr.Op} (hs : Ok V s) (hV : 0 ≤ V) (h : Good V o) : Good V (const s o) := by
  unfold Fo.const
  cases hr : result s o with
  | none => exact h
  | some n =>
    obtain ⟨h1, h2⟩ := result_in hs hr
    have hd := h.dst
    have hd4 := h.d4
    exact ⟨by simp only; omega, hd, by simp only; omega, by simp only; omega, h1, fun h => by simp only at h; omega, fun h => by simp only at h; omega, fun _ => hd4 (by omega)⟩
theorem Good.step {V : Int} {s : S} {o : Gr.Op} (hs : Ok V s) (hV : 0 ≤ V) (h : Good V o) : Good V (step s o) := (h.direct hs).const hs hV
theorem runs_ok {V : Int} (hV : 0 ≤ V) {l : List Gr.Op} (h : ∀ k, k < l.length → Good V (l.getD k Gr.op0)) : ∀ k, k ≤ l.length → Ok V (runs l k)
  | 0, _ => ok0 V
  | k + 1, hk => by
    have ih := runs_ok hV h k (by omega)
    have hg := (h k (by omega)).step ih hV
    exact ih.learn (fun _ => hg.imm) (fun h2 => ⟨hg.a.1, hg.a2 (by omega)⟩)
theorem opAt_good {V : Int} (hV : 0 ≤ V) {l : List Gr.Op} (h : ∀ k, k < l.length → Good V (l.getD k Gr.op0)) {k : Nat} (hk : k < l.length) : Good V (opAt l k) := (h k hk).step (runs_ok hV h k (by omega)) hV
theorem Good.wf {V : Int} (hV : V ≤ 1000) {o : Gr.Op} (h : Good V o) : Wf o.dst ∧ Wf o.a ∧ Wf o.b ∧ Wf o.imm := by
  have := h.dst
  have := h.a
  have := h.b
  have := h.imm
  unfold Wf
  omega
end Fo
/-- A block as a graph within its bounds has it. -/
structure Bg (b : Gr.Blk) : Prop where
  len : b.ops.length ≤ 1000
  good : ∃ V : Int, 0 ≤ V ∧ V ≤ 1000 ∧ ∀ k, k < b.ops.length → Fo.Good V (b.ops.getD k Gr.op0)
  nx : b.next.length ≤ 2
  cond : 0 ≤ b.cond ∧ b.cond ≤ 1000
end Go.Proofs.Ythjolbgkancohaa
namespace Go.Proofs.Ythjolbgkancohaa
namespace Fo
theorem nodup_len : ∀ (n : Nat) (l : List Int), l.Nodup → (∀ x ∈ l, 0 ≤ x ∧ x < n) → l.length ≤ n
  | 0, l, _, h => by
    cases l with
    | nil => simp
    | cons x r => have := h x (by simp); omega
  | n + 1, l, hd, h => by
    have ih := nodup_len n (l.erase n) (hd.erase _) (fun x hx => by
      have h1 := h x (List.mem_of_mem_erase hx)
      have h2 : x ≠ n := fun e => by subst e; exact (hd.not_mem_erase) hx
      omega)
    by_cases hm : (n : Int) ∈ l
    · rw [List.length_erase_of_mem hm] at ih; omega
    · rw [List.erase_of_not_mem hm] at ih; omega
theorem pt_len {n : Nat} {l : List Int} (h : Gr.ptOk n l = true) : l.length ≤ n := by
  have hat : ∀ k, k < l.length → Gr.ptAt n l k = true := fun k hk => all_at h hk
  refine nodup_len n l ?_ (fun x hx => ?_)
  · unfold List.Nodup
    rw [List.pairwise_iff_getElem]
    intro i j hi hj hij e
    have h1 := hat j hj
    unfold Gr.ptAt at h1
    rw [Bool.and_eq_true, List.all_eq_true] at h1
    have h2 := h1.2 i (by simpa using hij)
    simp only [List.getD, List.getElem?_eq_getElem hj, List.getElem?_eq_getElem hi, Option.getD_some] at h2
    simp [e] at h2
  · obtain ⟨k, hk, rfl⟩ := List.mem_iff_getElem.1 hx
    have h1 := hat k hk
    unfold Gr.ptAt at h1
    rw [Bool.and_eq_true] at h1
    have h2 := inn_of h1.1
    simpa [List.getD, List.getElem?_eq_getElem hk] using h2
theorem hd_ge {n : Nat} {l : List (Int × Int)} (h : Gr.hdsOk n l = true) : ∀ k, k < l.length → (k : Int) ≤ (l.getD k (0, 0)).1
  | 0, hk => by
    have h1 := all_at (show (List.range l.length).all (Gr.hdAt n l) = true from h) hk
    unfold Gr.hdAt at h1
    simp only [Bool.and_eq_true] at h1
    have := inn_of h1.1.2
    simp only [Int.natCast_zero] at *
    omega
  | k + 1, hk => by
    have ih := hd_ge h k (by omega)
    have h1 := all_at (show (List.range l.length).all (Gr.hdAt n l) = true from h) hk
    unfold Gr.hdAt Gr.hdLast at h1
    simp only [Bool.and_eq_true] at h1
    have h2 := h1.1.1
    rw [if_neg (by omega)] at h2
    simp only [Nat.add_sub_cancel, decide_eq_true_eq] at h2
    omega
theorem hds_len {n : Nat} {l : List (Int × Int)} (h : Gr.hdsOk n l = true) : l.length ≤ n := by
  rcases Nat.eq_zero_or_pos l.length with h0 | h0
  · omega
  · have h1 := hd_ge h (l.length - 1) (by omega)
    have h2 := all_at (show (List.range l.length).all (Gr.hdAt n l) = true from h) (show l.length - 1 < l.length by omega)
    unfold Gr.hdAt at h2
    simp only [Bool.and_eq_true] at h2
    have := inn_of h2.1.2
    omega
theorem opsN_ge (l : List Gr.Blk) : ∀ n k, k < n → (l.getD k Gr.blk0).ops.length ≤ Gr.opsN l n
  | 0, k, h => by omega
  | n + 1, k, h => by
    unfold Gr.opsN
    rcases Nat.lt_succ_iff_lt_or_eq.1 h with h | rfl
    · have := opsN_ge l n k h; omega
    · omega
/-- A graph within its bounds. -/
structure OkG (g : Gr.G) : Prop where
  ins : g.ins.length ≤ 64
  ars : g.ars.length ≤ 8
  pts : g.pts.length ≤ 39
  pt : ∀ k, k < g.pts.length → (g.pts.getD k []).length ≤ 64
  hds : g.hds.length ≤ 64
  blks : g.blks.length ≤ 64
  blk : ∀ k, k < g.blks.length → Bg (g.blks.getD k Gr.blk0)
theorem okg_of {g : Gr.G} (h : Gr.chk g = 0) : OkG g := by
  unfold Gr.chk at h
  split at h
  · exact absurd h (by decide)
  · rename_i hb
    split at h
    · rename_i hr
      have hb' : Gr.big g = false := by simpa using hb
      unfold Gr.big Gr.manyB at hb'
      simp only [Bool.or_eq_false_iff, decide_eq_false_iff_not] at hb'
      obtain ⟨⟨⟨⟨b1, b2⟩, b3⟩, b4⟩, b5⟩ := hb'
      unfold Gr.right at hr
      simp only [Bool.and_eq_true] at hr
      obtain ⟨⟨⟨hd, he, hk⟩, hp⟩, hh⟩ := hr
      unfold Gr.datOk at hd
      simp only [Bool.and_eq_true] at hd
      have d1 := inn_of hd.1.1.1.1
      have d2 : (g.ins.length : Int) ≤ g.keep := by simpa using hd.1.1.1.2
      have hpt : ∀ k, k < g.pts.length → (g.pts.getD k []).length ≤ 64 := fun k hkk => by
        have := pt_len (all_at (show (List.range g.pts.length).all (fun k => Gr.ptOk g.blks.length (g.pts.getD k [])) = true from hp) hkk)
        omega
      have hhd := hds_len hh
      refine ⟨by omega, by omega, by omega, hpt, by omega, by omega, fun k hkk => ?_⟩
      have hbk := all_at (show (List.range g.blks.length).all (fun k => Gr.blkOk g.vars g.ars.length g.blks.length (g.blks.getD k Gr.blk0)) = true from hk) hkk
      unfold Gr.blkOk at hbk
      rw [Bool.and_eq_true] at hbk
      have hlen := opsN_ge g.blks _ k hkk
      have hnx := hbk.2
      unfold Gr.nxOk at hnx
      rw [Bool.and_eq_true] at hnx
      have h2 := hnx.2
      have hc : (g.blks.getD k Gr.blk0).next.length ≤ 2 ∧ 0 ≤ (g.blks.getD k Gr.blk0).cond ∧ (g.blks.getD k Gr.blk0).cond ≤ 1000 := by
        split at h2
        · rename_i e2
          rw [Bool.and_eq_true] at h2
          have := inn_of h2.2
          omega
        · rw [Bool.and_eq_true] at h2
          have h3 := zer_of h2.2
          have h4 : (g.blks.getD k Gr.blk0).next.length < 2 := by simpa using h2.1
          omega
      refine ⟨by omega, ⟨g.vars, by omega, by omega, fun j hj => ?_⟩, hc.1, hc.2⟩
      have hj' := all_at (show (List.range (g.blks.getD k Gr.blk0).ops.length).all (Gr.opAt g.vars g.ars.length (g.blks.getD k Gr.blk0).ops) = true from hbk.1) hj
      unfold Gr.opAt at hj'
      simp only [Bool.and_eq_true] at hj'
      exact good_of (A := g.ars.length) (by omega) (by omega) hj'.1.1
    · exact absurd h (by decide)
end Fo
end Go.Proofs.Ythjolbgkancohaa
