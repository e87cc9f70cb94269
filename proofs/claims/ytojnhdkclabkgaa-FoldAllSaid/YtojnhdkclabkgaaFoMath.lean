/- What folding does, as plain functions of lists. No condition. -/
import Derived.Test.YtojnhdkclabkgaaGrMath
namespace Go.Proofs.Ytojnhdkclabkgaa
namespace Fo
open Go.RowKit (wrap32 wrap64)
/-- What is known of variables: words, and of what they are copies. -/
structure S where
  wd : Int → Option Int
  cp : Int → Option Int
def s0 : S := ⟨fun _ => none, fun _ => none⟩
def use (s : S) (v : Int) : Int := (s.cp v).getD v
/-- The operands' sources. -/
def direct (s : S) (o : Gr.Op) : Gr.Op :=
  if o.kind = 3 ∨ o.kind = 5 then { o with a := use s o.a, b := use s o.b } else if o.kind = 2 ∨ o.kind = 4 then { o with a := use s o.a } else o
/-- What an operation computes from known words. -/
def result (s : S) (o : Gr.Op) : Option Int :=
  if o.kind = 2 then s.wd o.a else if o.kind = 3 then (s.wd o.a).bind fun x => (s.wd o.b).map fun y => val o.imm x y else none
def const (s : S) (o : Gr.Op) : Gr.Op := match result s o with
  | some n => ⟨1, o.dst, 0, 0, n⟩
  | none => o
def upd (f : Int → Option Int) (d : Int) (x : Option Int) : Int → Option Int := fun v => if v = d then x else f v
/-- No variable is a copy of d any more, nor is d one. -/
def cut (f : Int → Option Int) (d : Int) : Int → Option Int := fun v => if v = d ∨ f v = some d then none else f v
def learn (s : S) (o : Gr.Op) : S :=
  if o.kind = 5 ∨ o.kind = 6 ∨ o.kind = 7 then s
  else ⟨upd s.wd o.dst (if o.kind = 1 then some o.imm else none), if o.kind = 2 ∧ o.a ≠ o.dst then upd (cut s.cp o.dst) o.dst (some o.a) else cut s.cp o.dst⟩
def step (s : S) (o : Gr.Op) : Gr.Op := const s (direct s o)
/-- The first k operations, folded, and what is known behind them. -/
def runs (l : List Gr.Op) : Nat → S
  | 0 => s0
  | k + 1 => learn (runs l k) (step (runs l k) (l.getD k Gr.op0))
def opAt (l : List Gr.Op) (k : Nat) : Gr.Op := step (runs l k) (l.getD k Gr.op0)
def ops (l : List Gr.Op) : List Gr.Op := (List.range l.length).map (opAt l)
/-- A block, folded. -/
def blk (b : Gr.Blk) : Gr.Blk :=
  let s := runs b.ops b.ops.length
  if b.next.length = 2 then
    match s.wd (use s b.cond) with
    | some n => ⟨ops b.ops, 0, [if n = 0 then b.next.getD 1 0 else b.next.getD 0 0]⟩
    | none => ⟨ops b.ops, use s b.cond, b.next⟩
  else ⟨ops b.ops, b.cond, b.next⟩
def gr (g : Gr.G) : Gr.G := { g with blks := g.blks.map blk }
def ones (n : Nat) : List (List Int) := (List.range n).map fun (i : Nat) => [(i : Int)]
/-- All that is known speaks of variables below V, and of words. -/
structure Ok (V : Int) (s : S) : Prop where
  cp : ∀ v u, s.cp v = some u → 0 ≤ u ∧ u < V
  wd : ∀ v n, s.wd v = some n → -2147483648 ≤ n ∧ n ≤ 2147483647
theorem ok0 (V : Int) : Ok V s0 := ⟨fun v u h => (by cases h), fun v u h => (by cases h)⟩
theorem use_in {V : Int} {s : S} (h : Ok V s) {v : Int} (h0 : 0 ≤ v) (hV : v < V) : 0 ≤ use s v ∧ use s v < V := by
  unfold use
  cases hc : s.cp v with
  | none => exact ⟨h0, hV⟩
  | some u => exact h.cp v u hc
theorem Ok.learn {V : Int} {s : S} (h : Ok V s) {o : Gr.Op} (hi : o.kind = 1 → -2147483648 ≤ o.imm ∧ o.imm ≤ 2147483647) (ha : o.kind = 2 → 0 ≤ o.a ∧ o.a < V) : Ok V (learn s o) := by
  unfold Fo.learn
  by_cases hk : o.kind = 5 ∨ o.kind = 6 ∨ o.kind = 7
  · rw [if_pos hk]; exact h
  · rw [if_neg hk]
    have hcut : ∀ v u, cut s.cp o.dst v = some u → 0 ≤ u ∧ u < V := fun v u hv => by
      unfold cut at hv
      split at hv
      · cases hv
      · exact h.cp v u hv
    refine ⟨fun v u hv => ?_, fun v n hv => ?_⟩
    · simp only at hv
      split at hv
      · rename_i h2
        unfold upd at hv
        split at hv
        · injection hv with hv; subst hv; exact ha h2.1
        · exact hcut v u hv
      · exact hcut v u hv
    · simp only [upd] at hv
      split at hv
      · split at hv
        · rename_i h1
          injection hv with hv
          subst hv
          exact hi h1
        · cases hv
      · exact h.wd v n hv
end Fo
end Go.Proofs.Ytojnhdkclabkgaa
