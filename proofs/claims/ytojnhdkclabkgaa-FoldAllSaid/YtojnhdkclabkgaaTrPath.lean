/- Which way a run goes through a graph, as plain functions. No condition. -/
import Derived.Test.YtojnhdkclabkgaaTrMath
namespace Go.Proofs.Ytojnhdkclabkgaa
namespace Tr
/-- Where a run stands: block, variables and arrays, counts, steps, what is left. -/
structure Cf where
  at_ : Nat
  s : St
  cnt : List Int
  steps : Int
  left : Int
def blk (g : Gr.G) (k : Nat) : Gr.Blk := g.blks.getD k Gr.blk0
/-- Behind the operations of its block. -/
def pass (g : Gr.G) (c : Cf) : Cf := ⟨c.at_, acts c.s (blk g c.at_).ops (blk g c.at_).ops.length, c.cnt.set c.at_ (c.cnt.getD c.at_ 0 + 1), c.steps + (blk g c.at_).ops.length, c.left - 1 - (blk g c.at_).ops.length⟩
def nxt (g : Gr.G) (c : Cf) : Nat := if (blk g c.at_).next.length = 1 ∨ Tr.at_ c.s (blk g c.at_).cond ≠ 0 then ((blk g c.at_).next.getD 0 0).toNat else ((blk g c.at_).next.getD 1 0).toNat
def stp (g : Gr.G) (c : Cf) : Cf := { pass g c with at_ := nxt g (pass g c) }
def its (g : Gr.G) (c : Cf) : Nat → Cf
  | 0 => c
  | n + 1 => stp g (its g c n)
/-- A run comes to its end behind N blocks. -/
structure Goes (g : Gr.G) (c : Cf) (N : Nat) : Prop where
  at_ : ∀ n, n ≤ N → (its g c n).at_ < g.blks.length
  left : ∀ n, n ≤ N → ((blk g (its g c n).at_).ops.length : Int) + 1 ≤ (its g c n).left
  more : ∀ n, n < N → (blk g (its g c n).at_).next.length = 1 ∨ (blk g (its g c n).at_).next.length = 2
  done : (blk g (its g c N).at_).next.length = 0
theorem its_cnt_len (g : Gr.G) (c : Cf) : ∀ n, (its g c n).cnt.length = c.cnt.length
  | 0 => rfl
  | n + 1 => by
    show ((its g c n).cnt.set _ _).length = _
    rw [List.length_set]
    exact its_cnt_len g c n
def init (V : Nat) (xs : List Int) (ars : List (ByteArray × Int)) : St := ⟨xs ++ List.replicate (V - xs.length) 0, ars.map fun a => List.replicate a.2.toNat 0⟩
def start (g : Gr.G) (V : Nat) (xs : List Int) (n : Int) : Cf := ⟨0, init V xs g.ars, List.replicate g.blks.length 0, 0, n⟩
theorem its_wf {g : Gr.G} {V A : Nat} {c : Cf} (h : Wf V A c.s) (hops : ∀ k, k < g.blks.length → ∀ j, j < (blk g k).ops.length → Ok V A ((blk g k).ops.getD j Gr.op0)) {N : Nat} (hg : Goes g c N) : ∀ n, n ≤ N → Wf V A (its g c n).s
  | 0, _ => h
  | n + 1, hn => by
    have ih := its_wf h hops hg n (by omega)
    exact ih.acts (hops _ (hg.at_ n (by omega))) _ (Nat.le_refl _)
theorem its_steps (g : Gr.G) (c : Cf) : ∀ n, (its g c n).steps + (its g c n).left + n = c.steps + c.left
  | 0 => by simp [its]
  | n + 1 => by
    have ih := its_steps g c n
    show ((its g c n).steps + _) + ((its g c n).left - 1 - _) + _ = _
    omega
theorem its_steps0 (g : Gr.G) (c : Cf) (h : 0 ≤ c.steps) : ∀ n, 0 ≤ (its g c n).steps
  | 0 => h
  | n + 1 => by
    have ih := its_steps0 g c h n
    show 0 ≤ (its g c n).steps + _
    omega
end Tr
end Go.Proofs.Ytojnhdkclabkgaa
