/- Which graphs are right, as plain functions of lists of numbers. No condition. -/
import Derived.Test.YtojnhdkclabkgaaWdPlain
namespace Go.Proofs.Ytojnhdkclabkgaa
namespace Gr
open Go.RowKit (wrap32 wrap64)
/-- An operation. -/
structure Op where
  kind : Int
  dst : Int
  a : Int
  b : Int
  imm : Int
/-- A block. -/
structure Blk where
  ops : List Op
  cond : Int
  next : List Int
/-- A graph. -/
structure G where
  ins : List (ByteArray × Int × Int)
  vars : Int
  keep : Int
  ars : List (ByteArray × Int)
  sh : Int
  blks : List Blk
  pts : List (List Int)
  hds : List (Int × Int)
def op0 : Op := ⟨0, 0, 0, 0, 0⟩
def blk0 : Blk := ⟨[], 0, []⟩
def in0 : ByteArray × Int × Int := (ByteArray.empty, 0, 0)
def ar0 : ByteArray × Int := (ByteArray.empty, 0)
/-- A number from 0 on, below n. -/
def inn (k n : Int) : Bool := decide (0 ≤ k) && decide (k < n)
def isW (n : Int) : Bool := decide (wrap32 n = n)
def knw (n : Int) : Bool := decide (1 ≤ n ∧ n ≤ 14)
def zer (n : Int) : Bool := decide (n = 0)
/-- Which operations are right. -/
def opOk (V A : Int) (o : Op) : Bool :=
  if o.kind = 1 then inn o.dst V && isW o.imm && zer o.a && zer o.b
  else if o.kind = 2 then inn o.dst V && inn o.a V && zer o.b && zer o.imm
  else if o.kind = 3 then inn o.dst V && inn o.a V && inn o.b V && knw o.imm
  else if o.kind = 4 then inn o.dst V && inn o.a V && inn o.imm A && zer o.b
  else if o.kind = 5 then inn o.a V && inn o.b V && inn o.imm A && zer o.dst
  else if o.kind = 6 ∨ o.kind = 7 then inn o.imm 4 && zer o.dst && zer o.a && zer o.b
  else false
/-- Operation k of n is right, where it stands. -/
def opAt (V A : Int) (l : List Op) (k : Nat) : Bool :=
  opOk V A (l.getD k op0) && !(decide ((l.getD k op0).kind = 6) && decide (k ≠ 0)) && !(decide ((l.getD k op0).kind = 7) && decide (k + 1 ≠ l.length))
def opsOk (V A : Int) (l : List Op) : Bool := (List.range l.length).all (opAt V A l)
def nxAt (n : Int) (x : Int) : Bool := decide (x ≠ 0) && inn x n
def nxOk (V n : Int) (b : Blk) : Bool :=
  (List.range b.next.length).all (fun k => nxAt n (b.next.getD k 0)) &&
    (if b.next.length = 2 then decide (b.next.getD 0 0 ≠ b.next.getD 1 0) && inn b.cond V else decide (b.next.length < 2) && zer b.cond)
def blkOk (V A n : Int) (b : Blk) : Bool := opsOk V A b.ops && nxOk V n b
def blksOk (V A n : Int) (l : List Blk) : Bool := (List.range l.length).all fun k => blkOk V A n (l.getD k blk0)
/-- How many of the first k blocks have no successor. -/
def ends (l : List Blk) : Nat → Nat
  | 0 => 0
  | k + 1 => ends l k + if (l.getD k blk0).next.length = 0 then 1 else 0
/-- How many operations the first k blocks have. -/
def opsN (l : List Blk) : Nat → Nat
  | 0 => 0
  | k + 1 => opsN l k + (l.getD k blk0).ops.length
theorem ends_le (l : List Blk) (k : Nat) : ends l k ≤ k := by
  induction k with
  | zero => exact Nat.le_refl _
  | succ k ih => unfold ends; split <;> omega
def inOk (x : ByteArray × Int × Int) : Bool := isW x.2.1 && isW x.2.2 && decide (x.2.1 ≤ x.2.2)
def arOk (x : ByteArray × Int) : Bool := decide (x.2 = 1 ∨ x.2 = 2 ∨ x.2 = 4 ∨ x.2 = 8 ∨ x.2 = 16)
def insOk (l : List (ByteArray × Int × Int)) : Bool := (List.range l.length).all fun k => inOk (l.getD k in0)
def arsOk (l : List (ByteArray × Int)) : Bool := (List.range l.length).all fun k => arOk (l.getD k ar0)
/-- Number k of a list is in range, and not there before. -/
def ptAt (n : Int) (l : List Int) (k : Nat) : Bool := inn (l.getD k 0) n && (List.range k).all fun j => decide (l.getD j 0 ≠ l.getD k 0)
def ptOk (n : Int) (l : List Int) : Bool := (List.range l.length).all (ptAt n l)
def ptsOk (n : Int) (l : List (List Int)) : Bool := (List.range l.length).all fun k => ptOk n (l.getD k [])
def hdLast (l : List (Int × Int)) (k : Nat) : Int := if k = 0 then -1 else (l.getD (k - 1) (0, 0)).1
def hdAt (n : Int) (l : List (Int × Int)) (k : Nat) : Bool := decide (hdLast l k < (l.getD k (0, 0)).1) && inn (l.getD k (0, 0)).1 n && inn (l.getD k (0, 0)).2 4001
def hdsOk (n : Int) (l : List (Int × Int)) : Bool := (List.range l.length).all (hdAt n l)
def datOk (g : G) : Bool := inn g.keep (g.vars + 1) && decide ((g.ins.length : Int) ≤ g.keep) && inn g.sh (g.ars.length + 1) && insOk g.ins && arsOk g.ars
def right (g : G) : Bool := datOk g && (decide (ends g.blks g.blks.length = 1) && blksOk g.vars g.ars.length g.blks.length g.blks) && ptsOk g.blks.length g.pts && hdsOk g.blks.length g.hds
def manyB (l : List Blk) : Bool := decide (64 < l.length) || decide (600 < opsN l l.length)
def big (g : G) : Bool := manyB g.blks || decide (64 < g.vars) || decide (8 < g.ars.length) || decide (39 < g.pts.length)
/-- What Check answers. -/
def chk (g : G) : Int := if big g = true then 4 else if right g = true then 0 else 10
/-- Lists are no longer than memory holds. -/
structure Fit (g : G) : Prop where
  ins : g.ins.length ≤ 140737488355328
  ars : g.ars.length ≤ 140737488355328
  blks : g.blks.length ≤ 140737488355328
  pts : g.pts.length ≤ 140737488355328
  hds : g.hds.length ≤ 140737488355328
  ops : ∀ b ∈ g.blks, b.ops.length ≤ 140737488355328 ∧ b.next.length ≤ 140737488355328
  pt : ∀ q ∈ g.pts, q.length ≤ 140737488355328
  vlo : -9223372036854775808 ≤ g.vars
theorem le_max {n : Nat} (h : n ≤ 140737488355328) : n ≤ maxLen := by unfold maxLen; omega
end Gr
theorem all_false {p : Nat → Bool} {n k : Nat} (hk : k < n) (h : p k = false) : (List.range n).all p = false := by
  rw [List.all_eq_false]
  exact ⟨k, by simpa using hk, by simp [h]⟩
theorem all_true {p : Nat → Bool} {n : Nat} (h : ∀ k, k < n → p k = true) : (List.range n).all p = true := by
  rw [List.all_eq_true]
  intro k hk
  exact h k (by simpa using hk)
theorem all_at {p : Nat → Bool} {n k : Nat} (h : (List.range n).all p = true) (hk : k < n) : p k = true := by
  rw [List.all_eq_true] at h
  exact h k (by simpa using hk)
theorem all_not_any {p : Nat → Bool} {n : Nat} : (!((List.range n).any fun k => !(p k))) = (List.range n).all p := by
  rw [Bool.eq_iff_iff, Bool.not_eq_true', List.any_eq_false, List.all_eq_true]
  constructor
  · intro h k hk
    have := h k hk
    simpa using this
  · intro h k hk
    simp [h k hk]
theorem mem_getD {α : Type} {l : List α} {j : Nat} {d : α} (hj : j < l.length) : l.getD j d ∈ l := by
  rw [List.getD_eq_getElem?_getD, List.getElem?_eq_getElem hj]
  exact List.getElem_mem hj
end Go.Proofs.Ytojnhdkclabkgaa
