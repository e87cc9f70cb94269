/- Rows of operations that a call makes, and the state of fold's loop. No condition. -/
import Derived.Test.YtojnhdkclabkgaaGrParts
import Derived.Test.YtojnhdkclabkgaaFoBranch
import Derived.Test.YtojnhdkclabkgaaFoClone
import Derived.Test.YtojnhdkclabkgaaFoGood
namespace Go.Proofs.Ytojnhdkclabkgaa
open Go.RowKit Go.Maps
set_option linter.unusedVariables false
set_option linter.unusedSimpArgs false
attribute [local go_sem] y_undef
theorem mapf_new (w : World) : MapF (w.alloc (.map #[] 0)) w.heap.size 0 (fun _ => none) := ⟨_, World.ownsMap_made _ _ _ _, fun z hz => ⟨rfl, rfl⟩⟩
/-- The boxes of fold's block, result and knowledge, its maps, and the row in the making. -/
structure Fs (w : World) (oc : Array Value) (l : List Gr.Op) (n k j : Nat) (u : World) : Prop where
  low : Below w.heap.size w u
  ob : Bk u w.heap.size 34 oc
  rb : Bk u (w.heap.size + 1) 34 #[.slice none 0 0, .int .i64 0, .slice none 0 0]
  kb : Bk u (w.heap.size + 1 + 1 + 1 + 1) 77 #[.map (some (w.heap.size + 1 + 1)), .map (some (w.heap.size + 1 + 1 + 1))]
  kn : Kn u (w.heap.size + 1 + 1) (w.heap.size + 1 + 1 + 1) k (Fo.runs l k)
  row : Bk u (w.heap.size + 1 + 1 + 1 + 1 + 1) 27 (opRow n fun i => if i < j then Fo.opAt l i else Gr.op0)
section
variable {w u u' : World} {oc : Array Value} {l : List Gr.Op} {n k j : Nat}
theorem Fs.below (h : Fs w oc l n k j u) (hb : Below u.heap.size u u') : Fs w oc l n k j u' := ⟨blt h.low hb, h.ob.below hb, h.rb.below hb, h.kb.below hb, h.kn.below hb, h.row.below hb⟩
theorem fs_new (w : World) (oc : Array Value) (l : List Gr.Op) (n : Nat) : Fs w oc l n 0 0 ((((((w.alloc (.cells oc 34)).alloc (.cells #[.slice none 0 0, .int .i64 0, .slice none 0 0] 34)).alloc (.map #[] 0)).alloc (.map #[] 0)).alloc (.cells #[.map (some (w.heap.size + 1 + 1)), .map (some (w.heap.size + 1 + 1 + 1))] 77)).alloc (.cells (opRow n (fun _ => Gr.op0)) 27)) := by
  have B : ∀ (u : World) (o : Obj), Below u.heap.size u (u.alloc o) := fun u o => bla (Below.refl _ _) o
  refine ⟨bla (bla (bla (bla (bla (bla (Below.refl _ _) _) _) _) _) _) _, ?_, ?_, ?_, ⟨?_, ?_⟩, ?_⟩
  · exact ((((((Bk.new w _ _).below (B _ _)).below (B _ _)).below (B _ _)).below (B _ _)).below (B _ _))
  · have h := Bk.new (w.alloc (.cells oc 34)) 34 #[.slice none 0 0, .int .i64 0, .slice none 0 0]
    simp only [size_alloc] at h
    exact ((((h.below (B _ _)).below (B _ _)).below (B _ _)).below (B _ _))
  · have h := Bk.new ((((w.alloc (.cells oc 34)).alloc (.cells #[.slice none 0 0, .int .i64 0, .slice none 0 0] 34)).alloc (.map #[] 0)).alloc (.map #[] 0)) 77 #[.map (some (w.heap.size + 1 + 1)), .map (some (w.heap.size + 1 + 1 + 1))]
    simp only [size_alloc] at h
    exact h.below (B _ _)
  · have h := mapf_new ((w.alloc (.cells oc 34)).alloc (.cells #[.slice none 0 0, .int .i64 0, .slice none 0 0] 34))
    simp only [size_alloc] at h
    exact ((h.below (B _ _)).below (B _ _)).below (B _ _)
  · have h := mapf_new (((w.alloc (.cells oc 34)).alloc (.cells #[.slice none 0 0, .int .i64 0, .slice none 0 0] 34)).alloc (.map #[] 0))
    simp only [size_alloc] at h
    exact (h.below (B _ _)).below (B _ _)
  · have h := Bk.new (((((w.alloc (.cells oc 34)).alloc (.cells #[.slice none 0 0, .int .i64 0, .slice none 0 0] 34)).alloc (.map #[] 0)).alloc (.map #[] 0)).alloc (.cells #[.map (some (w.heap.size + 1 + 1)), .map (some (w.heap.size + 1 + 1 + 1))] 77)) 27 (opRow n (fun _ => Gr.op0))
    simp only [size_alloc] at h
    exact h
theorem far6 (h : Fs w oc l n k j u) (u' : World) (hs : u'.heap.size = u.heap.size) (hos : u'.os = u.os) (ht : u'.tape = u.tape) (hou : u'.output = u.output) (hb : ∀ q, q ≠ w.heap.size + 1 + 1 + 1 + 1 + 1 → u'.heap[q]? = u.heap[q]?) (j' : Nat)
    (hr : Bk u' (w.heap.size + 1 + 1 + 1 + 1 + 1) 27 (opRow n fun i => if i < j' then Fo.opAt l i else Gr.op0)) : Fs w oc l n k j' u' :=
  ⟨⟨hos.trans h.low.os, ht.trans h.low.tape, hou.trans h.low.output, by rw [hs]; exact h.low.size, fun q hq => (hb q (by omega)).trans (h.low.block q hq)⟩, (hb _ (by omega)).trans h.ob, (hb _ (by omega)).trans h.rb, (hb _ (by omega)).trans h.kb, ⟨h.kn.1.kept (hb _ (by omega)), h.kn.2.kept (hb _ (by omega))⟩, hr⟩
theorem Fs.set (h : Fs w oc l n k k u) (hk : k < n) (o : Gr.Op) (hoo : Fo.opAt l k = o) : Fs w oc l n k (k + 1) (((((u.setCell ⟨w.heap.size + 1 + 1 + 1 + 1 + 1, k * 5, none⟩ (.int .i64 o.kind)).setCell ⟨w.heap.size + 1 + 1 + 1 + 1 + 1, k * 5 + 1, none⟩ (.int .i64 o.dst)).setCell ⟨w.heap.size + 1 + 1 + 1 + 1 + 1, k * 5 + 2, none⟩ (.int .i64 o.a)).setCell ⟨w.heap.size + 1 + 1 + 1 + 1 + 1, k * 5 + 3, none⟩ (.int .i64 o.b)).setCell ⟨w.heap.size + 1 + 1 + 1 + 1 + 1, k * 5 + 4, none⟩ (.int .i64 o.imm)) := by
  have hr := ((((h.row.set (k * 5) (.int .i64 o.kind)).set (k * 5 + 1) (.int .i64 o.dst)).set (k * 5 + 2) (.int .i64 o.a)).set (k * 5 + 3) (.int .i64 o.b)).set (k * 5 + 4) (.int .i64 o.imm)
  rw [opRow_set n _ (fun i => if i < k + 1 then Fo.opAt l i else Gr.op0) k o (fun i hi => by
    by_cases e : i = k
    · subst e; simp [hoo]
    · rw [if_neg e]
      by_cases hl : i < k
      · rw [if_pos hl, if_pos (by omega)]
      · rw [if_neg hl, if_neg (by omega)])] at hr
  have hB : Below 0 u _ := (((((Below.refl 0 u).setCell (p := ⟨w.heap.size + 1 + 1 + 1 + 1 + 1, k * 5, none⟩) (Nat.zero_le _) (.int .i64 o.kind)).setCell (p := ⟨w.heap.size + 1 + 1 + 1 + 1 + 1, k * 5 + 1, none⟩) (Nat.zero_le _) (.int .i64 o.dst)).setCell (p := ⟨w.heap.size + 1 + 1 + 1 + 1 + 1, k * 5 + 2, none⟩) (Nat.zero_le _) (.int .i64 o.a)).setCell (p := ⟨w.heap.size + 1 + 1 + 1 + 1 + 1, k * 5 + 3, none⟩) (Nat.zero_le _) (.int .i64 o.b)).setCell (p := ⟨w.heap.size + 1 + 1 + 1 + 1 + 1, k * 5 + 4, none⟩) (Nat.zero_le _) (.int .i64 o.imm)
  refine far6 h _ (by simp) hB.os hB.tape hB.output (fun q hq => ?_) (k + 1) hr
  exact ((((Below.heap_setCell _ _ _ q hq).trans (Below.heap_setCell _ _ _ q hq)).trans (Below.heap_setCell _ _ _ q hq)).trans (Below.heap_setCell _ _ _ q hq)).trans (Below.heap_setCell _ _ _ q hq)
theorem Fs.learn (h : Fs w oc l n k j u) (hm : Mu (w.heap.size + 1 + 1) (w.heap.size + 1 + 1 + 1) u u') (hk : Kn u' (w.heap.size + 1 + 1) (w.heap.size + 1 + 1 + 1) (k + 1) (Fo.runs l (k + 1))) : Fs w oc l n (k + 1) j u' :=
  ⟨h.low.trans (hm.below (by omega) (by omega) h.low.size), hm.bk h.ob (by omega) (by omega), hm.bk h.rb (by omega) (by omega), hm.bk h.kb (by omega) (by omega), hk, hm.bk h.row (by omega) (by omega)⟩
end
theorem Fs.box {w u : World} {oc : Array Value} {l : List Gr.Op} {n k j : Nat} (h : Fs w oc l n k j u) (i : Nat) (x : Value) (oc' : Array Value) (hoc : oc.setIfInBounds i x = oc') : Fs w oc' l n k j (u.setCell ⟨w.heap.size, i, none⟩ x) := by
  subst hoc
  refine ⟨h.low.setCell (Nat.le_refl _) x, h.ob.set i x, h.rb.far (by show w.heap.size + 1 ≠ w.heap.size; omega) x, h.kb.far (by show w.heap.size + 1 + 1 + 1 + 1 ≠ w.heap.size; omega) x, ⟨h.kn.1.kept (Below.heap_setCell _ _ _ _ (by show w.heap.size + 1 + 1 ≠ w.heap.size; omega)), h.kn.2.kept (Below.heap_setCell _ _ _ _ (by show w.heap.size + 1 + 1 + 1 ≠ w.heap.size; omega))⟩, h.row.far (by show w.heap.size + 1 + 1 + 1 + 1 + 1 ≠ w.heap.size; omega) x⟩
theorem ops_in {u : World} {g n : Nat} {f : Nat → Gr.Op} {l : List Gr.Op} (h : Bk u g 27 (opRow n f)) (hl : (List.range n).map f = l) (C : Nat) : OpsIn u (.slice (some ⟨g, 0, none⟩) l.length C) l := by
  subst hl
  refine ⟨_, C, rfl, by rw [flat_length opCells 5 (fun _ => rfl)], .inr ⟨g, 0, rfl, h.lt, fun j y hj => ?_⟩⟩
  rw [Nat.zero_add, h.cell j]
  unfold opRow
  rw [List.getElem?_toArray]
  exact hj
theorem fs_ops {w u : World} {oc : Array Value} {l : List Gr.Op} {n : Nat} (h : Fs w oc l n n n u) (hn : l.length = n) (C : Nat) : OpsIn u (.slice (some ⟨w.heap.size + 1 + 1 + 1 + 1 + 1, 0, none⟩) (Fo.ops l).length C) (Fo.ops l) :=
  ops_in h.row (by
    unfold Fo.ops
    rw [hn]
    apply List.map_congr_left
    intro i hi
    rw [if_pos (List.mem_range.1 hi)]) C
theorem blk_not2 {b : Gr.Blk} (h : b.next.length ≠ 2) : Fo.blk b = ⟨Fo.ops b.ops, b.cond, b.next⟩ := by unfold Fo.blk; simp only [if_neg h]
theorem br_parts {b : Gr.Blk} {n : Nat} (hn : b.ops.length = n) (h2 : b.next.length = 2) {g c : Nat} : ∃ cd off m cp nx, brV (Fo.runs b.ops n) b.cond g 0 c = .tuple #[.int .i64 cd, .slice (some ⟨g, off, none⟩) m cp] ∧ Fo.blk b = ⟨Fo.ops b.ops, cd, nx⟩ ∧ nx.length = m ∧ ∀ u : World, NumsIn u (.slice (some ⟨g, 0, none⟩) 2 c) b.next → NumsIn u (.slice (some ⟨g, off, none⟩) m cp) nx := by
  subst hn
  unfold brV Fo.blk
  simp only [if_pos h2]
  obtain ⟨x, y, e⟩ : ∃ x y, b.next = [x, y] := by
    match hb : b.next, h2 with
    | [x, y], _ => exact ⟨x, y, rfl⟩
  cases hw : (Fo.runs b.ops b.ops.length).wd (Fo.use (Fo.runs b.ops b.ops.length) b.cond) with
  | none => exact ⟨_, 0, 2, c, b.next, rfl, rfl, h2, fun u hu => hu⟩
  | some k =>
    by_cases hk : k = 0
    · simp only [if_pos hk]
      refine ⟨0, 0 + 1, 1, c - 1, _, rfl, rfl, rfl, fun u hu => ?_⟩
      rw [e] at hu ⊢
      obtain ⟨A, c', ev, hl, h0 | ⟨b', off, eA, hlt, hc⟩⟩ := hu
      · exact absurd h0 (by simp)
      · injection ev with e1 e2 e3
        subst e1
        injection eA with eA
        injection eA with e4 e5
        subst e4 e5
        refine ⟨_, _, rfl, rfl, .inr ⟨g, 0 + 1, rfl, hlt, fun j z hj => ?_⟩⟩
        have hj0 : j = 0 := by
          rcases Nat.lt_or_ge j 1 with h | h
          · omega
          · rw [List.getElem?_eq_none (by simpa using h)] at hj; cases hj
        subst hj0
        have := hc 1 (.int .i64 y) rfl
        simp at hj
        subst hj
        simpa using this
    · simp only [if_neg hk]
      refine ⟨0, 0, 1, c, _, rfl, rfl, rfl, fun u hu => ?_⟩
      rw [e] at hu ⊢
      obtain ⟨A, c', ev, hl, h0 | ⟨b', off, eA, hlt, hc⟩⟩ := hu
      · exact absurd h0 (by simp)
      · injection ev with e1 e2 e3
        subst e1
        injection eA with eA
        injection eA with e4 e5
        subst e4 e5
        refine ⟨_, _, rfl, rfl, .inr ⟨g, 0, rfl, hlt, fun j z hj => ?_⟩⟩
        have hj0 : j = 0 := by
          rcases Nat.lt_or_ge j 1 with h | h
          · omega
          · rw [List.getElem?_eq_none (by simpa using h)] at hj; cases hj
        subst hj0
        have := hc 0 (.int .i64 x) rfl
        simp at hj
        subst hj
        simpa using this
end Go.Proofs.Ytojnhdkclabkgaa
