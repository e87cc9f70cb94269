/- MergeShapes' graph in the making: blocks, points and heads in rows of the law's own. No condition. MergeShapes' lists of points, with room for what they have. No condition. MergeShapes' walk. No condition. -/
import Derived.Test.YtojnhdkclabkgaaMeRnA
import Derived.Test.YtojnhdkclabkgaaGrRefD
import Derived.Test.YtojnhdkclabkgaaMeRawLaw
import Derived.Test.YtojnhdkclabkgaaMeSpec
import Derived.LoopTactic
import Derived.BigQuiet
import Derived.Deep.DeepCutAuto
import Derived.Deep.CutBlock
import Derived.StillTailTactics
namespace Go.Proofs.Ytojnhdkclabkgaa
open Go.RowKit
set_option linter.unusedVariables false
set_option linter.unusedSimpArgs false
theorem bk_nwS {w : World} {g : Nat} {t : TypeId} {cs : Array Value} (h : g = w.heap.size) : Bk (w.alloc (.cells cs t)) g t cs := by subst h; exact Bk.new w t cs
/-- The row of blocks, the graph's box, its lists. -/
structure Sg (w : World) (n : Nat) (us : Nat → Value × Int × Value) (bl : Nat → Gr.Blk) (y yh : Value) (ps : List Value) (pt : List (List Int)) (hl : List (Int × Int)) (u : World) : Prop where
  low : Below w.heap.size w u
  qr : Bk u w.heap.size 34 (bkRow n us)
  fb : Bk u (w.heap.size + 1) 40 #[.slice none 0 0, .int .i64 2, .int .i64 1, .slice none 0 0, .int .i64 0, .slice (some ⟨w.heap.size, 0, none⟩) n n, y, yh]
  el : ∀ i, i < n → Bq (w.heap.size + 1 + 1) u (us i) (bl i) ∧ (bl i).ops.length ≤ 2 ∧ (bl i).next.length ≤ 2
  po : u.ownsRow (w.heap.size + 1 + 1) 32 1 y pt.length ps
  pr : ∀ i, i < pt.length → u.ownsRow (w.heap.size + 1 + 1) 3 1 (ps.getD i nl) (pt.getD i []).length ((pt.getD i []).map (.int .i64)) ∧ (pt.getD i []).length ≤ 2
  hd : u.ownsRow (w.heap.size + 1 + 1) 52 2 yh hl.length (hl.flatMap prCells) ∧ hl.length ≤ 1
theorem own_int1 (u : World) (a : Int) {base : Nat} (hb : base ≤ u.heap.size) : (u.alloc (.cells #[.int .i64 a] 3)).ownsRow base 3 1 (.slice (some ⟨u.heap.size, 0, none⟩) 1 1) [a].length ([a].map (.int .i64)) := by
  have h := World.ownsRow_lit (e := 3) (size := 1) (base := base) u #[.int .i64 a] 1 hb (by unfold maxLen; omega) rfl
  exact h
theorem own_int2 (u : World) (a b : Int) {base : Nat} (hb : base ≤ u.heap.size) : (u.alloc (.cells #[.int .i64 a, .int .i64 b] 3)).ownsRow base 3 1 (.slice (some ⟨u.heap.size, 0, none⟩) 2 2) [a, b].length ([a, b].map (.int .i64)) := by
  have h := World.ownsRow_lit (e := 3) (size := 1) (base := base) u #[.int .i64 a, .int .i64 b] 2 hb (by unfold maxLen; omega) rfl
  exact h
theorem own_op1 (u : World) (o : Gr.Op) {base : Nat} (hb : base ≤ u.heap.size) : (u.alloc (.cells #[.int .i64 o.kind, .int .i64 o.dst, .int .i64 o.a, .int .i64 o.b, .int .i64 o.imm] 27)).ownsRow base 27 5 (.slice (some ⟨u.heap.size, 0, none⟩) 1 1) [o].length ([o].flatMap opCells) := by
  have h := World.ownsRow_lit (e := 27) (size := 5) (base := base) u #[.int .i64 o.kind, .int .i64 o.dst, .int .i64 o.a, .int .i64 o.b, .int .i64 o.imm] 1 hb (by unfold maxLen; omega) rfl
  exact h
theorem own_op2 (u : World) (o p : Gr.Op) {base : Nat} (hb : base ≤ u.heap.size) : (u.alloc (.cells #[.int .i64 o.kind, .int .i64 o.dst, .int .i64 o.a, .int .i64 o.b, .int .i64 o.imm, .int .i64 p.kind, .int .i64 p.dst, .int .i64 p.a, .int .i64 p.b, .int .i64 p.imm] 27)).ownsRow base 27 5 (.slice (some ⟨u.heap.size, 0, none⟩) 2 2) [o, p].length ([o, p].flatMap opCells) := by
  have h := World.ownsRow_lit (e := 27) (size := 5) (base := base) u #[.int .i64 o.kind, .int .i64 o.dst, .int .i64 o.a, .int .i64 o.b, .int .i64 o.imm, .int .i64 p.kind, .int .i64 p.dst, .int .i64 p.a, .int .i64 p.b, .int .i64 p.imm] 2 hb (by unfold maxLen; omega) rfl
  exact h
theorem own_hd1 (u : World) (a b : Int) {base : Nat} (hb : base ≤ u.heap.size) : (u.alloc (.cells #[.int .i64 a, .int .i64 b] 52)).ownsRow base 52 2 (.slice (some ⟨u.heap.size, 0, none⟩) 1 1) [(a, b)].length ([(a, b)].flatMap prCells) := by
  have h := World.ownsRow_lit (e := 52) (size := 2) (base := base) u #[.int .i64 a, .int .i64 b] 1 hb (by unfold maxLen; omega) rfl
  exact h
section
variable {w u u' : World} {n : Nat} {us : Nat → Value × Int × Value} {bl : Nat → Gr.Blk} {y yh x y' : Value} {ps : List Value} {pt : List (List Int)} {hl : List (Int × Int)}
theorem Sg.below (h : Sg w n us bl y yh ps pt hl u) (hb : Below u.heap.size u u') : Sg w n us bl y yh ps pt hl u' :=
  ⟨blt h.low hb, h.qr.below hb, h.fb.below hb, fun i hi => ⟨(h.el i hi).1.below hb, (h.el i hi).2⟩, own_below h.po hb, fun i hi => ⟨own_below (h.pr i hi).1 hb, (h.pr i hi).2⟩, own_below h.hd.1 hb, h.hd.2⟩
theorem Sg.new (w : World) (n : Nat) (hn : n ≤ 1000) : Sg w n (fun _ => bkz) (fun _ => Gr.blk0) (.slice none 0 0) (.slice none 0 0) [] [] []
    ((w.alloc (.cells (bkRow n fun _ => bkz) 34)).alloc (.cells #[.slice none 0 0, .int .i64 2, .int .i64 1, .slice none 0 0, .int .i64 0, .slice (some ⟨w.heap.size, 0, none⟩) n n, .slice none 0 0, .slice none 0 0] 40)) :=
  ⟨bla (bla (Below.refl _ _) _) _, (Bk.new _ _ _).below (bla (Below.refl _ _) _), bk_nwS (by rw [size_alloc]), fun i hi => ⟨⟨rfl, World.ownsRow_nil _ _ _ _, World.ownsRow_nil _ _ _ _⟩, Nat.zero_le _, Nat.zero_le _⟩, World.ownsRow_nil _ _ _ _, fun i hi => absurd hi (Nat.not_lt_zero _), World.ownsRow_nil _ _ _ _, Nat.zero_le _⟩
/-- A store into the row of blocks. -/
theorem Sg.put (h : Sg w n us bl y yh ps pt hl u) {us' : Nat → Value × Int × Value} {bl' : Nat → Gr.Blk} {c : Nat} (hr : (bkRow n us).setIfInBounds c x = bkRow n us') (he : ∀ i, i < n → Bq (w.heap.size + 1 + 1) u (us' i) (bl' i) ∧ (bl' i).ops.length ≤ 2 ∧ (bl' i).next.length ≤ 2) :
    Sg w n us' bl' y yh ps pt hl (u.setCell ⟨w.heap.size, c, none⟩ x) := by
  have hq := h.qr.set c x
  rw [hr] at hq
  have hs : ∀ {e sz m v xs}, u.ownsRow (w.heap.size + 1 + 1) e sz v m xs → e ≠ 34 → (u.setCell ⟨w.heap.size, c, none⟩ x).ownsRow (w.heap.size + 1 + 1) e sz v m xs := fun h1 hne => own_store_b h1 h.qr hne
  exact ⟨h.low.setCell (Nat.le_refl _) x, hq, h.fb.far (by show w.heap.size + 1 ≠ w.heap.size; omega) x, fun i hi => ⟨⟨(he i hi).1.cnd, hs (he i hi).1.ops (by decide), hs (he i hi).1.nxt (by decide)⟩, (he i hi).2⟩, hs h.po (by decide), fun i hi => ⟨hs (h.pr i hi).1 (by decide), (h.pr i hi).2⟩, hs h.hd.1 (by decide), h.hd.2⟩
theorem bkRow_one (n : Nat) (f : Nat → Value × Int × Value) (i j : Nat) (z : Value × Int × Value) (hz : z.2.1 = (f i).2.1) (hj : (j = 0 ∧ z.2.2 = (f i).2.2 ∧ x = z.1) ∨ (j = 2 ∧ z.1 = (f i).1 ∧ x = z.2.2)) (hi : i < n) :
    (bkRow n f).setIfInBounds (i * 3 + j) x = bkRow n fun k => if k = i then z else f k := by
  have hc := bkRow_cell n f hi
  rw [← bkRow_set n f (fun k => if k = i then z else f k) i z (fun _ _ => rfl)]
  have sn : ∀ (a : Array Value) (k : Nat) (v : Value), a[k]? = some v → a.setIfInBounds k v = a := fun a k v hv => by
    apply Array.ext
    · simp
    · intro q h1 h2
      rw [Array.getElem_setIfInBounds]
      split
      · rename_i e; subst e
        rw [Array.getElem?_eq_getElem h2] at hv
        injection hv with hv
        exact hv.symm
      · rfl
  rcases hj with ⟨rfl, h2, rfl⟩ | ⟨rfl, h2, rfl⟩
  · rw [Nat.add_zero]
    rw [sn _ (i * 3 + 1) (.int .i64 z.2.1) (by rw [Array.getElem?_setIfInBounds, if_neg (by omega), hz]; exact hc.2.1)]
    rw [sn _ (i * 3 + 2) z.2.2 (by rw [Array.getElem?_setIfInBounds, if_neg (by omega), h2]; exact hc.2.2)]
  · rw [sn _ (i * 3) z.1 (by rw [h2]; exact hc.1)]
    rw [sn _ (i * 3 + 1) (.int .i64 z.2.1) (by rw [hz]; exact hc.2.1)]
/-- Other successors of a block. -/
theorem Sg.next (h : Sg w n us bl y yh ps pt hl u) {k : Nat} (hk : k < n) {q : List Int} (hx : u.ownsRow (w.heap.size + 1 + 1) 3 1 x q.length (q.map (.int .i64))) (hq : q.length ≤ 2) :
    ∃ us' bl', Sg w n us' bl' y yh ps pt hl (u.setCell ⟨w.heap.size, k * 3 + 2, none⟩ x) := by
  refine ⟨fun i => if i = k then ((us k).1, (us k).2.1, x) else us i, fun i => if i = k then ⟨(bl k).ops, (bl k).cond, q⟩ else bl i, h.put (bkRow_one n us k 2 _ rfl (.inr ⟨rfl, rfl, rfl⟩) hk) fun i hi => ?_⟩
  by_cases e : i = k
  · subst e
    simp only [if_pos]
    exact ⟨⟨(h.el i hi).1.cnd, (h.el i hi).1.ops, hx⟩, (h.el i hi).2.1, hq⟩
  · simp only [if_neg e]
    exact h.el i hi
/-- Other operations of a block. -/
theorem Sg.ops (h : Sg w n us bl y yh ps pt hl u) {k : Nat} (hk : k < n) {q : List Gr.Op} (hx : u.ownsRow (w.heap.size + 1 + 1) 27 5 x q.length (q.flatMap opCells)) (hq : q.length ≤ 2) :
    ∃ us' bl', Sg w n us' bl' y yh ps pt hl (u.setCell ⟨w.heap.size, k * 3, none⟩ x) := by
  refine ⟨fun i => if i = k then (x, (us k).2.1, (us k).2.2) else us i, fun i => if i = k then ⟨q, (bl k).cond, (bl k).next⟩ else bl i, h.put (c := k * 3) (bkRow_one n us k 0 _ rfl (.inl ⟨rfl, rfl, rfl⟩) hk) fun i hi => ?_⟩
  by_cases e : i = k
  · subst e
    simp only [if_pos]
    exact ⟨⟨(h.el i hi).1.cnd, hx, (h.el i hi).1.nxt⟩, hq, (h.el i hi).2.2⟩
  · simp only [if_neg e]
    exact h.el i hi
/-- Those steps, as a walk spells them. -/
theorem Sg.next1 (h : Sg w n us bl y yh ps pt hl u) {k : Nat} (hk : k < n) (a : Int) : ∃ us' bl', Sg w n us' bl' y yh ps pt hl ((u.setCell ⟨w.heap.size, k * 3 + 2, none⟩ (.slice (some ⟨u.heap.size, 0, none⟩) 1 1)).alloc (.cells #[.int .i64 a] 3)) := by
  have hb := h.fb.lt
  obtain ⟨us', bl', h2⟩ := (h.below (bla (Below.refl _ _) (.cells #[.int .i64 a] 3))).next hk (own_int1 u a hb) (by simp)
  rw [World.setCell_alloc_past _ _ _ _ h.qr.lt] at h2
  exact ⟨us', bl', h2⟩
theorem Sg.next2 (h : Sg w n us bl y yh ps pt hl u) {k : Nat} (hk : k < n) (a b : Int) : ∃ us' bl', Sg w n us' bl' y yh ps pt hl ((u.setCell ⟨w.heap.size, k * 3 + 2, none⟩ (.slice (some ⟨u.heap.size, 0, none⟩) 2 2)).alloc (.cells #[.int .i64 a, .int .i64 b] 3)) := by
  have hb := h.fb.lt
  obtain ⟨us', bl', h2⟩ := (h.below (bla (Below.refl _ _) (.cells #[.int .i64 a, .int .i64 b] 3))).next hk (own_int2 u a b hb) (by simp)
  rw [World.setCell_alloc_past _ _ _ _ h.qr.lt] at h2
  exact ⟨us', bl', h2⟩
theorem Sg.ops1 (h : Sg w n us bl y yh ps pt hl u) {k : Nat} (hk : k < n) (o : Gr.Op) : ∃ us' bl', Sg w n us' bl' y yh ps pt hl ((u.setCell ⟨w.heap.size, k * 3, none⟩ (.slice (some ⟨u.heap.size, 0, none⟩) 1 1)).alloc (.cells #[.int .i64 o.kind, .int .i64 o.dst, .int .i64 o.a, .int .i64 o.b, .int .i64 o.imm] 27)) := by
  have hb := h.fb.lt
  obtain ⟨us', bl', h2⟩ := (h.below (bla (Below.refl _ _) (.cells #[.int .i64 o.kind, .int .i64 o.dst, .int .i64 o.a, .int .i64 o.b, .int .i64 o.imm] 27))).ops hk (own_op1 u o hb) (by simp)
  rw [World.setCell_alloc_past _ _ _ _ h.qr.lt] at h2
  exact ⟨us', bl', h2⟩
theorem Sg.ops2 (h : Sg w n us bl y yh ps pt hl u) {k : Nat} (hk : k < n) (o p : Gr.Op) : ∃ us' bl', Sg w n us' bl' y yh ps pt hl ((u.setCell ⟨w.heap.size, k * 3, none⟩ (.slice (some ⟨u.heap.size, 0, none⟩) 2 2)).alloc (.cells #[.int .i64 o.kind, .int .i64 o.dst, .int .i64 o.a, .int .i64 o.b, .int .i64 o.imm, .int .i64 p.kind, .int .i64 p.dst, .int .i64 p.a, .int .i64 p.b, .int .i64 p.imm] 27)) := by
  have hb := h.fb.lt
  obtain ⟨us', bl', h2⟩ := (h.below (bla (Below.refl _ _) (.cells #[.int .i64 o.kind, .int .i64 o.dst, .int .i64 o.a, .int .i64 o.b, .int .i64 o.imm, .int .i64 p.kind, .int .i64 p.dst, .int .i64 p.a, .int .i64 p.b, .int .i64 p.imm] 27))).ops hk (own_op2 u o p hb) (by simp)
  rw [World.setCell_alloc_past _ _ _ _ h.qr.lt] at h2
  exact ⟨us', bl', h2⟩
/-- A store into the graph's box. -/
theorem Sg.keep (h : Sg w n us bl y yh ps pt hl u) (c : Nat) (z : Value) : Below w.heap.size w (u.setCell ⟨w.heap.size + 1, c, none⟩ z) ∧ Bk (u.setCell ⟨w.heap.size + 1, c, none⟩ z) w.heap.size 34 (bkRow n us) ∧ ∀ {e sz m v xs}, u.ownsRow (w.heap.size + 1 + 1) e sz v m xs → (u.setCell ⟨w.heap.size + 1, c, none⟩ z).ownsRow (w.heap.size + 1 + 1) e sz v m xs :=
  ⟨h.low.setCell (Nat.le_succ _) z, h.qr.far (by show w.heap.size ≠ w.heap.size + 1; omega) z, fun h1 => ownsRow_setCell_below h1 (Nat.lt_succ_self _) z⟩
/-- One more list of points. -/
theorem Sg.pts (h : Sg w n us bl y yh ps pt hl u) {q : List Int} (hx : u.ownsRow (w.heap.size + 1 + 1) 3 1 x q.length (q.map (.int .i64))) (hq : q.length ≤ 2) (hown : u'.ownsRow (w.heap.size + 1 + 1) 32 1 y' (pt.length + 1) (ps ++ [x])) (hg : u.grownBy u' y.ownBlock) :
    Sg w n us bl y' yh (ps ++ [x]) (pt ++ [q]) hl (u'.setCell ⟨w.heap.size + 1, 6, none⟩ y') := by
  have hs : ∀ {e sz m v xs}, u.ownsRow (w.heap.size + 1 + 1) e sz v m xs → e ≠ 32 → u'.ownsRow (w.heap.size + 1 + 1) e sz v m xs := fun h1 hne => own_grown_t h1 h.po hne hg
  have h1 := bk_grown_t h.qr h.po (by decide) hg
  have h2 := bk_grown_t h.fb h.po (by decide) hg
  have hl2 : ps.length = pt.length := by have := h.po.1; omega
  have h3 : Sg w n us bl y yh ps pt hl u := h
  have hb : Below w.heap.size w u' := h.low.grown hg h.low.size (fun k hk => by have := (h.po.lt k hk).1; omega)
  have hst : ∀ {e sz m v xs}, u'.ownsRow (w.heap.size + 1 + 1) e sz v m xs → (u'.setCell ⟨w.heap.size + 1, 6, none⟩ y').ownsRow (w.heap.size + 1 + 1) e sz v m xs := fun h1 => ownsRow_setCell_below h1 (Nat.lt_succ_self _) y'
  refine ⟨hb.setCell (Nat.le_succ _) y', h1.far (by show w.heap.size ≠ w.heap.size + 1; omega) y', h2.set 6 y', fun i hi => ⟨⟨(h.el i hi).1.cnd, hst (hs (h.el i hi).1.ops (by decide)), hst (hs (h.el i hi).1.nxt (by decide))⟩, (h.el i hi).2⟩, ?_, fun i hi => ?_, hst (hs h.hd.1 (by decide)), h.hd.2⟩
  · have := hst hown
    simpa using this
  · rw [List.length_append, List.length_singleton] at hi
    rcases (show i < pt.length ∨ i = pt.length by omega) with hi | hi
    · rw [getD_left hi, getD_left (by omega)]
      exact ⟨hst (hs (h.pr i hi).1 (by decide)), (h.pr i hi).2⟩
    · rw [getD_last hi, getD_last (by omega)]
      exact ⟨hst (hs hx (by decide)), hq⟩
/-- The heads. -/
theorem Sg.hds (h : Sg w n us bl y yh ps pt hl u) {q : List (Int × Int)} (hx : u.ownsRow (w.heap.size + 1 + 1) 52 2 x q.length (q.flatMap prCells)) (hq : q.length ≤ 1) :
    Sg w n us bl y x ps pt q (u.setCell ⟨w.heap.size + 1, 7, none⟩ x) := by
  obtain ⟨h1, h2, hs⟩ := h.keep 7 x
  exact ⟨h1, h2, h.fb.set 7 x, fun i hi => ⟨⟨(h.el i hi).1.cnd, hs (h.el i hi).1.ops, hs (h.el i hi).1.nxt⟩, (h.el i hi).2⟩, hs h.po, fun i hi => ⟨hs (h.pr i hi).1, (h.pr i hi).2⟩, hs hx, hq⟩
theorem Sg.hds1 (h : Sg w n us bl y yh ps pt hl u) (a b : Int) : Sg w n us bl y (.slice (some ⟨u.heap.size, 0, none⟩) 1 1) ps pt [(a, b)] ((u.setCell ⟨w.heap.size + 1, 7, none⟩ (.slice (some ⟨u.heap.size, 0, none⟩) 1 1)).alloc (.cells #[.int .i64 a, .int .i64 b] 52)) := by
  have hb := h.fb.lt
  have h2 := (h.below (bla (Below.refl _ _) (.cells #[.int .i64 a, .int .i64 b] 52))).hds (own_hd1 u a b hb) (by simp)
  rw [World.setCell_alloc_past _ _ _ _ hb] at h2
  exact h2
/-- The graph that is made. -/
def msG (n : Nat) (bl : Nat → Gr.Blk) (pt : List (List Int)) (hl : List (Int × Int)) : Gr.G := ⟨[], 2, 1, [], 0, (List.range n).map bl, pt, hl⟩
theorem msG_at {n : Nat} {bl : Nat → Gr.Blk} {i : Nat} (hi : i < n) : ((List.range n).map bl).getD i Gr.blk0 = bl i := by
  simp [List.getD, List.getElem?_map, List.getElem?_range hi]
theorem Sg.gr (h : Sg w n us bl y yh ps pt hl u) : GrIn u (msG n bl pt hl) (.slice none 0 0) (.slice none 0 0) (.slice (some ⟨w.heap.size, 0, none⟩) n n) y yh := by
  refine ⟨RowIn.nil _ _, RowIn.nil _ _, ?_, ?_, RowIn.own h.hd.1⟩
  · have hn : ((List.range n).map bl).length = n := by simp
    refine ⟨_, n, fun i => slA' (us i).1, fun i => slA' (us i).2.2, fun i => slC' (us i).1, fun i => slC' (us i).2.2, by show _ = Value.slice _ ((List.range n).map bl).length n; rw [hn], fun i hi => ?_⟩
    have hi' : i < n := by have : i < ((List.range n).map bl).length := hi; omega
    have he : (msG n bl pt hl).blks.getD i Gr.blk0 = bl i := msG_at hi'
    rw [he]
    have hq := (h.el i hi').1
    have ho := RowIn.own hq.ops
    have hx := RowIn.own hq.nxt
    have hc := bkRow_cell n us hi'
    refine ⟨w.heap.size, 0, rfl, h.qr.lt, ?_, ?_, ?_, ?_, ?_⟩
    · rw [Nat.zero_add, h.qr.cell, hc.1, ← row_eta' ho]
    · rw [Nat.zero_add, h.qr.cell, hc.2.1, hq.cnd]
    · rw [Nat.zero_add, h.qr.cell, hc.2.2, ← row_eta' hx]
    · rw [← row_eta' ho]; exact ho
    · rw [← row_eta' hx]; exact hx
  · show LstsIn u y pt
    rcases h.po.2 with ⟨rfl, h0⟩ | ⟨g', cap, cur, rfl, hB, hgg, hcap, _⟩
    · exact ⟨none, 0, by rw [h0], fun i hi => by omega⟩
    · refine ⟨_, cap, rfl, fun i hi => ?_⟩
      obtain ⟨h1, -, h3, -⟩ := own_cell nl h.po hi
      exact ⟨g', 0, ps.getD i nl, rfl, h3, by rw [Nat.zero_add]; exact h1, RowIn.own (h.pr i hi).1⟩
theorem Sg.fit (h : Sg w n us bl y yh ps pt hl u) (hn : n ≤ 14) (hp : pt.length ≤ 12) : Gr.Fit (msG n bl pt hl) := by
  have h1 := h.hd.2
  refine ⟨by show ([] : List (ByteArray × Int × Int)).length ≤ _; simp, by show ([] : List (ByteArray × Int)).length ≤ _; simp, by show ((List.range n).map bl).length ≤ _; simp; omega, by show pt.length ≤ _; omega, by show hl.length ≤ _; omega, fun b hb => ?_, fun q hq => ?_, by show (-9223372036854775808 : Int) ≤ 2; omega⟩
  · have hb' : b ∈ (List.range n).map bl := hb
    obtain ⟨i, hi, rfl⟩ := List.mem_map.1 hb'
    have := (h.el i (List.mem_range.1 hi)).2
    omega
  · have hq' : q ∈ pt := hq
    obtain ⟨i, hi, rfl⟩ := List.getElem_of_mem hq'
    have := (h.pr i hi).2
    rw [show pt.getD i [] = pt[i] by simp [List.getD, List.getElem?_eq_getElem hi]] at this
    omega
end
end Go.Proofs.Ytojnhdkclabkgaa
namespace Go.Proofs.Ytojnhdkclabkgaa
open Go.RowKit
set_option linter.unusedVariables false
set_option linter.unusedSimpArgs false
section
variable {w u u' : World} {n : Nat} {us : Nat → Value × Int × Value} {bl : Nat → Gr.Blk} {y yh x y' : Value} {ps : List Value} {pt : List (List Int)} {hl : List (Int × Int)}
theorem own_room {u : World} {base : Nat} {e : TypeId} {sz m : Nat} {v : Value} {xs : List Value} (h : u.ownsRow base e sz v m xs) : ∃ A c, v = .slice A m c ∧ m ≤ c := by
  rcases h.2 with ⟨rfl, rfl⟩ | ⟨g, cap, cur, rfl, -, -, hc, -⟩
  · exact ⟨_, _, rfl, Nat.le_refl _⟩
  · exact ⟨_, _, rfl, hc⟩
theorem Sg.ptsin (h : Sg w n us bl y yh ps pt hl u) : PtsIn u y pt := by
  obtain ⟨A, c, rfl⟩ := own_eta h.po
  refine ⟨A, c, fun i => slA' (ps.getD i nl), fun i => slC' (ps.getD i nl), rfl, fun i hi => ?_⟩
  rcases h.po.2 with ⟨e, h0⟩ | ⟨g', cap, cur, e, hB, hgg, hcap, _⟩
  · omega
  · injection e with e1 e2 e3
    subst e1
    obtain ⟨h1, -, h3, -⟩ := own_cell nl h.po hi
    have hx := RowIn.own (h.pr i hi).1
    obtain ⟨A2, c2, e2, hc2⟩ := own_room (h.pr i hi).1
    refine ⟨g', 0, rfl, h3, ?_, ?_, ?_⟩
    · rw [Nat.zero_add, h1, ← row_eta' hx]
    · rw [← row_eta' hx]; exact hx
    · show (pt.getD i []).length ≤ slC' (ps.getD i nl)
      rw [e2]; exact hc2
end
end Go.Proofs.Ytojnhdkclabkgaa
namespace Go.Proofs.Ytojnhdkclabkgaa
open Go.RowKit
set_option linter.unusedVariables false
set_option linter.unusedSimpArgs false
attribute [local go_sem] y_undef
theorem u8_open {w : World} {v : Value} {l : List Int} (hv : IntsIn .u8 w v l) : ∃ (A : Option Addr) (c : Nat), v = .slice A l.length c ∧ ∀ i, i < l.length → ∃ b off, A = some ⟨b, off, none⟩ ∧ b < w.heap.size ∧ w.cell? ⟨b, off + i, none⟩ = some (.int .u8 (l.getD i 0)) := by
  rcases hv with ⟨rfl, A, c, rfl⟩ | ⟨b, off, c, h0, rfl, hlt, hc⟩
  · exact ⟨A, c, rfl, fun i hi => absurd hi (Nat.not_lt_zero _)⟩
  · exact ⟨_, c, rfl, fun i hi => ⟨b, off, rfl, hlt, hc i hi⟩⟩
theorem u8_bd {l : List Int} (hb : ∀ z ∈ l, 0 ≤ z ∧ z ≤ 255) (i : Nat) : 0 ≤ l.getD i 0 ∧ l.getD i 0 ≤ 255 := by
  rcases Nat.lt_or_ge i l.length with h | h
  · exact hb _ (by rw [List.getD_eq_getElem?_getD, List.getElem?_eq_getElem h]; exact List.getElem_mem h)
  · rw [List.getD_eq_getElem?_getD, List.getElem?_eq_none h]; simp
set_option maxHeartbeats 40000000 in
set_option maxRecDepth 100000 in
theorem shapes_law (E : List Int) (ve : Value) (O : List Int) (vo : Value) (P : List Int) (vp : Value) (w : World) (he : IntsIn .u8 w ve E) (hbe : ∀ z ∈ E, 0 ≤ z ∧ z ≤ 255) (hle : E.length ≤ maxLen) (ho : IntsIn .u8 w vo O) (hbo : ∀ z ∈ O, 0 ≤ z ∧ z ≤ 255) (hlo : O.length ≤ maxLen) (hp : IntsIn .u8 w vp P) (hbp : ∀ z ∈ P, 0 ≤ z ∧ z ≤ 255) (hlp : P.length ≤ maxLen) :
    Calls Try.prog 6 #[ve, vo, vp] w fun e w' => e = .returned (.bool true) ∧ Below w.heap.size w w' := by
  obtain ⟨Ae, ce, rfl, hce⟩ := u8_open he
  obtain ⟨Ao, co, rfl, hco⟩ := u8_open ho
  obtain ⟨Ap_, cp, rfl, hcp⟩ := u8_open hp
  have HE := Lib.hid hce
  have HO := Lib.hid hco
  have HP := Lib.hid hcp
  have HBE := Lib.hid (u8_bd hbe)
  have HBO := Lib.hid (u8_bd hbo)
  have HBP := Lib.hid (u8_bd hbp)
  clear he ho hp hbe hbo hbp hce hco hcp
  obtain ⟨le, hn⟩ : ∃ n, E.length = n := ⟨_, rfl⟩
  rw [hn] at HE hle ⊢
  clear hn
  obtain ⟨lo, hn⟩ : ∃ n, O.length = n := ⟨_, rfl⟩
  rw [hn] at HO hlo ⊢
  clear hn
  obtain ⟨lp, hn⟩ : ∃ n, P.length = n := ⟨_, rfl⟩
  rw [hn] at HP hlp ⊢
  clear hn
  unfold maxLen at hle hlo hlp
  obtain ⟨n, hn⟩ : ∃ n, 2 + min (le / 2) 12 = n := ⟨_, rfl⟩
  have hn2 : 2 ≤ n ∧ n ≤ 14 := by omega
  have HN := Lib.hid hn
  clear hn
  obtain ⟨iTN, hi0, hz0, hz1, hz2⟩ := info_parts Try.infoInt
  have HTN := Lib.hid (And.intro hi0 (And.intro hz0 (And.intro hz1 hz2)))
  clear hi0 hz0 hz1 hz2
  obtain ⟨iTL, hi0, hz0, hz1, hz2⟩ := info_parts info_lst
  have HTL := Lib.hid (And.intro hi0 (And.intro hz0 (And.intro hz1 hz2)))
  clear hi0 hz0 hz1 hz2
  go_enter Try.func6, Try.ntmps6
  go_upto_region 2 with fail
  generalize hQ : (if (12 : Int) < (le : Int) / 2 then (12 : Int) else (le : Int) / 2) = m
  have hm : (2 : Int) + m = (n : Int) := by have := HN.out; split at hQ <;> omega
  rw [hm]
  clear hQ hm HN
  have hmk := make_blks n (by omega)
  have HZ := Lib.hid (Sg.new w n (by omega))
  go_upto_block 0 with fail
  clear hmk
  go_cut [9, 10] from 24 to 108 (fun _ _ wc => ∃ (us : Nat → Value × Int × Value) (bl : Nat → Gr.Blk), Hid (Sg w n us bl (.slice none 0 0) (.slice none 0 0) [] [] [] wc))
  case first =>
    go_wp2
    go_loopw [9, 10] (fun i _ wr => ∃ (k : Nat) (us : Nat → Value × Int × Value) (bl : Nat → Gr.Blk), k + 1 ≤ n ∧ i = .int .i64 (k : Nat) ∧ Hid (Sg w n us bl (.slice none 0 0) (.slice none 0 0) [] [] [] wr)) (fun i _ _ => n - (intOf i).toNat)
    case atStart => exact ⟨0, _, _, by omega, rfl, HZ⟩
    case round =>
      clear HZ
      obtain ⟨k, us, bl, hk, rfl, HZ⟩ := hrel
      have e0 : wrap64 ((n : Int) - 1) = ((n - 1 : Nat) : Int) := by rw [IntWalk.wrap64_in _ (by omega)]; omega
      have e1 : wrap64 ((k : Int) + 1) = ((k + 1 : Nat) : Int) := by rw [IntWalk.wrap64_in _ (by omega)]; omega
      by_cases hlt : (k : Int) < ((n - 1 : Nat) : Int)
      · have hk2 : k < n := by omega
        have hkn : (k : Int) < (n : Int) := by omega
        have x5 := HZ.out.fb.cell 5
        have x2 := HZ.out.qr.cell (k * 3 + 2)
        rw [(bkRow_cell n _ hk2).2.2] at x2
        have y2 := HZ.out.qr.frozen (k * 3 + 2)
        have hB := HZ.out.qr.lt
        obtain ⟨us1, bl1, h1⟩ := HZ.out.next1 hk2 ((k : Int) + 1)
        have HZ1 := Lib.hid h1
        clear h1
        go_upto_region 7 with fail
        generalize (wr.setCell ⟨w.heap.size, k * 3 + 2, none⟩ (.slice (some ⟨wr.heap.size, 0, none⟩) 1 1)).alloc (.cells #[.int .i64 ((k : Int) + 1)] 3) = W1 at HZ1 ⊢
        clear x5 x2 y2 hB
        by_cases hin : 2 * (k : Int) + 1 < (le : Int)
        · obtain ⟨b, off, rfl, hbb, c0⟩ := HE.out (2 * k) (by omega)
          obtain ⟨b1, off1, eA, -, c1⟩ := HE.out (2 * k + 1) (by omega)
          injection eA with eA
          injection eA with eA1 eA2 eA3
          subst eA1 eA2
          obtain ⟨p, hp⟩ : ∃ z, E.getD (2 * k) 0 = z := ⟨_, rfl⟩
          obtain ⟨q, hq⟩ : ∃ z, E.getD (2 * k + 1) 0 = z := ⟨_, rfl⟩
          have hp1 := HBE.out (2 * k)
          have hq1 := HBE.out (2 * k + 1)
          rw [hp] at c0 hp1
          rw [hq] at c1 hq1
          clear hp hq
          have HC := Lib.hid (And.intro hbb (And.intro c0 c1))
          clear c0 c1
          have hj0 : 2 * (k : Int) < (le : Int) := by omega
          have c0 := (HZ1.out.low.cell (p := ⟨b, off + 2 * k, none⟩) hbb).trans HC.out.2.1
          have hd : ¬ ((n : Int) - 1) = 0 := by omega
          have hy1 : 0 ≤ q % ((n : Int) - 1) ∧ q % ((n : Int) - 1) < (n : Int) - 1 := ⟨Int.emod_nonneg _ hd, Int.emod_lt_of_pos _ (by omega)⟩
          by_cases h3 : p % 3 = 0
          · have c1 := (HZ1.out.low.cell (p := ⟨b, off + (2 * k + 1), none⟩) hbb).trans HC.out.2.2
            by_cases hy : 1 + q % ((n : Int) - 1) = (k : Int) + 1
            · go_upto_region 11 with fail
              clear hy
              have c0 := (HZ1.out.low.cell (p := ⟨b, off + 2 * k, none⟩) hbb).trans HC.out.2.1
              by_cases h7 : p % 7 = 6
              · have c1 := (HZ1.out.low.cell (p := ⟨b, off + (2 * k + 1), none⟩) hbb).trans HC.out.2.2
                have x5 := HZ1.out.fb.cell 5
                have x2 := HZ1.out.qr.cell (k * 3 + 2)
                rw [(bkRow_cell n _ hk2).2.2] at x2
                have y2 := HZ1.out.qr.frozen (k * 3 + 2)
                have hB := HZ1.out.qr.lt
                have hF := HZ1.out.fb.lt
                have hbW : b < W1.heap.size := Nat.lt_of_lt_of_le hbb HZ1.out.low.size
                go_wp2
                go_region
                obtain ⟨us2, bl2, h1⟩ := HZ1.out.next1 hk2 (1 + q % ((n : Int) - 1))
                have HZ2 := Lib.hid (h1.below (below_drewN _ _ 1))
                clear h1 c0 c1 x5 x2 y2 hB hF hbW
                go_wp2
                exact ⟨⟨k + 1, _, _, by omega, by first | rfl | go_num, HZ2⟩, by simp [intOf]; omega⟩
              · go_wp2
                exact ⟨⟨k + 1, _, _, by omega, by first | rfl | go_num, HZ1⟩, by simp [intOf]; omega⟩
            · have x5 := HZ1.out.fb.cell 5
              have x2 := HZ1.out.qr.cell (k * 3 + 2)
              rw [(bkRow_cell n _ hk2).2.2] at x2
              have y2 := HZ1.out.qr.frozen (k * 3 + 2)
              have hB := HZ1.out.qr.lt
              obtain ⟨us2, bl2, h1⟩ := HZ1.out.next2 hk2 ((k : Int) + 1) (1 + q % ((n : Int) - 1))
              have HZ2 := Lib.hid h1
              clear h1
              go_upto_region 11 with fail
              generalize (W1.setCell ⟨w.heap.size, k * 3 + 2, none⟩ (.slice (some ⟨W1.heap.size, 0, none⟩) 2 2)).alloc (.cells #[.int .i64 ((k : Int) + 1), .int .i64 (1 + q % ((n : Int) - 1))] 3) = W2 at HZ2 ⊢
              clear x5 x2 y2 hB
              have c0 := (HZ2.out.low.cell (p := ⟨b, off + 2 * k, none⟩) hbb).trans HC.out.2.1
              by_cases h7 : p % 7 = 6
              · have c1 := (HZ2.out.low.cell (p := ⟨b, off + (2 * k + 1), none⟩) hbb).trans HC.out.2.2
                have x5 := HZ2.out.fb.cell 5
                have x2 := HZ2.out.qr.cell (k * 3 + 2)
                rw [(bkRow_cell n _ hk2).2.2] at x2
                have y2 := HZ2.out.qr.frozen (k * 3 + 2)
                have hB := HZ2.out.qr.lt
                have hF := HZ2.out.fb.lt
                have hbW : b < W2.heap.size := Nat.lt_of_lt_of_le hbb HZ2.out.low.size
                go_wp2
                go_region
                obtain ⟨us3, bl3, h1⟩ := HZ2.out.next1 hk2 (1 + q % ((n : Int) - 1))
                have HZ3 := Lib.hid (h1.below (below_drewN _ _ 1))
                clear h1 c0 c1 x5 x2 y2 hB hF hbW
                go_wp2
                exact ⟨⟨k + 1, _, _, by omega, by first | rfl | go_num, HZ3⟩, by simp [intOf]; omega⟩
              · go_wp2
                exact ⟨⟨k + 1, _, _, by omega, by first | rfl | go_num, HZ2⟩, by simp [intOf]; omega⟩
          · go_upto_region 11 with fail
            have c0 := (HZ1.out.low.cell (p := ⟨b, off + 2 * k, none⟩) hbb).trans HC.out.2.1
            by_cases h7 : p % 7 = 6
            · have c1 := (HZ1.out.low.cell (p := ⟨b, off + (2 * k + 1), none⟩) hbb).trans HC.out.2.2
              have x5 := HZ1.out.fb.cell 5
              have x2 := HZ1.out.qr.cell (k * 3 + 2)
              rw [(bkRow_cell n _ hk2).2.2] at x2
              have y2 := HZ1.out.qr.frozen (k * 3 + 2)
              have hB := HZ1.out.qr.lt
              have hF := HZ1.out.fb.lt
              have hbW : b < W1.heap.size := Nat.lt_of_lt_of_le hbb HZ1.out.low.size
              go_wp2
              go_region
              obtain ⟨us2, bl2, h1⟩ := HZ1.out.next1 hk2 (1 + q % ((n : Int) - 1))
              have HZ2 := Lib.hid (h1.below (below_drewN _ _ 1))
              clear h1 c0 c1 x5 x2 y2 hB hF hbW
              go_wp2
              exact ⟨⟨k + 1, _, _, by omega, by first | rfl | go_num, HZ2⟩, by simp [intOf]; omega⟩
            · go_wp2
              exact ⟨⟨k + 1, _, _, by omega, by first | rfl | go_num, HZ1⟩, by simp [intOf]; omega⟩
        · go_wp2
          exact ⟨⟨k + 1, _, _, by omega, by first | rfl | go_num, HZ1⟩, by simp [intOf]; omega⟩
      · have hlt' : ¬ (k : Int) < (n : Int) - 1 := by omega
        clear HE HBE e0 e1
        go_wp2
        go_meet
        case rel => exact ⟨_, _, HZ⟩
  case rest =>
    obtain ⟨us, bl, HZ1⟩ := hcut
    clear HZ HE HBE
    go_upto_block 2 with fail
    go_cut [11] from 109 to 157 (fun _ wc => ∃ (us : Nat → Value × Int × Value) (bl : Nat → Gr.Blk), Hid (Sg w n us bl (.slice none 0 0) (.slice none 0 0) [] [] [] wc))
    case first =>
      have HZ := HZ1
      clear HZ1
      go_wp2
      go_loopw [11] (fun i wr => ∃ (k : Nat) (us : Nat → Value × Int × Value) (bl : Nat → Gr.Blk), k ≤ n ∧ i = .int .i64 (k : Nat) ∧ Hid (Sg w n us bl (.slice none 0 0) (.slice none 0 0) [] [] [] wr)) (fun i _ => n - (intOf i).toNat)
      case atStart => exact ⟨0, _, _, Nat.zero_le _, rfl, HZ⟩
      case round =>
        clear HZ
        obtain ⟨k, us, bl, hk, rfl, HZ⟩ := hrel
        by_cases h1 : (k : Int) < (lo : Int)
        · by_cases h2 : (k : Int) < (n : Int)
          · have hk2 : k < n := by omega
            obtain ⟨b, off, rfl, hbb, c0⟩ := HO.out k (by omega)
            obtain ⟨p, hp⟩ : ∃ z, O.getD k 0 = z := ⟨_, rfl⟩
            have hp1 := HBO.out k
            rw [hp] at c0 hp1
            clear hp
            replace c0 := (HZ.out.low.cell (p := ⟨b, off + k, none⟩) hbb).trans c0
            have hbW : b < wr.heap.size := Nat.lt_of_lt_of_le hbb HZ.out.low.size
            by_cases m0 : p % 5 = 0
            · have x5 := HZ.out.fb.cell 5
              have x2 := HZ.out.qr.cell (k * 3)
              rw [(bkRow_cell n _ hk2).1] at x2
              have y2 := HZ.out.qr.frozen (k * 3)
              have hB := HZ.out.qr.lt
              have hF := HZ.out.fb.lt
              go_wp2
              obtain ⟨usx, blx, h1⟩ := HZ.out.ops1 hk2 (⟨6, 0, 0, 0, 0⟩ : Gr.Op)
              have HZ1 := Lib.hid h1
              exact ⟨⟨k + 1, _, _, by omega, by first | rfl | go_num, HZ1⟩, by simp [intOf]; omega⟩
            by_cases m1 : p % 5 = 1
            · have x5 := HZ.out.fb.cell 5
              have x2 := HZ.out.qr.cell (k * 3)
              rw [(bkRow_cell n _ hk2).1] at x2
              have y2 := HZ.out.qr.frozen (k * 3)
              have hB := HZ.out.qr.lt
              have hF := HZ.out.fb.lt
              go_wp2
              obtain ⟨usx, blx, h1⟩ := HZ.out.ops1 hk2 (⟨7, 0, 0, 0, 0⟩ : Gr.Op)
              have HZ1 := Lib.hid h1
              exact ⟨⟨k + 1, _, _, by omega, by first | rfl | go_num, HZ1⟩, by simp [intOf]; omega⟩
            by_cases m2 : p % 5 = 2
            · have x5 := HZ.out.fb.cell 5
              have x2 := HZ.out.qr.cell (k * 3)
              rw [(bkRow_cell n _ hk2).1] at x2
              have y2 := HZ.out.qr.frozen (k * 3)
              have hB := HZ.out.qr.lt
              have hF := HZ.out.fb.lt
              go_wp2
              go_region
              obtain ⟨usx, blx, h1⟩ := HZ.out.ops2 hk2 (⟨1, 0, 0, 0, p⟩ : Gr.Op) (⟨2, 1, 0, 0, 0⟩ : Gr.Op)
              have HZ1 := Lib.hid (h1.below (below_drewN _ _ 1))
              clear h1 x5 x2 y2 hB hF hbW
              go_wp2
              exact ⟨⟨k + 1, _, _, by omega, by first | rfl | go_num, HZ1⟩, by simp [intOf]; omega⟩
            · go_wp2
              exact ⟨⟨k + 1, _, _, by omega, by first | rfl | go_num, HZ⟩, by simp [intOf]; omega⟩
          · go_wp2
            go_meet
            case rel => exact ⟨_, _, HZ⟩
        · go_wp2
          go_meet
          case rel => exact ⟨_, _, HZ⟩
    case rest =>
      obtain ⟨us2, bl2, HZ⟩ := hcut
      clear HZ1 us bl HO HBO
      go_upto_block 5 with fail
      go_cut [12, 13, 14, 15] from 158 to 221 (fun _ _ _ _ wc => ∃ (us : Nat → Value × Int × Value) (bl : Nat → Gr.Blk) (y yh : Value) (ps : List Value) (pt : List (List Int)) (hl : List (Int × Int)), Hid (pt.length ≤ 12 ∧ Sg w n us bl y yh ps pt hl wc))
      case first =>
        go_wp2
        go_loopw [12, 13, 14, 15] (fun i _ _ _ wr => ∃ (k : Nat) (y yh : Value) (ps : List Value) (pt : List (List Int)) (hl : List (Int × Int)), k ≤ 12 ∧ i = .int .i64 (k : Nat) ∧ pt.length = k ∧ Hid (Sg w n us2 bl2 y yh ps pt hl wr)) (fun i _ _ _ _ => 12 - (intOf i).toNat)
        case atStart => exact ⟨0, _, _, _, _, _, Nat.zero_le _, rfl, rfl, HZ⟩
        case round =>
          clear HZ
          obtain ⟨k, y, yh, ps, pt, hl, hk, rfl, hpl, HZ⟩ := hrel
          have HPL := Lib.hid hpl
          clear hpl
          by_cases h1 : (k : Int) < (lp : Int)
          · by_cases h2 : (k : Int) < 12
            · obtain ⟨b, off, rfl, hbb, c0⟩ := HP.out k (by omega)
              obtain ⟨p, hp⟩ : ∃ z, P.getD k 0 = z := ⟨_, rfl⟩
              have hp1 := HBP.out k
              rw [hp] at c0 hp1
              clear hp
              have HC := Lib.hid (And.intro hbb c0)
              replace c0 := (HZ.out.low.cell (p := ⟨b, off + k, none⟩) hbb).trans c0
              have hbW : b < wr.heap.size := Nat.lt_of_lt_of_le hbb HZ.out.low.size
              have hd : ¬ (n : Int) = 0 := by omega
              have hq1 : 0 ≤ p % (n : Int) ∧ p % (n : Int) < (n : Int) := ⟨Int.emod_nonneg _ hd, Int.emod_lt_of_pos _ (by omega)⟩
              have hq2 : 0 ≤ p / 16 % (n : Int) ∧ p / 16 % (n : Int) < (n : Int) := ⟨Int.emod_nonneg _ hd, Int.emod_lt_of_pos _ (by omega)⟩
              go_wp2
              go_quiet (fail)
              generalize p % (n : Int) = a at hq1 ⊢
              generalize p / 16 % (n : Int) = bb at hq2 ⊢
              have HZ1 := Lib.hid (HZ.out.below (below_drewN _ wr nq))
              clear hbW c0 HZ
              generalize wr.drewN nq = W1 at HZ1 ⊢
              have c0 := (HZ1.out.low.cell (p := ⟨b, off + k, none⟩) HC.out.1).trans HC.out.2
              have HX := Lib.hid (own_int1 W1 a (Nat.le_refl _))
              have hbk : Below W1.heap.size W1 (W1.alloc (.cells #[.int .i64 a] 3)) := bla (Below.refl _ _) _
              have hbW : b < W1.heap.size := Nat.lt_of_lt_of_le HC.out.1 HZ1.out.low.size
              have hB2 : w.heap.size + 1 + 1 ≤ W1.heap.size := HZ1.out.fb.lt
              go_upto_region 28 with fail
              go_cut [195] from 185 to 194 (fun t wx => ∃ r : Bool, t = .bool r ∧ Hid (wx = W1.alloc (.cells #[.int .i64 a] 3)))
              case first =>
                by_cases hab : a = bb
                · subst hab
                  go_wp2
                  go_meet
                  case rel => exact ⟨_, rfl, Lib.hid rfl⟩
                · have hab' : (a == bb) = false := by simpa using hab
                  by_cases h3 : p % 3 = 0
                  · go_wp2
                    go_meet
                    case rel => exact ⟨_, rfl, Lib.hid rfl⟩
                  · go_wp2
                    go_meet
                    case rel => exact ⟨_, rfl, Lib.hid rfl⟩
              case rest =>
                obtain ⟨r, rfl, hw⟩ := hcut
                replace hw := hw.out
                subst hw
                go_upto_if 195 with fail
                go_cut [15] from 196 to 199 (fun x wc => ∃ (A6 : Option Addr) (C6 : Nat) (q : List Int), x = .slice A6 q.length C6 ∧ Hid (q.length ≤ 2 ∧ wc.ownsRow (w.heap.size + 1 + 1) 3 1 (.slice A6 q.length C6) q.length (q.map (.int .i64)) ∧ Sg w n us2 bl2 y yh ps pt hl wc))
                case first =>
                  cases r with
                  | true =>
                    have HR := Lib.hid (show RowIn 1 ((W1.alloc (.cells #[.int .i64 a] 3)).alloc (.cells #[.int .i64 bb] 3)) (.slice (some ⟨(W1.alloc (.cells #[.int .i64 a] 3)).heap.size, 0, none⟩) 1 1) 1 [.int .i64 bb] from RowIn.own (own_int1 (W1.alloc (.cells #[.int .i64 a] 3)) bb (Nat.le_refl _)))
                    have hbk2 : Below W1.heap.size W1 ((W1.alloc (.cells #[.int .i64 a] 3)).alloc (.cells #[.int .i64 bb] 3)) := bla hbk _
                    have HX2 := Lib.hid (show ((W1.alloc (.cells #[.int .i64 a] 3)).alloc (.cells #[.int .i64 bb] 3)).ownsRow W1.heap.size 3 1 (.slice (some ⟨W1.heap.size, 0, none⟩) 1 1) 1 [.int .i64 a] from own_below HX.out (bla (Below.refl _ _) (.cells #[.int .i64 bb] 3)))
                    rw [size_alloc] at HR
                    go_wp2_with (at_builtin; refine wpList_append_row rfl _ _ 32 rfl W1.heap.size 3 iTN _ 1 8 Try.underlying32 HTN.out.1 HTN.out.2.1 HTN.out.2.2.1 HTN.out.2.2.2 rfl (by decide) _ _ _ rfl (HX2.out) _ _ _ rfl (HR.out) ?qc3 ?qc4 ?qc5 ?qc6 ?_)
                    case qc3 => intro u hu; simp at hu; subst hu; rfl
                    case qc4 => simp [maxLen]
                    case qc5 => simp
                    case qc6 => simp; omega
                    intro v1 w1 hown hg hv
                    have hb : Below W1.heap.size W1 w1 := hbk2.grown hg (by simp; omega) (fun q hq => (HX2.out.lt q hq).1)
                    obtain ⟨A6, C6, rfl⟩ := own_eta hown
                    have HXX := Lib.hid (show w1.ownsRow W1.heap.size 3 1 (.slice A6 2 C6) [a, bb].length ([a, bb].map (.int .i64)) from hown)
                    have HZ2 := Lib.hid (HZ1.out.below hb)
                    clear hown hg hv hb hbk2 hbk HX HX2 HR HZ1
                    go_wp2
                    go_meet
                    case rel => exact ⟨A6, C6, [a, bb], rfl, Lib.hid ⟨by simp, own_mono_b HXX.out hB2, HZ2.out⟩⟩
                  | false =>
                    go_wp2
                    go_meet
                    case rel => exact ⟨_, _, [a], rfl, Lib.hid ⟨by simp, own_mono_b HX.out hB2, HZ1.out.below hbk⟩⟩
                case rest =>
                  obtain ⟨A6, C6, q, rfl, H5⟩ := hcut
                  clear HX HZ1 hbk c0 hbW hB2 hq1 hq2
                  obtain ⟨m6, hm6⟩ : ∃ m6, q.length = m6 := ⟨_, rfl⟩
                  have HM6 := Lib.hid hm6
                  rw [hm6]
                  clear hm6
                  have h5 := H5.out.2.1
                  rw [HM6.out] at h5
                  have HO5 := Lib.hid h5
                  clear h5
                  have c0 := (H5.out.2.2.low.cell (p := ⟨b, off + k, none⟩) HC.out.1).trans HC.out.2
                  have hbk : Below wc.heap.size wc (wc.alloc (.cells #[.slice A6 m6 C6] 32)) := bla (Below.refl _ _) _
                  have HZ3 := Lib.hid (H5.out.2.2.below hbk)
                  have y6 := H5.out.2.2.fb.cell 6
                  have hrow := HZ3.out.po
                  rw [HPL.out] at hrow
                  have HRow := Lib.hid hrow
                  clear hrow
                  go_wp2_with (at_builtin; refine wpList_append_row rfl _ _ 37 rfl (w.heap.size + 1 + 1) 32 iTL _ 1 24 Try.underlying37 HTL.out.1 HTL.out.2.1 HTL.out.2.2.1 HTL.out.2.2.2 rfl (by decide) _ _ _ rfl (HRow.out) _ _ _ rfl (lit_lst wc A6 m6 C6 _ rfl) ?qc3 ?qc4 ?qc5 ?qc6 ?_)
                  case qc3 => intro u hu; simp at hu; subst hu; rfl
                  case qc4 => unfold maxLen; omega
                  case qc5 => omega
                  case qc6 => have := HZ3.out.fb.lt; omega
                  intro v2 w2 hown hg hv
                  obtain ⟨Ay, Cy, rfl⟩ := own_eta hown
                  have hf := bk_grown_t HZ3.out.fb HZ3.out.po (by decide) hg
                  have f6 := hf.cell 6
                  have z6 := hf.frozen 6
                  have HN := Lib.hid (HZ3.out.pts (x := .slice A6 m6 C6) (q := q) (by rw [HM6.out]; exact own_below HO5.out hbk) H5.out.1 (by rw [HPL.out]; exact hown) hg)
                  clear hown hg hv hf HZ3 HRow H5 HO5 hbk c0 y6
                  go_upto_region 31 with fail
                  clear f6 z6
                  generalize w2.setCell ⟨w.heap.size + 1, 6, none⟩ (.slice Ay (k + 1) Cy) = W3 at HN ⊢
                  have c0 := (HN.out.low.cell (p := ⟨b, off + k, none⟩) HC.out.1).trans HC.out.2
                  obtain ⟨Ah, Ch, rfl⟩ := own_eta HN.out.hd.1
                  have x7 := HN.out.fb.cell 7
                  by_cases m4 : p % 5 = 4
                  · by_cases h0 : (hl.length : Int) = 0
                    · have hF := HN.out.fb.lt
                      have z7 := HN.out.fb.frozen 7
                      have HN2 := Lib.hid (HN.out.hds1 a 2)
                      go_wp2
                      exact ⟨⟨k + 1, _, _, _, _, _, by omega, by first | rfl | go_num, by rw [List.length_append, HPL.out]; rfl, HN2⟩, by simp [intOf]; omega⟩
                    · go_wp2
                      exact ⟨⟨k + 1, _, _, _, _, _, by omega, by first | rfl | go_num, by rw [List.length_append, HPL.out]; rfl, HN⟩, by simp [intOf]; omega⟩
                  · go_wp2
                    exact ⟨⟨k + 1, _, _, _, _, _, by omega, by first | rfl | go_num, by rw [List.length_append, HPL.out]; rfl, HN⟩, by simp [intOf]; omega⟩
            · go_wp2
              go_meet
              case rel => exact ⟨_, _, _, _, _, _, _, Lib.hid ⟨by rw [HPL.out]; exact hk, HZ.out⟩⟩
          · go_wp2
            go_meet
            case rel => exact ⟨_, _, _, _, _, _, _, Lib.hid ⟨by rw [HPL.out]; exact hk, HZ.out⟩⟩
      case rest =>
        obtain ⟨us3, bl3, y, yh, ps, pt, hl, HZ3⟩ := hcut
        clear HZ us2 bl2 HP HBP
        have hz := HZ3.out
        clear HZ3
        obtain ⟨hp12, hz⟩ := hz
        obtain ⟨Ay, Cy, rfl⟩ := own_eta hz.po
        obtain ⟨Ah, Ch, rfl⟩ := own_eta hz.hd.1
        have hgr := hz.gr
        have hpt := hz.ptsin
        have hft := hz.fit (by omega) hp12
        obtain ⟨np, hnp⟩ : ∃ k, pt.length = k := ⟨_, rfl⟩
        obtain ⟨nh, hnh⟩ : ∃ k, hl.length = k := ⟨_, rfl⟩
        rw [hnp, hnh] at hgr
        rw [hnp] at hpt
        have hfb := hz.fb
        have hlow := Lib.hid hz.low
        rw [hnp, hnh] at hfb
        have HA := Lib.hid (show Calls Try.prog 16 #[.agg #[.slice none 0 0, .int .i64 2, .int .i64 1, .slice none 0 0, .int .i64 0, .slice (some ⟨w.heap.size, 0, none⟩) n n, .slice Ay np Cy, .slice Ah nh Ch]] wc (fun e w2 => e = .returned (.bool true) ∧ Below wc.heap.size wc w2) from
          agree_any (msG n bl3 pt hl) (Me.ans (msG n bl3 pt hl)) (Me.lst (msG n bl3 pt hl)) (Gr.chk (msG n bl3 pt hl)) _ _ _ _ _ wc hgr
            (fun U hU => merge_any (msG n bl3 pt hl) _ _ _ _ _ U (hgr.below hU) hft)
            (fun U hU => rmerge_any (msG n bl3 pt hl) _ _ _ _ _ U (hgr.below hU) (ptsin_belowM hpt hU) hft)
            (me_ans_fit hft) me_lst_fit.1 me_lst_fit.2)
        clear hgr hpt hft hz hp12
        have g0 := hfb.cell 0
        have g1 := hfb.cell 1
        have g2 := hfb.cell 2
        have g3 := hfb.cell 3
        have g4 := hfb.cell 4
        have g5 := hfb.cell 5
        have g6 := hfb.cell 6
        have g7 := hfb.cell 7
        clear hfb
        clear hnp hnh
        go_wp2_with fail
        refine HA.out.mono ?_
        rintro e w2 ⟨rfl, hb2⟩
        have HB2 := Lib.hid (blt hlow.out hb2)
        clear hb2 hlow HA g0 g1 g2 g3 g4 g5 g6 g7
        go_wp2_with fail
        refine (awake_any w2).mono ?_
        rintro e w3 ⟨rfl, hb3⟩
        have HB3 := Lib.hid (blt HB2.out hb3)
        clear hb3 HB2
        go_wp2
        go_ret
        exact ⟨rfl, HB3.out⟩
end Go.Proofs.Ytojnhdkclabkgaa
