/- The specification of layers 15 and 16: a graph that is renamed, in the making. No condition. -/
import Derived.Test.YtojnhdkclabkgaaMeRen
import Derived.Test.YtojnhdkclabkgaaMeRws
import Derived.Test.YtojnhdkclabkgaaGrCopy
namespace Go.Proofs.Ytojnhdkclabkgaa
open Go.RowKit
set_option linter.unusedVariables false
set_option linter.unusedSimpArgs false
theorem Cb.at {w u : World} {gc zc : Array Value} (h : Cb w gc zc u) {F : Nat} (hF : w.heap.size + 1 + 1 ≤ F) (i : Nat) (x : Value) : Cb w gc zc (u.setCell ⟨F, i, none⟩ x) :=
  ⟨h.low.setCell (by show w.heap.size ≤ F; omega) x, h.gb.far (by show w.heap.size ≠ F; omega) x, h.rb.far (by show w.heap.size + 1 ≠ F; omega) x⟩
theorem Bks.box {u : World} {base F i : Nat} {y : Value} {us : List (Value × Int × Value)} {l : List Gr.Blk} {cs : Array Value} (h : Bks base u y us l) (hb : Bk u F 40 cs) (z : Value) : Bks base (u.setCell ⟨F, i, none⟩ z) y us l :=
  ⟨own_store_b h.row hb (by decide), h.len, fun j hj => ⟨(h.el j hj).cnd, own_store_b (h.el j hj).ops hb (by decide), own_store_b (h.el j hj).nxt hb (by decide)⟩, h.ap⟩
/-- Blocks stay when a row of another type grows. -/
theorem Bks.other {u u' : World} {base base' sz n : Nat} {e : TypeId} {y v : Value} {us : List (Value × Int × Value)} {l : List Gr.Blk} {xs : List Value} (h : Bks base u y us l) (hy : u.ownsRow base' e sz v n xs) (h1 : 34 ≠ e) (h2 : 27 ≠ e) (h3 : 3 ≠ e) (hg : u.grownBy u' v.ownBlock) : Bks base u' y us l :=
  ⟨own_grown_t h.row hy h1 hg, h.len, fun i hi => ⟨(h.el i hi).cnd, own_grown_t (h.el i hi).ops hy h2 hg, own_grown_t (h.el i hi).nxt hy h3 hg⟩, h.ap⟩
/-- Renamed's graph in the making. -/
structure Rq (g : Gr.G) (w : World) (gc zc : Array Value) (F : Nat) (vi va p : Value) (ps : List Value) (pt : List (List Int)) (yb : Value) (us : List (Value × Int × Value)) (bl : List Gr.Blk) (yh : Value) (hl : List (Int × Int)) (u : World) : Prop where
  cb : Cb w gc zc u
  far : w.heap.size + 1 + 1 ≤ F
  fb : Bk u F 40 #[vi, .int .i64 g.vars, .int .i64 g.keep, va, .int .i64 g.sh, yb, p, yh]
  ins : u.ownsRow (w.heap.size + 1 + 1) 57 3 vi g.ins.length (g.ins.flatMap inCells)
  ars : u.ownsRow (w.heap.size + 1 + 1) 30 2 va g.ars.length (g.ars.flatMap arCells)
  bks : Bks (w.heap.size + 1 + 1) u yb us bl
  hds : u.ownsRow (w.heap.size + 1 + 1) 52 2 yh hl.length (hl.flatMap prCells)
  po : u.ownsRow (w.heap.size + 1 + 1) 32 1 p pt.length ps
  pr : ∀ i, i < pt.length → u.ownsRow (w.heap.size + 1 + 1) 3 1 (ps.getD i nl) (pt.getD i []).length ((pt.getD i []).map (.int .i64))
section
variable {g : Gr.G} {w W0 u u' : World} {gc zc : Array Value} {F : Nat} {vi va vh p yb yh y' : Value} {ps : List Value} {pt : List (List Int)} {us : List (Value × Int × Value)} {bl : List Gr.Blk} {hl : List (Int × Int)}
theorem Rq.below (h : Rq g w gc zc F vi va p ps pt yb us bl yh hl u) (hb : Below u.heap.size u u') : Rq g w gc zc F vi va p ps pt yb us bl yh hl u' :=
  ⟨h.cb.below hb, h.far, h.fb.below hb, own_below h.ins hb, own_below h.ars hb, h.bks.below hb, own_below h.hds hb, own_below h.po hb, fun i hi => own_below (h.pr i hi) hb⟩
theorem Rq.start (hcb : Cb w gc zc u) (hcr : Cr g W0 vi va vh u) (hW : w.heap.size ≤ W0.heap.size) (hmp : Mps (W0.heap.size + 1 + 1) u p ps g.pts) :
    Rq g w gc zc u.heap.size vi va p ps g.pts (.slice none 0 0) [] [] (.slice none 0 0) [] (u.alloc (.cells #[vi, .int .i64 g.vars, .int .i64 g.keep, va, .int .i64 g.sh, .slice none 0 0, p, .slice none 0 0] 40)) := by
  have hb : Below u.heap.size u (u.alloc (.cells #[vi, .int .i64 g.vars, .int .i64 g.keep, va, .int .i64 g.sh, .slice none 0 0, p, .slice none 0 0] 40)) := bla (Below.refl _ _) _
  have hF : w.heap.size + 1 + 1 ≤ u.heap.size := hcb.rb.lt
  have hB : w.heap.size + 1 + 1 ≤ W0.heap.size + 1 + 1 := by omega
  have hs : ∀ {e sz n v xs}, u.ownsRow (W0.heap.size + 1 + 1) e sz v n xs → (u.alloc (.cells #[vi, .int .i64 g.vars, .int .i64 g.keep, va, .int .i64 g.sh, .slice none 0 0, p, .slice none 0 0] 40)).ownsRow (w.heap.size + 1 + 1) e sz v n xs := fun h => own_mono_b (own_below h hb) hB
  have hl : ps.length = g.pts.length := hmp.len
  exact ⟨hcb.below hb, hF, Bk.new u _ _, hs hcr.ins, hs hcr.ars, Bks.nil _ _, World.ownsRow_nil _ _ _ _, hs hmp.1, fun i hi => hs (hmp.2.1 i _ (getD_some nl (by omega)))⟩
/-- One more block. -/
theorem Rq.blk {x : Value × Int × Value} {b : Gr.Blk} (h : Rq g w gc zc F vi va p ps pt yb us bl yh hl u) (hx : Bq (w.heap.size + 1 + 1) u x b) (hap : ∀ i, i < bl.length → Ap (us.getD i bkz).1 x.1) (hown : u'.ownsRow (w.heap.size + 1 + 1) 34 3 y' (bl.length + 1) (us.flatMap bkC ++ bkC x)) (hg : u.grownBy u' yb.ownBlock) :
    Rq g w gc zc F vi va p ps pt y' (us ++ [x]) (bl ++ [b]) yh hl (u'.setCell ⟨F, 5, none⟩ y') := by
  have hr := h.bks.row
  have hf := bk_grown_t h.fb hr (by decide) hg
  have hs : ∀ {e sz n v xs}, u.ownsRow (w.heap.size + 1 + 1) e sz v n xs → e ≠ 34 → e ≠ 40 → (u'.setCell ⟨F, 5, none⟩ y').ownsRow (w.heap.size + 1 + 1) e sz v n xs := fun h1 hne hne2 => own_store_b (own_grown_t h1 hr hne hg) hf hne2
  exact ⟨(h.cb.grown hr hg).at h.far 5 y', h.far, hf.set 5 y', hs h.ins (by decide) (by decide), hs h.ars (by decide) (by decide), (h.bks.push hx hap hown hg).box hf y', hs h.hds (by decide) (by decide), hs h.po (by decide) (by decide), fun i hi => hs (h.pr i hi) (by decide) (by decide)⟩
/-- One more head. -/
theorem Rq.hd {x : Int × Int} (h : Rq g w gc zc F vi va p ps pt yb us bl yh hl u) (hown : u'.ownsRow (w.heap.size + 1 + 1) 52 2 y' (hl.length + 1) (hl.flatMap prCells ++ prCells x)) (hg : u.grownBy u' yh.ownBlock) :
    Rq g w gc zc F vi va p ps pt yb us bl y' (hl ++ [x]) (u'.setCell ⟨F, 7, none⟩ y') := by
  have hr := h.hds
  have hf := bk_grown_t h.fb hr (by decide) hg
  have hs : ∀ {e sz n v xs}, u.ownsRow (w.heap.size + 1 + 1) e sz v n xs → e ≠ 52 → e ≠ 40 → (u'.setCell ⟨F, 7, none⟩ y').ownsRow (w.heap.size + 1 + 1) e sz v n xs := fun h1 hne hne2 => own_store_b (own_grown_t h1 hr hne hg) hf hne2
  refine ⟨(h.cb.grown hr hg).at h.far 7 y', h.far, hf.set 7 y', hs h.ins (by decide) (by decide), hs h.ars (by decide) (by decide), (h.bks.other hr (by decide) (by decide) (by decide) hg).box hf y', ?_, hs h.po (by decide) (by decide), fun i hi => hs (h.pr i hi) (by decide) (by decide)⟩
  have := own_store_b (g := F) (i := 7) (z := y') hown hf (by decide)
  simpa using this
/-- Another list of points. -/
theorem Rq.lst {gp cp n k : Nat} {x' : Value} {q : List Int} (h : Rq g w gc zc F vi va (.slice (some ⟨gp, 0, none⟩) n cp) ps pt yb us bl yh hl u) (hn : n = pt.length) (hk : k < pt.length) (hown : u.ownsRow (w.heap.size + 1 + 1) 3 1 x' q.length (q.map (.int .i64))) :
    Rq g w gc zc F vi va (.slice (some ⟨gp, 0, none⟩) n cp) (ps.set k x') (pt.set k q) yb us bl yh hl (u.setCell ⟨gp, k, none⟩ x') := by
  subst hn
  have hr := h.po
  have hg := grown_cell u gp k x'
  have hl : ps.length = pt.length := by have := hr.1; omega
  have hs : ∀ {base e sz n v xs}, u.ownsRow base e sz v n xs → e ≠ 32 → (u.setCell ⟨gp, k, none⟩ x').ownsRow base e sz v n xs := fun h1 hne => own_grown_t h1 hr hne hg
  refine ⟨h.cb.grown hr hg, h.far, bk_grown_t h.fb hr (by decide) hg, hs h.ins (by decide), hs h.ars (by decide), h.bks.other hr (by decide) (by decide) (by decide) hg, hs h.hds (by decide), ?_, fun i hi => ?_⟩
  · rw [List.length_set]
    exact own_set hr hk
  · rw [List.length_set] at hi
    rw [Me.getD_set (by omega), Me.getD_set hi]
    by_cases e : i = k
    · rw [if_pos e, if_pos e]; exact hs hown (by decide)
    · rw [if_neg e, if_neg e]; exact hs (h.pr i hi) (by decide)
theorem Rq.res (h : Rq g w gc zc F vi va p ps pt yb us bl yh hl u) (i : Nat) (x : Value) : Rq g w gc (zc.setIfInBounds i x) F vi va p ps pt yb us bl yh hl (u.setCell ⟨w.heap.size + 1, i, none⟩ x) := by
  have hp : (⟨w.heap.size + 1, i, none⟩ : Addr).block < w.heap.size + 1 + 1 := Nat.lt_succ_self _
  exact ⟨h.cb.res i x, h.far, h.fb.far (by have := h.far; show F ≠ w.heap.size + 1; omega) x, ownsRow_setCell_below h.ins hp x, ownsRow_setCell_below h.ars hp x, h.bks.far hp x, ownsRow_setCell_below h.hds hp x, ownsRow_setCell_below h.po hp x, fun j hj => ownsRow_setCell_below (h.pr j hj) hp x⟩
theorem lit_hd (u : World) (a b : Int) (g : Nat) (hg : g = u.heap.size) : RowIn 2 (u.alloc (.cells #[.int .i64 a, .int .i64 b] 52)).drew (.slice (some ⟨g, 0, none⟩) 1 1) 1 (prCells (a, b)) := by
  subst hg
  refine RowIn.below (w := u.alloc (.cells #[.int .i64 a, .int .i64 b] 52)) ?_ (below_drewN _ _ 1)
  refine ⟨_, 1, rfl, rfl, .inr ⟨_, 0, rfl, by simp, fun j x hj => ?_⟩⟩
  have hb := heap_alloc_new u (.cells #[.int .i64 a, .int .i64 b] 52)
  rw [cell_of_row _ _ _ _ _ _ hb, Nat.zero_add]
  simpa [prCells] using hj
/-- As a graph is read. -/
theorem Rq.gr (h : Rq g w gc zc F vi va p ps pt yb us bl yh hl u) : GrIn u { g with blks := bl, hds := hl, pts := pt } vi va yb p yh := by
  refine ⟨RowIn.own h.ins, RowIn.own h.ars, h.bks.blks, ?_, RowIn.own h.hds⟩
  show LstsIn u p pt
  have hl := h.po.1
  rcases h.po.2 with ⟨rfl, h0⟩ | ⟨g', cap, cur, rfl, hB, hgg, hcap, _⟩
  · exact ⟨none, 0, by rw [h0], fun i hi => by omega⟩
  · refine ⟨_, cap, rfl, fun i hi => ?_⟩
    obtain ⟨h1, -, h3, -⟩ := own_cell nl h.po hi
    exact ⟨g', 0, ps.getD i nl, rfl, h3, by rw [Nat.zero_add]; exact h1, RowIn.own (h.pr i hi)⟩
end
/-- A graph in rows of one's own. -/
structure Gf (base : Nat) (g : Gr.G) (vi va y p vh : Value) (us : List (Value × Int × Value)) (ps : List Value) (u : World) : Prop where
  ins : u.ownsRow base 57 3 vi g.ins.length (g.ins.flatMap inCells)
  ars : u.ownsRow base 30 2 va g.ars.length (g.ars.flatMap arCells)
  hds : u.ownsRow base 52 2 vh g.hds.length (g.hds.flatMap prCells)
  bks : Bks base u y us g.blks
  po : u.ownsRow base 32 1 p g.pts.length ps
  pr : ∀ i, i < g.pts.length → u.ownsRow base 3 1 (ps.getD i nl) (g.pts.getD i []).length ((g.pts.getD i []).map (.int .i64))
section
variable {base : Nat} {g : Gr.G} {vi va y p vh : Value} {us : List (Value × Int × Value)} {ps : List Value} {u u' : World}
theorem Gf.below (h : Gf base g vi va y p vh us ps u) (hb : Below u.heap.size u u') : Gf base g vi va y p vh us ps u' :=
  ⟨own_below h.ins hb, own_below h.ars hb, own_below h.hds hb, h.bks.below hb, own_below h.po hb, fun i hi => own_below (h.pr i hi) hb⟩
theorem Gf.far (h : Gf base g vi va y p vh us ps u) {q : Addr} (hq : q.block < base) (x : Value) : Gf base g vi va y p vh us ps (u.setCell q x) :=
  ⟨ownsRow_setCell_below h.ins hq x, ownsRow_setCell_below h.ars hq x, ownsRow_setCell_below h.hds hq x, h.bks.far hq x, ownsRow_setCell_below h.po hq x, fun i hi => ownsRow_setCell_below (h.pr i hi) hq x⟩
theorem Gf.mono {base' : Nat} (h : Gf base g vi va y p vh us ps u) (hb : base' ≤ base) : Gf base' g vi va y p vh us ps u :=
  ⟨own_mono_b h.ins hb, own_mono_b h.ars hb, own_mono_b h.hds hb, ⟨own_mono_b h.bks.row hb, h.bks.len, fun i hi => ⟨(h.bks.el i hi).cnd, own_mono_b (h.bks.el i hi).ops hb, own_mono_b (h.bks.el i hi).nxt hb⟩, h.bks.ap⟩, own_mono_b h.po hb, fun i hi => own_mono_b (h.pr i hi) hb⟩
/-- A store into a box. -/
theorem Gf.box {F i : Nat} {cs : Array Value} (h : Gf base g vi va y p vh us ps u) (hb : Bk u F 40 cs) (z : Value) : Gf base g vi va y p vh us ps (u.setCell ⟨F, i, none⟩ z) :=
  ⟨own_store_b h.ins hb (by decide), own_store_b h.ars hb (by decide), own_store_b h.hds hb (by decide), h.bks.box hb z, own_store_b h.po hb (by decide), fun j hj => own_store_b (h.pr j hj) hb (by decide)⟩
/-- The graph's lists lie apart from a row of numbers. -/
def Gx (g : Gr.G) (us : List (Value × Int × Value)) (ps : List Value) (gt : Nat) : Prop := (∀ i, i < g.blks.length → (us.getD i bkz).2.2.ownBlock ≠ some gt) ∧ ∀ i, i < g.pts.length → (ps.getD i nl).ownBlock ≠ some gt
theorem Gf.late {gt : Nat} (h : Gf base g vi va y p vh us ps u) (hb : gt < base) : Gx g us ps gt :=
  ⟨fun i hi e => by have := ((h.bks.el i hi).nxt.lt gt e).1; omega, fun i hi e => by have := ((h.pr i hi).lt gt e).1; omega⟩
theorem Gf.old {gt : Nat} (h : Gf base g vi va y p vh us ps u) (hb : u.heap.size ≤ gt) : Gx g us ps gt :=
  ⟨fun i hi e => by have := ((h.bks.el i hi).nxt.lt gt e).2; omega, fun i hi e => by have := ((h.pr i hi).lt gt e).2; omega⟩
/-- A store into that row. -/
theorem Gf.num {gt k n c : Nat} {b2 : Nat} {xs : List Value} (h : Gf base g vi va y p vh us ps u) (hx : Gx g us ps gt) (hr : u.ownsRow b2 3 1 (.slice (some ⟨gt, 0, none⟩) n c) n xs) (z : Value) : Gf base g vi va y p vh us ps (u.setCell ⟨gt, k, none⟩ z) := by
  have hg := grown_cell u gt k z
  have hs : ∀ {b3 e sz n2 v xs2}, u.ownsRow b3 e sz v n2 xs2 → e ≠ 3 → (u.setCell ⟨gt, k, none⟩ z).ownsRow b3 e sz v n2 xs2 := fun h1 hne => own_grown_t h1 hr hne hg
  exact ⟨hs h.ins (by decide), hs h.ars (by decide), hs h.hds (by decide), ⟨hs h.bks.row (by decide), h.bks.len, fun i hi => ⟨(h.bks.el i hi).cnd, hs (h.bks.el i hi).ops (by decide), own_store (h.bks.el i hi).nxt (hx.1 i hi)⟩, h.bks.ap⟩, hs h.po (by decide), fun i hi => own_store (h.pr i hi) (hx.2 i hi)⟩
theorem Gf.gr (h : Gf base g vi va y p vh us ps u) : GrIn u g vi va y p vh := by
  refine ⟨RowIn.own h.ins, RowIn.own h.ars, h.bks.blks, ?_, RowIn.own h.hds⟩
  have hl := h.po.1
  rcases h.po.2 with ⟨rfl, h0⟩ | ⟨g', cap, cur, rfl, hB, hgg, hcap, _⟩
  · exact ⟨none, 0, by rw [h0], fun i hi => by omega⟩
  · refine ⟨_, cap, rfl, fun i hi => ?_⟩
    obtain ⟨h1, -, h3, -⟩ := own_cell nl h.po hi
    exact ⟨g', 0, ps.getD i nl, rfl, h3, by rw [Nat.zero_add]; exact h1, RowIn.own (h.pr i hi)⟩
end
theorem Rq.gf {g : Gr.G} {w u : World} {gc zc : Array Value} {F : Nat} {vi va p yb yh : Value} {ps : List Value} {pt : List (List Int)} {us : List (Value × Int × Value)} {bl : List Gr.Blk} {hl : List (Int × Int)} (h : Rq g w gc zc F vi va p ps pt yb us bl yh hl u) : Gf (w.heap.size + 1 + 1) { g with blks := bl, hds := hl, pts := pt } vi va yb p yh us ps u :=
  ⟨h.ins, h.ars, h.hds, h.bks, h.po, h.pr⟩
end Go.Proofs.Ytojnhdkclabkgaa
