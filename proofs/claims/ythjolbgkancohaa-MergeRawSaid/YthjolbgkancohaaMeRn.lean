/- A graph of the call's own while its blocks get other numbers. No condition. -/
import Derived.Test.YthjolbgkancohaaMeGj
import Derived.Test.YthjolbgkancohaaMeCodeC
namespace Go.Proofs.Ythjolbgkancohaa
open Go.RowKit
set_option linter.unusedVariables false
set_option linter.unusedSimpArgs false
/-- A list of which the first k elements have been changed. -/
def mxg {α : Type} (f : α → α) (l : List α) (k : Nat) : List α := (l.take k).map f ++ l.drop k
section
variable {α : Type} (f : α → α)
theorem mxg_len (l : List α) (k : Nat) : (mxg f l k).length = l.length := by unfold mxg; simp; omega
theorem mxg_zero (l : List α) : mxg f l 0 = l := by simp [mxg]
theorem mxg_all (l : List α) : mxg f l l.length = l.map f := by simp [mxg]
theorem mxg_at {l : List α} {k : Nat} (d : α) (h : k < l.length) : (mxg f l k).getD k d = l.getD k d := by
  unfold mxg
  rw [List.getD_eq_getElem?_getD, List.getElem?_append_right (by simp; omega)]
  simp [show k - min k l.length = 0 by omega]
theorem mxg_set {l : List α} {k : Nat} (d : α) (h : k < l.length) : (mxg f l k).set k (f (l.getD k d)) = mxg f l (k + 1) := by
  have hl : ((l.take k).map f).length = k := by simp; omega
  unfold mxg
  rw [List.drop_eq_getElem_cons h, List.set_append_right _ _ (by omega), hl, Nat.sub_self, List.set_cons_zero, List.take_add_one, List.getElem?_eq_getElem h, List.map_append]
  simp [List.getD, List.getElem?_eq_getElem h]
end
def hdf (f : Int → Int) (h : Int × Int) : Int × Int := (f h.1, h.2)
/-- All lists of numbers of a graph and its map. -/
def lsL (g : Gr.G) (tos : List (List Int)) : List (List Int) := g.blks.map (fun x => x.next) ++ (g.pts ++ tos)
/-- The first K lists and the first H heads have other numbers. -/
structure Rn (base : Nat) (g : Gr.G) (tos : List (List Int)) (vi va vb vp vh vt : Value) (us : List (Value × Int × Value)) (ps ts : List Value) (f : Int → Int) (K H : Nat) (u : World) : Prop where
  ins : u.ownsRow base 57 3 vi g.ins.length (g.ins.flatMap inCells)
  ars : u.ownsRow base 30 2 va g.ars.length (g.ars.flatMap arCells)
  hds : u.ownsRow base 52 2 vh g.hds.length ((mxg (hdf f) g.hds H).flatMap prCells)
  blk : Hold base u vb g.blks.length us
  cnd : ∀ i, i < g.blks.length → (us.getD i bkz).2.1 = (g.blks.getD i Gr.blk0).cond
  ops : ∀ i, i < g.blks.length → u.ownsRow base 27 5 (us.getD i bkz).1 (g.blks.getD i Gr.blk0).ops.length ((g.blks.getD i Gr.blk0).ops.flatMap opCells)
  oap : ∀ i j, i < g.blks.length → j < g.blks.length → i ≠ j → Ap (us.getD i bkz).1 (us.getD j bkz).1
  prow : u.ownsRow base 32 1 vp g.pts.length ps
  trow : u.ownsRow base 32 1 vt tos.length ts
  pl : ps.length = g.pts.length
  tl : ts.length = tos.length
  fam : Rws base u (nxv us ++ (ps ++ ts)) (mxg (List.map f) (lsL g tos) K)
section
variable {u u' : World} {base : Nat} {g : Gr.G} {tos : List (List Int)} {vi va vb vp vh vt : Value} {us : List (Value × Int × Value)} {ps ts : List Value} {f : Int → Int} {K H : Nat}
theorem Rn.below (h : Rn base g tos vi va vb vp vh vt us ps ts f K H u) (hb : Below u.heap.size u u') : Rn base g tos vi va vb vp vh vt us ps ts f K H u' :=
  ⟨own_below h.ins hb, own_below h.ars hb, own_below h.hds hb, h.blk.below hb, h.cnd, fun i hi => own_below (h.ops i hi) hb, h.oap, own_below h.prow hb, own_below h.trow hb, h.pl, h.tl, h.fam.below hb⟩
theorem Rn.start (h : Gm base g tos vi va vb vp vh vt us ps ts u) : Rn base g tos vi va vb vp vh vt us ps ts f 0 0 u :=
  ⟨h.ins, h.ars, by rw [mxg_zero]; exact h.hds, h.blk, h.cnd, h.ops, h.oap, h.prow, h.trow, h.pl, h.tl, by rw [mxg_zero]; exact h.fam⟩
/-- The graph with other numbers. -/
def rnG (f : Int → Int) (g : Gr.G) : Gr.G := { g with blks := g.blks.map (Me.rnm f), pts := g.pts.map (List.map f), hds := g.hds.map (hdf f) }
theorem Rn.fin (h : Rn base g tos vi va vb vp vh vt us ps ts f (lsL g tos).length g.hds.length u) : Gm base (rnG f g) (tos.map (List.map f)) vi va vb vp vh vt us ps ts u := by
  have hb : ∀ i, i < g.blks.length → ((g.blks.map (Me.rnm f)).getD i Gr.blk0) = Me.rnm f (g.blks.getD i Gr.blk0) := fun i hi => Me.getD_map (d := Gr.blk0) _ hi
  have hl : (g.blks.map (Me.rnm f)).length = g.blks.length := by rw [List.length_map]
  have h1 := h.hds
  have h2 := h.fam
  rw [mxg_all] at h1 h2
  refine ⟨h.ins, h.ars, ?_, ?_, fun i hi => ?_, fun i hi => ?_, fun i j hi hj => ?_, ?_, ?_, ?_, ?_, ?_⟩
  · show u.ownsRow base _ 2 vh (g.hds.map (hdf f)).length _
    rw [List.length_map]; exact h1
  · show Hold base u vb (g.blks.map (Me.rnm f)).length us
    rw [hl]; exact h.blk
  · have hi' : i < g.blks.length := by rw [← hl]; exact hi
    show _ = ((g.blks.map (Me.rnm f)).getD i Gr.blk0).cond
    rw [hb i hi']; exact h.cnd i hi'
  · have hi' : i < g.blks.length := by rw [← hl]; exact hi
    show u.ownsRow base _ 5 _ ((g.blks.map (Me.rnm f)).getD i Gr.blk0).ops.length (((g.blks.map (Me.rnm f)).getD i Gr.blk0).ops.flatMap opCells)
    rw [hb i hi']; exact h.ops i hi'
  · exact h.oap i j (by rw [← hl]; exact hi) (by rw [← hl]; exact hj)
  · show u.ownsRow base _ 1 vp (g.pts.map (List.map f)).length ps
    rw [List.length_map]; exact h.prow
  · rw [List.length_map]; exact h.trow
  · show _ = (g.pts.map (List.map f)).length
    rw [List.length_map]; exact h.pl
  · rw [List.length_map]; exact h.tl
  · show Rws base u (nxv us ++ (ps ++ ts)) ((g.blks.map (Me.rnm f)).map (fun x => x.next) ++ (g.pts.map (List.map f) ++ tos.map (List.map f)))
    have e : (g.blks.map (Me.rnm f)).map (fun x => x.next) ++ (g.pts.map (List.map f) ++ tos.map (List.map f)) = (lsL g tos).map (List.map f) := by
      unfold lsL
      rw [List.map_append, List.map_append, List.map_map, List.map_map]
      rfl
    rw [e]; exact h2
theorem Rn.flen (h : Rn base g tos vi va vb vp vh vt us ps ts f K H u) : (lsL g tos).length = g.blks.length + (g.pts.length + tos.length) := by unfold lsL; simp
/-- Row K has other numbers now. -/
theorem Rn.move (h : Rn base g tos vi va vb vp vh vt us ps ts f K H u) (hK : K < (lsL g tos).length) {v : Value} (hv : (nxv us ++ (ps ++ ts)).getD K nl = v) (hg : u.grownBy u' v.ownBlock)
    (hown : u'.ownsRow base 3 1 v (((lsL g tos).getD K []).map f).length ((((lsL g tos).getD K []).map f).map (.int .i64))) : Rn base g tos vi va vb vp vh vt us ps ts f (K + 1) H u' := by
  subst hv
  have hl : K < (mxg (List.map f) (lsL g tos) K).length := by rw [mxg_len]; exact hK
  have hr := h.fam.row K hl
  have hf := h.fam.change hl hg hown (.inl rfl)
  have e1 : (nxv us ++ (ps ++ ts)).set K ((nxv us ++ (ps ++ ts)).getD K nl) = nxv us ++ (ps ++ ts) := by
    have hlt : K < (nxv us ++ (ps ++ ts)).length := by rw [h.fam.len]; exact hl
    rw [Me.getD_eq hlt]
    exact List.set_getElem_self hlt
  rw [e1, mxg_set (List.map f) [] hK] at hf
  exact ⟨own_grown_t h.ins hr (by decide) hg, own_grown_t h.ars hr (by decide) hg, own_grown_t h.hds hr (by decide) hg, h.blk.grown hr (by decide) hg, h.cnd, fun i hi => own_grown_t (h.ops i hi) hr (by decide) hg, h.oap, own_grown_t h.prow hr (by decide) hg, own_grown_t h.trow hr (by decide) hg, h.pl, h.tl, hf⟩
theorem Rn.rowK (h : Rn base g tos vi va vb vp vh vt us ps ts f K H u) (hK : K < (lsL g tos).length) : u.ownsRow base 3 1 ((nxv us ++ (ps ++ ts)).getD K nl) ((lsL g tos).getD K []).length (((lsL g tos).getD K []).map (.int .i64)) := by
  have hr := h.fam.row K (by rw [mxg_len]; exact hK)
  rwa [mxg_at (List.map f) [] hK] at hr
theorem Rn.one (h : Rn base g tos vi va vb vp vh vt us ps ts f K H u) : (∀ x ∈ ps, x.oneCell' = true) ∧ ∀ x ∈ ts, x.oneCell' = true := by
  have hl := h.flen
  have hu : (nxv us).length = g.blks.length := by rw [nxv_len]; exact h.blk.1
  have hall : ∀ i, i < g.pts.length + tos.length → ((ps ++ ts).getD i nl).oneCell' = true := fun i hi => by
    have hr := h.fam.row (g.blks.length + i) (by rw [mxg_len, hl]; omega)
    rw [ap_right hu] at hr
    rw [own_sl hr]
    rfl
  have hp := h.pl
  have ht := h.tl
  refine ⟨fun x hx => ?_, fun x hx => ?_⟩
  · obtain ⟨i, hi, rfl⟩ := Me.mem_get (d := nl) hx
    have := hall i (by omega)
    rwa [ap_left hi] at this
  · obtain ⟨i, hi, rfl⟩ := Me.mem_get (d := nl) hx
    have := hall (g.pts.length + i) (by omega)
    rwa [ap_right hp] at this
theorem own_pos {u : World} {base : Nat} {e : TypeId} {sz n c m : Nat} {A : Option Addr} {xs : List Value} (h : u.ownsRow base e sz (.slice A n c) m xs) (hm : 0 < m) : ∃ q, A = some ⟨q, 0, none⟩ := by
  rcases h.2 with ⟨_, h0⟩ | ⟨g, cap, cur, e0, _⟩
  · omega
  · injection e0 with e0 _ _
    exact ⟨g, e0⟩
/-- A number of a row of pairs changes. -/
theorem prs_set {base g i : Nat} {e : TypeId} {n c : Nat} {l : List (Int × Int)} {u : World} (h : u.ownsRow base e 2 (.slice (some ⟨g, 0, none⟩) n c) n (l.flatMap prCells)) (hi : i < l.length) (z : Int) : (u.setCell ⟨g, i * 2, none⟩ (.int .i64 z)).ownsRow base e 2 (.slice (some ⟨g, 0, none⟩) n c) n ((l.set i (z, (l.getD i (0, 0)).2)).flatMap prCells) := by
  have hf : ∀ (l : List (Int × Int)) (i : Nat), i < l.length → (l.set i (z, (l.getD i (0, 0)).2)).flatMap prCells = (l.flatMap prCells).set (i * 2) (.int .i64 z) := by
    intro l
    induction l with
    | nil => intro i hi; simp at hi
    | cons x l ih =>
      intro i hi
      cases i with
      | zero => simp [prCells]
      | succ i =>
        have := ih i (by simpa using hi)
        rw [List.set_cons_succ, List.flatMap_cons, List.flatMap_cons, List.getD_cons_succ, this, show (i + 1) * 2 = (prCells x).length + i * 2 by simp [prCells]; omega, List.set_append_right _ _ (by omega)]
        simp
  rw [hf l i hi]
  rcases h.2 with ⟨e0, _⟩ | ⟨g', cap, cur, e0, h1, h2, h3, h4, h5, h6⟩
  · cases e0
  · injection e0 with e1 e2 e3
    injection e1 with e1
    injection e1 with e1 _ _
    subst e1 e3
    refine ⟨by rw [List.length_set]; exact h.1, .inr ⟨g, c, cur.setIfInBounds (i * 2) (.int .i64 z), rfl, h1, ?_, h3, h4, by simpa using h5, ?_⟩⟩
    · simp [World.setCell, Array.getElem?_modify, h2]
    · rw [Array.toList_setIfInBounds, List.take_set, h6]
theorem prs_at {base g i : Nat} {e : TypeId} {n c : Nat} {l : List (Int × Int)} {u : World} (h : u.ownsRow base e 2 (.slice (some ⟨g, 0, none⟩) n c) n (l.flatMap prCells)) (hi : i < l.length) : u.cell? ⟨g, i * 2, none⟩ = some (.int .i64 (l.getD i (0, 0)).1) ∧ u.cell? ⟨g, i * 2 + 1, none⟩ = some (.int .i64 (l.getD i (0, 0)).2) ∧ u.frozen? ⟨g, i * 2, none⟩ = false ∧ base ≤ g ∧ g < u.heap.size := by
  have hx : l[i]? = some (l.getD i (0, 0)) := getD_some _ hi
  have hc : ∀ k v, (prCells (l.getD i (0, 0)))[k]? = some v → u.cell? ⟨g, i * 2 + k, none⟩ = some v := fun k v hv => by
    have := h.cells (g := g) rfl _ _ (flat_cell prCells 2 (fun _ => rfl) l i k _ _ hx hv)
    rwa [Addr.add_lit, Nat.zero_add] at this
  rcases h.2 with ⟨e0, _⟩ | ⟨g', cap, cur, e0, h1, h2, h3, h4, h5, h6⟩
  · cases e0
  · injection e0 with e1 e2 e3
    injection e1 with e1
    injection e1 with e1 _ _
    subst e1
    exact ⟨hc 0 _ rfl, hc 1 _ rfl, by simp [World.frozen?, h2], h1, (h.lt g rfl).2⟩
/-- Head H has another number now. -/
theorem Rn.head {Q n c : Nat} (h : Rn base g tos vi va vb vp (.slice (some ⟨Q, 0, none⟩) n c) vt us ps ts f K H u) (hH : H < g.hds.length) (hn : n = g.hds.length) : Rn base g tos vi va vb vp (.slice (some ⟨Q, 0, none⟩) n c) vt us ps ts f K (H + 1) (u.setCell ⟨Q, H * 2, none⟩ (.int .i64 (f (g.hds.getD H (0, 0)).1))) := by
  subst hn
  have hr := h.hds
  have h1 := prs_set hr (i := H) (by rw [mxg_len]; exact hH) (f (g.hds.getD H (0, 0)).1)
  have e : (mxg (hdf f) g.hds H).set H (f (g.hds.getD H (0, 0)).1, ((mxg (hdf f) g.hds H).getD H (0, 0)).2) = mxg (hdf f) g.hds (H + 1) := by
    rw [mxg_at (hdf f) (0, 0) hH, ← mxg_set (hdf f) (0, 0) hH]
    rfl
  rw [e] at h1
  have hg := grown_cell u Q (H * 2) (.int .i64 (f (g.hds.getD H (0, 0)).1))
  exact ⟨own_grown_t h.ins hr (by decide) hg, own_grown_t h.ars hr (by decide) hg, h1, h.blk.grown hr (by decide) hg, h.cnd, fun i hi => own_grown_t (h.ops i hi) hr (by decide) hg, h.oap, own_grown_t h.prow hr (by decide) hg, own_grown_t h.trow hr (by decide) hg, h.pl, h.tl, h.fam.other hr (by decide) hg⟩
end
end Go.Proofs.Ythjolbgkancohaa
