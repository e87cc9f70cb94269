/- A graph of the call's own, that changes in place. No condition. -/
import Derived.Test.YthjolbgkancohaaMeRws
import Derived.Test.YthjolbgkancohaaMeRen
namespace Go.Proofs.Ythjolbgkancohaa
open Go.RowKit
set_option linter.unusedVariables false
set_option linter.unusedSimpArgs false
/-- A row of blocks that may have room behind it. -/
def Hold (base : Nat) (u : World) (v : Value) (n : Nat) (us : List (Value × Int × Value)) : Prop :=
  us.length = n ∧ ∃ (Q c : Nat) (cs : Array Value), v = .slice (some ⟨Q, 0, none⟩) n c ∧ base ≤ Q ∧ n ≤ c ∧ c ≤ maxLen ∧ Bk u Q 34 cs ∧ ∀ (j : Nat) (x : Value), (us.flatMap bkC)[j]? = some x → cs[j]? = some x
section
variable {u u' : World} {base n : Nat} {v : Value} {us : List (Value × Int × Value)}
theorem Hold.below (h : Hold base u v n us) (hb : Below u.heap.size u u') : Hold base u' v n us := by
  obtain ⟨hl, Q, c, cs, e, h1, h2, h3, h4, h5⟩ := h
  exact ⟨hl, Q, c, cs, e, h1, h2, h3, h4.below hb, h5⟩
theorem Hold.grown {base' sz m : Nat} {e' : TypeId} {y : Value} {ys : List Value} (h : Hold base u v n us) (hy : u.ownsRow base' e' sz y m ys) (hne : 34 ≠ e') (hg : u.grownBy u' y.ownBlock) : Hold base u' v n us := by
  obtain ⟨hl, Q, c, cs, e, h1, h2, h3, h4, h5⟩ := h
  exact ⟨hl, Q, c, cs, e, h1, h2, h3, bk_grown_t h4 hy hne hg, h5⟩
theorem Hold.own (h : u.ownsRow base 34 3 v n (us.flatMap bkC)) (hn : 0 < n) : Hold base u v n us := by
  have hl := h.1
  rw [flat_length bkC 3 (fun _ => rfl)] at hl
  rcases h.2 with ⟨rfl, h0⟩ | ⟨g, cap, cur, rfl, hb, hg, hc, hm, hs, ht⟩
  · omega
  · refine ⟨by omega, g, cap, cur, rfl, hb, hc, hm, hg, fun j x hj => ?_⟩
    rw [← ht, List.getElem?_take] at hj
    split at hj
    · rw [← Array.getElem?_toList]; exact hj
    · cases hj
theorem Hold.mono {base' : Nat} (h : Hold base u v n us) (hb : base' ≤ base) : Hold base' u v n us := by
  obtain ⟨hl, Q, c, cs, e, h1, h2⟩ := h
  exact ⟨hl, Q, c, cs, e, by omega, h2⟩
/-- The cells of block i. -/
theorem Hold.cells (h : Hold base u v n us) {i : Nat} (hi : i < n) : ∃ Q c, v = .slice (some ⟨Q, 0, none⟩) n c ∧ base ≤ Q ∧ Q < u.heap.size ∧ u.cell? ⟨Q, i * 3, none⟩ = some (us.getD i bkz).1 ∧ u.cell? ⟨Q, i * 3 + 1, none⟩ = some (.int .i64 (us.getD i bkz).2.1) ∧ u.cell? ⟨Q, i * 3 + 2, none⟩ = some (us.getD i bkz).2.2 ∧ ∀ o, u.frozen? ⟨Q, o, none⟩ = false := by
  obtain ⟨hl, Q, c, cs, e, h1, h2, h3, h4, h5⟩ := h
  have hx : us[i]? = some (us.getD i bkz) := getD_some _ (by omega)
  have hc : ∀ k x, (bkC (us.getD i bkz))[k]? = some x → u.cell? ⟨Q, i * 3 + k, none⟩ = some x := fun k x hk => by
    rw [h4.cell]
    exact h5 _ _ (flat_cell bkC 3 (fun _ => rfl) us i k _ _ hx hk)
  exact ⟨Q, c, e, h1, h4.lt, hc 0 _ rfl, hc 1 _ rfl, hc 2 _ rfl, fun o => h4.frozen o⟩
theorem Hold.at {Q c n' i : Nat} (h : Hold base u (.slice (some ⟨Q, 0, none⟩) n' c) n us) (hi : i < n) : base ≤ Q ∧ Q < u.heap.size ∧ u.cell? ⟨Q, i * 3, none⟩ = some (us.getD i bkz).1 ∧ u.cell? ⟨Q, i * 3 + 1, none⟩ = some (.int .i64 (us.getD i bkz).2.1) ∧ u.cell? ⟨Q, i * 3 + 2, none⟩ = some (us.getD i bkz).2.2 ∧ ∀ o, u.frozen? ⟨Q, o, none⟩ = false := by
  obtain ⟨Q', c', e, h1, h2, h3⟩ := h.cells hi
  injection e with e _ _
  injection e with e
  injection e with e _ _
  subst e
  exact ⟨h1, h2, h3⟩
end
/-- The values of the lists of numbers. -/
def nxv (us : List (Value × Int × Value)) : List Value := us.map fun x => x.2.2
/-- A graph of the call's own, and the map beside it. -/
structure Gm (base : Nat) (g : Gr.G) (tos : List (List Int)) (vi va vb vp vh vt : Value) (us : List (Value × Int × Value)) (ps ts : List Value) (u : World) : Prop where
  ins : u.ownsRow base 57 3 vi g.ins.length (g.ins.flatMap inCells)
  ars : u.ownsRow base 30 2 va g.ars.length (g.ars.flatMap arCells)
  hds : u.ownsRow base 52 2 vh g.hds.length (g.hds.flatMap prCells)
  blk : Hold base u vb g.blks.length us
  cnd : ∀ i, i < g.blks.length → (us.getD i bkz).2.1 = (g.blks.getD i Gr.blk0).cond
  ops : ∀ i, i < g.blks.length → u.ownsRow base 27 5 (us.getD i bkz).1 (g.blks.getD i Gr.blk0).ops.length ((g.blks.getD i Gr.blk0).ops.flatMap opCells)
  oap : ∀ i j, i < g.blks.length → j < g.blks.length → i ≠ j → Ap (us.getD i bkz).1 (us.getD j bkz).1
  prow : u.ownsRow base 32 1 vp g.pts.length ps
  trow : u.ownsRow base 32 1 vt tos.length ts
  pl : ps.length = g.pts.length
  tl : ts.length = tos.length
  fam : Rws base u (nxv us ++ (ps ++ ts)) (g.blks.map (fun x => x.next) ++ (g.pts ++ tos))
section
variable {u u' : World} {base : Nat} {g : Gr.G} {tos : List (List Int)} {vi va vb vp vh vt : Value} {us : List (Value × Int × Value)} {ps ts : List Value}
theorem Gm.below (h : Gm base g tos vi va vb vp vh vt us ps ts u) (hb : Below u.heap.size u u') : Gm base g tos vi va vb vp vh vt us ps ts u' :=
  ⟨own_below h.ins hb, own_below h.ars hb, own_below h.hds hb, h.blk.below hb, h.cnd, fun i hi => own_below (h.ops i hi) hb, h.oap, own_below h.prow hb, own_below h.trow hb, h.pl, h.tl, h.fam.below hb⟩
theorem Hold.far {n : Nat} {v : Value} {us : List (Value × Int × Value)} (h : Hold base u v n us) {p : Addr} (hp : p.block < base) (z : Value) : Hold base (u.setCell p z) v n us := by
  obtain ⟨hl, Q, c, cs, e, h1, h2, h3, h4, h5⟩ := h
  exact ⟨hl, Q, c, cs, e, h1, h2, h3, h4.far (by omega) z, h5⟩
theorem Gm.far (h : Gm base g tos vi va vb vp vh vt us ps ts u) {p : Addr} (hp : p.block < base) (z : Value) : Gm base g tos vi va vb vp vh vt us ps ts (u.setCell p z) :=
  ⟨ownsRow_setCell_below h.ins hp z, ownsRow_setCell_below h.ars hp z, ownsRow_setCell_below h.hds hp z, h.blk.far hp z, h.cnd, fun i hi => ownsRow_setCell_below (h.ops i hi) hp z, h.oap, ownsRow_setCell_below h.prow hp z, ownsRow_setCell_below h.trow hp z, h.pl, h.tl, h.fam.far hp z⟩
theorem Gm.ul (h : Gm base g tos vi va vb vp vh vt us ps ts u) : us.length = g.blks.length := h.blk.1
theorem nxv_len (us : List (Value × Int × Value)) : (nxv us).length = us.length := by simp [nxv]
theorem nxv_at {i : Nat} (hi : i < us.length) : (nxv us).getD i nl = (us.getD i bkz).2.2 := by
  unfold nxv
  simp [List.getD, List.getElem?_eq_getElem hi]
theorem ap_left {α : Type} {l r : List α} {i : Nat} {d : α} (h : i < l.length) : (l ++ r).getD i d = l.getD i d := by
  simp [List.getD, List.getElem?_append_left h]
theorem ap_right {α : Type} {l r : List α} {i n : Nat} {d : α} (hl : l.length = n) : (l ++ r).getD (n + i) d = r.getD i d := by
  subst hl
  simp only [List.getD]
  rw [List.getElem?_append_right (by omega)]
  simp
/-- The row of a block's successors. -/
theorem Gm.nxt (h : Gm base g tos vi va vb vp vh vt us ps ts u) {i : Nat} (hi : i < g.blks.length) : u.ownsRow base 3 1 (us.getD i bkz).2.2 (g.blks.getD i Gr.blk0).next.length ((g.blks.getD i Gr.blk0).next.map (.int .i64)) := by
  have hl := h.ul
  have := h.fam.row i (by simp; omega)
  rw [ap_left (by rw [nxv_len]; omega), nxv_at (by omega), ap_left (by simpa using hi), Me.getD_map (d := Gr.blk0) _ hi] at this
  exact this
theorem Gm.pt (h : Gm base g tos vi va vb vp vh vt us ps ts u) {i : Nat} (hi : i < g.pts.length) : u.ownsRow base 3 1 (ps.getD i nl) (g.pts.getD i []).length ((g.pts.getD i []).map (.int .i64)) := by
  have hl := h.ul
  have hp := h.pl
  have := h.fam.row (g.blks.length + i) (by simp; omega)
  rw [ap_right (by rw [nxv_len]; omega), ap_right (by simp), ap_left (by omega), ap_left hi] at this
  exact this
theorem Gm.to (h : Gm base g tos vi va vb vp vh vt us ps ts u) {i : Nat} (hi : i < tos.length) : u.ownsRow base 3 1 (ts.getD i nl) (tos.getD i []).length ((tos.getD i []).map (.int .i64)) := by
  have hl := h.ul
  have hp := h.pl
  have h0 := h.fam.row (g.blks.length + (g.pts.length + i)) (by simp; omega)
  have e1 := ap_right (l := nxv us) (r := ps ++ ts) (i := g.pts.length + i) (d := nl) (show (nxv us).length = g.blks.length by rw [nxv_len]; omega)
  have e2 := ap_right (l := ps) (r := ts) (i := i) (d := nl) hp
  have e3 := ap_right (l := g.blks.map fun x => x.next) (r := g.pts ++ tos) (i := g.pts.length + i) (d := ([] : List Int)) (show (g.blks.map fun x => x.next).length = g.blks.length by simp)
  have e4 := ap_right (l := g.pts) (r := tos) (i := i) (d := ([] : List Int)) rfl
  rw [e1, e2, e3, e4] at h0
  exact h0
theorem own_sl {e : TypeId} {sz n : Nat} {v : Value} {xs : List Value} (h : u.ownsRow base e sz v n xs) : v = .slice (slA' v) n (slC' v) := row_eta' (RowIn.own h)
theorem rows_lsts {v : Value} {ps : List Value} {l : List (List Int)} (h : u.ownsRow base 32 1 v l.length ps) (hr : ∀ i, i < l.length → u.ownsRow base 3 1 (ps.getD i nl) (l.getD i []).length ((l.getD i []).map (.int .i64))) : LstsIn u v l := by
  have hl := h.1
  rcases h.2 with ⟨rfl, h0⟩ | ⟨g, cap, cur, rfl, hB, hg, hcap, _⟩
  · exact ⟨none, 0, by rw [h0], fun i hi => by omega⟩
  · refine ⟨_, cap, rfl, fun i hi => ?_⟩
    obtain ⟨h1, -, h3, -⟩ := own_cell nl h hi
    exact ⟨g, 0, ps.getD i nl, rfl, h3, by rw [Nat.zero_add]; exact h1, RowIn.own (hr i hi)⟩
/-- As a graph is read. -/
theorem Gm.gr (h : Gm base g tos vi va vb vp vh vt us ps ts u) : GrIn u g vi va vb vp vh := by
  refine ⟨RowIn.own h.ins, RowIn.own h.ars, ?_, rows_lsts h.prow (fun i hi => h.pt hi), RowIn.own h.hds⟩
  obtain ⟨hl, Q, c, cs, e, -⟩ := id h.blk
  refine ⟨some ⟨Q, 0, none⟩, c, fun i => slA' (us.getD i bkz).1, fun i => slA' (us.getD i bkz).2.2, fun i => slC' (us.getD i bkz).1, fun i => slC' (us.getD i bkz).2.2, e, fun i hi => ?_⟩
  obtain ⟨Q', c', e', hb, hlt, h0, h1, h2, -⟩ := h.blk.cells hi
  rw [e] at e'
  injection e' with e' _ _
  injection e' with e'
  injection e' with e' _ _
  subst e'
  have ho := RowIn.own (h.ops i hi)
  have hn := RowIn.own (h.nxt hi)
  refine ⟨Q, 0, rfl, hlt, ?_, ?_, ?_, ?_, ?_⟩
  · rw [Nat.zero_add, h0, ← row_eta' ho]
  · rw [Nat.zero_add, h1, h.cnd i hi]
  · rw [Nat.zero_add, h2, ← row_eta' hn]
  · rw [← row_eta' ho]; exact ho
  · rw [← row_eta' hn]; exact hn
theorem Gm.tos_in (h : Gm base g tos vi va vb vp vh vt us ps ts u) : LstsIn u vt tos := rows_lsts h.trow (fun i hi => h.to hi)
end
end Go.Proofs.Ythjolbgkancohaa
