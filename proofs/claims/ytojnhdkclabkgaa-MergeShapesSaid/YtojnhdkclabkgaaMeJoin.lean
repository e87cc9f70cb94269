/- A graph of the call's own, that changes in place. No condition. A graph of the call's own while two of its blocks become one. No condition. The code of layer 16: two blocks become one. No condition. -/
import Derived.Test.YtojnhdkclabkgaaMeRws
import Derived.Test.YtojnhdkclabkgaaMeRen
import Derived.Test.YtojnhdkclabkgaaStLast
import Derived.RegionTactic
import Derived.ArgAppend
import Derived.Deep.RegionLawGrows
import Derived.StillTailTactics
import Derived.Deep.DeepCutAuto
import Derived.Deep.CutBlock
namespace Go.Proofs.Ytojnhdkclabkgaa
open Go.RowKit
set_option linter.unusedVariables false
set_option linter.unusedSimpArgs false
/-- A row of blocks that may have room behind it. -/
def Hold (base : Nat) (u : World) (v : Value) (n : Nat) (us : List (Value × Int × Value)) : Prop :=
  us.length = n ∧ ∃ (Q c : Nat) (cs : Array Value), v = .slice (some ⟨Q, 0, none⟩) n c ∧ base ≤ Q ∧ n ≤ c ∧ c ≤ maxLen ∧ Bk u Q 34 cs ∧ ∀ (j : Nat) (x : Value), (us.flatMap bkC)[j]? = some x → cs[j]? = some x
section
variable {u u' : World} {base n : Nat} {v : Value} {us : List (Value × Int × Value)}
theorem Hold.below (h : Hold base u v n us) (hb : Below u.heap.size u u') : Hold base u' v n us := by
  obtain ⟨hl, Q, c, cs, e, h1, h2, h3, h4, h5⟩ := h
  exact ⟨hl, Q, c, cs, e, h1, h2, h3, h4.below hb, h5⟩
theorem Hold.grown {base' sz m : Nat} {e' : TypeId} {y : Value} {ys : List Value} (h : Hold base u v n us) (hy : u.ownsRow base' e' sz y m ys) (hne : 34 ≠ e') (hg : u.grownBy u' y.ownBlock) : Hold base u' v n us := by
  obtain ⟨hl, Q, c, cs, e, h1, h2, h3, h4, h5⟩ := h
  exact ⟨hl, Q, c, cs, e, h1, h2, h3, bk_grown_t h4 hy hne hg, h5⟩
theorem Hold.own (h : u.ownsRow base 34 3 v n (us.flatMap bkC)) (hn : 0 < n) : Hold base u v n us := by
  have hl := h.1
  rw [flat_length bkC 3 (fun _ => rfl)] at hl
  rcases h.2 with ⟨rfl, h0⟩ | ⟨g, cap, cur, rfl, hb, hg, hc, hm, hs, ht⟩
  · omega
  · refine ⟨by omega, g, cap, cur, rfl, hb, hc, hm, hg, fun j x hj => ?_⟩
    rw [← ht, List.getElem?_take] at hj
    split at hj
    · rw [← Array.getElem?_toList]; exact hj
    · cases hj
theorem Hold.mono {base' : Nat} (h : Hold base u v n us) (hb : base' ≤ base) : Hold base' u v n us := by
  obtain ⟨hl, Q, c, cs, e, h1, h2⟩ := h
  exact ⟨hl, Q, c, cs, e, by omega, h2⟩
/-- The cells of block i. -/
theorem Hold.cells (h : Hold base u v n us) {i : Nat} (hi : i < n) : ∃ Q c, v = .slice (some ⟨Q, 0, none⟩) n c ∧ base ≤ Q ∧ Q < u.heap.size ∧ u.cell? ⟨Q, i * 3, none⟩ = some (us.getD i bkz).1 ∧ u.cell? ⟨Q, i * 3 + 1, none⟩ = some (.int .i64 (us.getD i bkz).2.1) ∧ u.cell? ⟨Q, i * 3 + 2, none⟩ = some (us.getD i bkz).2.2 ∧ ∀ o, u.frozen? ⟨Q, o, none⟩ = false := by
  obtain ⟨hl, Q, c, cs, e, h1, h2, h3, h4, h5⟩ := h
  have hx : us[i]? = some (us.getD i bkz) := getD_some _ (by omega)
  have hc : ∀ k x, (bkC (us.getD i bkz))[k]? = some x → u.cell? ⟨Q, i * 3 + k, none⟩ = some x := fun k x hk => by
    rw [h4.cell]
    exact h5 _ _ (flat_cell bkC 3 (fun _ => rfl) us i k _ _ hx hk)
  exact ⟨Q, c, e, h1, h4.lt, hc 0 _ rfl, hc 1 _ rfl, hc 2 _ rfl, fun o => h4.frozen o⟩
theorem Hold.at {Q c n' i : Nat} (h : Hold base u (.slice (some ⟨Q, 0, none⟩) n' c) n us) (hi : i < n) : base ≤ Q ∧ Q < u.heap.size ∧ u.cell? ⟨Q, i * 3, none⟩ = some (us.getD i bkz).1 ∧ u.cell? ⟨Q, i * 3 + 1, none⟩ = some (.int .i64 (us.getD i bkz).2.1) ∧ u.cell? ⟨Q, i * 3 + 2, none⟩ = some (us.getD i bkz).2.2 ∧ ∀ o, u.frozen? ⟨Q, o, none⟩ = false := by
  obtain ⟨Q', c', e, h1, h2, h3⟩ := h.cells hi
  injection e with e _ _
  injection e with e
  injection e with e _ _
  subst e
  exact ⟨h1, h2, h3⟩
end
/-- The values of the lists of numbers. -/
def nxv (us : List (Value × Int × Value)) : List Value := us.map fun x => x.2.2
/-- A graph of the call's own, and the map beside it. -/
structure Gm (base : Nat) (g : Gr.G) (tos : List (List Int)) (vi va vb vp vh vt : Value) (us : List (Value × Int × Value)) (ps ts : List Value) (u : World) : Prop where
  ins : u.ownsRow base 57 3 vi g.ins.length (g.ins.flatMap inCells)
  ars : u.ownsRow base 30 2 va g.ars.length (g.ars.flatMap arCells)
  hds : u.ownsRow base 52 2 vh g.hds.length (g.hds.flatMap prCells)
  blk : Hold base u vb g.blks.length us
  cnd : ∀ i, i < g.blks.length → (us.getD i bkz).2.1 = (g.blks.getD i Gr.blk0).cond
  ops : ∀ i, i < g.blks.length → u.ownsRow base 27 5 (us.getD i bkz).1 (g.blks.getD i Gr.blk0).ops.length ((g.blks.getD i Gr.blk0).ops.flatMap opCells)
  oap : ∀ i j, i < g.blks.length → j < g.blks.length → i ≠ j → Ap (us.getD i bkz).1 (us.getD j bkz).1
  prow : u.ownsRow base 32 1 vp g.pts.length ps
  trow : u.ownsRow base 32 1 vt tos.length ts
  pl : ps.length = g.pts.length
  tl : ts.length = tos.length
  fam : Rws base u (nxv us ++ (ps ++ ts)) (g.blks.map (fun x => x.next) ++ (g.pts ++ tos))
section
variable {u u' : World} {base : Nat} {g : Gr.G} {tos : List (List Int)} {vi va vb vp vh vt : Value} {us : List (Value × Int × Value)} {ps ts : List Value}
theorem Gm.below (h : Gm base g tos vi va vb vp vh vt us ps ts u) (hb : Below u.heap.size u u') : Gm base g tos vi va vb vp vh vt us ps ts u' :=
  ⟨own_below h.ins hb, own_below h.ars hb, own_below h.hds hb, h.blk.below hb, h.cnd, fun i hi => own_below (h.ops i hi) hb, h.oap, own_below h.prow hb, own_below h.trow hb, h.pl, h.tl, h.fam.below hb⟩
theorem Hold.far {n : Nat} {v : Value} {us : List (Value × Int × Value)} (h : Hold base u v n us) {p : Addr} (hp : p.block < base) (z : Value) : Hold base (u.setCell p z) v n us := by
  obtain ⟨hl, Q, c, cs, e, h1, h2, h3, h4, h5⟩ := h
  exact ⟨hl, Q, c, cs, e, h1, h2, h3, h4.far (by omega) z, h5⟩
theorem Gm.far (h : Gm base g tos vi va vb vp vh vt us ps ts u) {p : Addr} (hp : p.block < base) (z : Value) : Gm base g tos vi va vb vp vh vt us ps ts (u.setCell p z) :=
  ⟨ownsRow_setCell_below h.ins hp z, ownsRow_setCell_below h.ars hp z, ownsRow_setCell_below h.hds hp z, h.blk.far hp z, h.cnd, fun i hi => ownsRow_setCell_below (h.ops i hi) hp z, h.oap, ownsRow_setCell_below h.prow hp z, ownsRow_setCell_below h.trow hp z, h.pl, h.tl, h.fam.far hp z⟩
theorem Gm.ul (h : Gm base g tos vi va vb vp vh vt us ps ts u) : us.length = g.blks.length := h.blk.1
theorem nxv_len (us : List (Value × Int × Value)) : (nxv us).length = us.length := by simp [nxv]
theorem nxv_at {i : Nat} (hi : i < us.length) : (nxv us).getD i nl = (us.getD i bkz).2.2 := by
  unfold nxv
  simp [List.getD, List.getElem?_eq_getElem hi]
theorem ap_left {α : Type} {l r : List α} {i : Nat} {d : α} (h : i < l.length) : (l ++ r).getD i d = l.getD i d := by
  simp [List.getD, List.getElem?_append_left h]
theorem ap_right {α : Type} {l r : List α} {i n : Nat} {d : α} (hl : l.length = n) : (l ++ r).getD (n + i) d = r.getD i d := by
  subst hl
  simp only [List.getD]
  rw [List.getElem?_append_right (by omega)]
  simp
/-- The row of a block's successors. -/
theorem Gm.nxt (h : Gm base g tos vi va vb vp vh vt us ps ts u) {i : Nat} (hi : i < g.blks.length) : u.ownsRow base 3 1 (us.getD i bkz).2.2 (g.blks.getD i Gr.blk0).next.length ((g.blks.getD i Gr.blk0).next.map (.int .i64)) := by
  have hl := h.ul
  have := h.fam.row i (by simp; omega)
  rw [ap_left (by rw [nxv_len]; omega), nxv_at (by omega), ap_left (by simpa using hi), Me.getD_map (d := Gr.blk0) _ hi] at this
  exact this
theorem Gm.pt (h : Gm base g tos vi va vb vp vh vt us ps ts u) {i : Nat} (hi : i < g.pts.length) : u.ownsRow base 3 1 (ps.getD i nl) (g.pts.getD i []).length ((g.pts.getD i []).map (.int .i64)) := by
  have hl := h.ul
  have hp := h.pl
  have := h.fam.row (g.blks.length + i) (by simp; omega)
  rw [ap_right (by rw [nxv_len]; omega), ap_right (by simp), ap_left (by omega), ap_left hi] at this
  exact this
theorem Gm.to (h : Gm base g tos vi va vb vp vh vt us ps ts u) {i : Nat} (hi : i < tos.length) : u.ownsRow base 3 1 (ts.getD i nl) (tos.getD i []).length ((tos.getD i []).map (.int .i64)) := by
  have hl := h.ul
  have hp := h.pl
  have h0 := h.fam.row (g.blks.length + (g.pts.length + i)) (by simp; omega)
  have e1 := ap_right (l := nxv us) (r := ps ++ ts) (i := g.pts.length + i) (d := nl) (show (nxv us).length = g.blks.length by rw [nxv_len]; omega)
  have e2 := ap_right (l := ps) (r := ts) (i := i) (d := nl) hp
  have e3 := ap_right (l := g.blks.map fun x => x.next) (r := g.pts ++ tos) (i := g.pts.length + i) (d := ([] : List Int)) (show (g.blks.map fun x => x.next).length = g.blks.length by simp)
  have e4 := ap_right (l := g.pts) (r := tos) (i := i) (d := ([] : List Int)) rfl
  rw [e1, e2, e3, e4] at h0
  exact h0
theorem own_sl {e : TypeId} {sz n : Nat} {v : Value} {xs : List Value} (h : u.ownsRow base e sz v n xs) : v = .slice (slA' v) n (slC' v) := row_eta' (RowIn.own h)
theorem rows_lsts {v : Value} {ps : List Value} {l : List (List Int)} (h : u.ownsRow base 32 1 v l.length ps) (hr : ∀ i, i < l.length → u.ownsRow base 3 1 (ps.getD i nl) (l.getD i []).length ((l.getD i []).map (.int .i64))) : LstsIn u v l := by
  have hl := h.1
  rcases h.2 with ⟨rfl, h0⟩ | ⟨g, cap, cur, rfl, hB, hg, hcap, _⟩
  · exact ⟨none, 0, by rw [h0], fun i hi => by omega⟩
  · refine ⟨_, cap, rfl, fun i hi => ?_⟩
    obtain ⟨h1, -, h3, -⟩ := own_cell nl h hi
    exact ⟨g, 0, ps.getD i nl, rfl, h3, by rw [Nat.zero_add]; exact h1, RowIn.own (hr i hi)⟩
/-- As a graph is read. -/
theorem Gm.gr (h : Gm base g tos vi va vb vp vh vt us ps ts u) : GrIn u g vi va vb vp vh := by
  refine ⟨RowIn.own h.ins, RowIn.own h.ars, ?_, rows_lsts h.prow (fun i hi => h.pt hi), RowIn.own h.hds⟩
  obtain ⟨hl, Q, c, cs, e, -⟩ := id h.blk
  refine ⟨some ⟨Q, 0, none⟩, c, fun i => slA' (us.getD i bkz).1, fun i => slA' (us.getD i bkz).2.2, fun i => slC' (us.getD i bkz).1, fun i => slC' (us.getD i bkz).2.2, e, fun i hi => ?_⟩
  obtain ⟨Q', c', e', hb, hlt, h0, h1, h2, -⟩ := h.blk.cells hi
  rw [e] at e'
  injection e' with e' _ _
  injection e' with e'
  injection e' with e' _ _
  subst e'
  have ho := RowIn.own (h.ops i hi)
  have hn := RowIn.own (h.nxt hi)
  refine ⟨Q, 0, rfl, hlt, ?_, ?_, ?_, ?_, ?_⟩
  · rw [Nat.zero_add, h0, ← row_eta' ho]
  · rw [Nat.zero_add, h1, h.cnd i hi]
  · rw [Nat.zero_add, h2, ← row_eta' hn]
  · rw [← row_eta' ho]; exact ho
  · rw [← row_eta' hn]; exact hn
theorem Gm.tos_in (h : Gm base g tos vi va vb vp vh vt us ps ts u) : LstsIn u vt tos := rows_lsts h.trow (fun i hi => h.to hi)
end
end Go.Proofs.Ytojnhdkclabkgaa
namespace Go.Proofs.Ytojnhdkclabkgaa
open Go.RowKit
set_option linter.unusedVariables false
set_option linter.unusedSimpArgs false
/-- Of what was there below a base, and of boxes of graphs, nothing has turned. -/
def Chg (base : Nat) (w w' : World) : Prop := Below base w w' ∧ ∀ k cs, Bk w k 40 cs → Bk w' k 40 cs
section
variable {base : Nat} {w u v : World}
theorem Chg.refl (base : Nat) (w : World) : Chg base w w := ⟨Below.refl _ _, fun _ _ h => h⟩
theorem Chg.trans (h : Chg base w u) (k : Chg base u v) : Chg base w v := ⟨h.1.trans k.1, fun i cs hb => k.2 i cs (h.2 i cs hb)⟩
theorem Chg.below (hb : Below w.heap.size w u) (hs : base ≤ w.heap.size) : Chg base w u := ⟨hb.mono hs, fun _ _ h => h.below hb⟩
theorem Chg.grown {base' sz n : Nat} {e : TypeId} {y : Value} {ys : List Value} (hy : w.ownsRow base' e sz y n ys) (h0 : base ≤ base') (hs : base ≤ w.heap.size) (hne : 40 ≠ e) (hg : w.grownBy u y.ownBlock) : Chg base w u :=
  ⟨(Below.refl _ _).grown hg hs (fun k hk => by have := (hy.lt k hk).1; omega), fun k cs hb => bk_grown_t hb hy hne hg⟩
theorem Chg.set {g i : Nat} {t : TypeId} {cs : Array Value} {x : Value} (hb : Bk w g t cs) (h0 : base ≤ g) (hne : 40 ≠ t) : Chg base w (w.setCell ⟨g, i, none⟩ x) :=
  ⟨(Below.refl _ _).setCell h0 x, fun k cs' hk => by
    by_cases e : k = g
    · subst e
      unfold Bk at hb hk
      rw [hb] at hk
      injection hk with hk
      injection hk with _ hk _
      exact absurd hk.symm hne
    · exact hk.far e x⟩
end
theorem flat_set0 : ∀ (us : List (Value × Int × Value)) (i : Nat) (x : Value), i < us.length → (us.set i (x, (us.getD i bkz).2)).flatMap bkC = (us.flatMap bkC).set (i * 3) x
  | [], i, x, h => by simp at h
  | u :: us, 0, x, h => by simp [bkC]
  | u :: us, i + 1, x, h => by
    have := flat_set0 us i x (by simpa using h)
    rw [List.set_cons_succ, List.flatMap_cons, List.flatMap_cons, List.getD_cons_succ, this]
    rw [show (i + 1) * 3 = (bkC u).length + i * 3 by simp [bkC]; omega, List.set_append_right _ _ (by omega)]
    simp
theorem flat_set1 : ∀ (us : List (Value × Int × Value)) (i : Nat) (x : Int), i < us.length → (us.set i ((us.getD i bkz).1, x, (us.getD i bkz).2.2)).flatMap bkC = (us.flatMap bkC).set (i * 3 + 1) (.int .i64 x)
  | [], i, x, h => by simp at h
  | u :: us, 0, x, h => by simp [bkC]
  | u :: us, i + 1, x, h => by
    have := flat_set1 us i x (by simpa using h)
    rw [List.set_cons_succ, List.flatMap_cons, List.flatMap_cons, List.getD_cons_succ, this]
    rw [show (i + 1) * 3 + 1 = (bkC u).length + (i * 3 + 1) by simp [bkC]; omega, List.set_append_right _ _ (by omega)]
    simp
theorem flat_set2 : ∀ (us : List (Value × Int × Value)) (i : Nat) (x : Value), i < us.length → (us.set i ((us.getD i bkz).1, (us.getD i bkz).2.1, x)).flatMap bkC = (us.flatMap bkC).set (i * 3 + 2) x
  | [], i, x, h => by simp at h
  | u :: us, 0, x, h => by simp [bkC]
  | u :: us, i + 1, x, h => by
    have := flat_set2 us i x (by simpa using h)
    rw [List.set_cons_succ, List.flatMap_cons, List.flatMap_cons, List.getD_cons_succ, this]
    rw [show (i + 1) * 3 + 2 = (bkC u).length + (i * 3 + 2) by simp [bkC]; omega, List.set_append_right _ _ (by omega)]
    simp
/-- A cell of the row of blocks changes. -/
theorem Hold.put {base n Q n' c k : Nat} {u : World} {us us' : List (Value × Int × Value)} {x : Value} (h : Hold base u (.slice (some ⟨Q, 0, none⟩) n' c) n us) (hl : us'.length = us.length) (hf : us'.flatMap bkC = (us.flatMap bkC).set k x) : Hold base (u.setCell ⟨Q, k, none⟩ x) (.slice (some ⟨Q, 0, none⟩) n' c) n us' := by
  obtain ⟨h0, Q', c', cs, e, h1, h2, h3, h4, h5⟩ := h
  injection e with e e2 e3
  injection e with e
  injection e with e _ _
  subst e e2 e3
  refine ⟨by omega, Q, c, _, rfl, h1, h2, h3, h4.set k x, fun j y hj => ?_⟩
  rw [hf, List.getElem?_set] at hj
  rw [Array.getElem?_setIfInBounds]
  by_cases e : k = j
  · subst e
    rw [if_pos rfl] at hj ⊢
    split at hj
    · rename_i hk
      have := h5 k _ (List.getElem?_eq_getElem hk)
      have hlt : k < cs.size := (Array.getElem?_eq_some_iff.1 this).1
      rw [if_pos hlt]; exact hj
    · cases hj
  · rw [if_neg e] at hj ⊢
    exact h5 j y hj
theorem Hold.bk {base n Q n' c : Nat} {u : World} {us : List (Value × Int × Value)} (h : Hold base u (.slice (some ⟨Q, 0, none⟩) n' c) n us) : base ≤ Q ∧ ∃ cs, Bk u Q 34 cs := by
  obtain ⟨_, Q', c', cs, e, h1, h2, h3, h4, h5⟩ := h
  injection e with e _ _
  injection e with e
  injection e with e _ _
  subst e
  exact ⟨h1, cs, h4⟩
theorem Hold.cap {base n n' c : Nat} {A : Option Addr} {u : World} {us : List (Value × Int × Value)} (h : Hold base u (.slice A n' c) n us) : n ≤ c ∧ c ≤ maxLen := by
  obtain ⟨_, Q', c', cs, e, h1, h2, h3, h4, h5⟩ := h
  injection e with _ _ e
  subst e
  exact ⟨h2, h3⟩
theorem Hold.cut {base n Q n' c k : Nat} {u : World} {us : List (Value × Int × Value)} (h : Hold base u (.slice (some ⟨Q, 0, none⟩) n' c) n us) (hk : k ≤ n) :
    (∀ (j : Nat) (x : Value), ((us.take k).flatMap bkC)[j]? = some x → u.cell? ⟨Q, j, none⟩ = some x) ∧ (∀ (j : Nat) (x : Value), ((us.drop k).flatMap bkC)[j]? = some x → u.cell? ⟨Q, k * 3 + j, none⟩ = some x) := by
  obtain ⟨hl, Q', c', cs, e, h1, h2, h3, h4, h5⟩ := h
  injection e with e _ _
  injection e with e
  injection e with e _ _
  subst e
  have e : us.flatMap bkC = (us.take k).flatMap bkC ++ (us.drop k).flatMap bkC := by rw [← List.flatMap_append, List.take_append_drop]
  have hlen : ((us.take k).flatMap bkC).length = k * 3 := by rw [flat_length bkC 3 (fun _ => rfl), List.length_take]; omega
  refine ⟨fun j x hj => ?_, fun j x hj => ?_⟩
  · rw [h4.cell]
    have hlt := (List.getElem?_eq_some_iff.1 hj).1
    exact h5 j x (by rw [e, List.getElem?_append_left hlt]; exact hj)
  · rw [h4.cell]
    exact h5 (k * 3 + j) x (by rw [e, List.getElem?_append_right (by omega), hlen, Nat.add_sub_cancel_left]; exact hj)
/-- Its beginning. -/
theorem Hold.short {base n Q n' c k : Nat} {u : World} {us : List (Value × Int × Value)} (h : Hold base u (.slice (some ⟨Q, 0, none⟩) n' c) n us) (hk : k ≤ n) : Hold base u (.slice (some ⟨Q, 0, none⟩) k k) k (us.take k) := by
  have hc := (h.cut hk).1
  obtain ⟨hl, Q', c', cs, e, h1, h2, h3, h4, h5⟩ := h
  injection e with e _ _
  injection e with e
  injection e with e _ _
  subst e
  refine ⟨by rw [List.length_take]; omega, Q, k, cs, rfl, h1, Nat.le_refl _, by omega, h4, fun j x hj => ?_⟩
  rw [← h4.cell]
  exact hc j x hj
/-- In the midst of a join: block a's operations are vA, the row of blocks has the cells us'. -/
structure Gj (base : Nat) (g : Gr.G) (tos : List (List Int)) (vi va vb vp vh vt : Value) (us us' : List (Value × Int × Value)) (ps ts : List Value) (a b : Nat) (vA : Value) (u : World) : Prop where
  ins : u.ownsRow base 57 3 vi g.ins.length (g.ins.flatMap inCells)
  ars : u.ownsRow base 30 2 va g.ars.length (g.ars.flatMap arCells)
  hds : u.ownsRow base 52 2 vh g.hds.length (g.hds.flatMap prCells)
  blk : Hold base u vb g.blks.length us'
  ops : ∀ i, i < g.blks.length → i ≠ a → u.ownsRow base 27 5 (us.getD i bkz).1 (g.blks.getD i Gr.blk0).ops.length ((g.blks.getD i Gr.blk0).ops.flatMap opCells)
  oa : u.ownsRow base 27 5 vA (Me.jn g.blks a b).ops.length ((Me.jn g.blks a b).ops.flatMap opCells)
  oap : ∀ i j, i < g.blks.length → j < g.blks.length → i ≠ a → j ≠ a → i ≠ j → Ap (us.getD i bkz).1 (us.getD j bkz).1
  oaa : ∀ i, i < g.blks.length → i ≠ a → Ap vA (us.getD i bkz).1
  prow : u.ownsRow base 32 1 vp g.pts.length ps
  trow : u.ownsRow base 32 1 vt tos.length ts
  pl : ps.length = g.pts.length
  tl : ts.length = tos.length
  fam : Rws base u (nxv us ++ (ps ++ ts)) (g.blks.map (fun x => x.next) ++ (g.pts ++ tos))
section
variable {u u' : World} {base : Nat} {g : Gr.G} {tos : List (List Int)} {vi va vb vp vh vt vA : Value} {us us' us2 : List (Value × Int × Value)} {ps ts : List Value} {a b : Nat}
theorem Gj.below (h : Gj base g tos vi va vb vp vh vt us us' ps ts a b vA u) (hb : Below u.heap.size u u') : Gj base g tos vi va vb vp vh vt us us' ps ts a b vA u' :=
  ⟨own_below h.ins hb, own_below h.ars hb, own_below h.hds hb, h.blk.below hb, fun i hi hne => own_below (h.ops i hi hne) hb, own_below h.oa hb, h.oap, h.oaa, own_below h.prow hb, own_below h.trow hb, h.pl, h.tl, h.fam.below hb⟩
/-- Operations have been appended. -/
theorem Gj.start (h : Gm base g tos vi va vb vp vh vt us ps ts u) (ha : a < g.blks.length) (hg : u.grownBy u' (us.getD a bkz).1.ownBlock)
    (hown : u'.ownsRow base 27 5 vA (Me.jn g.blks a b).ops.length ((Me.jn g.blks a b).ops.flatMap opCells)) (hv : vA.ownBlock = (us.getD a bkz).1.ownBlock ∨ vA.ownBlock = some u.heap.size) : Gj base g tos vi va vb vp vh vt us us ps ts a b vA u' := by
  have hr := h.ops a ha
  exact ⟨own_grown_t h.ins hr (by decide) hg, own_grown_t h.ars hr (by decide) hg, own_grown_t h.hds hr (by decide) hg, h.blk.grown hr (by decide) hg, fun i hi hne => own_ap (h.ops i hi) hg (h.oap i a hi ha hne), hown,
    fun i j hi hj _ _ hne => h.oap i j hi hj hne, fun i hi hne => ap_new hv (h.oap a i ha hi (fun e => hne e.symm)) (fun k hk => own_block_lt (h.ops i hi) hk), own_grown_t h.prow hr (by decide) hg, own_grown_t h.trow hr (by decide) hg, h.pl, h.tl, h.fam.other hr (by decide) hg⟩
/-- A cell of the row of blocks changes. -/
theorem Gj.put {Q n' c k : Nat} {x : Value} (h : Gj base g tos vi va (.slice (some ⟨Q, 0, none⟩) n' c) vp vh vt us us' ps ts a b vA u) (hl : us2.length = us'.length) (hf : us2.flatMap bkC = (us'.flatMap bkC).set k x) :
    Gj base g tos vi va (.slice (some ⟨Q, 0, none⟩) n' c) vp vh vt us us2 ps ts a b vA (u.setCell ⟨Q, k, none⟩ x) := by
  obtain ⟨_, Q', c', cs, e, h1, h2, h3, h4, h5⟩ := id h.blk
  injection e with e _ _
  injection e with e
  injection e with e _ _
  subst e
  exact ⟨own_store_b h.ins h4 (by decide), own_store_b h.ars h4 (by decide), own_store_b h.hds h4 (by decide), h.blk.put hl hf, fun i hi hne => own_store_b (h.ops i hi hne) h4 (by decide), own_store_b h.oa h4 (by decide), h.oap, h.oaa, own_store_b h.prow h4 (by decide), own_store_b h.trow h4 (by decide), h.pl, h.tl, h.fam.box h4 (by decide) x⟩
/-- Which row of the old ones each row of the new ones is. -/
theorem Rws.sel {us vs : List Value} {ts qs : List (List Int)} (h : Rws base u us ts) (f : Nat → Nat) (hl : vs.length = qs.length) (hf : ∀ i, i < qs.length → f i < ts.length ∧ vs.getD i nl = us.getD (f i) nl ∧ qs.getD i [] = ts.getD (f i) []) (hinj : ∀ i j, i < qs.length → j < qs.length → f i = f j → i = j) : Rws base u vs qs := by
  refine ⟨hl, fun i hi => ?_, fun i j hi hj hne => ?_⟩
  · obtain ⟨h1, h2, h3⟩ := hf i hi
    rw [h2, h3]
    exact h.row _ h1
  · obtain ⟨h1, h2, _⟩ := hf i hi
    obtain ⟨k1, k2, _⟩ := hf j hj
    rw [h2, k2]
    exact h.ap _ _ h1 k1 (fun e => hne (hinj i j hi hj e))
end
/-- Where element i of a list without element b stood. -/
def sk (b i : Nat) : Nat := if i < b then i else i + 1
theorem sk_ne (b i : Nat) : sk b i ≠ b := by unfold sk; split <;> omega
theorem sk_lt {b i n : Nat} (h : i < n - 1) : sk b i < n := by unfold sk; split <;> omega
theorem sk_inj {b i j : Nat} (h : sk b i = sk b j) : i = j := by unfold sk at h; split at h <;> split at h <;> omega
theorem er_at {α : Type} {l : List α} {b i n : Nat} {d : α} (hl : l.length = n) (hb : b < n) (hi : i < n - 1) : (l.eraseIdx b).getD i d = l.getD (sk b i) d := by
  rw [Me.getD_erase (by omega) (by omega)]
  unfold sk
  split <;> rfl
section
variable {u : World} {base : Nat} {g : Gr.G} {tos : List (List Int)} {vi va vb vb2 vp vh vt vA : Value} {us us' : List (Value × Int × Value)} {ps ts : List Value} {a b : Nat}
theorem Gj.fin (h : Gj base g tos vi va vb vp vh vt us us' ps ts a b vA u) (ht : Me.Tk g a b) (he : us' = us.set a (vA, (us.getD b bkz).2)) (hc : ∀ i, i < g.blks.length → (us.getD i bkz).2.1 = (g.blks.getD i Gr.blk0).cond) (hul : us.length = g.blks.length) (hh : Hold base u vb2 (g.blks.length - 1) (us'.eraseIdx b)) :
    Gm base { g with blks := Me.jb g.blks a b } tos vi va vb2 vp vh vt (us'.eraseIdx b) ps ts u := by
  have hla := ht.la
  have hlb := ht.lb
  have hne := ht.ne
  have hul' : us'.length = g.blks.length := by rw [he, List.length_set]; exact hul
  have hjl := Me.jb_len (a := a) hlb
  have hu : ∀ i, i < g.blks.length - 1 → (us'.eraseIdx b).getD i bkz = if sk b i = a then (vA, (us.getD b bkz).2) else us.getD (sk b i) bkz := fun i hi => by
    rw [er_at hul' hlb hi, he, Me.getD_set (by rw [hul]; exact sk_lt hi)]
  have hj : ∀ i, i < g.blks.length - 1 → (Me.jb g.blks a b).getD i Gr.blk0 = if sk b i = a then Me.jn g.blks a b else g.blks.getD (sk b i) Gr.blk0 := fun i hi => by
    unfold Me.jb
    rw [er_at (by rw [List.length_set]) hlb hi, Me.getD_set (sk_lt hi)]
  refine ⟨h.ins, h.ars, h.hds, ?_, fun i hi => ?_, fun i hi => ?_, fun i j hi hj2 hij => ?_, h.prow, h.trow, h.pl, h.tl, ?_⟩
  · show Hold base u vb2 (Me.jb g.blks a b).length _
    rw [hjl]; exact hh
  · have hi' : i < g.blks.length - 1 := by rw [← hjl]; exact hi
    show ((us'.eraseIdx b).getD i bkz).2.1 = ((Me.jb g.blks a b).getD i Gr.blk0).cond
    rw [hu i hi', hj i hi']
    split
    · exact hc b hlb
    · exact hc _ (sk_lt hi')
  · have hi' : i < g.blks.length - 1 := by rw [← hjl]; exact hi
    show u.ownsRow base _ 5 ((us'.eraseIdx b).getD i bkz).1 ((Me.jb g.blks a b).getD i Gr.blk0).ops.length (((Me.jb g.blks a b).getD i Gr.blk0).ops.flatMap opCells)
    rw [hu i hi', hj i hi']
    split
    · exact h.oa
    · rename_i e; exact h.ops _ (sk_lt hi') e
  · have hi' : i < g.blks.length - 1 := by rw [← hjl]; exact hi
    have hj' : j < g.blks.length - 1 := by rw [← hjl]; exact hj2
    have hs : sk b i ≠ sk b j := fun e => hij (sk_inj e)
    rw [hu i hi', hu j hj']
    by_cases e1 : sk b i = a
    · rw [if_pos e1, if_neg (fun e => hs (e1.trans e.symm))]
      exact h.oaa _ (sk_lt hj') (fun e => hs (e1.trans e.symm))
    · rw [if_neg e1]
      by_cases e2 : sk b j = a
      · rw [if_pos e2]; exact (h.oaa _ (sk_lt hi') e1).symm
      · rw [if_neg e2]; exact h.oap _ _ (sk_lt hi') (sk_lt hj') e1 e2 hs
  · have hnl : (nxv (us'.eraseIdx b)).length = g.blks.length - 1 := by rw [nxv_len, List.length_eraseIdx, if_pos (by omega)]; omega
    have hml : ((Me.jb g.blks a b).map fun x => x.next).length = g.blks.length - 1 := by rw [List.length_map, hjl]
    have hpl := h.pl
    have htl := h.tl
    have hnl0 : (nxv us).length = g.blks.length := by rw [nxv_len]; exact hul
    have hml0 : (g.blks.map fun x => x.next).length = g.blks.length := by rw [List.length_map]
    show Rws base u (nxv (us'.eraseIdx b) ++ (ps ++ ts)) ((Me.jb g.blks a b).map (fun x => x.next) ++ (g.pts ++ tos))
    refine h.fam.sel (fun i => if i < g.blks.length - 1 then (if sk b i = a then b else sk b i) else i + 1) (by simp only [List.length_append]; omega) (fun i hi => ?_) (fun i j hi hj2 e => ?_)
    · simp only [List.length_append] at hi ⊢
      by_cases hi' : i < g.blks.length - 1
      · rw [if_pos hi', ap_left (by omega), ap_left (l := (Me.jb g.blks a b).map fun x => x.next) (by omega), nxv_at (by rw [List.length_eraseIdx, if_pos (by omega)]; omega), Me.getD_map (d := Gr.blk0) _ (by omega), hu i hi', hj i hi']
        have := sk_lt (b := b) hi'
        by_cases e1 : sk b i = a
        · rw [if_pos e1, if_pos e1, if_pos e1, ap_left (by omega), ap_left (l := g.blks.map fun x => x.next) (by omega), nxv_at (by omega), Me.getD_map (d := Gr.blk0) _ hlb]
          exact ⟨by omega, rfl, rfl⟩
        · rw [if_neg e1, if_neg e1, if_neg e1, ap_left (by omega), ap_left (l := g.blks.map fun x => x.next) (by omega), nxv_at (by omega), Me.getD_map (d := Gr.blk0) _ this]
          exact ⟨by omega, rfl, rfl⟩
      · rw [if_neg hi']
        obtain ⟨k, rfl⟩ : ∃ k, i = (g.blks.length - 1) + k := ⟨i - (g.blks.length - 1), by omega⟩
        have e2 : (g.blks.length - 1) + k + 1 = g.blks.length + k := by omega
        rw [e2, ap_right hnl, ap_right hml, ap_right hnl0, ap_right hml0]
        exact ⟨by omega, rfl, rfl⟩
    · have hsk : ∀ k, k < g.blks.length - 1 → sk b k < g.blks.length ∧ sk b k ≠ b := fun k hk => ⟨sk_lt hk, sk_ne b k⟩
      by_cases hi' : i < g.blks.length - 1 <;> by_cases hj' : j < g.blks.length - 1
      · rw [if_pos hi', if_pos hj'] at e
        have h1 := hsk i hi'
        have h2 := hsk j hj'
        apply sk_inj (b := b)
        split at e <;> split at e <;> omega
      · rw [if_pos hi', if_neg hj'] at e
        have h1 := hsk i hi'
        split at e <;> omega
      · rw [if_neg hi', if_pos hj'] at e
        have h1 := hsk j hj'
        split at e <;> omega
      · rw [if_neg hi', if_neg hj'] at e
        omega
end
end Go.Proofs.Ytojnhdkclabkgaa
namespace Go.Proofs.Ytojnhdkclabkgaa
open Go.RowKit
set_option linter.unusedVariables false
set_option linter.unusedSimpArgs false
attribute [local go_sem] y_undef
/-- A builtin whose run is known, at a step of a region that draws its order. -/
theorem step_run {P : Program} {w w' : World} {ops : Array Oper} {o : Oper} {a : Act} {K : Act → World → Prop} {Q : Exit → Act → World → Prop} {E : Prop} (hgd : o.guard = none) (s x : Operand) (t : TypeId)
    (ho : o.op = .call { callee := .builtin .append, args := #[s, x], argTypes := #[t, t] }) {v vx v' : Value} (hs : a.eval s = v) (hx : a.eval x = vx) (hrun : ∀ ty, (Builtin.append_ #[t, t] ty #[v, vx]).run P w = .ok v' w') (h : K (a.put o.dst v') w') :
    if Region.wanted o (yielded ops a.tmps) = true then Oper.wp P o a w K Q else E := by
  have hw : Region.wanted o (yielded ops a.tmps) = true := by simp [Region.wanted, hgd]
  rw [if_pos hw]
  unfold Oper.wp
  simp [execOp, ho, resolve, invoke, builtin, hs, hx, hrun, Result.andThen]
  exact h
theorem set3 (us : List (Value × Int × Value)) (a : Nat) (vA vC : Value) (z : Int) (ha : a < us.length) :
    (((us.set a (vA, (us.getD a bkz).2)).set a (((us.set a (vA, (us.getD a bkz).2)).getD a bkz).1, z, ((us.set a (vA, (us.getD a bkz).2)).getD a bkz).2.2)).set a ((((us.set a (vA, (us.getD a bkz).2)).set a (((us.set a (vA, (us.getD a bkz).2)).getD a bkz).1, z, ((us.set a (vA, (us.getD a bkz).2)).getD a bkz).2.2)).getD a bkz).1, (((us.set a (vA, (us.getD a bkz).2)).set a (((us.set a (vA, (us.getD a bkz).2)).getD a bkz).1, z, ((us.set a (vA, (us.getD a bkz).2)).getD a bkz).2.2)).getD a bkz).2.1, vC)) = us.set a (vA, z, vC) := by
  have e1 : (us.set a (vA, (us.getD a bkz).2)).getD a bkz = (vA, (us.getD a bkz).2) := by rw [Me.getD_set ha, if_pos rfl]
  rw [e1]
  have e2 : ((us.set a (vA, (us.getD a bkz).2)).set a (vA, z, (us.getD a bkz).2.2)).getD a bkz = (vA, z, (us.getD a bkz).2.2) := by rw [Me.getD_set (by rw [List.length_set]; exact ha), if_pos rfl]
  show ((us.set a (vA, (us.getD a bkz).2)).set a (vA, z, (us.getD a bkz).2.2)).set a ((((us.set a (vA, (us.getD a bkz).2)).set a (vA, z, (us.getD a bkz).2.2)).getD a bkz).1, (((us.set a (vA, (us.getD a bkz).2)).set a (vA, z, (us.getD a bkz).2.2)).getD a bkz).2.1, vC) = _
  rw [e2, List.set_set, List.set_set]
theorem run_append_0 {P : Program} (w : World) (t ty e : TypeId) (i : TypeInfo) (ht : P.underlying t = some (.slice e)) (hi : P.info? e = some i) (base ao : Option Addr) (sLen sCap c : Nat) (hle : sLen ≤ sCap) :
    (Builtin.append_ #[t, t] ty #[.slice base sLen sCap, .slice ao 0 c]).run P w = .ok (.slice base sLen sCap) w := by
  have h0 : (Builtin.firstCells i.size 0 (.slice ao 0 c)).run P w = .ok ([] : List Value).toArray w := by
    cases ao with
    | none => exact run_firstCells_none w i.size 0 0 c
    | some a => exact run_firstCells_some (P := P) w i.size 0 a 0 c [] (by simp) (by intro j u hj; simp at hj)
  cases base <;> simp [Builtin.append_, run_underlying ht, sizeOf, typeInfo, hi, Builtin.lenOf, hle, h0, storeCells]
/-- What join answers. -/
def JoinPost (base : Nat) (g : Gr.G) (tos : List (List Int)) (vi va vp vh vt : Value) (ps ts : List Value) (a b : Nat) (w : World) (e : Ending) (w' : World) : Prop :=
  ∃ vb2 us2, e = .returned vb2 ∧ Gm base { g with blks := Me.jb g.blks a b } tos vi va vb2 vp vh vt us2 ps ts w' ∧ Chg base w w'
theorem one_bkJ {l : List (Value × Int × Value)} (h : ∀ x ∈ l, x.1.oneCell' = true ∧ x.2.2.oneCell' = true) : ∀ u ∈ l.flatMap bkC, u.oneCell' = true := by
  intro u hu
  obtain ⟨t, hm, ht⟩ := List.mem_flatMap.1 hu
  simp [bkC] at ht
  rcases ht with rfl | rfl | rfl
  · exact (h t hm).1
  · rfl
  · exact (h t hm).2
theorem one_opJ {l : List Gr.Op} : ∀ u ∈ l.flatMap opCells, u.oneCell' = true := by
  intro u hu
  obtain ⟨t, _, ht⟩ := List.mem_flatMap.1 hu
  simp [opCells] at ht
  rcases ht with rfl | rfl | rfl | rfl | rfl <;> rfl
/-- append of any row onto a row of the call's own, at a step of a region that draws its order. -/
theorem step_append_row {P : Program} {w : World} {ops : Array Oper} {o : Oper} {a : Act} {K : Act → World → Prop} {Q : Exit → Act → World → Prop} {E : Prop} (hgd : o.guard = none) (s x : Operand) (t : TypeId)
    (ho : o.op = .call { callee := .builtin .append, args := #[s, x], argTypes := #[t, t] })
    (base : Nat) (e : TypeId) (i : TypeInfo) (z : Value) (size bytes : Nat) (ht : P.underlying t = some (.slice e)) (hi : P.info? e = some i) (hz : i.zero = some z)
    (hsize : i.size = size) (hby : i.bytes = bytes) (hzs : z.cells.size = size) (hsz : 0 < size)
    (v : Value) (n : Nat) (xs : List Value) (hs : a.eval s = v) (hown : w.ownsRow base e size v n xs)
    (vx : Value) (m : Nat) (news : List Value) (hx : a.eval x = vx) (hr : RowIn size w vx m news) (h1 : ∀ u ∈ news, u.oneCell' = true)
    (h63 : n + m ≤ maxLen) (hbytes : (n + m) * bytes ≤ 140737488355328) (hbase : base ≤ w.heap.size)
    (h : ∀ v' w', w'.ownsRow base e size v' (n + m) (xs ++ news) → w.grownBy w' v.ownBlock → (v'.ownBlock = v.ownBlock ∨ v'.ownBlock = some w.heap.size) → K (a.put o.dst v') w') :
    if Region.wanted o (yielded ops a.tmps) = true then Oper.wp P o a w K Q else E := by
  have hw : Region.wanted o (yielded ops a.tmps) = true := by simp [Region.wanted, hgd]
  rw [if_pos hw]
  have hrun : ∃ v' w', (Builtin.append_ #[t, t] o.type #[v, vx]).run P w = .ok v' w' ∧ w'.ownsRow base e size v' (n + m) (xs ++ news) ∧ w.grownBy w' v.ownBlock ∧ (v'.ownBlock = v.ownBlock ∨ v'.ownBlock = some w.heap.size) := by
    obtain ⟨A, c, rfl, hl, hcs⟩ := hr
    cases A with
    | none =>
      have h0 : m = 0 := by
        rcases hcs with h | ⟨b, off, e, _⟩
        · exact h
        · exact absurd e (by simp)
      subst h0
      have hn : news = [] := List.eq_nil_of_length_eq_zero (by rw [hl, Nat.zero_mul])
      subst hn
      exact ⟨v, w, run_append_none_c (P := P) (w := w) base t o.type e i size c ht hi v n xs hown, by simpa using hown, World.grownBy.refl w _, .inl rfl⟩
    | some ad =>
      obtain ⟨v', w', h2, h3, h4, h5, h6⟩ := run_append_own_at (P := P) (w := w) base t o.type e i z size bytes ht hi hz hsize hby hzs hsz v n xs hown ad m c news hl (fun j u hj => by
        rcases hcs with h0 | ⟨b, off, e, hlt, hc⟩
        · subst h0
          have hn : news = [] := List.eq_nil_of_length_eq_zero (by rw [hl, Nat.zero_mul])
          subst hn
          simp at hj
        · injection e with e
          subst e
          have := hc j u hj
          rw [show (⟨b, off, none⟩ : Addr).add j = ⟨b, off + j, none⟩ from by unfold Addr.add; split <;> simp_all]
          exact this) h1 h63 hbytes hbase
      exact ⟨v', w', h2, h3, h4, h6⟩
  obtain ⟨v', w', hrun, h2, h3, h4⟩ := hrun
  unfold Oper.wp
  simp [execOp, ho, resolve, invoke, builtin, hs, hx, hrun, Result.andThen]
  exact h _ _ h2 h3 h4
set_option maxHeartbeats 1000000 in
set_option maxRecDepth 100000 in
theorem join_any (base : Nat) (g : Gr.G) (tos : List (List Int)) (vi va vb vp vh vt : Value) (us : List (Value × Int × Value)) (ps ts : List Value) (a b : Nat) (w : World) (h : Gm base g tos vi va vb vp vh vt us ps ts w) (hI : Me.Iv g) (ht : Me.Tk g a b) :
    Calls Try.prog 66 #[vb, .int .i64 (a : Int), .int .i64 (b : Int)] w (JoinPost base g tos vi va vp vh vt ps ts a b w) := by
  obtain ⟨Q, c, rfl, hQb, hQl, a0, a1, a2, hfz⟩ := h.blk.cells ht.la
  have hnc := h.blk.cap
  obtain ⟨Q', c', e', -, -, b0, b1, b2, -⟩ := h.blk.cells ht.lb
  injection e' with e' e2 e3
  injection e' with e'
  injection e' with e' _ _
  subst e' e3
  clear e2
  have hla := ht.la
  have hlb := ht.lb
  have hn := hI.hi
  have ea := own_sl (h.ops a ht.la)
  have eb := own_sl (h.ops b ht.lb)
  have en := own_sl (h.nxt ht.lb)
  rw [ea] at a0
  rw [eb] at b0
  rw [en] at b2
  have HH := Lib.hid h
  generalize slA' (us.getD a bkz).1 = Aa at *
  generalize slC' (us.getD a bkz).1 = Ca at *
  generalize slA' (us.getD b bkz).1 = Ab at *
  generalize slC' (us.getD b bkz).1 = Cb at *
  generalize slA' (us.getD b bkz).2.2 = An at *
  generalize slC' (us.getD b bkz).2.2 = Cn at *
  obtain ⟨cb, hcb⟩ : ∃ z, (us.getD b bkz).2.1 = z := ⟨_, rfl⟩
  rw [hcb] at b1
  generalize (us.getD a bkz).2.1 = ca at *
  obtain ⟨na, hna⟩ : ∃ n, (g.blks.getD a Gr.blk0).ops.length = n := ⟨_, rfl⟩
  obtain ⟨nb, hnb⟩ : ∃ n, (g.blks.getD b Gr.blk0).ops.length = n := ⟨_, rfl⟩
  obtain ⟨nn, hnn⟩ : ∃ n, (g.blks.getD b Gr.blk0).next.length = n := ⟨_, rfl⟩
  rw [hna] at a0
  rw [hnb] at b0
  rw [hnn] at b2
  have HE := Lib.hid (And.intro ea (And.intro eb (And.intro en (And.intro hna (And.intro hnb (And.intro hnn hcb))))))
  obtain ⟨n, hnl⟩ : ∃ n, g.blks.length = n := ⟨_, rfl⟩
  rw [hnl] at hla hlb hn hnc HH ⊢
  have HN := Lib.hid hnl
  have hops : na ≤ 600 ∧ nb ≤ 600 := by
    rw [← hna, ← hnb]
    exact ⟨hI.op a, hI.op b⟩
  clear ea eb en hna hnb hnn hnl h hI hcb
  have la : (a : Int) < (n : Int) := by omega
  have lb : (b : Int) < (n : Int) := by omega
  have za : (0 : Int) ≤ (a : Int) := by omega
  have zb : (0 : Int) ≤ (b : Int) := by omega
  obtain ⟨iTB, hi0, hz0, hz1, hz2⟩ := info_parts info_blk
  have HTB := Lib.hid (And.intro hi0 (And.intro hz0 (And.intro hz1 hz2)))
  have HBw := Lib.hid (show ∀ u, Chg base w u → base ≤ u.heap.size from fun u hu => Nat.le_trans (show base ≤ w.heap.size by omega) hu.1.size)
  have HOne := Lib.hid (show ∀ A n c, ∀ x ∈ us.set a (.slice A n c, (us.getD b bkz).2), x.1.oneCell' = true ∧ x.2.2.oneCell' = true from fun A n c x hx => by
    have hall : ∀ i, i < us.length → (us.getD i bkz).1.oneCell' = true ∧ (us.getD i bkz).2.2.oneCell' = true := fun i hi => by
      have hi' : i < g.blks.length := by rw [← HH.out.ul]; exact hi
      rw [own_sl (HH.out.ops i hi'), own_sl (HH.out.nxt hi')]
      exact ⟨rfl, rfl⟩
    obtain ⟨i, hi, rfl⟩ := Me.mem_get (d := bkz) hx
    rw [List.length_set] at hi
    rw [Me.getD_set hi]
    split
    · exact ⟨rfl, (hall b (by rw [HH.out.ul]; exact ht.lb)).2⟩
    · exact hall i hi)
  clear hi0 hz0 hz1 hz2
  go_enter Try.func66, Try.ntmps66
  go_upto_region 1 with fail
  go_region
  have hbk : Below w.heap.size w (w.alloc (.cells #[.slice Ab nb Cb, .int .i64 cb, .slice An nn Cn] 34)).drew := (bla (Below.refl _ _) _).trans (below_drewN _ _ 1)
  have HX := Lib.hid (HH.out.below hbk)
  have HT := Lib.hid (show Bk (w.alloc (.cells #[.slice Ab nb Cb, .int .i64 cb, .slice An nn Cn] 34)).drew w.heap.size 34 #[.slice Ab nb Cb, .int .i64 cb, .slice An nn Cn] from (Bk.new w _ _).below (below_drewN _ _ 1))
  have HC := Lib.hid (show Chg base w (w.alloc (.cells #[.slice Ab nb Cb, .int .i64 cb, .slice An nn Cn] 34)).drew from Chg.below hbk (by omega))
  obtain ⟨T, hT⟩ : ∃ T, w.heap.size = T := ⟨_, rfl⟩
  have HQT := Lib.hid (show Q < T from hT ▸ hQl)
  clear hbk a0 a1 a2 b0 b1 b2 hfz hQl HH
  go_upto_region 2 with fail
  rw [hT] at HT ⊢
  clear hT
  generalize hW : World.drew _ = W1 at HX HT HC ⊢
  clear hW
  obtain ⟨iTO, hi0, hz0, hz1, hz2⟩ := info_parts info_op
  have HTO := Lib.hid (And.intro hi0 (And.intro hz0 (And.intro hz1 hz2)))
  clear hi0 hz0 hz1 hz2
  have hat := HX.out.blk.at ht.la
  have a0 := hat.2.2.1
  rw [HE.out.1, HE.out.2.2.2.1] at a0
  have hQl := hat.2.1
  have t0 := HT.out.cell 0
  have HOa := Lib.hid (show W1.drew.ownsRow base 27 5 (.slice Aa na Ca) na ((g.blks.getD a Gr.blk0).ops.flatMap opCells) from by
    have h := HX.out.ops a ht.la
    rw [HE.out.1, HE.out.2.2.2.1] at h
    exact own_below h (below_drewN _ _ 1))
  have HOb := Lib.hid (show RowIn 5 W1.drew (.slice Ab nb Cb) nb ((g.blks.getD b Gr.blk0).ops.flatMap opCells) from by
    have h := HX.out.ops b ht.lb
    rw [HE.out.2.1, HE.out.2.2.2.2.1] at h
    exact RowIn.own (own_below h (below_drewN _ _ 1)))
  have HBs := Lib.hid (show base ≤ W1.drew.heap.size from Nat.le_trans hat.1 (Nat.le_of_lt hat.2.1))
  have HL6 := Lib.hid (show na + nb ≤ maxLen ∧ (na + nb) * 40 ≤ 140737488355328 from by
    have h1 := hops.1
    have h2 := hops.2
    unfold maxLen
    omega)
  have HXd := Lib.hid (show Gm base g tos vi va (.slice (some ⟨Q, 0, none⟩) n c) vp vh vt us ps ts W1.drew from HX.out.below (below_drewN _ _ 1))
  have HCd := Lib.hid (show Chg base w W1.drew from HC.out.trans (Chg.below (below_drewN _ _ 1) HBs.out))
  clear hat hops
  go_region_law (refine step_append_row rfl (.tmp 20) (.tmp 22) 25 rfl base 27 iTO _ 5 40 Try.underlying25 HTO.out.1 HTO.out.2.1 HTO.out.2.2.1 HTO.out.2.2.2 rfl (by decide) (.slice Aa na Ca) na _ (by simp [Act.eval]) HOa.out (.slice Ab nb Cb) nb _ (by simp [Act.eval]) HOb.out one_opJ HL6.out.1 HL6.out.2 HBs.out ?_; intro v1 w1 hown hg hv; have hk1 := (((HX.out.blk.below (below_drewN _ _ 1)).grown HOa.out (by decide) hg).at ht.la); have r := hk1.2.2.1; have y := hk1.2.2.2.2.2 (a * 3); obtain ⟨A1, C1, rfl⟩ := own_eta hown)
  all_goals
    have HJ := Lib.hid (show Gj base g tos vi va (.slice (some ⟨Q, 0, none⟩) n c) vp vh vt us us ps ts a b (.slice A1 (na + nb) C1) w1 from Gj.start HXd.out ht.la (by rw [HE.out.1, HE.out.2.2.2.1]; exact hg) (by
      have e : (Me.jn g.blks a b).ops.length = na + nb := by show ((g.blks.getD a Gr.blk0).ops ++ (g.blks.getD b Gr.blk0).ops).length = _; rw [List.length_append, HE.out.2.2.2.1, HE.out.2.2.2.2.1]
      rw [e]
      show w1.ownsRow base 27 5 (.slice A1 (na + nb) C1) (na + nb) (((g.blks.getD a Gr.blk0).ops ++ (g.blks.getD b Gr.blk0).ops).flatMap opCells)
      rw [List.flatMap_append]
      exact hown) (by rw [HE.out.1, HE.out.2.2.2.1]; exact hv))
    have HC1 := Lib.hid (HCd.out.trans (Chg.grown HOa.out (Nat.le_refl _) HBs.out (by decide) hg))
    have HTw := Lib.hid (bk_grown_t (HT.out.below (below_drewN _ _ 1)) HOa.out (by decide) hg)
    have HUl := Lib.hid HX.out.ul
    have HCn := Lib.hid HX.out.cnd
    have HJ2 := Lib.hid (HJ.out.put (k := a * 3) (x := .slice A1 (na + nb) C1) (us2 := us.set a (.slice A1 (na + nb) C1, (us.getD a bkz).2)) (by rw [List.length_set]) (flat_set0 us a _ (by rw [HUl.out]; exact ht.la)))
    have HT2 := Lib.hid (HTw.out.far (p := ⟨Q, a * 3, none⟩) (by show T ≠ Q; have := HQT.out; omega) (.slice A1 (na + nb) C1))
    have HC2 := Lib.hid (show Chg base w (World.setCell w1 ⟨Q, a * 3, none⟩ (.slice A1 (na + nb) C1)) from by
      obtain ⟨h1, cs, h2⟩ := HJ.out.blk.bk
      exact HC1.out.trans (Chg.set h2 h1 (by decide)))
    clear r y hown hg hv HJ HTw HC1 hk1 HXd HCd HX HT HC a0 t0 hQl HOa HOb
    generalize hW : World.setCell w1 ⟨Q, a * 3, none⟩ (.slice A1 (na + nb) C1) = W2 at HJ2 HT2 HC2 ⊢
    clear hW w1
    have hat := HJ2.out.blk.at ht.la
    have q1 := hat.2.2.2.1
    have q2 := hat.2.2.2.2.1
    have f1 := hat.2.2.2.2.2 (a * 3 + 1)
    have f2 := hat.2.2.2.2.2 (a * 3 + 2)
    have hQl := hat.2.1
    have hTl := HT2.out.lt
    have t1 := HT2.out.cell 1
    have t2 := HT2.out.cell 2
    clear hat
    go_upto_region 3 with fail
    go_region
    have HJ4 := Lib.hid (show Gj base g tos vi va (.slice (some ⟨Q, 0, none⟩) n c) vp vh vt us (us.set a (.slice A1 (na + nb) C1, (us.getD b bkz).2)) ps ts a b (.slice A1 (na + nb) C1) ((W2.setCell ⟨Q, a * 3 + 1, none⟩ (.int .i64 cb)).setCell ⟨Q, a * 3 + 2, none⟩ (.slice An nn Cn)).drew from by
      have hl : a < us.length := by rw [HUl.out]; exact ht.la
      have h1 := HJ2.out.put (k := a * 3 + 1) (x := .int .i64 cb) (by rw [List.length_set]) (flat_set1 _ a cb (by rw [List.length_set]; exact hl))
      have h2 := h1.put (k := a * 3 + 2) (x := .slice An nn Cn) (by rw [List.length_set]) (flat_set2 _ a _ (by rw [List.length_set, List.length_set]; exact hl))
      rw [set3 us a _ _ _ hl] at h2
      have e : (us.getD b bkz).2 = (cb, .slice An nn Cn) := by rw [← HE.out.2.2.2.2.2.1, ← HE.out.2.2.1, ← HE.out.2.2.2.2.2.2]
      rw [e]
      exact h2.below (below_drewN _ _ 1))
    have HC4 := Lib.hid (show Chg base w ((W2.setCell ⟨Q, a * 3 + 1, none⟩ (.int .i64 cb)).setCell ⟨Q, a * 3 + 2, none⟩ (.slice An nn Cn)).drew from by
      obtain ⟨h1, cs, h2⟩ := HJ2.out.blk.bk
      exact ((HC2.out.trans (Chg.set h2 h1 (by decide))).trans (Chg.set (h2.set _ _) h1 (by decide))).trans (Chg.below (below_drewN _ _ 1) (by rw [World.size_setCell, World.size_setCell]; omega)))
    clear q1 q2 f1 f2 hTl t1 t2 hQl HJ2 HT2 HC2
    go_upto_region 4 with fail
    generalize hW : World.drew _ = W4 at HJ4 HC4 ⊢
    clear hW
    have hbc : (b : Int) ≤ (c : Int) := by omega
    have hbn : (b : Int) + 1 ≤ (n : Int) := by omega
    have hnc' : (n : Int) ≤ (c : Int) := by omega
    have hb10 : (0 : Int) ≤ (b : Int) + 1 := by omega
    have hwb : IntKind.i64.wrap ((b : Int) + 1) = ((b + 1 : Nat) : Int) := by rw [IntWalk.i64_in _ (by omega)]; omega
    have HHo := Lib.hid (show ∀ x ∈ us.set a (.slice A1 (na + nb) C1, (us.getD b bkz).2), x.1.oneCell' = true ∧ x.2.2.oneCell' = true from HOne.out A1 (na + nb) C1)
    have HEr := Lib.hid (List.eraseIdx_eq_take_drop_succ (us.set a (.slice A1 (na + nb) C1, (us.getD b bkz).2)) b)
    by_cases hb1 : b + 1 = n
    · subst hb1
      have HFin := Lib.hid (show Gm base { g with blks := Me.jb g.blks a b } tos vi va (.slice (some ⟨Q, 0, none⟩) b b) vp vh vt ((us.set a (.slice A1 (na + nb) C1, (us.getD b bkz).2)).eraseIdx b) ps ts W4.drew from by
        have h := HJ4.out.below (below_drewN _ _ 1)
        refine Gj.fin (vb2 := .slice (some ⟨Q, 0, none⟩) b b) h ht rfl HCn.out HUl.out ?_
        rw [HEr.out, List.drop_of_length_le (by rw [List.length_set, HUl.out, HN.out]; exact Nat.le_refl _), List.append_nil, HN.out, Nat.add_sub_cancel]
        exact h.blk.short (by rw [HN.out]; omega))
      have HCf := Lib.hid (show Chg base w W4.drew from HC4.out.trans (Chg.below (below_drewN _ _ 1) (HBw.out _ HC4.out)))
      go_region_law ((refine step_run rfl (.tmp 39) (.tmp 43) 35 rfl (v := .slice (some ⟨Q, 0, none⟩) b b) (v' := .slice (some ⟨Q, 0, none⟩) b b) (w' := W4.drew) (vx := .slice (if c = b + 1 then some ⟨Q, 0, none⟩ else some ⟨Q, (b + 1) * 3, none⟩) 0 (c - (b + 1))) (by simp [Act.eval, Act.put]) (by simp [Act.eval, Act.put]) (fun ty => run_append_0 W4.drew 35 ty 34 iTB Try.underlying35 HTB.out.1 (some ⟨Q, 0, none⟩) (if c = b + 1 then some ⟨Q, 0, none⟩ else some ⟨Q, (b + 1) * 3, none⟩) b b (c - (b + 1)) (Nat.le_refl _)) ?_))
      go_wp2
      all_goals
        go_ret
        exact ⟨_, _, rfl, HFin.out, HCf.out⟩
    · have hcb : ¬ c = b + 1 := by omega
      have hm0 : (n : Int) - ((b : Int) + 1) = ((n - (b + 1) : Nat) : Int) := by omega
      have HOl := Lib.hid (HJ4.out.below (below_drewN W4.heap.size W4 1))
      have HUs := Lib.hid (show (us.set a (.slice A1 (na + nb) C1, (us.getD b bkz).2)).length = n from by rw [List.length_set, HUl.out, HN.out])
      have HLo := Lib.hid (show (((us.set a (.slice A1 (na + nb) C1, (us.getD b bkz).2)).take b).flatMap bkC).length = b * 3 from by rw [flat_length bkC 3 (fun _ => rfl), List.length_take, HUs.out]; omega)
      have HLn := Lib.hid (show (((us.set a (.slice A1 (na + nb) C1, (us.getD b bkz).2)).drop (b + 1)).flatMap bkC).length = (n - (b + 1)) * 3 from by rw [flat_length bkC 3 (fun _ => rfl), List.length_drop, HUs.out])
      have HCo := Lib.hid (show ∀ bb, some (⟨Q, 0, none⟩ : Addr) = some bb → ∀ (j : Nat) (u : Value), (((us.set a (.slice A1 (na + nb) C1, (us.getD b bkz).2)).take b).flatMap bkC)[j]? = some u → W4.drew.cell? (bb.add j) = some u from fun bb e j u hj => by
        injection e with e
        subst e
        rw [Addr.add_lit, Nat.zero_add]
        exact ((HOl.out.blk.cut (k := b) (by rw [HN.out]; omega)).1 j u hj))
      have HCn2 := Lib.hid (show ∀ (j : Nat) (u : Value), (((us.set a (.slice A1 (na + nb) C1, (us.getD b bkz).2)).drop (b + 1)).flatMap bkC)[j]? = some u → W4.drew.cell? ((⟨Q, (b + 1) * 3, none⟩ : Addr).add j) = some u from fun j u hj => by
        rw [Addr.add_lit]
        exact ((HOl.out.blk.cut (k := b + 1) (by rw [HN.out]; omega)).2 j u hj))
      have HOn := Lib.hid (show ∀ u ∈ ((us.set a (.slice A1 (na + nb) C1, (us.getD b bkz).2)).drop (b + 1)).flatMap bkC, u.oneCell' = true from one_bkJ fun x hx => HHo.out x (List.mem_of_mem_drop hx))
      have HLm := Lib.hid (show b < b + (n - (b + 1)) ∧ b + (n - (b + 1)) ≤ maxLen ∧ (b + (n - (b + 1))) * 56 ≤ 140737488355328 from ⟨by omega, by unfold maxLen; omega, by omega⟩)
      go_region_law (refine step_append_grows rfl (.tmp 39) (.tmp 43) 35 rfl 34 iTB _ 3 56 Try.underlying35 HTB.out.1 HTB.out.2.1 HTB.out.2.2.1 HTB.out.2.2.2 rfl (by decide) (some ⟨Q, 0, none⟩) b b _ (by simp [Act.eval, Act.put]) (fun e => by cases e) HLo.out HCo.out ⟨Q, (b + 1) * 3, none⟩ (n - (b + 1)) (c - (b + 1)) _ (by simp [Act.eval, Act.put, hcb]) HLn.out HCn2.out HOn.out HLm.out.1 HLm.out.2.1 HLm.out.2.2 ?_; intro v2 w2 hown2 hg2)
      have HFin := Lib.hid (show Gm base { g with blks := Me.jb g.blks a b } tos vi va v2 vp vh vt ((us.set a (.slice A1 (na + nb) C1, (us.getD b bkz).2)).eraseIdx b) ps ts w2 from by
        have hb2 : Below W4.drew.heap.size W4.drew w2 := ⟨hg2.os, hg2.tape, hg2.output, hg2.size, fun k hk => hg2.block k hk (by simp)⟩
        have h := HOl.out.below hb2
        refine Gj.fin (vb2 := v2) h ht rfl HCn.out HUl.out ?_
        rw [HEr.out, HN.out]
        rw [← List.flatMap_append, show b + (n - (b + 1)) = n - 1 by omega] at hown2
        exact (Hold.own hown2 (by omega)).mono (HBw.out _ (HC4.out.trans (Chg.below (below_drewN _ _ 1) (HBw.out _ HC4.out)))))
      have HCf := Lib.hid (show Chg base w w2 from by
        have hb2 : Below W4.drew.heap.size W4.drew w2 := ⟨hg2.os, hg2.tape, hg2.output, hg2.size, fun k hk => hg2.block k hk (by simp)⟩
        have h1 : Chg base w W4.drew := HC4.out.trans (Chg.below (below_drewN _ _ 1) (HBw.out _ HC4.out))
        exact h1.trans (Chg.below hb2 (HBw.out _ h1)))
      clear hown2 hg2
      go_wp2
      go_ret
      exact ⟨_, _, rfl, HFin.out, HCf.out⟩
end Go.Proofs.Ytojnhdkclabkgaa
