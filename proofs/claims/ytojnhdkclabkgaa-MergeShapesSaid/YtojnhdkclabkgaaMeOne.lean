/- The specification of layer 16: two blocks become one, in a copy. No condition. The specification of layer 16: one merge. No condition. -/
import Derived.Test.YtojnhdkclabkgaaMeRnA
import Derived.Test.YtojnhdkclabkgaaMeCopy2
import Derived.Test.YtojnhdkclabkgaaMeJoin
import Derived.Test.YtojnhdkclabkgaaMeRn
import Derived.Test.YtojnhdkclabkgaaMeRnm
import Derived.Test.YtojnhdkclabkgaaGrMake
namespace Go.Proofs.Ytojnhdkclabkgaa
open Go.RowKit
set_option linter.unusedVariables false
set_option linter.unusedSimpArgs false
theorem own_setd {u : World} {base g cap n sz : Nat} {e : TypeId} {xs : List Value} (h : u.ownsRow base e sz (.slice (some ⟨g, 0, none⟩) n cap) n xs) (j : Nat) (z : Value) : (u.setCell ⟨g, j, none⟩ z).ownsRow base e sz (.slice (some ⟨g, 0, none⟩) n cap) n (xs.set j z) := by
  refine ⟨by simpa using h.1, .inr ?_⟩
  rcases h.2 with ⟨h0, _⟩ | ⟨g', cap', cur, hs, hb, hg, hc, hm, hsz, ht⟩
  · injection h0 with h0; exact absurd h0 (by simp)
  · injection hs with h1 h2 h3
    injection h1 with h1
    injection h1 with h1 _ _
    subst h1 h3
    refine ⟨g, cap, cur.setIfInBounds j z, rfl, hb, ?_, hc, hm, by simpa using hsz, ?_⟩
    · simp [World.setCell, Array.getElem?_modify, hg]
    · rw [Array.toList_setIfInBounds, List.take_set, ht]
theorem own_inn {u : World} {base g cap n sz i : Nat} {e : TypeId} {xs : List Value} (h : u.ownsRow base e sz (.slice (some ⟨g, 0, none⟩) n cap) n xs) (hi : i < n * sz) : ∃ z, u.cell? ⟨g, i, none⟩ = some z ∧ u.frozen? ⟨g, i, none⟩ = false ∧ g < u.heap.size := by
  have hc := h.cellAt i hi
  have hl := h.1
  rcases h.2 with ⟨h0, _⟩ | ⟨g', cap', cur, hs, hb, hg, hcn, hm, hsz, htk⟩
  · injection h0 with h0; exact absurd h0 (by simp)
  · injection hs with h1 h2 h3
    injection h1 with h1
    injection h1 with h1 _ _
    subst h1
    have hbk : Bk u g e cur := hg
    exact ⟨xs[i]'(by rw [hl]; exact hi), by rw [hc]; exact List.getElem?_eq_getElem _, hbk.frozen i, hbk.lt⟩
/-- The copy as it changes. -/
structure Oq (g : Gr.G) (w : World) (gc zc : Array Value) (F : Nat) (vi va vh y p : Value) (us : List (Value × Int × Value)) (ps : List Value) (bl : List Gr.Blk) (pt : List (List Int)) (u : World) : Prop where
  cb : Cb w gc zc u
  far : w.heap.size + 1 + 1 ≤ F
  fb : Bk u F 40 #[vi, .int .i64 g.vars, .int .i64 g.keep, va, .int .i64 g.sh, y, p, vh]
  ins : u.ownsRow (w.heap.size + 1 + 1) 57 3 vi g.ins.length (g.ins.flatMap inCells)
  ars : u.ownsRow (w.heap.size + 1 + 1) 30 2 va g.ars.length (g.ars.flatMap arCells)
  hds : u.ownsRow (w.heap.size + 1 + 1) 52 2 vh g.hds.length (g.hds.flatMap prCells)
  bks : Bks (w.heap.size + 1 + 1) u y us bl
  pts : Lst (w.heap.size + 1 + 1) u p ps pt
  apn : Apn bl.length us ps
section
variable {g : Gr.G} {w W0 u u' : World} {gc zc : Array Value} {F : Nat} {vi va vh p y v : Value} {us : List (Value × Int × Value)} {ps : List Value} {bl : List Gr.Blk} {pt : List (List Int)} {gy n cy a : Nat}
theorem Oq.below (h : Oq g w gc zc F vi va vh y p us ps bl pt u) (hb : Below u.heap.size u u') : Oq g w gc zc F vi va vh y p us ps bl pt u' :=
  ⟨h.cb.below hb, h.far, h.fb.below hb, own_below h.ins hb, own_below h.ars hb, own_below h.hds hb, h.bks.below hb, h.pts.below hb, h.apn⟩
theorem Oq.start (hcb : Cb w gc zc u) (hcr : Cr g W0 vi va vh u) (hW : w.heap.size ≤ W0.heap.size) (hbk : Bks (W0.heap.size + 1 + 1) u y us g.blks) (hmp : Mps (W0.heap.size + 1 + 1) u p ps g.pts) (hap : Apn g.blks.length us ps) :
    Oq g w gc zc u.heap.size vi va vh y p us ps g.blks g.pts (u.alloc (.cells #[vi, .int .i64 g.vars, .int .i64 g.keep, va, .int .i64 g.sh, y, p, vh] 40)) := by
  have hb : Below u.heap.size u (u.alloc (.cells #[vi, .int .i64 g.vars, .int .i64 g.keep, va, .int .i64 g.sh, y, p, vh] 40)) := bla (Below.refl _ _) _
  have hF : w.heap.size + 1 + 1 ≤ u.heap.size := hcb.rb.lt
  have hB : w.heap.size + 1 + 1 ≤ W0.heap.size + 1 + 1 := by omega
  have hk := hbk.below hb
  exact ⟨hcb.below hb, hF, Bk.new u _ _, own_mono_b (own_below hcr.ins hb) hB, own_mono_b (own_below hcr.ars hb) hB, own_mono_b (own_below hcr.hds hb) hB, ⟨own_mono_b hk.row hB, hk.len, fun i hi => ⟨(hk.el i hi).cnd, own_mono_b (hk.el i hi).ops hB, own_mono_b (hk.el i hi).nxt hB⟩, hk.ap⟩, (Lst.of_mps (hmp.below hb)).mono hB, hap⟩
/-- Block a gets other operations. -/
theorem Oq.app {ops' : List Gr.Op} (h : Oq g w gc zc F vi va vh (.slice (some ⟨gy, 0, none⟩) n cy) p us ps bl pt u) (hn : n = bl.length) (ha : a < bl.length) (hown : u'.ownsRow (w.heap.size + 1 + 1) 27 5 v ops'.length (ops'.flatMap opCells)) (hg : u.grownBy u' (us.getD a bkz).1.ownBlock) (hv : v.ownBlock = (us.getD a bkz).1.ownBlock ∨ v.ownBlock = some u.heap.size) :
    Oq g w gc zc F vi va vh (.slice (some ⟨gy, 0, none⟩) n cy) p (us.set a (v, (us.getD a bkz).2)) ps (bl.set a ⟨ops', (bl.getD a Gr.blk0).cond, (bl.getD a Gr.blk0).next⟩) pt (u'.setCell ⟨gy, a * 3, none⟩ v) := by
  subst hn
  have hl := h.bks.len
  have hr := (h.bks.el a ha).ops
  have hrow := own_grown_t h.bks.row hr (by decide) hg
  have hgs := grown_cell u' gy (a * 3) v
  have hs : ∀ {base e sz n v2 xs}, u.ownsRow base e sz v2 n xs → e ≠ 27 → e ≠ 34 → (u'.setCell ⟨gy, a * 3, none⟩ v).ownsRow base e sz v2 n xs := fun h1 h2 h3 => own_grown_t (own_grown_t h1 hr h2 hg) hrow h3 hgs
  refine ⟨(h.cb.grown hr hg).grown hrow hgs, h.far, bk_grown_t (bk_grown_t h.fb hr (by decide) hg) hrow (by decide) hgs, hs h.ins (by decide) (by decide), hs h.ars (by decide) (by decide), hs h.hds (by decide) (by decide), ⟨?_, by simp [hl], fun i hi => ?_, fun i j hi hj hne => ?_⟩, (h.pts.grown hr (by decide) (by decide) hg).grown hrow (by decide) (by decide) hgs, fun i j hi hj => ?_⟩
  · rw [List.length_set, flat_set0 us a v (by omega)]
    exact own_setd hrow (a * 3) v
  · rw [List.length_set] at hi
    rw [Me.getD_set (by omega), Me.getD_set hi]
    by_cases e : i = a
    · subst e
      rw [if_pos rfl, if_pos rfl]
      exact ⟨(h.bks.el i hi).cnd, own_grown_t hown hrow (by decide) hgs, hs (h.bks.el i hi).nxt (by decide) (by decide)⟩
    · rw [if_neg e, if_neg e]
      exact ⟨(h.bks.el i hi).cnd, own_grown_t (own_ap (h.bks.el i hi).ops hg (h.bks.ap i a hi ha e)) hrow (by decide) hgs, hs (h.bks.el i hi).nxt (by decide) (by decide)⟩
  · rw [List.length_set] at hi hj
    have hap : ∀ k, k < bl.length → k ≠ a → Ap v (us.getD k bkz).1 := fun k hk hne => ap_new hv (h.bks.ap a k ha hk (fun e => hne e.symm)) (fun b hb => own_block_lt (h.bks.el k hk).ops hb)
    rw [Me.getD_set (by omega), Me.getD_set (by omega)]
    by_cases e1 : i = a
    · rw [if_pos e1, if_neg (by omega)]
      exact hap j hj (by omega)
    · by_cases e2 : j = a
      · rw [if_neg e1, if_pos e2]
        exact (hap i hi e1).symm
      · rw [if_neg e1, if_neg e2]
        exact h.bks.ap i j hi hj hne
  · rw [List.length_set] at hi
    rw [Me.getD_set (by omega)]
    by_cases e : i = a
    · subst e
      rw [if_pos rfl]
      exact h.apn i j hi hj
    · rw [if_neg e]
      exact h.apn i j hi hj
/-- Block a gets another condition and other successors. -/
theorem Oq.nxt {q : List Int} {c : Int} (h : Oq g w gc zc F vi va vh (.slice (some ⟨gy, 0, none⟩) n cy) p us ps bl pt u) (hn : n = bl.length) (ha : a < bl.length) (hown : u.ownsRow (w.heap.size + 1 + 1) 3 1 v q.length (q.map (.int .i64))) (hap : ∀ j, j < ps.length → Ap v (ps.getD j nl)) :
    Oq g w gc zc F vi va vh (.slice (some ⟨gy, 0, none⟩) n cy) p (us.set a ((us.getD a bkz).1, c, v)) ps (bl.set a ⟨(bl.getD a Gr.blk0).ops, c, q⟩) pt ((u.setCell ⟨gy, a * 3 + 1, none⟩ (.int .i64 c)).setCell ⟨gy, a * 3 + 2, none⟩ v) := by
  subst hn
  have hl := h.bks.len
  have hrow := h.bks.row
  have hgs := grown_cell u gy (a * 3 + 1) (.int .i64 c)
  have hrow1 := own_setd hrow (a * 3 + 1) (.int .i64 c)
  have hgs2 := grown_cell (u.setCell ⟨gy, a * 3 + 1, none⟩ (.int .i64 c)) gy (a * 3 + 2) v
  have hs : ∀ {base e sz n v2 xs}, u.ownsRow base e sz v2 n xs → e ≠ 34 → ((u.setCell ⟨gy, a * 3 + 1, none⟩ (.int .i64 c)).setCell ⟨gy, a * 3 + 2, none⟩ v).ownsRow base e sz v2 n xs := fun h1 h3 => own_grown_t (own_grown_t h1 hrow h3 hgs) hrow1 h3 hgs2
  refine ⟨(h.cb.grown hrow hgs).grown hrow1 hgs2, h.far, bk_grown_t (bk_grown_t h.fb hrow (by decide) hgs) hrow1 (by decide) hgs2, hs h.ins (by decide), hs h.ars (by decide), hs h.hds (by decide), ⟨?_, by simp [hl], fun i hi => ?_, fun i j hi hj hne => ?_⟩, (h.pts.grown hrow (by decide) (by decide) hgs).grown hrow1 (by decide) (by decide) hgs2, fun i j hi hj => ?_⟩
  · have h2 := own_setd hrow1 (a * 3 + 2) v
    have e1 := flat_set1 us a c (by omega)
    have e2 := flat_set2 (us.set a ((us.getD a bkz).1, c, (us.getD a bkz).2.2)) a v (by rw [List.length_set]; omega)
    rw [Me.getD_set (by omega), if_pos rfl, List.set_set, e1] at e2
    rw [List.length_set, e2]
    exact h2
  · rw [List.length_set] at hi
    rw [Me.getD_set (by omega), Me.getD_set hi]
    by_cases e : i = a
    · subst e
      rw [if_pos rfl, if_pos rfl]
      exact ⟨rfl, hs (h.bks.el i hi).ops (by decide), hs hown (by decide)⟩
    · rw [if_neg e, if_neg e]
      exact ⟨(h.bks.el i hi).cnd, hs (h.bks.el i hi).ops (by decide), hs (h.bks.el i hi).nxt (by decide)⟩
  · rw [List.length_set] at hi hj
    have e : ∀ k, k < bl.length → ((us.set a ((us.getD a bkz).1, c, v)).getD k bkz).1 = (us.getD k bkz).1 := fun k hk => by
      rw [Me.getD_set (by omega)]
      by_cases e : k = a
      · rw [if_pos e, e]
      · rw [if_neg e]
    rw [e i hi, e j hj]
    exact h.bks.ap i j hi hj hne
  · rw [List.length_set] at hi
    rw [Me.getD_set (by omega)]
    by_cases e : i = a
    · rw [if_pos e]
      exact hap j hj
    · rw [if_neg e]
      exact h.apn i j hi hj
/-- A number in a list of points changes. -/
theorem Oq.pnt {gp cp k m i : Nat} {z : Int} (h : Oq g w gc zc F vi va vh y p us ps bl pt u) (hk : k < pt.length) (hx : ps.getD k nl = .slice (some ⟨gp, 0, none⟩) m cp) (hi : i < (pt.getD k []).length) :
    Oq g w gc zc F vi va vh y p us ps bl (pt.set k ((pt.getD k []).set i z)) (u.setCell ⟨gp, i, none⟩ (.int .i64 z)) := by
  have hr := h.pts.rws.row k hk
  have hlen := h.pts.rws.len
  have hg := grown_cell u gp i (.int .i64 z)
  rw [hx] at hr
  have hb : (Value.slice (some ⟨gp, 0, none⟩) m cp).ownBlock = some gp := rfl
  have hm : m = (pt.getD k []).length := by
    rcases hr.2 with ⟨h0, _⟩ | ⟨g', cap', cur, hs, _⟩
    · injection h0 with h0; exact absurd h0 (by simp)
    · injection hs
  have hs : ∀ {base e sz n v2 xs}, u.ownsRow base e sz v2 n xs → e ≠ 3 → (u.setCell ⟨gp, i, none⟩ (.int .i64 z)).ownsRow base e sz v2 n xs := fun h1 hne => own_grown_t h1 hr hne hg
  have hown : (u.setCell ⟨gp, i, none⟩ (.int .i64 z)).ownsRow (w.heap.size + 1 + 1) 3 1 (ps.getD k nl) ((pt.getD k []).set i z).length (((pt.getD k []).set i z).map (.int .i64)) := by
    rw [hx, List.length_set, List.map_set]
    subst hm
    exact own_setd hr i _
  have hset : ps.set k (ps.getD k nl) = ps := by
    apply List.ext_getElem
    · simp
    · intro j h1 h2
      rw [List.getElem_set]
      split
      · subst_vars; exact Me.getD_eq h2
      · rfl
  have hp := h.pts.rws.change (k := k) (x' := ps.getD k nl) hk (by rw [hx]; exact hg) hown (.inl rfl)
  rw [hset] at hp
  exact ⟨h.cb.grown hr hg, h.far, bk_grown_t h.fb hr (by decide) hg, hs h.ins (by decide), hs h.ars (by decide), hs h.hds (by decide), ⟨hs h.bks.row (by decide), h.bks.len, fun j hj => ⟨(h.bks.el j hj).cnd, hs (h.bks.el j hj).ops (by decide), own_ap (y := ps.getD k nl) (h.bks.el j hj).nxt (by rw [hx]; exact hg) (h.apn j k hj (by omega))⟩, h.bks.ap⟩, ⟨by rw [List.length_set]; exact hs h.pts.out (by decide), hp⟩, h.apn⟩
/-- As a graph is read. -/
theorem Oq.gr (h : Oq g w gc zc F vi va vh y p us ps bl pt u) : GrIn u { g with blks := bl, pts := pt } vi va y p vh := ⟨RowIn.own h.ins, RowIn.own h.ars, h.bks.blks, h.pts.lsts, RowIn.own h.hds⟩
end
end Go.Proofs.Ytojnhdkclabkgaa
namespace Go.Proofs.Ytojnhdkclabkgaa
open Go.RowKit
set_option linter.unusedVariables false
set_option linter.unusedSimpArgs false
attribute [local go_sem] y_undef
def fz (a b : Nat) (x : Int) : Int := if x = (b : Int) then (a : Int) else x
theorem set_getD {α : Type} {l : List α} {k : Nat} {d : α} (h : k < l.length) : l.set k (l.getD k d) = l := by
  apply List.ext_getElem
  · simp
  · intro j h1 h2
    rw [List.getElem_set]
    split
    · subst_vars; exact Me.getD_eq h2
    · rfl
theorem own_ints (u : World) (n : Nat) (hn : n ≤ 1000) : (u.alloc (.cells (slRow n (fun _ => .int .i64 0)) 3)).ownsRow u.heap.size 3 1 (.slice (some ⟨u.heap.size, 0, none⟩) n n) n ((List.replicate n (0 : Int)).map (.int .i64)) := by
  have hs := slRow_nums n
  have hz : (slRow n (fun _ => Value.int .i64 0)).size = n := by rw [hs]; simp
  exact ⟨by simp, .inr ⟨u.heap.size, n, _, rfl, Nat.le_refl _, heap_alloc_new u _, Nat.le_refl _, by unfold maxLen; omega, by rw [hz]; omega, by rw [hs]; simp⟩⟩
/-- The numbers behind a merge in the making. -/
def tlK (n b k : Nat) : List Int := (List.range n).map fun i => if i < k then (Me.tl n b).getD i 0 else 0
def cn1 (b k : Nat) : Int := if k ≤ b then (k : Int) else (k : Int) - 1
theorem tlK_len (n b k : Nat) : (tlK n b k).length = n := by simp [tlK]
theorem tlK_zero (n b : Nat) : tlK n b 0 = List.replicate n 0 := by
  apply List.ext_getElem
  · simp [tlK]
  · intro i h1 h2; simp [tlK]
theorem tlK_all (n b : Nat) : tlK n b n = Me.tl n b := by
  apply List.ext_getElem
  · simp [tlK, Me.tl]
  · intro i h1 h2
    have hi : i < n := by simpa [tlK] using h1
    have h3 : (Me.tl n b).getD i 0 = (Me.tl n b)[i] := Me.getD_eq h2
    rw [← h3]
    simp [tlK, hi]
theorem tlK_set {n b k : Nat} (h : k < n) : (tlK n b k).set k ((Me.tl n b).getD k 0) = tlK n b (k + 1) := by
  apply List.ext_getElem
  · simp [tlK]
  · intro i h1 h2
    rw [List.getElem_set]
    by_cases e : k = i
    · subst e; simp [tlK]
    · rw [if_neg e]
      simp only [tlK, List.getElem_map, List.getElem_range]
      by_cases h3 : i < k
      · rw [if_pos h3, if_pos (by omega)]
      · rw [if_neg h3, if_neg (by omega)]
theorem two_sum {l : List Nat} {a b : Nat} (ha : a < l.length) (hb : b < l.length) (hne : a ≠ b) : l.getD a 0 + l.getD b 0 ≤ l.sum := by
  have h1 := Me.sum_set l a 0 ha
  have h2 := Me.sum_ge (l.set a 0) b
  rw [Me.getD_set hb, if_neg (fun e => hne e.symm)] at h2
  omega
theorem rk_xg {g : Gr.G} {a b : Nat} (hI : Me.Iv g) (ht : Me.Tk g a b) : Rk (Me.xg g a b) (Me.tl g.blks.length b) := by
  have hl : (Me.xg g a b).blks.length = g.blks.length := by show (g.blks.set a _).length = _; rw [List.length_set]
  have hb : ∀ k, k < g.blks.length → (Me.xg g a b).blks.getD k Gr.blk0 = if k = a then Me.jn g.blks a b else g.blks.getD k Gr.blk0 := fun k hk => Me.getD_set hk
  have hs := hI.sum
  refine ⟨by have := hI.ins; show g.ins.length ≤ 1000; omega, by have := hI.ars; show g.ars.length ≤ 1000; omega, by have := hI.hdn; show g.hds.length ≤ 1000; omega, by rw [hl]; have := hI.hi; omega, by have := hI.ptn; show (g.pts.map _).length ≤ 1000; rw [List.length_map]; omega, fun k hk => ?_, fun k hk => ?_, by rw [hl, Me.tl_len]; exact Nat.le_refl _, fun k hk x hx => ?_, fun x hx => ?_, fun q hq x hx => ?_, by rw [Me.tl_len]; have := hI.hi; omega⟩
  · rw [hl] at hk
    rw [hb k hk]
    split
    · have h2 := two_sum (l := g.blks.map fun x => x.ops.length) (a := a) (b := b) (by simpa using ht.la) (by simpa using ht.lb) ht.ne
      rw [Me.getD_map (d := Gr.blk0) _ ht.la, Me.getD_map (d := Gr.blk0) _ ht.lb] at h2
      refine ⟨?_, ?_⟩
      · show ((g.blks.getD a Gr.blk0).ops ++ (g.blks.getD b Gr.blk0).ops).length ≤ 1000
        rw [List.length_append]; omega
      · show (g.blks.getD b Gr.blk0).next.length ≤ 1000
        have := hI.two b ht.lb; omega
    · exact ⟨by have := hI.op k; omega, by have := hI.two k hk; omega⟩
  · have hk' : k < g.pts.length := by simpa [Me.xg] using hk
    show ((g.pts.map _).getD k []).length ≤ 1000
    rw [Me.getD_map (d := []) _ hk', List.length_map]
    have := hI.ptl _ (Me.getD_mem (d := []) hk'); omega
  · rw [hl] at hk
    rw [hb k hk] at hx
    rw [Me.tl_len]
    split at hx
    · have := hI.nx b ht.lb x hx; omega
    · have := hI.nx k hk x hx; omega
  · rw [Me.tl_len]
    have := hI.hds x hx; omega
  · rw [Me.tl_len]
    obtain ⟨q', hq', rfl⟩ := List.mem_map.1 hq
    obtain ⟨y, hy, rfl⟩ := List.mem_map.1 hx
    have h1 := hI.pt q' hq' y hy
    have h2 := ht.la
    split <;> omega
def OnePost (g : Gr.G) (a b : Nat) (w : World) (e : Ending) (w' : World) : Prop :=
  ∃ vi va vb vp vh vt us ps, e = .returned (.tuple #[.agg #[vi, .int .i64 g.vars, .int .i64 g.keep, va, .int .i64 g.sh, vb, vp, vh], vt]) ∧ Below w.heap.size w w' ∧ Gf (w.heap.size + 1 + 1) (Me.join g a b) vi va vb vp vh us ps w' ∧ w'.ownsRow (w.heap.size + 1 + 1) 3 1 vt g.blks.length ((Me.tl2 g.blks.length a b).map (.int .i64))
set_option maxHeartbeats 4000000 in
set_option maxRecDepth 100000 in
theorem one_any (g : Gr.G) (a b : Nat) (vi va vb vp vh : Value) (w : World) (hi : GrIn w g vi va vb vp vh) (hI : Me.Iv g) (ht : Me.Tk g a b) :
    Calls Try.prog 71 #[.agg #[vi, .int .i64 g.vars, .int .i64 g.keep, va, .int .i64 g.sh, vb, vp, vh], .int .i64 (a : Int), .int .i64 (b : Int)] w (OnePost g a b w) := by
  obtain ⟨Ai, ci, rfl, -⟩ := hi.ins.opened
  obtain ⟨Aa, ca, rfl, -⟩ := hi.ars.opened
  obtain ⟨Ab, cb, a1, a2, k1, k2, rfl, hbl⟩ := id hi.blks
  obtain ⟨Aq, cp, ap, kp, rfl, -⟩ := hi.pts.opened
  obtain ⟨Ah, ch, rfl, -⟩ := hi.hds.opened
  have HIv := Lib.hid hI
  have HTk := Lib.hid ht
  obtain ⟨bo, off, rfl, hbo, x0, x1, x2, hops, hnx⟩ := hbl b ht.lb
  have HX0 := Lib.hid x0
  have HX1 := Lib.hid x1
  have HX2 := Lib.hid x2
  have HOps := Lib.hid hops
  have HNx := Lib.hid hnx
  have HCp := Lib.hid fun (W : World) (hW : Below w.heap.size w W) => rcopy2_any g _ _ _ _ _ W (hi.below hW) (by have := hI.ins; omega) (by have := hI.ars; omega) (by have := hI.hdn; omega) (by have := hI.hi; omega) (by have := hI.ptn; omega) (fun k hk => ⟨by have := hI.op k; omega, by have := hI.two k hk; omega⟩) (fun k hk => by have := hI.ptl _ (Me.getD_mem (d := []) hk); omega)
  obtain ⟨n, hnb⟩ : ∃ n, g.blks.length = n := ⟨_, rfl⟩
  obtain ⟨np, hnp⟩ : ∃ n, g.pts.length = n := ⟨_, rfl⟩
  have HNs := Lib.hid (And.intro hnb hnp)
  have hn1 : n ≤ 64 := by have := hI.hi; omega
  have hn2 : np ≤ 39 := by have := hI.ptn; omega
  have hla : (a : Int) < (n : Int) := by have := ht.la; omega
  have hlb : (b : Int) < (n : Int) := by have := ht.lb; omega
  have hza : (0 : Int) ≤ (a : Int) := by omega
  have hzb : (0 : Int) ≤ (b : Int) := by omega
  rw [hnb, hnp] at HCp
  rw [hnb, hnp]
  obtain ⟨bb, hbb⟩ : ∃ x, g.blks.getD b Gr.blk0 = x := ⟨_, rfl⟩
  have HBb := Lib.hid hbb
  rw [hbb] at HX0 HX1 HX2 HOps HNx
  obtain ⟨no, hno⟩ : ∃ n, bb.ops.length = n := ⟨_, rfl⟩
  obtain ⟨nn, hnn⟩ : ∃ n, bb.next.length = n := ⟨_, rfl⟩
  obtain ⟨cc, hcc⟩ : ∃ n, bb.cond = n := ⟨_, rfl⟩
  have HBl := Lib.hid (And.intro hno (And.intro hnn hcc))
  have hno1 : no ≤ 600 := by rw [← hno, ← hbb]; exact hI.op b
  have hnn1 : nn ≤ 2 := by rw [← hnn, ← hbb]; exact hI.two b ht.lb
  rw [hno] at HX0 HOps
  rw [hnn] at HX2 HNx
  rw [hcc] at HX1
  clear hi hI ht hbl x0 x1 x2 hops hnx hnb hnp hbb hno hnn hcc
  obtain ⟨iTN, hi0, hz0, hz1, hz2⟩ := info_parts rw_info
  have HTN := Lib.hid (And.intro hi0 (And.intro hz0 (And.intro hz1 hz2)))
  clear hi0 hz0 hz1 hz2
  obtain ⟨iTO, hi0, hz0, hz1, hz2⟩ := info_parts info_op
  have HTO := Lib.hid (And.intro hi0 (And.intro hz0 (And.intro hz1 hz2)))
  clear hi0 hz0 hz1 hz2
  have HS := Lib.hid (show Cb w #[.slice Ai g.ins.length ci, .int .i64 g.vars, .int .i64 g.keep, .slice Aa g.ars.length ca, .int .i64 g.sh, .slice (some ⟨bo, off, none⟩) n cb, .slice Aq np cp, .slice Ah g.hds.length ch] #[.slice none 0 0, .int .i64 0, .int .i64 0, .slice none 0 0, .int .i64 0, .slice none 0 0, .slice none 0 0, .slice none 0 0] ((w.alloc (.cells #[.slice Ai g.ins.length ci, .int .i64 g.vars, .int .i64 g.keep, .slice Aa g.ars.length ca, .int .i64 g.sh, .slice (some ⟨bo, off, none⟩) n cb, .slice Aq np cp, .slice Ah g.hds.length ch] 40)).alloc (.cells #[.slice none 0 0, .int .i64 0, .int .i64 0, .slice none 0 0, .int .i64 0, .slice none 0 0, .slice none 0 0, .slice none 0 0] 40)) from ⟨bla (bla (Below.refl _ _) _) _, (Bk.new w _ _).below (bla (Below.refl _ _) _), by
    have h := Bk.new (w.alloc (.cells #[.slice Ai g.ins.length ci, .int .i64 g.vars, .int .i64 g.keep, .slice Aa g.ars.length ca, .int .i64 g.sh, .slice (some ⟨bo, off, none⟩) n cb, .slice Aq np cp, .slice Ah g.hds.length ch] 40)) 40 #[.slice none 0 0, .int .i64 0, .int .i64 0, .slice none 0 0, .int .i64 0, .slice none 0 0, .slice none 0 0, .slice none 0 0]
    rw [size_alloc] at h
    exact h⟩)
  go_enter Try.func71, Try.ntmps71
  go_upto_region 1 with fail
  have HSz := Lib.hid (show w.heap.size ≤ (((w.alloc (.cells #[.slice Ai g.ins.length ci, .int .i64 g.vars, .int .i64 g.keep, .slice Aa g.ars.length ca, .int .i64 g.sh, .slice (some ⟨bo, off, none⟩) n cb, .slice Aq np cp, .slice Ah g.hds.length ch] 40)).alloc (.cells #[.slice none 0 0, .int .i64 0, .int .i64 0, .slice none 0 0, .int .i64 0, .slice none 0 0, .slice none 0 0, .slice none 0 0] 40))).heap.size from HS.out.low.size)
  generalize hW : World.alloc _ (.cells #[.slice none 0 0, .int .i64 0, .int .i64 0, .slice none 0 0, .int .i64 0, .slice none 0 0, .slice none 0 0, .slice none 0 0] 40) = W0 at HS HSz ⊢
  clear hW
  have c0 := HS.out.gb.cell 0
  have c1 := HS.out.gb.cell 1
  have c2 := HS.out.gb.cell 2
  have c3 := HS.out.gb.cell 3
  have c4 := HS.out.gb.cell 4
  have c5 := HS.out.gb.cell 5
  have c6 := HS.out.gb.cell 6
  have c7 := HS.out.gb.cell 7
  go_wp2_with fail
  refine (HCp.out _ HS.out.low).mono ?_
  rintro e w1 ⟨vi', va', vh', y', us, p', ps, rfl, hb1, hcr, hbk, hmp, hap⟩
  obtain ⟨gy, dy, rfl⟩ : ∃ gy dy, y' = .slice (some ⟨gy, 0, none⟩) n dy := by
    obtain ⟨g', c', e, -⟩ := hbk.cells HTk.out.la
    rw [HNs.out.1] at e
    exact ⟨g', c', e⟩
  have HS1 := Lib.hid (Oq.start (HS.out.below hb1) hcr HSz.out hbk hmp hap)
  obtain ⟨Bi, di, rfl⟩ := own_eta hcr.ins
  obtain ⟨Ba, da, rfl⟩ := own_eta hcr.ars
  obtain ⟨Bh, dh, rfl⟩ := own_eta hcr.hds
  obtain ⟨Bp, dp, rfl⟩ := own_eta hmp.1
  rw [HNs.out.2] at HS1 ⊢
  clear hb1 hcr hbk hmp hap HS c0 c1 c2 c3 c4 c5 c6 c7
  go_upto_region 2 with fail
  obtain ⟨F, hF⟩ : ∃ F, w1.heap.size = F := ⟨_, rfl⟩
  rw [hF] at HS1 ⊢
  generalize hW : World.alloc w1 _ = W1 at HS1 ⊢
  clear hW hF HSz
  have HA := Lib.hid (show Oq g w #[.slice Ai g.ins.length ci, .int .i64 g.vars, .int .i64 g.keep, .slice Aa g.ars.length ca, .int .i64 g.sh, .slice (some ⟨bo, off, none⟩) n cb, .slice Aq np cp, .slice Ah g.hds.length ch] #[.slice none 0 0, .int .i64 0, .int .i64 0, .slice none 0 0, .int .i64 0, .slice none 0 0, .slice none 0 0, .slice none 0 0] F (.slice Bi g.ins.length di) (.slice Ba g.ars.length da) (.slice Bh g.hds.length dh) (.slice (some ⟨gy, 0, none⟩) n dy) (.slice Bp np dp) us ps g.blks g.pts W1 from HS1.out)
  clear HS1
  have hai : a < g.blks.length := HTk.out.la
  have hca := HA.out.bks.cells hai
  obtain ⟨gy', c', e, -, hgl, a0, -, -⟩ := hca
  injection e with e e2 e3
  injection e with e
  injection e with e _ _
  subst e
  clear e2 e3
  obtain ⟨Ax, Cx, hex⟩ := own_eta (HA.out.bks.el a hai).ops
  obtain ⟨nx, hnx⟩ : ∃ n, (g.blks.getD a Gr.blk0).ops.length = n := ⟨_, rfl⟩
  have hnx1 : nx ≤ 600 := by rw [← hnx]; exact HIv.out.op a
  rw [hnx] at hex
  rw [hex] at a0
  have HEx := Lib.hid (And.intro hex hnx)
  have HDd := Lib.hid (below_drewN W1.heap.size W1 1)
  have HAd := Lib.hid (show Oq g w #[.slice Ai g.ins.length ci, .int .i64 g.vars, .int .i64 g.keep, .slice Aa g.ars.length ca, .int .i64 g.sh, .slice (some ⟨bo, off, none⟩) n cb, .slice Aq np cp, .slice Ah g.hds.length ch] #[.slice none 0 0, .int .i64 0, .int .i64 0, .slice none 0 0, .int .i64 0, .slice none 0 0, .slice none 0 0, .slice none 0 0] F (.slice Bi g.ins.length di) (.slice Ba g.ars.length da) (.slice Bh g.hds.length dh) (.slice (some ⟨gy, 0, none⟩) n dy) (.slice Bp np dp) us ps g.blks g.pts W1.drew from HA.out.below HDd.out)
  have HOa := Lib.hid (show W1.drew.ownsRow (w.heap.size + 1 + 1) 27 5 (.slice Ax nx Cx) nx ((g.blks.getD a Gr.blk0).ops.flatMap opCells) from by
    have h := (HAd.out.bks.el a hai).ops
    rw [hex, hnx] at h
    exact h)
  have HOb := Lib.hid (show RowIn 5 W1.drew (.slice (a1 b) no (k1 b)) no (bb.ops.flatMap opCells) from by
    have h := HOps.out.below HAd.out.cb.low
    unfold OpsIn at h
    rw [HBl.out.1] at h
    exact h)
  have HQ := Lib.hid (show nx + no ≤ maxLen ∧ (nx + no) * 40 ≤ 140737488355328 ∧ w.heap.size + 1 + 1 ≤ W1.drew.heap.size from ⟨by unfold maxLen; omega, by omega, HAd.out.cb.rb.lt⟩)
  have HZb := Lib.hid fun (u : World) (h1 : Cb w #[.slice Ai g.ins.length ci, .int .i64 g.vars, .int .i64 g.keep, .slice Aa g.ars.length ca, .int .i64 g.sh, .slice (some ⟨bo, off, none⟩) n cb, .slice Aq np cp, .slice Ah g.hds.length ch] #[.slice none 0 0, .int .i64 0, .int .i64 0, .slice none 0 0, .int .i64 0, .slice none 0 0, .slice none 0 0, .slice none 0 0] u) (h2 : Bk u F 40 #[.slice Bi g.ins.length di, .int .i64 g.vars, .int .i64 g.keep, .slice Ba g.ars.length da, .int .i64 g.sh, .slice (some ⟨gy, 0, none⟩) n dy, .slice Bp np dp, .slice Bh g.hds.length dh]) => And.intro (h2.cell 5) (And.intro (h1.gb.cell 5) ((h1.low.cell (p := ⟨bo, off + b * 3, none⟩) hbo).trans HX0.out))
  have z1 := HZb.out _ HAd.out.cb HAd.out.fb
  have HRow := Lib.hid (show W1.drew.ownsRow (w.heap.size + 1 + 1) 34 3 (.slice (some ⟨gy, 0, none⟩) n dy) n (us.flatMap bkC) from by have h := HAd.out.bks.row; rw [HNs.out.1] at h; exact h)
  clear hex hnx hai
  refine wp_region_held_drew (S := (fun w' => w'.cell? ⟨F, 5, none⟩ = some (.slice (some ⟨gy, 0, none⟩) n dy) ∧ w'.cell? ⟨w.heap.size, 5, none⟩ = some (.slice (some ⟨bo, off, none⟩) n cb) ∧ w'.cell? ⟨bo, off + b * 3, none⟩ = some (.slice (a1 b) no (k1 b)))) (by kernel_rfl) (z1) (fun hHeld => ?_)
  refine' wpAnyH_take (i := 0) (v := _) ?_ ?_ ?_ ?_ ?_ ?_ ?_ ?_
  rotate_left 2
  focus (simp only [List.getElem?_toArray, List.getElem?_cons_succ, List.getElem?_cons_zero]; rfl)
  focus kernel_rfl
  focus kernel_rfl
  focus kernel_rfl
  focus exact (fun _ _ _ h => h)
  refine Or.inl ⟨?_, ?_⟩
  focus (go_simp; done)
  focus (intro w hSw; (try dsimp only at hSw); (first | (go_simp; done) | (go_simp; with_reducible rfl)))
  focus assumption
  (try simp only [Act.put, List.setIfInBounds_toArray, List.set_cons_zero, List.set_cons_succ])
  refine' wpAnyH_take (i := 1) (v := _) ?_ ?_ ?_ ?_ ?_ ?_ ?_ ?_
  rotate_left 2
  focus (simp only [List.getElem?_toArray, List.getElem?_cons_succ, List.getElem?_cons_zero]; rfl)
  focus kernel_rfl
  focus kernel_rfl
  focus kernel_rfl
  focus exact (fun _ _ _ h => h)
  refine Or.inl ⟨?_, ?_⟩
  focus (go_simp; done)
  focus (intro w hSw; (try dsimp only at hSw); (first | (go_simp; done) | (go_simp; with_reducible rfl)))
  focus assumption
  (try simp only [Act.put, List.setIfInBounds_toArray, List.set_cons_zero, List.set_cons_succ])
  refine' wpAnyH_take (i := 2) (v := _) ?_ ?_ ?_ ?_ ?_ ?_ ?_ ?_
  rotate_left 2
  focus (simp only [List.getElem?_toArray, List.getElem?_cons_succ, List.getElem?_cons_zero]; rfl)
  focus kernel_rfl
  focus kernel_rfl
  focus kernel_rfl
  focus exact (fun _ _ _ h => h)
  refine Or.inl ⟨?_, ?_⟩
  focus (go_simp; done)
  focus (intro w hSw; (try dsimp only at hSw); (first | (go_simp; done) | (go_simp; with_reducible rfl)))
  focus assumption
  (try simp only [Act.put, List.setIfInBounds_toArray, List.set_cons_zero, List.set_cons_succ])
  refine' wpAnyH_take (i := 3) (v := _) ?_ ?_ ?_ ?_ ?_ ?_ ?_ ?_
  rotate_left 2
  focus (simp only [List.getElem?_toArray, List.getElem?_cons_succ, List.getElem?_cons_zero]; rfl)
  focus kernel_rfl
  focus kernel_rfl
  focus kernel_rfl
  focus exact (fun _ _ _ h => h)
  refine Or.inl ⟨?_, ?_⟩
  focus (go_simp; done)
  focus (intro w hSw; (try dsimp only at hSw); (first | (go_simp; done) | (go_simp; with_reducible rfl)))
  focus assumption
  (try simp only [Act.put, List.setIfInBounds_toArray, List.set_cons_zero, List.set_cons_succ])
  refine' wpAnyH_take (i := 4) (v := _) ?_ ?_ ?_ ?_ ?_ ?_ ?_ ?_
  rotate_left 2
  focus (simp only [List.getElem?_toArray, List.getElem?_cons_succ, List.getElem?_cons_zero]; rfl)
  focus kernel_rfl
  focus kernel_rfl
  focus kernel_rfl
  focus exact (fun _ _ _ h => h)
  refine Or.inl ⟨?_, ?_⟩
  focus (go_simp; done)
  focus (intro w hSw; (try dsimp only at hSw); (first | (go_simp; done) | (go_simp; with_reducible rfl)))
  focus assumption
  (try simp only [Act.put, List.setIfInBounds_toArray, List.set_cons_zero, List.set_cons_succ])
  refine' wpAnyH_take (i := 5) (v := _) ?_ ?_ ?_ ?_ ?_ ?_ ?_ ?_
  rotate_left 2
  focus (simp only [List.getElem?_toArray, List.getElem?_cons_succ, List.getElem?_cons_zero]; rfl)
  focus kernel_rfl
  focus kernel_rfl
  focus kernel_rfl
  focus exact (fun _ _ _ h => h)
  refine Or.inl ⟨?_, ?_⟩
  focus (go_simp; done)
  focus (intro w hSw; (try dsimp only at hSw); (first | (go_simp; done) | (go_simp; with_reducible rfl)))
  focus assumption
  (try simp only [Act.put, List.setIfInBounds_toArray, List.set_cons_zero, List.set_cons_succ])
  refine' wpAnyH_take (i := 6) (v := _) ?_ ?_ ?_ ?_ ?_ ?_ ?_ ?_
  rotate_left 2
  focus (simp only [List.getElem?_toArray, List.getElem?_cons_succ, List.getElem?_cons_zero]; rfl)
  focus kernel_rfl
  focus kernel_rfl
  focus kernel_rfl
  focus exact (fun _ _ _ h => h)
  refine Or.inl ⟨?_, ?_⟩
  focus (go_simp; done)
  focus (intro w hSw; (try dsimp only at hSw); (first | (go_simp; done) | (go_simp; with_reducible rfl)))
  focus assumption
  (try simp only [Act.put, List.setIfInBounds_toArray, List.set_cons_zero, List.set_cons_succ])
  refine' wpAnyH_take (i := 7) (v := _) ?_ ?_ ?_ ?_ ?_ ?_ ?_ ?_
  rotate_left 2
  focus (simp only [List.getElem?_toArray, List.getElem?_cons_succ, List.getElem?_cons_zero]; rfl)
  focus kernel_rfl
  focus kernel_rfl
  focus kernel_rfl
  focus exact (fun _ _ _ h => h)
  refine Or.inl ⟨?_, ?_⟩
  focus (go_simp; done)
  focus (intro w hSw; (try dsimp only at hSw); (first | (go_simp; done) | (go_simp; with_reducible rfl)))
  focus assumption
  (try simp only [Act.put, List.setIfInBounds_toArray, List.set_cons_zero, List.set_cons_succ])
  refine' wpAnyH_take (i := 9) (v := _) ?_ ?_ ?_ ?_ ?_ ?_ ?_ ?_
  rotate_left 2
  focus (simp only [List.getElem?_toArray, List.getElem?_cons_succ, List.getElem?_cons_zero]; rfl)
  focus kernel_rfl
  focus kernel_rfl
  focus kernel_rfl
  focus exact (fun _ _ _ h => h)
  refine Or.inl ⟨?_, ?_⟩
  focus (go_simp; done)
  focus (intro w hSw; (try dsimp only at hSw); (first | (go_simp; done) | (go_simp; with_reducible rfl)))
  focus assumption
  (try simp only [Act.put, List.setIfInBounds_toArray, List.set_cons_zero, List.set_cons_succ])
  refine' wpAnyH_take (i := 10) (v := _) ?_ ?_ ?_ ?_ ?_ ?_ ?_ ?_
  rotate_left 2
  focus (simp only [List.getElem?_toArray, List.getElem?_cons_succ, List.getElem?_cons_zero]; rfl)
  focus kernel_rfl
  focus kernel_rfl
  focus kernel_rfl
  focus exact (fun _ _ _ h => h)
  refine Or.inl ⟨?_, ?_⟩
  focus (go_simp; done)
  focus (intro w hSw; (try dsimp only at hSw); (first | (go_simp; done) | (go_simp; with_reducible rfl)))
  focus assumption
  (try simp only [Act.put, List.setIfInBounds_toArray, List.set_cons_zero, List.set_cons_succ])
  refine' wpAnyH_take (i := 11) (v := _) ?_ ?_ ?_ ?_ ?_ ?_ ?_ ?_
  rotate_left 2
  focus (simp only [List.getElem?_toArray, List.getElem?_cons_succ, List.getElem?_cons_zero]; rfl)
  focus kernel_rfl
  focus kernel_rfl
  focus kernel_rfl
  focus exact (fun _ _ _ h => h)
  refine Or.inl ⟨?_, ?_⟩
  focus (go_simp; done)
  focus (intro w hSw; (try dsimp only at hSw); (first | (go_simp; done) | (go_simp; with_reducible rfl)))
  focus assumption
  (try simp only [Act.put, List.setIfInBounds_toArray, List.set_cons_zero, List.set_cons_succ])
  refine' wpAnyH_take (i := 12) (v := _) ?_ ?_ ?_ ?_ ?_ ?_ ?_ ?_
  rotate_left 2
  focus (simp only [List.getElem?_toArray, List.getElem?_cons_succ, List.getElem?_cons_zero]; rfl)
  focus kernel_rfl
  focus kernel_rfl
  focus kernel_rfl
  focus exact (fun _ _ _ h => h)
  refine Or.inl ⟨?_, ?_⟩
  focus (go_simp; done)
  focus (intro w hSw; (try dsimp only at hSw); (first | (go_simp; done) | (go_simp; with_reducible rfl)))
  focus assumption
  (try simp only [Act.put, List.setIfInBounds_toArray, List.set_cons_zero, List.set_cons_succ])
  refine' wpAnyH_take (i := 13) (v := _) ?_ ?_ ?_ ?_ ?_ ?_ ?_ ?_
  rotate_left 2
  focus (simp only [List.getElem?_toArray, List.getElem?_cons_succ, List.getElem?_cons_zero]; rfl)
  focus kernel_rfl
  focus kernel_rfl
  focus kernel_rfl
  focus exact (fun _ _ _ h => h)
  refine Or.inl ⟨?_, ?_⟩
  focus (go_simp; done)
  focus (intro w hSw; (try dsimp only at hSw); (first | (go_simp; done) | (go_simp; with_reducible rfl)))
  focus assumption
  (try simp only [Act.put, List.setIfInBounds_toArray, List.set_cons_zero, List.set_cons_succ])
  refine' wpAnyH_take (i := 14) (v := _) ?_ ?_ ?_ ?_ ?_ ?_ ?_ ?_
  rotate_left 2
  focus (simp only [List.getElem?_toArray, List.getElem?_cons_succ, List.getElem?_cons_zero]; rfl)
  focus kernel_rfl
  focus kernel_rfl
  focus kernel_rfl
  focus exact (fun _ _ _ h => h)
  refine Or.inl ⟨?_, ?_⟩
  focus (go_simp; done)
  focus (intro w hSw; (try dsimp only at hSw); (first | (go_simp; done) | (go_simp; with_reducible rfl)))
  focus assumption
  (try simp only [Act.put, List.setIfInBounds_toArray, List.set_cons_zero, List.set_cons_succ])
  refine wpAnyH_ready (rs := [8]) (by kernel_rfl) (by simp) ?_
  refine' AllReadyH.cons ?_ (fun K hK => ?_) AllReadyH.nil
  rotate_left
  focus (simp only [List.getElem?_toArray, List.getElem?_cons_succ, List.getElem?_cons_zero]; rfl)
  go_simp
  refine hK.out _ _ (by first | exact z1 | exact z2 | exact z3) (fun hH2 => ?_)
  clear hK K hHeld
  have hHeld := hH2
  clear hH2
  (try simp only [Act.put, List.setIfInBounds_toArray, List.set_cons_zero, List.set_cons_succ])
  refine wpAnyH_ready (rs := [15]) (by kernel_rfl) (by simp) ?_
  refine' AllReadyH.cons ?_ (fun K hK => ?_) AllReadyH.nil
  rotate_left
  focus (simp only [List.getElem?_toArray, List.getElem?_cons_succ, List.getElem?_cons_zero]; rfl)
  refine step_append_row rfl (.tmp 25) (.tmp 31) 25 rfl (w.heap.size + 1 + 1) 27 iTO _ 5 40 Try.underlying25 HTO.out.1 HTO.out.2.1 HTO.out.2.2.1 HTO.out.2.2.2 rfl (by decide) (.slice Ax nx Cx) nx _ (by simp [Act.eval, Act.put]) HOa.out (.slice (a1 b) no (k1 b)) no _ (by simp [Act.eval, Act.put]) HOb.out one_opC HQ.out.1 HQ.out.2.1 HQ.out.2.2 ?_
  intro v1 w3 hown hg hv
  obtain ⟨A4, C4, rfl⟩ := own_eta hown
  have hrow3 := own_grown_t HRow.out HOa.out (by decide) hg
  obtain ⟨zz, r, y, hgl3⟩ := own_inn hrow3 (i := a * 3) (by omega)
  have z2 := HZb.out _ (HAd.out.cb.grown HOa.out hg) (bk_grown_t HAd.out.fb HOa.out (by decide) hg)
  have z3 := HZb.out _ ((HAd.out.cb.grown HOa.out hg).grown hrow3 (grown_cell w3 gy (a * 3) (.slice A4 (nx + no) C4))) (bk_grown_t (bk_grown_t HAd.out.fb HOa.out (by decide) hg) hrow3 (by decide) (grown_cell w3 gy (a * 3) (.slice A4 (nx + no) C4)))
  have HW3 := Lib.hid (And.intro hown (And.intro hg hv))
  clear hown hg hv hrow3
  refine hK.out _ _ (by first | exact z1 | exact z2 | exact z3) (fun hH2 => ?_)
  clear hK K hHeld
  have hHeld := hH2
  clear hH2
  (try simp only [Act.put, List.setIfInBounds_toArray, List.set_cons_zero, List.set_cons_succ])
  refine' wpAnyH_take (i := 16) (v := _) ?_ ?_ ?_ ?_ ?_ ?_ ?_ ?_
  rotate_left 2
  focus (simp only [List.getElem?_toArray, List.getElem?_cons_succ, List.getElem?_cons_zero]; rfl)
  focus kernel_rfl
  focus kernel_rfl
  focus kernel_rfl
  focus exact (fun _ _ _ h => h)
  refine Or.inl ⟨?_, ?_⟩
  focus (go_simp; done)
  focus (intro w hSw; (try dsimp only at hSw); (first | (go_simp; done) | (go_simp; with_reducible rfl)))
  focus assumption
  (try simp only [Act.put, List.setIfInBounds_toArray, List.set_cons_zero, List.set_cons_succ])
  refine' wpAnyH_take (i := 17) (v := _) ?_ ?_ ?_ ?_ ?_ ?_ ?_ ?_
  rotate_left 2
  focus (simp only [List.getElem?_toArray, List.getElem?_cons_succ, List.getElem?_cons_zero]; rfl)
  focus kernel_rfl
  focus kernel_rfl
  focus kernel_rfl
  focus exact (fun _ _ _ h => h)
  refine Or.inl ⟨?_, ?_⟩
  focus (go_simp; done)
  focus (intro w hSw; (try dsimp only at hSw); (first | (go_simp; done) | (go_simp; with_reducible rfl)))
  focus assumption
  (try simp only [Act.put, List.setIfInBounds_toArray, List.set_cons_zero, List.set_cons_succ])
  refine wpAnyH_ready (rs := [18]) (by kernel_rfl) (by simp) ?_
  refine' AllReadyH.cons ?_ (fun K hK => ?_) AllReadyH.nil
  rotate_left
  focus (simp only [List.getElem?_toArray, List.getElem?_cons_succ, List.getElem?_cons_zero]; rfl)
  go_simp
  refine hK.out _ _ (by first | exact z1 | exact z2 | exact z3) (fun hH2 => ?_)
  clear hK K hHeld
  have hHeld := hH2
  clear hH2
  (try simp only [Act.put, List.setIfInBounds_toArray, List.set_cons_zero, List.set_cons_succ])
  refine wpAnyH_done (by kernel_rfl) ?_ _

  have HB := Lib.hid (show Oq g w #[.slice Ai g.ins.length ci, .int .i64 g.vars, .int .i64 g.keep, .slice Aa g.ars.length ca, .int .i64 g.sh, .slice (some ⟨bo, off, none⟩) n cb, .slice Aq np cp, .slice Ah g.hds.length ch] #[.slice none 0 0, .int .i64 0, .int .i64 0, .slice none 0 0, .int .i64 0, .slice none 0 0, .slice none 0 0, .slice none 0 0] F (.slice Bi g.ins.length di) (.slice Ba g.ars.length da) (.slice Bh g.hds.length dh) (.slice (some ⟨gy, 0, none⟩) n dy) (.slice Bp np dp) (us.set a (.slice A4 (nx + no) C4, (us.getD a bkz).2)) ps (g.blks.set a ⟨(g.blks.getD a Gr.blk0).ops ++ bb.ops, (g.blks.getD a Gr.blk0).cond, (g.blks.getD a Gr.blk0).next⟩) g.pts (World.setCell w3 ⟨gy, a * 3, none⟩ (.slice A4 (nx + no) C4)) from HAd.out.app (ops' := (g.blks.getD a Gr.blk0).ops ++ bb.ops) HNs.out.1.symm HTk.out.la (by
    rw [List.length_append, List.flatMap_append, HEx.out.2, HBl.out.1]
    exact HW3.out.1) (by rw [HEx.out.1]; exact HW3.out.2.1) (by rw [HEx.out.1]; exact HW3.out.2.2))
  clear HW3 z1 z2 z3 r y a0 hgl hgl3 HOa HOb HQ HZb HRow HAd HDd HA hHeld
  generalize hW : World.setCell w3 ⟨gy, a * 3, none⟩ (.slice A4 (nx + no) C4) = W2 at HB ⊢
  clear hW w3
  have hbl1 : (g.blks.set a ⟨(g.blks.getD a Gr.blk0).ops ++ bb.ops, (g.blks.getD a Gr.blk0).cond, (g.blks.getD a Gr.blk0).next⟩).length = n := by rw [List.length_set]; exact HNs.out.1
  have HL1 := Lib.hid hbl1
  clear hbl1
  have hbd : Below W2.heap.size W2 (W2.alloc (.cells #[] 3)).drew := (bla (Below.refl _ _) _).trans (below_drewN _ _ 1)
  have HBd := Lib.hid hbd
  have HO1 := Lib.hid (show (W2.alloc (.cells #[] 3)).drew.ownsRow W2.heap.size 3 1 (.slice (some ⟨W2.heap.size, 0, none⟩) 0 0) 0 [] from own_below (World.ownsRow_made W2 #[] 0 (Nat.le_refl _) (Nat.zero_le _) (by simp)) (below_drewN _ _ 1))
  have HNb := Lib.hid (show RowIn 1 (W2.alloc (.cells #[] 3)).drew (.slice (a2 b) nn (k2 b)) nn (bb.next.map (.int .i64)) from by
    have h := HNx.out.below (HB.out.below hbd).cb.low
    unfold NumsIn at h
    rw [HBl.out.2.1] at h
    exact h)
  have HQ3 := Lib.hid (show 0 + nn ≤ maxLen ∧ (0 + nn) * 8 ≤ 140737488355328 ∧ W2.heap.size ≤ (W2.alloc (.cells #[] 3)).drew.heap.size from ⟨by unfold maxLen; omega, by omega, hbd.size⟩)
  have HZc := Lib.hid fun (u : World) (h1 : Cb w #[.slice Ai g.ins.length ci, .int .i64 g.vars, .int .i64 g.keep, .slice Aa g.ars.length ca, .int .i64 g.sh, .slice (some ⟨bo, off, none⟩) n cb, .slice Aq np cp, .slice Ah g.hds.length ch] #[.slice none 0 0, .int .i64 0, .int .i64 0, .slice none 0 0, .int .i64 0, .slice none 0 0, .slice none 0 0, .slice none 0 0] u) (h2 : Bk u F 40 #[.slice Bi g.ins.length di, .int .i64 g.vars, .int .i64 g.keep, .slice Ba g.ars.length da, .int .i64 g.sh, .slice (some ⟨gy, 0, none⟩) n dy, .slice Bp np dp, .slice Bh g.hds.length dh]) => And.intro (h2.cell 5) (And.intro (h1.gb.cell 5) (And.intro ((h1.low.cell (p := ⟨bo, off + b * 3 + 1, none⟩) hbo).trans HX1.out) ((h1.low.cell (p := ⟨bo, off + b * 3 + 2, none⟩) hbo).trans HX2.out)))
  have z0 := HZc.out _ (HB.out.below (below_drewN W2.heap.size W2 1)).cb (HB.out.below (below_drewN W2.heap.size W2 1)).fb
  have z1 := HZc.out _ (HB.out.below hbd).cb (HB.out.below hbd).fb
  clear hbd
  go_wp2
  refine wp_region_held_drew (S := (fun w' => w'.cell? ⟨F, 5, none⟩ = some (.slice (some ⟨gy, 0, none⟩) n dy) ∧ w'.cell? ⟨w.heap.size, 5, none⟩ = some (.slice (some ⟨bo, off, none⟩) n cb) ∧ w'.cell? ⟨bo, off + b * 3 + 1, none⟩ = some (.int .i64 cc) ∧ w'.cell? ⟨bo, off + b * 3 + 2, none⟩ = some (.slice (a2 b) nn (k2 b)))) (by kernel_rfl) (z0) (fun hHeld => ?_)
  refine' wpAnyH_take (i := 0) (v := _) ?_ ?_ ?_ ?_ ?_ ?_ ?_ ?_
  rotate_left 2
  focus (simp only [List.getElem?_toArray, List.getElem?_cons_succ, List.getElem?_cons_zero]; rfl)
  focus kernel_rfl
  focus kernel_rfl
  focus kernel_rfl
  focus exact (fun _ _ _ h => h)
  refine Or.inl ⟨?_, ?_⟩
  focus (go_simp; done)
  focus (intro w hSw; (try dsimp only at hSw); (first | (go_simp; done) | (go_simp; with_reducible rfl)))
  focus assumption
  (try simp only [Act.put, List.setIfInBounds_toArray, List.set_cons_zero, List.set_cons_succ])
  refine' wpAnyH_take (i := 1) (v := _) ?_ ?_ ?_ ?_ ?_ ?_ ?_ ?_
  rotate_left 2
  focus (simp only [List.getElem?_toArray, List.getElem?_cons_succ, List.getElem?_cons_zero]; rfl)
  focus kernel_rfl
  focus kernel_rfl
  focus kernel_rfl
  focus exact (fun _ _ _ h => h)
  refine Or.inl ⟨?_, ?_⟩
  focus (go_simp; done)
  focus (intro w hSw; (try dsimp only at hSw); (first | (go_simp; done) | (go_simp; with_reducible rfl)))
  focus assumption
  (try simp only [Act.put, List.setIfInBounds_toArray, List.set_cons_zero, List.set_cons_succ])
  refine' wpAnyH_take (i := 2) (v := _) ?_ ?_ ?_ ?_ ?_ ?_ ?_ ?_
  rotate_left 2
  focus (simp only [List.getElem?_toArray, List.getElem?_cons_succ, List.getElem?_cons_zero]; rfl)
  focus kernel_rfl
  focus kernel_rfl
  focus kernel_rfl
  focus exact (fun _ _ _ h => h)
  refine Or.inl ⟨?_, ?_⟩
  focus (go_simp; done)
  focus (intro w hSw; (try dsimp only at hSw); (first | (go_simp; done) | (go_simp; with_reducible rfl)))
  focus assumption
  (try simp only [Act.put, List.setIfInBounds_toArray, List.set_cons_zero, List.set_cons_succ])
  refine' wpAnyH_take (i := 3) (v := _) ?_ ?_ ?_ ?_ ?_ ?_ ?_ ?_
  rotate_left 2
  focus (simp only [List.getElem?_toArray, List.getElem?_cons_succ, List.getElem?_cons_zero]; rfl)
  focus kernel_rfl
  focus kernel_rfl
  focus kernel_rfl
  focus exact (fun _ _ _ h => h)
  refine Or.inl ⟨?_, ?_⟩
  focus (go_simp; done)
  focus (intro w hSw; (try dsimp only at hSw); (first | (go_simp; done) | (go_simp; with_reducible rfl)))
  focus assumption
  (try simp only [Act.put, List.setIfInBounds_toArray, List.set_cons_zero, List.set_cons_succ])
  refine' wpAnyH_take (i := 4) (v := _) ?_ ?_ ?_ ?_ ?_ ?_ ?_ ?_
  rotate_left 2
  focus (simp only [List.getElem?_toArray, List.getElem?_cons_succ, List.getElem?_cons_zero]; rfl)
  focus kernel_rfl
  focus kernel_rfl
  focus kernel_rfl
  focus exact (fun _ _ _ h => h)
  refine Or.inl ⟨?_, ?_⟩
  focus (go_simp; done)
  focus (intro w hSw; (try dsimp only at hSw); (first | (go_simp; done) | (go_simp; with_reducible rfl)))
  focus assumption
  (try simp only [Act.put, List.setIfInBounds_toArray, List.set_cons_zero, List.set_cons_succ])
  refine' wpAnyH_take (i := 5) (v := _) ?_ ?_ ?_ ?_ ?_ ?_ ?_ ?_
  rotate_left 2
  focus (simp only [List.getElem?_toArray, List.getElem?_cons_succ, List.getElem?_cons_zero]; rfl)
  focus kernel_rfl
  focus kernel_rfl
  focus kernel_rfl
  focus exact (fun _ _ _ h => h)
  refine Or.inl ⟨?_, ?_⟩
  focus (go_simp; done)
  focus (intro w hSw; (try dsimp only at hSw); (first | (go_simp; done) | (go_simp; with_reducible rfl)))
  focus assumption
  (try simp only [Act.put, List.setIfInBounds_toArray, List.set_cons_zero, List.set_cons_succ])
  refine' wpAnyH_take (i := 6) (v := _) ?_ ?_ ?_ ?_ ?_ ?_ ?_ ?_
  rotate_left 2
  focus (simp only [List.getElem?_toArray, List.getElem?_cons_succ, List.getElem?_cons_zero]; rfl)
  focus kernel_rfl
  focus kernel_rfl
  focus kernel_rfl
  focus exact (fun _ _ _ h => h)
  refine Or.inl ⟨?_, ?_⟩
  focus (go_simp; done)
  focus (intro w hSw; (try dsimp only at hSw); (first | (go_simp; done) | (go_simp; with_reducible rfl)))
  focus assumption
  (try simp only [Act.put, List.setIfInBounds_toArray, List.set_cons_zero, List.set_cons_succ])
  refine' wpAnyH_take (i := 7) (v := _) ?_ ?_ ?_ ?_ ?_ ?_ ?_ ?_
  rotate_left 2
  focus (simp only [List.getElem?_toArray, List.getElem?_cons_succ, List.getElem?_cons_zero]; rfl)
  focus kernel_rfl
  focus kernel_rfl
  focus kernel_rfl
  focus exact (fun _ _ _ h => h)
  refine Or.inl ⟨?_, ?_⟩
  focus (go_simp; done)
  focus (intro w hSw; (try dsimp only at hSw); (first | (go_simp; done) | (go_simp; with_reducible rfl)))
  focus assumption
  (try simp only [Act.put, List.setIfInBounds_toArray, List.set_cons_zero, List.set_cons_succ])
  refine' wpAnyH_take (i := 8) (v := _) ?_ ?_ ?_ ?_ ?_ ?_ ?_ ?_
  rotate_left 2
  focus (simp only [List.getElem?_toArray, List.getElem?_cons_succ, List.getElem?_cons_zero]; rfl)
  focus kernel_rfl
  focus kernel_rfl
  focus kernel_rfl
  focus exact (fun _ _ _ h => h)
  refine Or.inl ⟨?_, ?_⟩
  focus (go_simp; done)
  focus (intro w hSw; (try dsimp only at hSw); (first | (go_simp; done) | (go_simp; with_reducible rfl)))
  focus assumption
  (try simp only [Act.put, List.setIfInBounds_toArray, List.set_cons_zero, List.set_cons_succ])
  refine' wpAnyH_take (i := 9) (v := _) ?_ ?_ ?_ ?_ ?_ ?_ ?_ ?_
  rotate_left 2
  focus (simp only [List.getElem?_toArray, List.getElem?_cons_succ, List.getElem?_cons_zero]; rfl)
  focus kernel_rfl
  focus kernel_rfl
  focus kernel_rfl
  focus exact (fun _ _ _ h => h)
  refine Or.inl ⟨?_, ?_⟩
  focus (go_simp; done)
  focus (intro w hSw; (try dsimp only at hSw); (first | (go_simp; done) | (go_simp; with_reducible rfl)))
  focus assumption
  (try simp only [Act.put, List.setIfInBounds_toArray, List.set_cons_zero, List.set_cons_succ])
  refine' wpAnyH_take (i := 10) (v := _) ?_ ?_ ?_ ?_ ?_ ?_ ?_ ?_
  rotate_left 2
  focus (simp only [List.getElem?_toArray, List.getElem?_cons_succ, List.getElem?_cons_zero]; rfl)
  focus kernel_rfl
  focus kernel_rfl
  focus kernel_rfl
  focus exact (fun _ _ _ h => h)
  refine Or.inl ⟨?_, ?_⟩
  focus (go_simp; done)
  focus (intro w hSw; (try dsimp only at hSw); (first | (go_simp; done) | (go_simp; with_reducible rfl)))
  focus assumption
  (try simp only [Act.put, List.setIfInBounds_toArray, List.set_cons_zero, List.set_cons_succ])
  refine' wpAnyH_take (i := 11) (v := _) ?_ ?_ ?_ ?_ ?_ ?_ ?_ ?_
  rotate_left 2
  focus (simp only [List.getElem?_toArray, List.getElem?_cons_succ, List.getElem?_cons_zero]; rfl)
  focus kernel_rfl
  focus kernel_rfl
  focus kernel_rfl
  focus exact (fun _ _ _ h => h)
  refine Or.inl ⟨?_, ?_⟩
  focus (go_simp; done)
  focus (intro w hSw; (try dsimp only at hSw); (first | (go_simp; done) | (go_simp; with_reducible rfl)))
  focus assumption
  (try simp only [Act.put, List.setIfInBounds_toArray, List.set_cons_zero, List.set_cons_succ])
  refine' wpAnyH_take (i := 13) (v := _) ?_ ?_ ?_ ?_ ?_ ?_ ?_ ?_
  rotate_left 2
  focus (simp only [List.getElem?_toArray, List.getElem?_cons_succ, List.getElem?_cons_zero]; rfl)
  focus kernel_rfl
  focus kernel_rfl
  focus kernel_rfl
  focus exact (fun _ _ _ h => h)
  refine Or.inl ⟨?_, ?_⟩
  focus (go_simp; done)
  focus (intro w hSw; (try dsimp only at hSw); (first | (go_simp; done) | (go_simp; with_reducible rfl)))
  focus assumption
  (try simp only [Act.put, List.setIfInBounds_toArray, List.set_cons_zero, List.set_cons_succ])
  refine' wpAnyH_take (i := 14) (v := _) ?_ ?_ ?_ ?_ ?_ ?_ ?_ ?_
  rotate_left 2
  focus (simp only [List.getElem?_toArray, List.getElem?_cons_succ, List.getElem?_cons_zero]; rfl)
  focus kernel_rfl
  focus kernel_rfl
  focus kernel_rfl
  focus exact (fun _ _ _ h => h)
  refine Or.inl ⟨?_, ?_⟩
  focus (go_simp; done)
  focus (intro w hSw; (try dsimp only at hSw); (first | (go_simp; done) | (go_simp; with_reducible rfl)))
  focus assumption
  (try simp only [Act.put, List.setIfInBounds_toArray, List.set_cons_zero, List.set_cons_succ])
  refine' wpAnyH_take (i := 15) (v := _) ?_ ?_ ?_ ?_ ?_ ?_ ?_ ?_
  rotate_left 2
  focus (simp only [List.getElem?_toArray, List.getElem?_cons_succ, List.getElem?_cons_zero]; rfl)
  focus kernel_rfl
  focus kernel_rfl
  focus kernel_rfl
  focus exact (fun _ _ _ h => h)
  refine Or.inl ⟨?_, ?_⟩
  focus (go_simp; done)
  focus (intro w hSw; (try dsimp only at hSw); (first | (go_simp; done) | (go_simp; with_reducible rfl)))
  focus assumption
  (try simp only [Act.put, List.setIfInBounds_toArray, List.set_cons_zero, List.set_cons_succ])
  refine' wpAnyH_take (i := 16) (v := _) ?_ ?_ ?_ ?_ ?_ ?_ ?_ ?_
  rotate_left 2
  focus (simp only [List.getElem?_toArray, List.getElem?_cons_succ, List.getElem?_cons_zero]; rfl)
  focus kernel_rfl
  focus kernel_rfl
  focus kernel_rfl
  focus exact (fun _ _ _ h => h)
  refine Or.inl ⟨?_, ?_⟩
  focus (go_simp; done)
  focus (intro w hSw; (try dsimp only at hSw); (first | (go_simp; done) | (go_simp; with_reducible rfl)))
  focus assumption
  (try simp only [Act.put, List.setIfInBounds_toArray, List.set_cons_zero, List.set_cons_succ])
  refine' wpAnyH_take (i := 17) (v := _) ?_ ?_ ?_ ?_ ?_ ?_ ?_ ?_
  rotate_left 2
  focus (simp only [List.getElem?_toArray, List.getElem?_cons_succ, List.getElem?_cons_zero]; rfl)
  focus kernel_rfl
  focus kernel_rfl
  focus kernel_rfl
  focus exact (fun _ _ _ h => h)
  refine Or.inl ⟨?_, ?_⟩
  focus (go_simp; done)
  focus (intro w hSw; (try dsimp only at hSw); (first | (go_simp; done) | (go_simp; with_reducible rfl)))
  focus assumption
  (try simp only [Act.put, List.setIfInBounds_toArray, List.set_cons_zero, List.set_cons_succ])
  refine' wpAnyH_take (i := 18) (v := _) ?_ ?_ ?_ ?_ ?_ ?_ ?_ ?_
  rotate_left 2
  focus (simp only [List.getElem?_toArray, List.getElem?_cons_succ, List.getElem?_cons_zero]; rfl)
  focus kernel_rfl
  focus kernel_rfl
  focus kernel_rfl
  focus exact (fun _ _ _ h => h)
  refine Or.inl ⟨?_, ?_⟩
  focus (go_simp; done)
  focus (intro w hSw; (try dsimp only at hSw); (first | (go_simp; done) | (go_simp; with_reducible rfl)))
  focus assumption
  (try simp only [Act.put, List.setIfInBounds_toArray, List.set_cons_zero, List.set_cons_succ])
  refine wpAnyH_ready (rs := [12]) (by kernel_rfl) (by simp) ?_
  refine' AllReadyH.cons ?_ (fun K hK => ?_) AllReadyH.nil
  rotate_left
  focus (simp only [List.getElem?_toArray, List.getElem?_cons_succ, List.getElem?_cons_zero]; rfl)
  go_simp
  refine hK.out _ _ (by first | exact z0 | exact z1 | exact z2 | exact z3 | exact z4) (fun hH2 => ?_)
  clear hK K hHeld
  have hHeld := hH2
  clear hH2
  (try simp only [Act.put, List.setIfInBounds_toArray, List.set_cons_zero, List.set_cons_succ])
  refine wpAnyH_ready (rs := [19]) (by kernel_rfl) (by simp) ?_
  refine' AllReadyH.cons ?_ (fun K hK => ?_) AllReadyH.nil
  rotate_left
  focus (simp only [List.getElem?_toArray, List.getElem?_cons_succ, List.getElem?_cons_zero]; rfl)
  refine step_append_row rfl (.tmp 47) (.tmp 53) 32 rfl W2.heap.size 3 iTN _ 1 8 Try.underlying32 HTN.out.1 HTN.out.2.1 HTN.out.2.2.1 HTN.out.2.2.2 rfl (by decide) (.slice (some ⟨W2.heap.size, 0, none⟩) 0 0) 0 [] (by simp [Act.eval, Act.put]) HO1.out (.slice (a2 b) nn (k2 b)) nn (bb.next.map (.int .i64)) (by simp [Act.eval, Act.put]) HNb.out one_numC HQ3.out.1 HQ3.out.2.1 HQ3.out.2.2 ?_
  intro v2 w4 hown hg hv
  simp only [Nat.zero_add, List.nil_append] at hown
  have hb4 : Below W2.heap.size W2 w4 := HBd.out.grown hg HBd.out.size (fun j hj => (HO1.out.lt j hj).1)
  obtain ⟨A5, C5, rfl⟩ := own_eta hown
  have HW4 := Lib.hid hown
  have HC4 := Lib.hid (HB.out.below hb4)
  have hrow4 := HC4.out.bks.row
  rw [HL1.out] at hrow4
  obtain ⟨zz1, r1, y1, hg1⟩ := own_inn hrow4 (i := a * 3 + 1) (by omega)
  obtain ⟨zz2, r2, y2, hg2⟩ := own_inn hrow4 (i := a * 3 + 2) (by omega)
  have hrow5 := own_setd hrow4 (a * 3 + 1) (.int .i64 cc)
  have z2 := HZc.out _ HC4.out.cb HC4.out.fb
  have z3 := HZc.out _ (HC4.out.cb.grown hrow4 (grown_cell w4 gy (a * 3 + 1) (.int .i64 cc))) (bk_grown_t HC4.out.fb hrow4 (by decide) (grown_cell w4 gy (a * 3 + 1) (.int .i64 cc)))
  have z4 := HZc.out _ ((HC4.out.cb.grown hrow4 (grown_cell w4 gy (a * 3 + 1) (.int .i64 cc))).grown hrow5 (grown_cell _ gy (a * 3 + 2) (.slice A5 nn C5))) (bk_grown_t (bk_grown_t HC4.out.fb hrow4 (by decide) (grown_cell w4 gy (a * 3 + 1) (.int .i64 cc))) hrow5 (by decide) (grown_cell _ gy (a * 3 + 2) (.slice A5 nn C5)))
  clear hown hg hv hrow4 hrow5 hb4
  refine hK.out _ _ (by first | exact z0 | exact z1 | exact z2 | exact z3 | exact z4) (fun hH2 => ?_)
  clear hK K hHeld
  have hHeld := hH2
  clear hH2
  (try simp only [Act.put, List.setIfInBounds_toArray, List.set_cons_zero, List.set_cons_succ])
  refine' wpAnyH_take (i := 20) (v := _) ?_ ?_ ?_ ?_ ?_ ?_ ?_ ?_
  rotate_left 2
  focus (simp only [List.getElem?_toArray, List.getElem?_cons_succ, List.getElem?_cons_zero]; rfl)
  focus kernel_rfl
  focus kernel_rfl
  focus kernel_rfl
  focus exact (fun _ _ _ h => h)
  refine Or.inl ⟨?_, ?_⟩
  focus (go_simp; done)
  focus (intro w hSw; (try dsimp only at hSw); (first | (go_simp; done) | (go_simp; with_reducible rfl)))
  focus assumption
  (try simp only [Act.put, List.setIfInBounds_toArray, List.set_cons_zero, List.set_cons_succ])
  refine' wpAnyH_take (i := 21) (v := _) ?_ ?_ ?_ ?_ ?_ ?_ ?_ ?_
  rotate_left 2
  focus (simp only [List.getElem?_toArray, List.getElem?_cons_succ, List.getElem?_cons_zero]; rfl)
  focus kernel_rfl
  focus kernel_rfl
  focus kernel_rfl
  focus exact (fun _ _ _ h => h)
  refine Or.inl ⟨?_, ?_⟩
  focus (go_simp; done)
  focus (intro w hSw; (try dsimp only at hSw); (first | (go_simp; done) | (go_simp; with_reducible rfl)))
  focus assumption
  (try simp only [Act.put, List.setIfInBounds_toArray, List.set_cons_zero, List.set_cons_succ])
  refine wpAnyH_ready (rs := [22]) (by kernel_rfl) (by simp) ?_
  refine' AllReadyH.cons ?_ (fun K hK => ?_) AllReadyH.nil
  rotate_left
  focus (simp only [List.getElem?_toArray, List.getElem?_cons_succ, List.getElem?_cons_zero]; rfl)
  go_simp
  refine hK.out _ _ (by first | exact z0 | exact z1 | exact z2 | exact z3 | exact z4) (fun hH2 => ?_)
  clear hK K hHeld
  have hHeld := hH2
  clear hH2
  (try simp only [Act.put, List.setIfInBounds_toArray, List.set_cons_zero, List.set_cons_succ])
  refine' wpAnyH_take (i := 23) (v := _) ?_ ?_ ?_ ?_ ?_ ?_ ?_ ?_
  rotate_left 2
  focus (simp only [List.getElem?_toArray, List.getElem?_cons_succ, List.getElem?_cons_zero]; rfl)
  focus kernel_rfl
  focus kernel_rfl
  focus kernel_rfl
  focus exact (fun _ _ _ h => h)
  refine Or.inl ⟨?_, ?_⟩
  focus (go_simp; done)
  focus (intro w hSw; (try dsimp only at hSw); (first | (go_simp; done) | (go_simp; with_reducible rfl)))
  focus assumption
  (try simp only [Act.put, List.setIfInBounds_toArray, List.set_cons_zero, List.set_cons_succ])
  refine' wpAnyH_take (i := 24) (v := _) ?_ ?_ ?_ ?_ ?_ ?_ ?_ ?_
  rotate_left 2
  focus (simp only [List.getElem?_toArray, List.getElem?_cons_succ, List.getElem?_cons_zero]; rfl)
  focus kernel_rfl
  focus kernel_rfl
  focus kernel_rfl
  focus exact (fun _ _ _ h => h)
  refine Or.inl ⟨?_, ?_⟩
  focus (go_simp; done)
  focus (intro w hSw; (try dsimp only at hSw); (first | (go_simp; done) | (go_simp; with_reducible rfl)))
  focus assumption
  (try simp only [Act.put, List.setIfInBounds_toArray, List.set_cons_zero, List.set_cons_succ])
  refine wpAnyH_ready (rs := [25]) (by kernel_rfl) (by simp) ?_
  refine' AllReadyH.cons ?_ (fun K hK => ?_) AllReadyH.nil
  rotate_left
  focus (simp only [List.getElem?_toArray, List.getElem?_cons_succ, List.getElem?_cons_zero]; rfl)
  go_simp
  refine hK.out _ _ (by first | exact z0 | exact z1 | exact z2 | exact z3 | exact z4) (fun hH2 => ?_)
  clear hK K hHeld
  have hHeld := hH2
  clear hH2
  (try simp only [Act.put, List.setIfInBounds_toArray, List.set_cons_zero, List.set_cons_succ])
  refine wpAnyH_done (by kernel_rfl) ?_ _

  have HD := Lib.hid (show Oq g w #[.slice Ai g.ins.length ci, .int .i64 g.vars, .int .i64 g.keep, .slice Aa g.ars.length ca, .int .i64 g.sh, .slice (some ⟨bo, off, none⟩) n cb, .slice Aq np cp, .slice Ah g.hds.length ch] #[.slice none 0 0, .int .i64 0, .int .i64 0, .slice none 0 0, .int .i64 0, .slice none 0 0, .slice none 0 0, .slice none 0 0] F (.slice Bi g.ins.length di) (.slice Ba g.ars.length da) (.slice Bh g.hds.length dh) (.slice (some ⟨gy, 0, none⟩) n dy) (.slice Bp np dp) ((us.set a (.slice A4 (nx + no) C4, (us.getD a bkz).2)).set a (((us.set a (.slice A4 (nx + no) C4, (us.getD a bkz).2)).getD a bkz).1, cc, .slice A5 nn C5)) ps (g.blks.set a (Me.jn g.blks a b)) g.pts ((World.setCell w4 ⟨gy, a * 3 + 1, none⟩ (.int .i64 cc)).setCell ⟨gy, a * 3 + 2, none⟩ (.slice A5 nn C5)) from by
    have h := HC4.out.nxt (v := .slice A5 nn C5) (q := bb.next) (c := cc) HL1.out.symm (by rw [HL1.out, ← HNs.out.1]; exact HTk.out.la) (by rw [HBl.out.2.1]; exact own_mono_b HW4.out HB.out.cb.rb.lt) (fun j hj => (ap_late (HB.out.pts.rws.row j (by rw [← HB.out.pts.rws.len]; exact hj)) HW4.out).symm)
    have e : (g.blks.set a ⟨(g.blks.getD a Gr.blk0).ops ++ bb.ops, (g.blks.getD a Gr.blk0).cond, (g.blks.getD a Gr.blk0).next⟩).set a ⟨((g.blks.set a ⟨(g.blks.getD a Gr.blk0).ops ++ bb.ops, (g.blks.getD a Gr.blk0).cond, (g.blks.getD a Gr.blk0).next⟩).getD a Gr.blk0).ops, cc, bb.next⟩ = g.blks.set a (Me.jn g.blks a b) := by
      rw [Me.getD_set HTk.out.la, if_pos rfl, List.set_set]
      unfold Me.jn
      rw [HBb.out, HBl.out.2.2]
    rw [e] at h
    exact h)
  clear HW4 HC4 z0 z1 z2 z3 z4 r1 y1 r2 y2 hg1 hg2 HZc HQ3 HNb HO1 HBd HB HL1 hHeld
  generalize hW : World.setCell _ ⟨gy, a * 3 + 2, none⟩ (.slice A5 nn C5) = W3 at HD ⊢
  clear hW
  obtain ⟨us2, hus⟩ : ∃ x, (us.set a (.slice A4 (nx + no) C4, (us.getD a bkz).2)).set a (((us.set a (.slice A4 (nx + no) C4, (us.getD a bkz).2)).getD a bkz).1, cc, .slice A5 nn C5) = x := ⟨_, rfl⟩
  rw [hus] at HD
  clear hus
  go_wp2
  have HP := Lib.hid (show Oq g w #[.slice Ai g.ins.length ci, .int .i64 g.vars, .int .i64 g.keep, .slice Aa g.ars.length ca, .int .i64 g.sh, .slice (some ⟨bo, off, none⟩) n cb, .slice Aq np cp, .slice Ah g.hds.length ch] #[.slice none 0 0, .int .i64 0, .int .i64 0, .slice none 0 0, .int .i64 0, .slice none 0 0, .slice none 0 0, .slice none 0 0] F (.slice Bi g.ins.length di) (.slice Ba g.ars.length da) (.slice Bh g.hds.length dh) (.slice (some ⟨gy, 0, none⟩) n dy) (.slice Bp np dp) us2 ps (g.blks.set a (Me.jn g.blks a b)) (mxg (List.map (fz a b)) g.pts 0) W3 from by rw [mxg_zero]; exact HD.out)
  clear HD
  go_loopw [9] (fun i wr => ∃ k : Nat, k ≤ np ∧ i = .int .i64 k ∧ Hid (Oq g w #[.slice Ai g.ins.length ci, .int .i64 g.vars, .int .i64 g.keep, .slice Aa g.ars.length ca, .int .i64 g.sh, .slice (some ⟨bo, off, none⟩) n cb, .slice Aq np cp, .slice Ah g.hds.length ch] #[.slice none 0 0, .int .i64 0, .int .i64 0, .slice none 0 0, .int .i64 0, .slice none 0 0, .slice none 0 0, .slice none 0 0] F (.slice Bi g.ins.length di) (.slice Ba g.ars.length da) (.slice Bh g.hds.length dh) (.slice (some ⟨gy, 0, none⟩) n dy) (.slice Bp np dp) us2 ps (g.blks.set a (Me.jn g.blks a b)) (mxg (List.map (fz a b)) g.pts k) wr)) (fun i _ => np - (intOf i).toNat)
  case atStart => exact ⟨0, Nat.zero_le _, rfl, HP⟩
  case round =>
    clear HP
    obtain ⟨k, hk, rfl, HP⟩ := hrel
    have c6 := HP.out.fb.cell 6
    by_cases hlt : k < np
    · have hlt' : (k : Int) < np := by omega
      have hlt0 : (0 : Int) ≤ (k : Int) := by omega
      have hkl : k < g.pts.length := by rw [HNs.out.2]; exact hlt
      have hkm : k < (mxg (List.map (fz a b)) g.pts k).length := by rw [mxg_len]; exact hkl
      have HKl := Lib.hid hkl
      have HKm := Lib.hid hkm
      obtain ⟨gp, hgp⟩ : ∃ gp, Bp = some ⟨gp, 0, none⟩ := by
        obtain ⟨g', c', e, -⟩ := own_at (d := nl) HP.out.pts.out hkm
        injection e with e _ _
        exact ⟨g', e⟩
      subst hgp
      obtain ⟨q, hq⟩ : ∃ q, g.pts.getD k [] = q := ⟨_, rfl⟩
      have HQe := Lib.hid hq
      obtain ⟨nq, hnq⟩ : ∃ n, q.length = n := ⟨_, rfl⟩
      have HQl := Lib.hid hnq
      have hnq1 : nq ≤ 64 := by rw [← hnq, ← hq]; exact HIv.out.ptl _ (Me.getD_mem (d := []) hkl)
      have HQb := Lib.hid (show ∀ x ∈ q, 0 ≤ x ∧ x < (g.blks.length : Int) from by rw [← hq]; exact HIv.out.pt _ (Me.getD_mem (d := []) hkl))
      obtain ⟨Ar, Cr', hr⟩ : ∃ A C, ps.getD k nl = .slice A nq C := by
        have h := HP.out.pts.rws.row k hkm
        rw [mxg_at _ ([] : List Int) hkl, hq, hnq] at h
        exact own_eta h
      have HRe := Lib.hid hr
      have HR := Lib.hid (show Oq g w #[.slice Ai g.ins.length ci, .int .i64 g.vars, .int .i64 g.keep, .slice Aa g.ars.length ca, .int .i64 g.sh, .slice (some ⟨bo, off, none⟩) n cb, .slice Aq np cp, .slice Ah g.hds.length ch] #[.slice none 0 0, .int .i64 0, .int .i64 0, .slice none 0 0, .int .i64 0, .slice none 0 0, .slice none 0 0, .slice none 0 0] F (.slice Bi g.ins.length di) (.slice Ba g.ars.length da) (.slice Bh g.hds.length dh) (.slice (some ⟨gy, 0, none⟩) n dy) (.slice (some ⟨gp, 0, none⟩) np dp) us2 ps (g.blks.set a (Me.jn g.blks a b)) ((mxg (List.map (fz a b)) g.pts k).set k (mx (fz a b) q 0)) wr from by
        have e : (mxg (List.map (fz a b)) g.pts k).set k (mx (fz a b) q 0) = mxg (List.map (fz a b)) g.pts k := by
          have h := set_getD (d := ([] : List Int)) hkm
          rw [mxg_at _ ([] : List Int) hkl, hq] at h
          rw [mx_zero]
          exact h
        rw [e]
        exact HP.out)
      clear hkl hkm hq hnq hr HP
      go_wp2
      clear c6
      go_loopw [10] (fun i wr => ∃ j : Nat, j ≤ nq ∧ i = .int .i64 j ∧ Hid (Oq g w #[.slice Ai g.ins.length ci, .int .i64 g.vars, .int .i64 g.keep, .slice Aa g.ars.length ca, .int .i64 g.sh, .slice (some ⟨bo, off, none⟩) n cb, .slice Aq np cp, .slice Ah g.hds.length ch] #[.slice none 0 0, .int .i64 0, .int .i64 0, .slice none 0 0, .int .i64 0, .slice none 0 0, .slice none 0 0, .slice none 0 0] F (.slice Bi g.ins.length di) (.slice Ba g.ars.length da) (.slice Bh g.hds.length dh) (.slice (some ⟨gy, 0, none⟩) n dy) (.slice (some ⟨gp, 0, none⟩) np dp) us2 ps (g.blks.set a (Me.jn g.blks a b)) ((mxg (List.map (fz a b)) g.pts k).set k (mx (fz a b) q j)) wr)) (fun i _ => nq - (intOf i).toNat)
      case atStart => exact ⟨0, Nat.zero_le _, rfl, HR⟩
      case round =>
        clear HR
        obtain ⟨j, hj, rfl, HR⟩ := hrel
        have c6 := HR.out.fb.cell 6
        have HKs := Lib.hid (show k < ((mxg (List.map (fz a b)) g.pts k).set k (mx (fz a b) q j)).length from by rw [List.length_set]; exact HKm.out)
        have hcl := own_cell nl HR.out.pts.out HKs.out
        have c7 := hcl.1
        rw [HRe.out] at c7
        have HGt := Lib.hid (show ((mxg (List.map (fz a b)) g.pts k).set k (mx (fz a b) q j)).getD k [] = mx (fz a b) q j from by rw [Me.getD_set HKm.out, if_pos rfl])
        clear hcl
        by_cases hlj : j < nq
        · have hlj' : (j : Int) < nq := by omega
          have hlj0 : (0 : Int) ≤ (j : Int) := by omega
          have hjq : j < q.length := by rw [HQl.out]; exact hlj
          have HJm := Lib.hid (show j < (mx (fz a b) q j).length from by rw [mx_len]; exact hjq)
          obtain ⟨gr, cr, hrr, hr3, hr4⟩ : ∃ gr cr, Ar = some ⟨gr, 0, none⟩ ∧ wr.cell? ⟨gr, j, none⟩ = some (.int .i64 (q.getD j 0)) ∧ wr.frozen? ⟨gr, j, none⟩ = false := by
            have h := HR.out.pts.rws.row k HKs.out
            rw [HGt.out] at h
            obtain ⟨g', c', e, -, -, h3, h4⟩ := own_num h HJm.out
            rw [HRe.out] at e
            injection e with e _ _
            rw [mx_at _ hjq] at h3
            exact ⟨g', c', e, h3, h4⟩
          subst hrr
          have HMx := Lib.hid (mx_set (fz a b) hjq)
          have HMa := Lib.hid (mx_at (fz a b) hjq)
          obtain ⟨x, hx⟩ : ∃ x, q.getD j 0 = x := ⟨_, rfl⟩
          rw [hx] at hr3 HMx HMa
          clear hx hjq
          by_cases hxb : x = (b : Int)
          · subst hxb
            have HN := Lib.hid (show Oq g w #[.slice Ai g.ins.length ci, .int .i64 g.vars, .int .i64 g.keep, .slice Aa g.ars.length ca, .int .i64 g.sh, .slice (some ⟨bo, off, none⟩) n cb, .slice Aq np cp, .slice Ah g.hds.length ch] #[.slice none 0 0, .int .i64 0, .int .i64 0, .slice none 0 0, .int .i64 0, .slice none 0 0, .slice none 0 0, .slice none 0 0] F (.slice Bi g.ins.length di) (.slice Ba g.ars.length da) (.slice Bh g.hds.length dh) (.slice (some ⟨gy, 0, none⟩) n dy) (.slice (some ⟨gp, 0, none⟩) np dp) us2 ps (g.blks.set a (Me.jn g.blks a b)) ((mxg (List.map (fz a b)) g.pts k).set k (mx (fz a b) q (j + 1))) (wr.setCell ⟨gr, j, none⟩ (.int .i64 (a : Int))) from by
              have h := HR.out.pnt (z := (a : Int)) HKs.out HRe.out (by rw [HGt.out]; exact HJm.out)
              rw [HGt.out, List.set_set] at h
              have e : (mx (fz a b) q j).set j (a : Int) = mx (fz a b) q (j + 1) := by
                rw [← HMx.out]
                unfold fz
                rw [if_pos rfl]
              rw [e] at h
              exact h)
            clear HR
            go_wp2
            clear c6 c7 hr3 hr4
            go_roundw
            case rel => exact ⟨j + 1, by omega, by first | rfl | go_num, HN⟩
            case measure => simp [intOf]; omega
          · have exb : (x == (b : Int)) = false := by simp [hxb]
            have HN := Lib.hid (show Oq g w #[.slice Ai g.ins.length ci, .int .i64 g.vars, .int .i64 g.keep, .slice Aa g.ars.length ca, .int .i64 g.sh, .slice (some ⟨bo, off, none⟩) n cb, .slice Aq np cp, .slice Ah g.hds.length ch] #[.slice none 0 0, .int .i64 0, .int .i64 0, .slice none 0 0, .int .i64 0, .slice none 0 0, .slice none 0 0, .slice none 0 0] F (.slice Bi g.ins.length di) (.slice Ba g.ars.length da) (.slice Bh g.hds.length dh) (.slice (some ⟨gy, 0, none⟩) n dy) (.slice (some ⟨gp, 0, none⟩) np dp) us2 ps (g.blks.set a (Me.jn g.blks a b)) ((mxg (List.map (fz a b)) g.pts k).set k (mx (fz a b) q (j + 1))) wr from by
              have e : mx (fz a b) q (j + 1) = mx (fz a b) q j := by
                rw [← HMx.out]
                unfold fz
                rw [if_neg hxb]
                have h := set_getD (d := (0 : Int)) HJm.out
                rw [HMa.out] at h
                exact h
              rw [e]
              exact HR.out)
            clear HR hxb
            go_wp2
            clear c6 c7 hr3 hr4 exb
            go_roundw
            case rel => exact ⟨j + 1, by omega, by first | rfl | go_num, HN⟩
            case measure => simp [intOf]; omega
        · have hlj' : ¬ (j : Int) < nq := by omega
          obtain rfl : nq = j := by omega
          have HN := Lib.hid (show Oq g w #[.slice Ai g.ins.length ci, .int .i64 g.vars, .int .i64 g.keep, .slice Aa g.ars.length ca, .int .i64 g.sh, .slice (some ⟨bo, off, none⟩) n cb, .slice Aq np cp, .slice Ah g.hds.length ch] #[.slice none 0 0, .int .i64 0, .int .i64 0, .slice none 0 0, .int .i64 0, .slice none 0 0, .slice none 0 0, .slice none 0 0] F (.slice Bi g.ins.length di) (.slice Ba g.ars.length da) (.slice Bh g.hds.length dh) (.slice (some ⟨gy, 0, none⟩) n dy) (.slice (some ⟨gp, 0, none⟩) np dp) us2 ps (g.blks.set a (Me.jn g.blks a b)) (mxg (List.map (fz a b)) g.pts (k + 1)) wr from by
            have e : (mxg (List.map (fz a b)) g.pts k).set k (mx (fz a b) q nq) = mxg (List.map (fz a b)) g.pts (k + 1) := by
              rw [← mxg_set (List.map (fz a b)) ([] : List Int) HKl.out, HQe.out, ← HQl.out, mx_all]
            rw [← e]
            exact HR.out)
          clear HR
          go_wp2
          clear c6 c7
          go_roundw
          case rel => exact ⟨k + 1, by omega, by first | rfl | go_num, HN⟩
          case measure => simp [intOf]; omega
    · have hlt' : ¬ (k : Int) < np := by omega
      obtain rfl : np = k := by omega
      have HX := Lib.hid (show Oq g w #[.slice Ai g.ins.length ci, .int .i64 g.vars, .int .i64 g.keep, .slice Aa g.ars.length ca, .int .i64 g.sh, .slice (some ⟨bo, off, none⟩) n cb, .slice Aq np cp, .slice Ah g.hds.length ch] #[.slice none 0 0, .int .i64 0, .int .i64 0, .slice none 0 0, .int .i64 0, .slice none 0 0, .slice none 0 0, .slice none 0 0] F (.slice Bi g.ins.length di) (.slice Ba g.ars.length da) (.slice Bh g.hds.length dh) (.slice (some ⟨gy, 0, none⟩) n dy) (.slice Bp np dp) us2 ps (g.blks.set a (Me.jn g.blks a b)) (g.pts.map (List.map (fz a b))) wr from by
        have h := HP.out
        have e : mxg (List.map (fz a b)) g.pts np = g.pts.map (List.map (fz a b)) := by rw [← HNs.out.2, mxg_all]
        rw [e] at h
        exact h)
      clear HP
      have g5 := HX.out.cb.gb.cell 5
      have hmk := mk_ints n (by omega)
      go_wp2
      clear c6 g5 hmk
      obtain ⟨U, hU⟩ : ∃ U, U = wr := ⟨_, rfl⟩
      subst hU
      have HT := Lib.hid (show Below U.heap.size U (U.alloc (.cells (slRow n (fun _ => .int .i64 0)) 3)) ∧ (U.alloc (.cells (slRow n (fun _ => .int .i64 0)) 3)).ownsRow U.heap.size 3 1 (.slice (some ⟨U.heap.size, 0, none⟩) n n) n ((tlK n b 0).map (.int .i64)) from ⟨bla (Below.refl _ _) _, by rw [tlK_zero]; exact own_ints U n (by omega)⟩)
      go_loopw [13, 12] (fun i c wr => ∃ (k : Nat) (z : Int), k ≤ n ∧ i = .int .i64 k ∧ c = .int .i64 z ∧ 0 ≤ z ∧ z ≤ 64 ∧ Hid (z = cn1 b k ∧ Below U.heap.size U wr ∧ wr.ownsRow U.heap.size 3 1 (.slice (some ⟨U.heap.size, 0, none⟩) n n) n ((tlK n b k).map (.int .i64)))) (fun i _ _ => n - (intOf i).toNat)
      case atStart => exact ⟨0, 0, Nat.zero_le _, rfl, rfl, Int.le_refl _, by omega, Lib.hid ⟨by unfold cn1; simp, HT.out⟩⟩
      case round =>
        clear HT
        obtain ⟨k, z, hk, rfl, rfl, hz0, hz1, HT⟩ := hrel
        by_cases hlt : k < n
        · have hlt' : (k : Int) < n := by omega
          have hlt0 : (0 : Int) ≤ (k : Int) := by omega
          obtain ⟨zz, r, y, hgl⟩ := own_inn HT.out.2.2 (i := k) (by omega)
          have hlU := HT.out.2.1.size
          have HTa := Lib.hid (Me.tl_at (b := b) (show k < n from hlt))
          have HTs := Lib.hid (tlK_set (b := b) (show k < n from hlt))
          by_cases hkb : k = b
          · subst hkb
            have HN := Lib.hid (show Below U.heap.size U ((wr.setCell ⟨U.heap.size, k, none⟩ (.int .i64 z)).setCell ⟨U.heap.size, k, none⟩ (.int .i64 (-1))) ∧ ((wr.setCell ⟨U.heap.size, k, none⟩ (.int .i64 z)).setCell ⟨U.heap.size, k, none⟩ (.int .i64 (-1))).ownsRow U.heap.size 3 1 (.slice (some ⟨U.heap.size, 0, none⟩) n n) n ((tlK n k (k + 1)).map (.int .i64)) from by
              refine ⟨(HT.out.2.1.setCell (Nat.le_refl _) _).setCell (Nat.le_refl _) _, ?_⟩
              have h := own_setd (own_setd HT.out.2.2 k (.int .i64 z)) k (.int .i64 (-1))
              rw [List.set_set, ← List.map_set] at h
              have e : (tlK n k k).set k (-1) = tlK n k (k + 1) := by rw [← HTs.out, HTa.out, if_pos rfl]
              rw [e] at h
              exact h)
            have HZ := Lib.hid (show z = cn1 k (k + 1) from by rw [HT.out.1]; unfold cn1; rw [if_pos (Nat.le_refl _), if_neg (by omega)]; omega)
            clear HT
            go_wp2
            clear r y hgl hlU
            go_roundw
            case rel => exact ⟨k + 1, z, by omega, by first | rfl | go_num, rfl, hz0, hz1, Lib.hid ⟨HZ.out, HN.out⟩⟩
            case measure => simp [intOf]; omega
          · have ekb : ((k : Int) == (b : Int)) = false := by simp; omega
            have HN := Lib.hid (show Below U.heap.size U (wr.setCell ⟨U.heap.size, k, none⟩ (.int .i64 z)) ∧ (wr.setCell ⟨U.heap.size, k, none⟩ (.int .i64 z)).ownsRow U.heap.size 3 1 (.slice (some ⟨U.heap.size, 0, none⟩) n n) n ((tlK n b (k + 1)).map (.int .i64)) from by
              refine ⟨HT.out.2.1.setCell (Nat.le_refl _) _, ?_⟩
              have h := own_setd HT.out.2.2 k (.int .i64 z)
              rw [← List.map_set] at h
              have e : (tlK n b k).set k z = tlK n b (k + 1) := by
                rw [← HTs.out, HTa.out, HT.out.1]
                congr 1
                unfold cn1
                rw [if_neg hkb]
                by_cases h1 : k < b
                · rw [if_pos (by omega), if_pos h1]
                · rw [if_neg (by omega), if_neg h1]
              rw [e] at h
              exact h)
            have HZ := Lib.hid (show z + 1 = cn1 b (k + 1) ∧ z + 1 ≤ 64 from by
              rw [HT.out.1]
              unfold cn1
              by_cases h1 : k < b
              · rw [if_pos (by omega), if_pos (by omega)]; omega
              · rw [if_neg (by omega), if_neg (by omega)]; omega)
            clear HT hkb
            go_wp2
            clear r y hgl hlU ekb
            go_roundw
            case rel => exact ⟨k + 1, z + 1, by omega, by first | rfl | go_num, by first | rfl | go_num, by omega, HZ.out.2, Lib.hid ⟨HZ.out.1, HN.out⟩⟩
            case measure => simp [intOf]; omega
        · have hlt' : ¬ (k : Int) < n := by omega
          obtain rfl : n = k := by omega
          have HT2 := Lib.hid (show Below U.heap.size U wr ∧ wr.ownsRow U.heap.size 3 1 (.slice (some ⟨U.heap.size, 0, none⟩) n n) n ((Me.tl n b).map (.int .i64)) from by
            have h := HT.out.2
            rw [tlK_all] at h
            exact h)
          clear HT
          have HXw := Lib.hid (HX.out.below HT2.out.1)
          have HGr := Lib.hid (show GrIn wr (Me.xg g a b) (.slice Bi g.ins.length di) (.slice Ba g.ars.length da) (.slice (some ⟨gy, 0, none⟩) n dy) (.slice Bp np dp) (.slice Bh g.hds.length dh) from HXw.out.gr)
          have HNm := Lib.hid (show NumsIn wr (.slice (some ⟨U.heap.size, 0, none⟩) n n) (Me.tl n b) from by
            have h := RowIn.own HT2.out.2
            unfold NumsIn
            rw [Me.tl_len]
            exact h)
          have HRk := Lib.hid (show Rk (Me.xg g a b) (Me.tl n b) from by have h := rk_xg HIv.out HTk.out; rw [HNs.out.1] at h; exact h)
          have HRj := Lib.hid (show Me.ren (Me.xg g a b) (Me.tl n b) = Me.join g a b from by have h := Me.ren_join HIv.out HTk.out; rw [HNs.out.1] at h; exact h)
          have HGU := Lib.hid (show w.heap.size + 1 + 1 ≤ U.heap.size from HX.out.cb.rb.lt)
          have HGw := Lib.hid (show U.heap.size < wr.heap.size from (HT2.out.2.lt _ rfl).2)
          have c0 := HXw.out.fb.cell 0
          have c1 := HXw.out.fb.cell 1
          have c2 := HXw.out.fb.cell 2
          have c3 := HXw.out.fb.cell 3
          have c4 := HXw.out.fb.cell 4
          have c5 := HXw.out.fb.cell 5
          have c6 := HXw.out.fb.cell 6
          have c7 := HXw.out.fb.cell 7
          go_wp2_with fail
          refine (renamed_any (Me.xg g a b) (Me.tl n b) _ _ _ _ _ _ wr HGr.out HNm.out HRk.out).mono ?_
          rintro e w5 ⟨vi5, va5, vb5, vp5, vh5, us5, ps5, rfl, hb5, hgf⟩
          rw [HRj.out] at hgf
          rw [show (Me.xg g a b).vars = g.vars from rfl, show (Me.xg g a b).keep = g.keep from rfl, show (Me.xg g a b).sh = g.sh from rfl]
          have HT5 := Lib.hid (own_below HT2.out.2 hb5)
          have HC5 := Lib.hid (HXw.out.cb.below hb5)
          obtain ⟨D1, e1, rfl⟩ := own_eta hgf.ins
          obtain ⟨D2, e2, rfl⟩ := own_eta hgf.ars
          obtain ⟨D3, e3, rfl⟩ := own_eta hgf.bks.row
          obtain ⟨D4, e4, rfl⟩ := own_eta hgf.po
          obtain ⟨D5, e5, rfl⟩ := own_eta hgf.hds
          have HGf := Lib.hid hgf
          have HW5 := Lib.hid hb5.size
          clear hgf hb5 c0 c1 c2 c3 c4 c5 c6 c7 HNm HGr HRk HRj HXw
          obtain ⟨l1, hl1⟩ : ∃ n, (Me.join g a b).ins.length = n := ⟨_, rfl⟩
          obtain ⟨l2, hl2⟩ : ∃ n, (Me.join g a b).ars.length = n := ⟨_, rfl⟩
          obtain ⟨l3, hl3⟩ : ∃ n, (Me.join g a b).blks.length = n := ⟨_, rfl⟩
          obtain ⟨l4, hl4⟩ : ∃ n, (Me.join g a b).pts.length = n := ⟨_, rfl⟩
          obtain ⟨l5, hl5⟩ : ∃ n, (Me.join g a b).hds.length = n := ⟨_, rfl⟩
          rw [hl1, hl2, hl3, hl4, hl5] at HGf ⊢
          clear hl1 hl2 hl3 hl4 hl5
          go_upto_region 22 with fail
          obtain ⟨gt, hgt⟩ : ∃ t, U.heap.size = t := ⟨_, rfl⟩
          rw [hgt] at HT5 HGU HGw ⊢
          have hbk : Below w5.heap.size w5 (w5.alloc (.cells #[.slice D1 l1 e1, .int .i64 g.vars, .int .i64 g.keep, .slice D2 l2 e2, .int .i64 g.sh, .slice D3 l3 e3, .slice D4 l4 e4, .slice D5 l5 e5] 40)) := bla (Below.refl _ _) _
          have HT6 := Lib.hid (own_below HT5.out hbk)
          have HF6 := Lib.hid (Bk.new w5 40 #[.slice D1 l1 e1, .int .i64 g.vars, .int .i64 g.keep, .slice D2 l2 e2, .int .i64 g.sh, .slice D3 l3 e3, .slice D4 l4 e4, .slice D5 l5 e5])
          have HC6 := Lib.hid (HC5.out.below hbk)
          have HG6 := Lib.hid (HGf.out.below hbk)
          have HGt5 := Lib.hid (show gt < w5.heap.size from Nat.lt_of_lt_of_le HGw.out HW5.out)
          clear hgt hbk HT5 HC5 HGf HT2 HX
          obtain ⟨F2, hF2⟩ : ∃ t, w5.heap.size = t := ⟨_, rfl⟩
          rw [hF2] at HF6 HGt5 ⊢
          generalize hW : World.alloc w5 (.cells #[.slice D1 l1 e1, .int .i64 g.vars, .int .i64 g.keep, .slice D2 l2 e2, .int .i64 g.sh, .slice D3 l3 e3, .slice D4 l4 e4, .slice D5 l5 e5] 40) = W6 at HT6 HF6 HC6 HG6 ⊢
          clear hW hF2
          obtain ⟨zz, r, y, hgl⟩ := own_inn HT6.out (i := b) (by omega)
          obtain ⟨ta, hta⟩ : ∃ z, (Me.tl n b).getD a 0 = z := ⟨_, rfl⟩
          have xa : W6.cell? ⟨gt, a, none⟩ = some (.int .i64 ta) := by
            have h : W6.ownsRow gt 3 1 (.slice (some ⟨gt, 0, none⟩) (Me.tl n b).length n) (Me.tl n b).length ((Me.tl n b).map (.int .i64)) := by rw [Me.tl_len]; exact HT6.out
            obtain ⟨g', c', e, -, -, h3, -⟩ := own_num h (i := a) (by rw [Me.tl_len]; omega)
            injection e with e _ _
            injection e with e
            injection e with e _ _
            subst e
            rw [← hta]
            exact h3
          go_upto_region 23 with fail
          have HT7 := Lib.hid (show (W6.setCell ⟨gt, b, none⟩ (.int .i64 ta)).ownsRow gt 3 1 (.slice (some ⟨gt, 0, none⟩) n n) n ((Me.tl2 n a b).map (.int .i64)) from by
            have h := own_setd HT6.out b (.int .i64 ta)
            have e : (Me.tl n b).set b ta = Me.tl2 n a b := by rw [← hta]; rfl
            rw [← List.map_set, e] at h
            exact h)
          have HF7 := Lib.hid (HF6.out.far (p := ⟨gt, b, none⟩) (by show F2 ≠ gt; have := HGt5.out; omega) (.int .i64 ta))
          have HC7 := Lib.hid (HC6.out.at HGU.out b (.int .i64 ta))
          have HG7 := Lib.hid (HG6.out.far (q := ⟨gt, b, none⟩) (by show gt < wr.heap.size + 1 + 1; have := HGw.out; omega) (.int .i64 ta))
          clear HT6 HF6 HC6 HG6 r y hgl xa
          generalize hW : World.setCell W6 ⟨gt, b, none⟩ (.int .i64 ta) = W7 at HT7 HF7 HC7 HG7 ⊢
          clear hW W6
          have c0 := HF7.out.cell 0
          have z0 := HC7.out.rb.cell 0
          have y0 := HC7.out.rb.frozen 0
          have c1 := HF7.out.cell 1
          have z1 := HC7.out.rb.cell 1
          have y1 := HC7.out.rb.frozen 1
          have c2 := HF7.out.cell 2
          have z2 := HC7.out.rb.cell 2
          have y2 := HC7.out.rb.frozen 2
          have c3 := HF7.out.cell 3
          have z3 := HC7.out.rb.cell 3
          have y3 := HC7.out.rb.frozen 3
          have c4 := HF7.out.cell 4
          have z4 := HC7.out.rb.cell 4
          have y4 := HC7.out.rb.frozen 4
          have c5 := HF7.out.cell 5
          have z5 := HC7.out.rb.cell 5
          have y5 := HC7.out.rb.frozen 5
          have c6 := HF7.out.cell 6
          have z6 := HC7.out.rb.cell 6
          have y6 := HC7.out.rb.frozen 6
          have c7 := HF7.out.cell 7
          have z7 := HC7.out.rb.cell 7
          have y7 := HC7.out.rb.frozen 7
          have HC8 := Lib.hid (((((((((HC7.out.res 0 (.slice D1 l1 e1)).res 1 (.int .i64 g.vars)).res 2 (.int .i64 g.keep)).res 3 (.slice D2 l2 e2)).res 4 (.int .i64 g.sh)).res 5 (.slice D3 l3 e3)).res 6 (.slice D4 l4 e4)).res 7 (.slice D5 l5 e5)))
          have HG8 := Lib.hid (((((((((HG7.out.far (q := ⟨w.heap.size + 1, 0, none⟩) (by show w.heap.size + 1 < wr.heap.size + 1 + 1; have := HGU.out; have := HGw.out; omega) (.slice D1 l1 e1)).far (q := ⟨w.heap.size + 1, 1, none⟩) (by show w.heap.size + 1 < wr.heap.size + 1 + 1; have := HGU.out; have := HGw.out; omega) (.int .i64 g.vars)).far (q := ⟨w.heap.size + 1, 2, none⟩) (by show w.heap.size + 1 < wr.heap.size + 1 + 1; have := HGU.out; have := HGw.out; omega) (.int .i64 g.keep)).far (q := ⟨w.heap.size + 1, 3, none⟩) (by show w.heap.size + 1 < wr.heap.size + 1 + 1; have := HGU.out; have := HGw.out; omega) (.slice D2 l2 e2)).far (q := ⟨w.heap.size + 1, 4, none⟩) (by show w.heap.size + 1 < wr.heap.size + 1 + 1; have := HGU.out; have := HGw.out; omega) (.int .i64 g.sh)).far (q := ⟨w.heap.size + 1, 5, none⟩) (by show w.heap.size + 1 < wr.heap.size + 1 + 1; have := HGU.out; have := HGw.out; omega) (.slice D3 l3 e3)).far (q := ⟨w.heap.size + 1, 6, none⟩) (by show w.heap.size + 1 < wr.heap.size + 1 + 1; have := HGU.out; have := HGw.out; omega) (.slice D4 l4 e4)).far (q := ⟨w.heap.size + 1, 7, none⟩) (by show w.heap.size + 1 < wr.heap.size + 1 + 1; have := HGU.out; have := HGw.out; omega) (.slice D5 l5 e5)))
          have HT8 := Lib.hid ((ownsRow_setCell_below ((ownsRow_setCell_below ((ownsRow_setCell_below ((ownsRow_setCell_below ((ownsRow_setCell_below ((ownsRow_setCell_below ((ownsRow_setCell_below ((ownsRow_setCell_below (HT7.out) (a := ⟨w.heap.size + 1, 0, none⟩) (by show w.heap.size + 1 < gt; have := HGU.out; omega) (.slice D1 l1 e1))) (a := ⟨w.heap.size + 1, 1, none⟩) (by show w.heap.size + 1 < gt; have := HGU.out; omega) (.int .i64 g.vars))) (a := ⟨w.heap.size + 1, 2, none⟩) (by show w.heap.size + 1 < gt; have := HGU.out; omega) (.int .i64 g.keep))) (a := ⟨w.heap.size + 1, 3, none⟩) (by show w.heap.size + 1 < gt; have := HGU.out; omega) (.slice D2 l2 e2))) (a := ⟨w.heap.size + 1, 4, none⟩) (by show w.heap.size + 1 < gt; have := HGU.out; omega) (.int .i64 g.sh))) (a := ⟨w.heap.size + 1, 5, none⟩) (by show w.heap.size + 1 < gt; have := HGU.out; omega) (.slice D3 l3 e3))) (a := ⟨w.heap.size + 1, 6, none⟩) (by show w.heap.size + 1 < gt; have := HGU.out; omega) (.slice D4 l4 e4))) (a := ⟨w.heap.size + 1, 7, none⟩) (by show w.heap.size + 1 < gt; have := HGU.out; omega) (.slice D5 l5 e5)))
          clear HC7 HG7 HT7
          go_wp2
          refine bodyPost_ret (v := .tuple #[.agg #[.slice D1 l1 e1, .int .i64 g.vars, .int .i64 g.keep, .slice D2 l2 e2, .int .i64 g.sh, .slice D3 l3 e3, .slice D4 l4 e4, .slice D5 l5 e5], .slice (some ⟨gt, 0, none⟩) n n]) (by simp [results, Try.results71, go_sem, z0, z1, z2, z3, z4, z5, z6, z7]) rfl ⟨_, _, _, _, _, _, us5, ps5, rfl, HC8.out.low, HG8.out.mono (by have := HGU.out; have := HGw.out; omega), ?_⟩
          rw [HNs.out.1]
          exact own_mono_b HT8.out HGU.out
end Go.Proofs.Ytojnhdkclabkgaa
