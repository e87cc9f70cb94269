/- The specification of layer 14: Fold. No condition. -/
import Derived.Test.YtojflhkmonicoaaGreatFoRefI
import Derived.Test.YtojflhkmonicoaaGreatGrCopy
import Derived.Test.YtojflhkmonicoaaGreatGrRefD
import Derived.Test.YtojflhkmonicoaaGreatFoGE
namespace Go.Proofs.YtojflhkmonicoaaGreat
open Go.RowKit
set_option linter.unusedVariables false
set_option linter.unusedSimpArgs false
attribute [local go_sem] y_undef
/-- What Check's lets pass says of blocks. -/
theorem okv_of {g : Gr.G} (h : Gr.chk g = 0) : ∃ V : Nat, g.vars = (V : Int) ∧ V ≤ 64 ∧ ∀ k, k < g.blks.length → (∀ j, j < (g.blks.getD k Gr.blk0).ops.length → Fo.Good V ((g.blks.getD k Gr.blk0).ops.getD j Gr.op0)) ∧ ((g.blks.getD k Gr.blk0).next.length = 2 → 0 ≤ (g.blks.getD k Gr.blk0).cond ∧ (g.blks.getD k Gr.blk0).cond < V) := by
  unfold Gr.chk at h
  split at h
  · exact absurd h (by decide)
  · rename_i hb
    split at h
    · rename_i hr
      have hb' : Gr.big g = false := by simpa using hb
      unfold Gr.big Gr.manyB at hb'
      simp only [Bool.or_eq_false_iff, decide_eq_false_iff_not] at hb'
      obtain ⟨⟨⟨⟨b1, b2⟩, b3⟩, b4⟩, b5⟩ := hb'
      unfold Gr.right at hr
      simp only [Bool.and_eq_true] at hr
      obtain ⟨⟨⟨hd, he, hk⟩, hp⟩, hh⟩ := hr
      unfold Gr.datOk at hd
      simp only [Bool.and_eq_true] at hd
      have d1 := Fo.inn_of hd.1.1.1.1
      have hV : g.vars = (g.vars.toNat : Int) := by omega
      refine ⟨g.vars.toNat, hV, by omega, fun k hkk => ?_⟩
      have hbk := all_at (show (List.range g.blks.length).all (fun k => Gr.blkOk g.vars g.ars.length g.blks.length (g.blks.getD k Gr.blk0)) = true from hk) hkk
      unfold Gr.blkOk at hbk
      rw [Bool.and_eq_true] at hbk
      refine ⟨fun j hj => ?_, fun h2 => ?_⟩
      · have hj' := all_at (show (List.range (g.blks.getD k Gr.blk0).ops.length).all (Gr.opAt g.vars g.ars.length (g.blks.getD k Gr.blk0).ops) = true from hbk.1) hj
        unfold Gr.opAt at hj'
        simp only [Bool.and_eq_true] at hj'
        rw [← hV]
        exact Fo.good_of (A := g.ars.length) (by omega) (by omega) hj'.1.1
      · have hnx := hbk.2
        unfold Gr.nxOk at hnx
        rw [Bool.and_eq_true, if_pos h2, Bool.and_eq_true] at hnx
        have := Fo.inn_of hnx.2.2
        omega
    · exact absurd h (by decide)
/-- The blocks, the first k folded. -/
def Fo.bmix (l : List Gr.Blk) (k : Nat) : List Gr.Blk := (List.range l.length).map fun i => if i < k then Fo.blk (l.getD i Gr.blk0) else l.getD i Gr.blk0
theorem bmix_len (l : List Gr.Blk) (k : Nat) : (Fo.bmix l k).length = l.length := by unfold Fo.bmix; simp
theorem bmix_get {l : List Gr.Blk} {k i : Nat} (hi : i < l.length) : (Fo.bmix l k).getD i Gr.blk0 = if i < k then Fo.blk (l.getD i Gr.blk0) else l.getD i Gr.blk0 := by
  unfold Fo.bmix
  rw [List.getD, List.getElem?_map, List.getElem?_range hi]
  rfl
theorem blks_ext {l l' : List Gr.Blk} (hl : l.length = l'.length) (h : ∀ i, i < l.length → l.getD i Gr.blk0 = l'.getD i Gr.blk0) : l = l' := by
  apply List.ext_getElem hl
  intro i h1 h2
  have := h i h1
  simpa [List.getD, List.getElem?_eq_getElem h1, List.getElem?_eq_getElem h2] using this
theorem bmix_zero (l : List Gr.Blk) : Fo.bmix l 0 = l := blks_ext (bmix_len _ _) fun i hi => by
  rw [bmix_len] at hi
  rw [bmix_get hi, if_neg (Nat.not_lt_zero _)]
theorem bmix_all (l : List Gr.Blk) : Fo.bmix l l.length = l.map Fo.blk := blks_ext (by rw [bmix_len, List.length_map]) fun i hi => by
  rw [bmix_len] at hi
  rw [bmix_get hi, if_pos hi]
  simp [List.getD, List.getElem?_eq_getElem hi]
theorem bmix_set {l : List Gr.Blk} {k : Nat} (hk : k < l.length) : (Fo.bmix l k).set k (Fo.blk (l.getD k Gr.blk0)) = Fo.bmix l (k + 1) := blks_ext (by rw [List.length_set, bmix_len, bmix_len]) fun i hi => by
  rw [List.length_set, bmix_len] at hi
  rw [bmix_get hi, List.getD, List.getElem?_set]
  by_cases e : k = i
  · subst e
    rw [if_pos rfl, if_pos (by rw [bmix_len]; exact hi), if_pos (Nat.lt_succ_self _)]
    rfl
  · have hm := bmix_get (k := k) hi
    rw [List.getD] at hm
    rw [if_neg e, hm]
    by_cases h1 : i < k
    · rw [if_pos h1, if_pos (by omega)]
    · rw [if_neg h1, if_neg (by omega)]
theorem ones_succ (k : Nat) : Fo.ones (k + 1) = Fo.ones k ++ [[(k : Int)]] := by
  unfold Fo.ones
  rw [List.range_succ, List.map_append]
  rfl
theorem getD_setv {l : List (Value × Int × Value)} {i j : Nat} {x : Value × Int × Value} (hj : j < l.length) : (l.set i x).getD j bkz = if i = j then x else l.getD j bkz := by
  simp only [List.getD, List.getElem?_set]
  by_cases e : i = j
  · subst e; simp [hj]
  · simp [e]
theorem getD_setb {l : List Gr.Blk} {i j : Nat} {x : Gr.Blk} (hj : j < l.length) : (l.set i x).getD j Gr.blk0 = if i = j then x else l.getD j Gr.blk0 := by
  simp only [List.getD, List.getElem?_set]
  by_cases e : i = j
  · subst e; simp [hj]
  · simp [e]
theorem ptsin_below {w w' : World} {v : Value} {l : List (List Int)} (h : PtsIn w v l) (hb : Below w.heap.size w w') : PtsIn w' v l := by
  obtain ⟨A, c, a1, c1, e, ho⟩ := h
  refine ⟨A, c, a1, c1, e, fun i hi => ?_⟩
  obtain ⟨b, off, eA, hlt, hc, hq, hs⟩ := ho i hi
  exact ⟨b, off, eA, Nat.lt_of_lt_of_le hlt hb.size, (hb.cell (p := ⟨b, off + i, none⟩) hlt).trans hc, hq.below hb, hs⟩
section
variable {w u u' : World} {base : Nat} {us : List (Value × Int × Value)} {l : List Gr.Blk}
/-- A block's operations have turned, and its cells are set. -/
theorem Bks.upd {gy cy i : Nat} {x : Value × Int × Value} {b : Gr.Blk} (h : Bks base u (.slice (some ⟨gy, 0, none⟩) l.length cy) us l) (hi : i < l.length) (hg : u.grownBy u' (us.getD i bkz).1.ownBlock) (hx : Bq base u' x b) (hx1 : x.1 = (us.getD i bkz).1) :
    Bks base (((u'.setCell ⟨gy, i * 3, none⟩ x.1).setCell ⟨gy, i * 3 + 1, none⟩ (.int .i64 x.2.1)).setCell ⟨gy, i * 3 + 2, none⟩ x.2.2) (.slice (some ⟨gy, 0, none⟩) l.length cy) (us.set i x) (l.set i b) := by
  have hl := h.len
  have hO := (h.el i hi).ops
  have hrow := own_grown_t h.row hO (by decide) hg
  have hrow2 := own_setc (own_setc (own_setc hrow (i * 3) x.1) (i * 3 + 1) (.int .i64 x.2.1)) (i * 3 + 2) x.2.2
  rw [set_bk] at hrow2
  obtain ⟨cur, hc⟩ := own_bk hrow
  have st : ∀ {b' sz n : Nat} {e : TypeId} {v : Value} {xs : List Value}, u'.ownsRow b' e sz v n xs → e ≠ 40 → (((u'.setCell ⟨gy, i * 3, none⟩ x.1).setCell ⟨gy, i * 3 + 1, none⟩ (.int .i64 x.2.1)).setCell ⟨gy, i * 3 + 2, none⟩ x.2.2).ownsRow b' e sz v n xs :=
    fun h' hne => own_store_b (own_store_b (own_store_b h' hc hne) (hc.set (i * 3) x.1) hne) ((hc.set (i * 3) x.1).set (i * 3 + 1) (.int .i64 x.2.1)) hne
  refine ⟨by rw [List.length_set]; exact hrow2, by simp [hl], fun j hj => ?_, fun j k hj hk hne => ?_⟩
  · rw [List.length_set] at hj
    rw [getD_setv (by omega), getD_setb hj]
    by_cases e : i = j
    · rw [if_pos e, if_pos e]
      exact ⟨hx.cnd, st hx.ops (by decide), st hx.nxt (by decide)⟩
    · rw [if_neg e, if_neg e]
      have hq := h.el j hj
      exact ⟨hq.cnd, st (own_ap hq.ops hg (h.ap j i hj hi (fun e' => e e'.symm))) (by decide), st (own_grown_t hq.nxt hO (by decide) hg) (by decide)⟩
  · rw [List.length_set] at hj hk
    have hf : ∀ q, q < l.length → ((us.set i x).getD q bkz).1 = (us.getD q bkz).1 := fun q hq => by
      rw [getD_setv (by omega)]
      by_cases e : i = q
      · subst e; rw [if_pos rfl, hx1]
      · rw [if_neg e]
    rw [hf j hj, hf k hk]
    exact h.ap j k hj hk hne
theorem Mps.grownT {base' sz n : Nat} {e : TypeId} {y v : Value} {ps xs : List Value} {ts : List (List Int)} (h : Mps base u y ps ts) (hy : u.ownsRow base' e sz v n xs) (h1 : 38 ≠ e) (h2 : 3 ≠ e) (hg : u.grownBy u' v.ownBlock) : Mps base u' y ps ts :=
  ⟨own_grown_t h.1 hy h1 hg, fun i x hx => own_grown_t (h.2.1 i x hx) hy h2 hg, h.2.2⟩
theorem Mps.storeT {g i : Nat} {t : TypeId} {cs : Array Value} {y z : Value} {ps : List Value} {ts : List (List Int)} (h : Mps base u y ps ts) (hb : Bk u g t cs) (h1 : 38 ≠ t) (h2 : 3 ≠ t) : Mps base (u.setCell ⟨g, i, none⟩ z) y ps ts :=
  ⟨own_store_b h.1 hb h1, fun i x hx => own_store_b (h.2.1 i x hx) hb h2, h.2.2⟩
theorem bk_ne {g g' : Nat} {t t' : TypeId} {cs cs' : Array Value} (h : Bk u g t cs) (h' : Bk u g' t' cs') (hne : t ≠ t') : g ≠ g' := fun e => by
  subst e
  unfold Bk at h h'
  rw [h] at h'
  injection h' with h'
  injection h' with _ h' _
  exact hne h'
theorem Bks.mono {base' : Nat} {y : Value} (h : Bks base u y us l) (hb : base' ≤ base) : Bks base' u y us l := ⟨own_mono_b h.row hb, h.len, fun i hi => ⟨(h.el i hi).cnd, own_mono_b (h.el i hi).ops hb, own_mono_b (h.el i hi).nxt hb⟩, h.ap⟩
theorem Mps.mono {base' : Nat} {y : Value} {ps : List Value} {ts : List (List Int)} (h : Mps base u y ps ts) (hb : base' ≤ base) : Mps base' u y ps ts := ⟨own_mono_b h.1 hb, fun i x hx => own_mono_b (h.2.1 i x hx) hb, h.2.2⟩
theorem Cr.mono {g : Gr.G} {W : World} {vi va vh : Value} (h : Cr g W vi va vh u) (hb : w.heap.size ≤ W.heap.size) : Cr g w vi va vh u := ⟨own_mono_b h.ins (by omega), own_mono_b h.ars (by omega), own_mono_b h.hds (by omega)⟩
end
/-- What does not change while blocks are folded, and the map in the making. -/
structure Fz (g : Gr.G) (w : World) (gc zc oc : Array Value) (F : Nat) (vi va vh p : Value) (ps : List Value) (tv : Value) (ts : List Value) (k : Nat) (u : World) : Prop where
  cb : Cb w gc zc u
  hF : w.heap.size + 1 < F
  ob : Bk u F 28 oc
  cr : Cr g w vi va vh u
  pts : Mps (w.heap.size + 1 + 1) u p ps g.pts
  tos : Mps (w.heap.size + 1 + 1) u tv ts (Fo.ones k)
  tp : Ap tv p
section
variable {g : Gr.G} {w u u' : World} {gc zc oc : Array Value} {F : Nat} {vi va vh p tv : Value} {ps ts : List Value} {k : Nat}
theorem Fz.below (h : Fz g w gc zc oc F vi va vh p ps tv ts k u) (hb : Below u.heap.size u u') : Fz g w gc zc oc F vi va vh p ps tv ts k u' := ⟨h.cb.below hb, h.hF, h.ob.below hb, h.cr.below hb, h.pts.below hb, h.tos.below hb, h.tp⟩
theorem Fz.grownO (h : Fz g w gc zc oc F vi va vh p ps tv ts k u) {sz n : Nat} {v : Value} {xs : List Value} (hy : u.ownsRow (w.heap.size + 1 + 1) 42 sz v n xs) (hg : u.grownBy u' v.ownBlock) : Fz g w gc zc oc F vi va vh p ps tv ts k u' :=
  ⟨h.cb.grown hy hg, h.hF, bk_grown_t h.ob hy (by decide) hg, h.cr.grownO hy hg, h.pts.grownT hy (by decide) (by decide) hg, h.tos.grownT hy (by decide) (by decide) hg, h.tp⟩
theorem Fz.storeB (h : Fz g w gc zc oc F vi va vh p ps tv ts k u) {gy i : Nat} {cs : Array Value} (hb : Bk u gy 40 cs) (hl : w.heap.size + 1 < gy) (z : Value) : Fz g w gc zc oc F vi va vh p ps tv ts k (u.setCell ⟨gy, i, none⟩ z) :=
  ⟨⟨h.cb.low.setCell (by show w.heap.size ≤ gy; omega) z, h.cb.gb.far (by show w.heap.size ≠ gy; omega) z, h.cb.rb.far (by show w.heap.size + 1 ≠ gy; omega) z⟩, h.hF, h.ob.far (p := ⟨gy, i, none⟩) (bk_ne h.ob hb (by decide)) z, ⟨own_store_b h.cr.ins hb (by decide), own_store_b h.cr.ars hb (by decide), own_store_b h.cr.hds hb (by decide)⟩, h.pts.storeT hb (by decide) (by decide), h.tos.storeT hb (by decide) (by decide), h.tp⟩
theorem Fz.push {tv' x : Value} (h : Fz g w gc zc oc F vi va vh p ps tv ts k u) (hO : u.ownsRow (w.heap.size + 1 + 1) 3 1 x 1 [.int .i64 (k : Int)]) (hz : ∀ z ∈ ts, Ap x z) (hown : u'.ownsRow (w.heap.size + 1 + 1) 38 1 tv' (k + 1) (ts ++ [x])) (hg : u.grownBy u' tv.ownBlock) (hv : tv'.ownBlock = tv.ownBlock ∨ tv'.ownBlock = some u.heap.size) : Fz g w gc zc oc F vi va vh p ps tv' (ts ++ [x]) (k + 1) u' := by
  have hlen : (Fo.ones k).length = k := by unfold Fo.ones; simp
  refine ⟨h.cb.grown h.tos.1 hg, h.hF, bk_grown_t h.ob h.tos.1 (by decide) hg, h.cr.grownL h.tos.1 hg, ⟨own_ap h.pts.1 hg h.tp.symm, fun i z hz' => own_grown_t (h.pts.2.1 i z hz') h.tos.1 (by decide) hg, h.pts.2.2⟩, ?_, ap_new hv h.tp (fun q hq => own_block_lt h.pts.1 hq)⟩
  rw [ones_succ]
  exact h.tos.pushx (q := [(k : Int)]) hO (ap_type hO h.tos.1 (by decide)) hz (by rw [hlen]; exact hown) hg hv
theorem Fz.res (h : Fz g w gc zc oc F vi va vh p ps tv ts k u) (i : Nat) (x : Value) : Fz g w gc (zc.setIfInBounds i x) oc F vi va vh p ps tv ts k (u.setCell ⟨w.heap.size + 1, i, none⟩ x) :=
  ⟨h.cb.res i x, h.hF, h.ob.far (p := ⟨w.heap.size + 1, i, none⟩) (by have := h.hF; show F ≠ w.heap.size + 1; omega) x, h.cr.far (Nat.lt_succ_self _) x, h.pts.far (Nat.lt_succ_self _) x, h.tos.far (Nat.lt_succ_self _) x, h.tp⟩
end
theorem blk_ops (b : Gr.Blk) : (Fo.blk b).ops = Fo.ops b.ops := by
  unfold Fo.blk
  simp only
  split
  · split <;> rfl
  · rfl
theorem blk_ops_len (b : Gr.Blk) : (Fo.blk b).ops.length = b.ops.length := by rw [blk_ops]; unfold Fo.ops; simp
set_option maxHeartbeats 4000000 in
set_option maxRecDepth 100000 in
theorem rfoldg_any (g : Gr.G) (vi va vb vp vh : Value) (w : World) (hi : GrIn w g vi va vb vp vh) (hp : PtsIn w vp g.pts) (hf : Gr.Fit g) :
    Calls Tryz.prog 13 #[.agg #[vi, .int .i64 g.vars, .int .i64 g.keep, va, .int .i64 g.sh, vb, vp, vh]] w (FoldAns g w) := by
  obtain ⟨Ai, ci, rfl, -⟩ := hi.ins.opened
  obtain ⟨Aa, ca, rfl, -⟩ := hi.ars.opened
  obtain ⟨Ab, cb, a1, a2, k1, k2, rfl, -⟩ := id hi.blks
  obtain ⟨Aq, cp, ap, kp, rfl, -⟩ := hi.pts.opened
  obtain ⟨Ah, ch, rfl, -⟩ := hi.hds.opened
  obtain ⟨r, hr⟩ : ∃ r, Gr.chk g = r := ⟨_, rfl⟩
  have HCk := Lib.hid fun (W : World) (hW : Below w.heap.size w W) => rcheck_any g _ _ _ _ _ r hr W (hi.below hW) (ptsin_below hp hW) hf
  have HI := Lib.hid hi
  have HR := Lib.hid hr
  clear hi hp hf hr
  have HS := Lib.hid (show Cb w #[.slice Ai g.ins.length ci, .int .i64 g.vars, .int .i64 g.keep, .slice Aa g.ars.length ca, .int .i64 g.sh, .slice Ab g.blks.length cb, .slice Aq g.pts.length cp, .slice Ah g.hds.length ch] #[.slice none 0 0, .int .i64 0, .int .i64 0, .slice none 0 0, .int .i64 0, .slice none 0 0, .slice none 0 0, .slice none 0 0] ((w.alloc (.cells #[.slice Ai g.ins.length ci, .int .i64 g.vars, .int .i64 g.keep, .slice Aa g.ars.length ca, .int .i64 g.sh, .slice Ab g.blks.length cb, .slice Aq g.pts.length cp, .slice Ah g.hds.length ch] 28)).alloc (.cells #[.slice none 0 0, .int .i64 0, .int .i64 0, .slice none 0 0, .int .i64 0, .slice none 0 0, .slice none 0 0, .slice none 0 0] 28)) from ⟨bla (bla (Below.refl _ _) _) _, (Bk.new w _ _).below (bla (Below.refl _ _) _), by
    have h := Bk.new (w.alloc (.cells #[.slice Ai g.ins.length ci, .int .i64 g.vars, .int .i64 g.keep, .slice Aa g.ars.length ca, .int .i64 g.sh, .slice Ab g.blks.length cb, .slice Aq g.pts.length cp, .slice Ah g.hds.length ch] 28)) 28 #[.slice none 0 0, .int .i64 0, .int .i64 0, .slice none 0 0, .int .i64 0, .slice none 0 0, .slice none 0 0, .slice none 0 0]
    rw [size_alloc] at h
    exact h⟩)
  obtain ⟨iTL, hi0, hz0, hz1, hz2⟩ := info_parts info_lst
  have HTL := Lib.hid (And.intro hi0 (And.intro hz0 (And.intro hz1 hz2)))
  clear hi0 hz0 hz1 hz2
  go_enter Tryz.func13, Tryz.ntmps13
  go_upto_region 1 with fail
  generalize hW : World.alloc _ (.cells #[.slice none 0 0, .int .i64 0, .int .i64 0, .slice none 0 0, .int .i64 0, .slice none 0 0, .slice none 0 0, .slice none 0 0] 28) = W0 at HS ⊢
  clear hW
  have g0 := HS.out.gb.cell 0
  have g1 := HS.out.gb.cell 1
  have g2 := HS.out.gb.cell 2
  have g3 := HS.out.gb.cell 3
  have g4 := HS.out.gb.cell 4
  have g5 := HS.out.gb.cell 5
  have g6 := HS.out.gb.cell 6
  have g7 := HS.out.gb.cell 7
  go_wp2_with fail
  refine (HCk.out _ HS.out.low).mono ?_
  rintro e w1 ⟨rfl, hb1⟩
  replace HS := Lib.hid (HS.out.below hb1)
  clear hb1 HCk g0 g1 g2 g3 g4 g5 g6 g7 W0
  have g0 := HS.out.gb.cell 0
  have g1 := HS.out.gb.cell 1
  have g2 := HS.out.gb.cell 2
  have g3 := HS.out.gb.cell 3
  have g4 := HS.out.gb.cell 4
  have g5 := HS.out.gb.cell 5
  have g6 := HS.out.gb.cell 6
  have g7 := HS.out.gb.cell 7
  have z0 := HS.out.rb.cell 0
  have y0 := HS.out.rb.frozen 0
  have z1 := HS.out.rb.cell 1
  have y1 := HS.out.rb.frozen 1
  have z2 := HS.out.rb.cell 2
  have y2 := HS.out.rb.frozen 2
  have z3 := HS.out.rb.cell 3
  have y3 := HS.out.rb.frozen 3
  have z4 := HS.out.rb.cell 4
  have y4 := HS.out.rb.frozen 4
  have z5 := HS.out.rb.cell 5
  have y5 := HS.out.rb.frozen 5
  have z6 := HS.out.rb.cell 6
  have y6 := HS.out.rb.frozen 6
  have z7 := HS.out.rb.cell 7
  have y7 := HS.out.rb.frozen 7
  by_cases h0 : r = 0
  · skip
    subst h0
    clear z0 y0 z1 y1 z2 y2 z3 y3 z4 y4 z5 y5 z6 y6 z7 y7
    have HOk := Lib.hid (Fo.okg_of HR.out)
    obtain ⟨V, hV, hV64, hblk⟩ := okv_of HR.out
    have HVb := Lib.hid hblk
    have HV := Lib.hid hV
    clear hblk hV
    go_wp2_with fail
    refine (rcopy_any g _ _ _ _ _ w1 (HI.out.below HS.out.low) (by have := HOk.out.ins; omega) (by have := HOk.out.ars; omega) (by have := HOk.out.hds; omega) (by have := HOk.out.blks; omega) (by have := HOk.out.pts; omega) (fun k hk => by have h := HOk.out.blk k hk; have := h.len; have := h.nx; omega) (fun k hk => by have := HOk.out.pt k hk; omega)).mono ?_
    intro e w2 hpost
    obtain ⟨vi2, va2, vh2, y2, us, p2, ps, rfl, hb, hcr, hbk, hps⟩ := hpost
    have hsz := HS.out.rb.lt
    obtain ⟨A1, C1, rfl⟩ := own_eta hcr.ins
    obtain ⟨A2, C2, rfl⟩ := own_eta hcr.ars
    obtain ⟨A3, C3, rfl⟩ := own_eta hcr.hds
    obtain ⟨Ay, Cy, rfl⟩ := own_eta hbk.row
    obtain ⟨Ap2, Cp2, rfl⟩ := own_eta hps.1
    have HS2 := Lib.hid (HS.out.below hb)
    have HCr := Lib.hid (show Cr g w _ _ _ w2 from hcr.mono (by omega))
    have HBk := Lib.hid (hbk.mono (show w.heap.size + 1 + 1 ≤ _ by omega))
    have HPs := Lib.hid (hps.mono (show w.heap.size + 1 + 1 ≤ _ by omega))
    clear hb hcr hbk hps HS HI g0 g1 g2 g3 g4 g5 g6 g7
    go_upto_region 5 with fail
    obtain ⟨F, hF⟩ : ∃ F, w2.heap.size = F := ⟨_, rfl⟩
    have hbk : Below w2.heap.size w2 (w2.alloc (.cells #[.slice A1 g.ins.length C1, .int .i64 g.vars, .int .i64 g.keep, .slice A2 g.ars.length C2, .int .i64 g.sh, .slice Ay g.blks.length Cy, .slice Ap2 g.pts.length Cp2, .slice A3 g.hds.length C3] 28)) := bla (Below.refl _ _) _
    have HZ := Lib.hid (show (Fz g w #[.slice Ai g.ins.length ci, .int .i64 g.vars, .int .i64 g.keep, .slice Aa g.ars.length ca, .int .i64 g.sh, .slice Ab g.blks.length cb, .slice Aq g.pts.length cp, .slice Ah g.hds.length ch] #[.slice none 0 0, .int .i64 0, .int .i64 0, .slice none 0 0, .int .i64 0, .slice none 0 0, .slice none 0 0, .slice none 0 0] #[.slice A1 g.ins.length C1, .int .i64 g.vars, .int .i64 g.keep, .slice A2 g.ars.length C2, .int .i64 g.sh, .slice Ay g.blks.length Cy, .slice Ap2 g.pts.length Cp2, .slice A3 g.hds.length C3] F (.slice A1 g.ins.length C1) (.slice A2 g.ars.length C2) (.slice A3 g.hds.length C3) (.slice Ap2 g.pts.length Cp2) ps (.slice none 0 0) [] 0 (w2.alloc (.cells #[.slice A1 g.ins.length C1, .int .i64 g.vars, .int .i64 g.keep, .slice A2 g.ars.length C2, .int .i64 g.sh, .slice Ay g.blks.length Cy, .slice Ap2 g.pts.length Cp2, .slice A3 g.hds.length C3] 28)) ∧ Bks (w.heap.size + 1 + 1) (w2.alloc (.cells #[.slice A1 g.ins.length C1, .int .i64 g.vars, .int .i64 g.keep, .slice A2 g.ars.length C2, .int .i64 g.sh, .slice Ay g.blks.length Cy, .slice Ap2 g.pts.length Cp2, .slice A3 g.hds.length C3] 28)) (.slice Ay g.blks.length Cy) us (Fo.bmix g.blks 0)) from by
      have h := Bk.new w2 28 #[.slice A1 g.ins.length C1, .int .i64 g.vars, .int .i64 g.keep, .slice A2 g.ars.length C2, .int .i64 g.sh, .slice Ay g.blks.length Cy, .slice Ap2 g.pts.length Cp2, .slice A3 g.hds.length C3]
      have hl := HS2.out.rb.lt
      rw [hF] at h hl
      exact ⟨⟨HS2.out.below hbk, hl, h, HCr.out.below hbk, HPs.out.below hbk, Mps.nil _ _, Ap.nil _⟩, by rw [bmix_zero]; exact HBk.out.below hbk⟩)
    rw [hF]
    generalize hW : w2.alloc (.cells #[.slice A1 g.ins.length C1, .int .i64 g.vars, .int .i64 g.keep, .slice A2 g.ars.length C2, .int .i64 g.sh, .slice Ay g.blks.length Cy, .slice Ap2 g.pts.length Cp2, .slice A3 g.hds.length C3] 28) = W2 at HZ ⊢
    clear hW hbk hF hsz HS2 HCr HBk HPs
    go_wp2
    go_loopw [8, 7] (fun i v wr => ∃ (k : Nat) (tv : Value) (ts : List Value) (vs : List (Value × Int × Value)), k ≤ g.blks.length ∧ i = .int .i64 k ∧ tv = v ∧ Hid (Fz g w #[.slice Ai g.ins.length ci, .int .i64 g.vars, .int .i64 g.keep, .slice Aa g.ars.length ca, .int .i64 g.sh, .slice Ab g.blks.length cb, .slice Aq g.pts.length cp, .slice Ah g.hds.length ch] #[.slice none 0 0, .int .i64 0, .int .i64 0, .slice none 0 0, .int .i64 0, .slice none 0 0, .slice none 0 0, .slice none 0 0] #[.slice A1 g.ins.length C1, .int .i64 g.vars, .int .i64 g.keep, .slice A2 g.ars.length C2, .int .i64 g.sh, .slice Ay g.blks.length Cy, .slice Ap2 g.pts.length Cp2, .slice A3 g.hds.length C3] F (.slice A1 g.ins.length C1) (.slice A2 g.ars.length C2) (.slice A3 g.hds.length C3) (.slice Ap2 g.pts.length Cp2) ps tv ts k wr ∧ Bks (w.heap.size + 1 + 1) wr (.slice Ay g.blks.length Cy) vs (Fo.bmix g.blks k))) (fun i _ _ => g.blks.length - (intOf i).toNat)
    case atStart => exact ⟨0, _, _, _, Nat.zero_le _, rfl, rfl, HZ⟩
    case round =>
      clear HZ
      obtain ⟨k, tv, ts, vs, hk, rfl, rfl, HZ⟩ := hrel
      have q5 := HZ.out.1.ob.cell 5
      by_cases hlt : k < g.blks.length
      · have hlt' : (k : Int) < g.blks.length := by omega
        have hlt0 : (0 : Int) ≤ (k : Int) := by omega
        have hbl64 := HOk.out.blks
        obtain ⟨gy, cy, hy, hgb, hgl, -⟩ := HZ.out.2.cells (i := k) (by rw [bmix_len]; exact hlt)
        rw [bmix_len] at hy
        injection hy with hy1 hy2 hy3
        subst hy1 hy3
        have HGb := Lib.hid hgb
        have HGet := Lib.hid (show (Fo.bmix g.blks k).getD k Gr.blk0 = g.blks.getD k Gr.blk0 by rw [bmix_get hlt, if_neg (Nat.lt_irrefl k)])
        obtain ⟨b, hb⟩ : ∃ b, g.blks.getD k Gr.blk0 = b := ⟨_, rfl⟩
        have HBe := Lib.hid hb
        have hvb := HVb.out k hlt
        have hbo := HOk.out.blk k hlt
        rw [hb] at hvb hbo
        obtain ⟨x1, zc, x2, hxe⟩ : ∃ x1 z x2, vs.getD k bkz = (x1, z, x2) := ⟨_, _, _, rfl⟩
        have HXe := Lib.hid hxe
        have hel := HZ.out.2.el k (by rw [bmix_len]; exact hlt)
        rw [HGet.out, hb, hxe] at hel
        obtain ⟨e1, e2, e3⟩ := hel
        obtain ⟨B1, D1, e4⟩ := own_eta e2
        obtain ⟨B2, D2, e5⟩ := own_eta e3
        simp only at e1 e4 e5
        subst e1 e4 e5
        have HC := Lib.hid fun (u : World) (h1 : u.ownsRow (w.heap.size + 1 + 1) 42 5 (.slice B1 b.ops.length D1) b.ops.length (b.ops.flatMap opCells)) (h2 : u.ownsRow (w.heap.size + 1 + 1) 3 1 (.slice B2 b.next.length D2) b.next.length (b.next.map (.int .i64))) => rblock_any V b (w.heap.size + 1 + 1) (w.heap.size + 1 + 1) B1 B2 D1 D2 u (by omega) (by have := hbo.len; omega) hvb.1 hvb.2 h1 h2
        clear hb hvb hbo hxe e2 e3 hgb
        rw [HV.out] at HZ
        clear q5
        have q5 := HZ.out.1.ob.cell 5
        go_upto_region 9 with fail
        clear q5
        have HZd := Lib.hid (show (Fz g w #[.slice Ai g.ins.length ci, .int .i64 (V : Int), .int .i64 g.keep, .slice Aa g.ars.length ca, .int .i64 g.sh, .slice Ab g.blks.length cb, .slice Aq g.pts.length cp, .slice Ah g.hds.length ch] #[.slice none 0 0, .int .i64 0, .int .i64 0, .slice none 0 0, .int .i64 0, .slice none 0 0, .slice none 0 0, .slice none 0 0] #[.slice A1 g.ins.length C1, .int .i64 (V : Int), .int .i64 g.keep, .slice A2 g.ars.length C2, .int .i64 g.sh, .slice (some ⟨gy, 0, none⟩) g.blks.length Cy, .slice Ap2 g.pts.length Cp2, .slice A3 g.hds.length C3] F (.slice A1 g.ins.length C1) (.slice A2 g.ars.length C2) (.slice A3 g.hds.length C3) (.slice Ap2 g.pts.length Cp2) ps tv ts k wr.drew ∧ Bks (w.heap.size + 1 + 1) wr.drew (.slice (some ⟨gy, 0, none⟩) g.blks.length Cy) vs (Fo.bmix g.blks k)) from ⟨HZ.out.1.below (below_drewN _ wr 1), HZ.out.2.below (below_drewN _ wr 1)⟩)
        clear HZ
        have hvl : k < vs.length := by have := HZd.out.2.len; rw [bmix_len] at this; omega
        have HCl := Lib.hid (show ∀ u : World, u.ownsRow (w.heap.size + 1 + 1) 40 3 (.slice (some ⟨gy, 0, none⟩) g.blks.length Cy) g.blks.length (vs.flatMap bkC) → u.cell? ⟨gy, k * 3, none⟩ = some (.slice B1 b.ops.length D1) ∧ u.cell? ⟨gy, k * 3 + 1, none⟩ = some (.int .i64 b.cond) ∧ u.cell? ⟨gy, k * 3 + 2, none⟩ = some (.slice B2 b.next.length D2) from by
          intro u hu
          have hx := getD_some bkz hvl
          rw [HXe.out] at hx
          have hf : ∀ j x, (bkC (.slice B1 b.ops.length D1, b.cond, .slice B2 b.next.length D2))[j]? = some x → u.cell? ⟨gy, k * 3 + j, none⟩ = some x := fun j x hj => own_cellv hu (flat_cell bkC 3 (fun _ => rfl) vs k j _ _ hx hj)
          exact ⟨hf 0 _ rfl, hf 1 _ rfl, hf 2 _ rfl⟩)
        have hel := HZd.out.2.el k (by rw [bmix_len]; exact hlt)
        rw [HGet.out, HBe.out, HXe.out] at hel
        have HOp := Lib.hid hel.ops
        have HNx := Lib.hid hel.nxt
        clear hel
        have HGl := Lib.hid hgl
        clear hgl
        have HGb2 : w.heap.size + 1 < gy := by have := HGb.out; omega
        refine wp_region_last (S := (fun u : World => Bk u w.heap.size 28 #[.slice Ai g.ins.length ci, .int .i64 (V : Int), .int .i64 g.keep, .slice Aa g.ars.length ca, .int .i64 g.sh, .slice Ab g.blks.length cb, .slice Aq g.pts.length cp, .slice Ah g.hds.length ch] ∧ Bk u F 28 #[.slice A1 g.ins.length C1, .int .i64 (V : Int), .int .i64 g.keep, .slice A2 g.ars.length C2, .int .i64 g.sh, .slice (some ⟨gy, 0, none⟩) g.blks.length Cy, .slice Ap2 g.pts.length Cp2, .slice A3 g.hds.length C3] ∧ u.ownsRow (w.heap.size + 1 + 1) 40 3 (.slice (some ⟨gy, 0, none⟩) g.blks.length Cy) g.blks.length (vs.flatMap bkC))) 12 (by kernel_rfl) ?_ (fun hHeld => ?_)
        · exact ⟨HZd.out.1.cb.gb, HZd.out.1.ob, by have := HZd.out.2.row; rw [bmix_len] at this; exact this⟩
        refine' wpAnyL_take (i := 0) (v := _) ?_ ?_ ?_ ?_ ?_ ?_ ?_ ?_ ?_
        rotate_left 2; (simp only [gA, gB, gC]; rfl); kernel_rfl; kernel_rfl; kernel_rfl; kernel_rfl; exact fun _ _ _ h => h; refine Or.inl ⟨?_, ?_⟩; focus (go_simp; done)
        focus (intro w hSw; have m1 := hSw.1.cell 1; have m5 := hSw.2.1.cell 5; obtain ⟨x0, x1_, x2_⟩ := HCl.out _ hSw.2.2; have hlo := (hSw.2.2.lt gy rfl).2; clear hSw; (go_simp <;> with_reducible rfl))
        assumption; (try simp only [Act.put, gD, gE, gF])
        refine' wpAnyL_take (i := 1) (v := _) ?_ ?_ ?_ ?_ ?_ ?_ ?_ ?_ ?_
        rotate_left 2; (simp only [gA, gB, gC]; rfl); kernel_rfl; kernel_rfl; kernel_rfl; kernel_rfl; exact fun _ _ _ h => h; refine Or.inl ⟨?_, ?_⟩; focus (go_simp; done)
        focus (intro w hSw; have m1 := hSw.1.cell 1; have m5 := hSw.2.1.cell 5; obtain ⟨x0, x1_, x2_⟩ := HCl.out _ hSw.2.2; have hlo := (hSw.2.2.lt gy rfl).2; clear hSw; (go_simp <;> with_reducible rfl))
        assumption; (try simp only [Act.put, gD, gE, gF])
        refine' wpAnyL_take (i := 2) (v := _) ?_ ?_ ?_ ?_ ?_ ?_ ?_ ?_ ?_
        rotate_left 2; (simp only [gA, gB, gC]; rfl); kernel_rfl; kernel_rfl; kernel_rfl; kernel_rfl; exact fun _ _ _ h => h; refine Or.inl ⟨?_, ?_⟩; focus (go_simp; done)
        focus (intro w hSw; have m1 := hSw.1.cell 1; have m5 := hSw.2.1.cell 5; obtain ⟨x0, x1_, x2_⟩ := HCl.out _ hSw.2.2; have hlo := (hSw.2.2.lt gy rfl).2; clear hSw; (go_simp <;> with_reducible rfl))
        assumption; (try simp only [Act.put, gD, gE, gF])
        refine' wpAnyL_take (i := 3) (v := _) ?_ ?_ ?_ ?_ ?_ ?_ ?_ ?_ ?_
        rotate_left 2; (simp only [gA, gB, gC]; rfl); kernel_rfl; kernel_rfl; kernel_rfl; kernel_rfl; exact fun _ _ _ h => h; refine Or.inl ⟨?_, ?_⟩; focus (go_simp; done)
        focus (intro w hSw; have m1 := hSw.1.cell 1; have m5 := hSw.2.1.cell 5; obtain ⟨x0, x1_, x2_⟩ := HCl.out _ hSw.2.2; have hlo := (hSw.2.2.lt gy rfl).2; clear hSw; (go_simp <;> with_reducible rfl))
        assumption; (try simp only [Act.put, gD, gE, gF])
        refine' wpAnyL_take (i := 4) (v := _) ?_ ?_ ?_ ?_ ?_ ?_ ?_ ?_ ?_
        rotate_left 2; (simp only [gA, gB, gC]; rfl); kernel_rfl; kernel_rfl; kernel_rfl; kernel_rfl; exact fun _ _ _ h => h; refine Or.inl ⟨?_, ?_⟩; focus (go_simp; done)
        focus (intro w hSw; have m1 := hSw.1.cell 1; have m5 := hSw.2.1.cell 5; obtain ⟨x0, x1_, x2_⟩ := HCl.out _ hSw.2.2; have hlo := (hSw.2.2.lt gy rfl).2; clear hSw; (go_simp <;> with_reducible rfl))
        assumption; (try simp only [Act.put, gD, gE, gF])
        refine' wpAnyL_take (i := 5) (v := _) ?_ ?_ ?_ ?_ ?_ ?_ ?_ ?_ ?_
        rotate_left 2; (simp only [gA, gB, gC]; rfl); kernel_rfl; kernel_rfl; kernel_rfl; kernel_rfl; exact fun _ _ _ h => h; refine Or.inl ⟨?_, ?_⟩; focus (go_simp; done)
        focus (intro w hSw; have m1 := hSw.1.cell 1; have m5 := hSw.2.1.cell 5; obtain ⟨x0, x1_, x2_⟩ := HCl.out _ hSw.2.2; have hlo := (hSw.2.2.lt gy rfl).2; clear hSw; (go_simp <;> with_reducible rfl))
        assumption; (try simp only [Act.put, gD, gE, gF])
        refine' wpAnyL_take (i := 6) (v := _) ?_ ?_ ?_ ?_ ?_ ?_ ?_ ?_ ?_
        rotate_left 2; (simp only [gA, gB, gC]; rfl); kernel_rfl; kernel_rfl; kernel_rfl; kernel_rfl; exact fun _ _ _ h => h; refine Or.inl ⟨?_, ?_⟩; focus (go_simp; done)
        focus (intro w hSw; have m1 := hSw.1.cell 1; have m5 := hSw.2.1.cell 5; obtain ⟨x0, x1_, x2_⟩ := HCl.out _ hSw.2.2; have hlo := (hSw.2.2.lt gy rfl).2; clear hSw; (go_simp <;> with_reducible rfl))
        assumption; (try simp only [Act.put, gD, gE, gF])
        refine' wpAnyL_take (i := 7) (v := _) ?_ ?_ ?_ ?_ ?_ ?_ ?_ ?_ ?_
        rotate_left 2; (simp only [gA, gB, gC]; rfl); kernel_rfl; kernel_rfl; kernel_rfl; kernel_rfl; exact fun _ _ _ h => h; refine Or.inl ⟨?_, ?_⟩; focus (go_simp; done)
        focus (intro w hSw; have m1 := hSw.1.cell 1; have m5 := hSw.2.1.cell 5; obtain ⟨x0, x1_, x2_⟩ := HCl.out _ hSw.2.2; have hlo := (hSw.2.2.lt gy rfl).2; clear hSw; (go_simp <;> with_reducible rfl))
        assumption; (try simp only [Act.put, gD, gE, gF])
        refine' wpAnyL_take (i := 8) (v := _) ?_ ?_ ?_ ?_ ?_ ?_ ?_ ?_ ?_
        rotate_left 2; (simp only [gA, gB, gC]; rfl); kernel_rfl; kernel_rfl; kernel_rfl; kernel_rfl; exact fun _ _ _ h => h; refine Or.inl ⟨?_, ?_⟩; focus (go_simp; done)
        focus (intro w hSw; have m1 := hSw.1.cell 1; have m5 := hSw.2.1.cell 5; obtain ⟨x0, x1_, x2_⟩ := HCl.out _ hSw.2.2; have hlo := (hSw.2.2.lt gy rfl).2; clear hSw; (go_simp <;> with_reducible rfl))
        assumption; (try simp only [Act.put, gD, gE, gF])
        refine' wpAnyL_take (i := 9) (v := _) ?_ ?_ ?_ ?_ ?_ ?_ ?_ ?_ ?_
        rotate_left 2; (simp only [gA, gB, gC]; rfl); kernel_rfl; kernel_rfl; kernel_rfl; kernel_rfl; exact fun _ _ _ h => h; refine Or.inl ⟨?_, ?_⟩; focus (go_simp; done)
        focus (intro w hSw; have m1 := hSw.1.cell 1; have m5 := hSw.2.1.cell 5; obtain ⟨x0, x1_, x2_⟩ := HCl.out _ hSw.2.2; have hlo := (hSw.2.2.lt gy rfl).2; clear hSw; (go_simp <;> with_reducible rfl))
        assumption; (try simp only [Act.put, gD, gE, gF])
        refine' wpAnyL_one (i := 10) ?_ ?_ ?_ (fun K hK => ?_)
        rotate_left
        focus kernel_rfl
        focus kernel_rfl
        focus (simp only [gA, gB, gC]; rfl)
        go_simp
        (go_at_call 29; refine (HC.out _ HOp.out HNx.out).mono ?_; intro e u1 hpost)
        obtain ⟨vn, hv1, hown, hg, hdis⟩ := hpost
        subst hv1
        have hnx : u1.ownsRow (w.heap.size + 1 + 1) 3 1 vn (Fo.blk b).next.length ((Fo.blk b).next.map (.int .i64)) := by
          rcases hdis with ⟨rfl, e⟩ | h
          · rw [e]; exact own_grown_t HNx.out HOp.out (by decide) hg
          · exact own_mono_b h (by have := HZd.out.1.cb.rb.lt; omega)
        obtain ⟨B3, D3, e3⟩ := own_eta hnx
        subst e3
        have HBq := Lib.hid (show Bq (w.heap.size + 1 + 1) u1 (.slice B1 b.ops.length D1, (Fo.blk b).cond, .slice B3 (Fo.blk b).next.length D3) (Fo.blk b) from ⟨rfl, by rw [blk_ops_len]; exact hown, hnx⟩)
        have HGr := Lib.hid hg
        refine hK.out _ _ (⟨bk_grown_t hHeld.1 HOp.out (by decide) hg, bk_grown_t hHeld.2.1 HOp.out (by decide) hg, own_grown_t hHeld.2.2 HOp.out (by decide) hg⟩) (fun hHeld => ?_)
        clear hK K
        (try simp only [Act.put, gD, gE, gF])
        clear hown hg hdis hnx
        refine' wpAnyL_take (i := 11) (v := _) ?_ ?_ ?_ ?_ ?_ ?_ ?_ ?_ ?_
        rotate_left 2; (simp only [gA, gB, gC]; rfl); kernel_rfl; kernel_rfl; kernel_rfl; kernel_rfl; exact fun _ _ _ h => h; refine Or.inl ⟨?_, ?_⟩; focus (go_simp; done)
        focus (intro w hSw; have m1 := hSw.1.cell 1; have m5 := hSw.2.1.cell 5; obtain ⟨x0, x1_, x2_⟩ := HCl.out _ hSw.2.2; have hlo := (hSw.2.2.lt gy rfl).2; clear hSw; (go_simp <;> with_reducible rfl))
        assumption; (try simp only [Act.put, gD, gE, gF])
        refine' wpAnyL_last ?_ ?_ (fun K hK => ?_)
        rotate_left
        focus kernel_rfl
        focus (simp only [gA, gB, gC]; rfl)
        obtain ⟨r0, r1, r2⟩ := HCl.out _ hHeld.2.2
        have f0 := own_frz hHeld.2.2 (k * 3)
        have f1 := own_frz hHeld.2.2 (k * 3 + 1)
        have f2 := own_frz hHeld.2.2 (k * 3 + 2)
        have hlo := (hHeld.2.2.lt gy rfl).2
        go_simp
        refine hK.out _ _ ?_
        clear hK K
        (try simp only [Act.put, gD, gE, gF])
        refine wpAny_done (by kernel_rfl) ?_ _
        obtain ⟨cur, hcur⟩ := own_bk hHeld.2.2
        have HN2 := Lib.hid (show (Fz g w #[.slice Ai g.ins.length ci, .int .i64 (V : Int), .int .i64 g.keep, .slice Aa g.ars.length ca, .int .i64 g.sh, .slice Ab g.blks.length cb, .slice Aq g.pts.length cp, .slice Ah g.hds.length ch] #[.slice none 0 0, .int .i64 0, .int .i64 0, .slice none 0 0, .int .i64 0, .slice none 0 0, .slice none 0 0, .slice none 0 0] #[.slice A1 g.ins.length C1, .int .i64 (V : Int), .int .i64 g.keep, .slice A2 g.ars.length C2, .int .i64 g.sh, .slice (some ⟨gy, 0, none⟩) g.blks.length Cy, .slice Ap2 g.pts.length Cp2, .slice A3 g.hds.length C3] F (.slice A1 g.ins.length C1) (.slice A2 g.ars.length C2) (.slice A3 g.hds.length C3) (.slice Ap2 g.pts.length Cp2) ps tv ts k (((u1.setCell ⟨gy, k * 3, none⟩ (.slice B1 b.ops.length D1)).setCell ⟨gy, k * 3 + 1, none⟩ (.int .i64 (Fo.blk b).cond)).setCell ⟨gy, k * 3 + 2, none⟩ (.slice B3 (Fo.blk b).next.length D3)) ∧ Bks (w.heap.size + 1 + 1) (((u1.setCell ⟨gy, k * 3, none⟩ (.slice B1 b.ops.length D1)).setCell ⟨gy, k * 3 + 1, none⟩ (.int .i64 (Fo.blk b).cond)).setCell ⟨gy, k * 3 + 2, none⟩ (.slice B3 (Fo.blk b).next.length D3)) (.slice (some ⟨gy, 0, none⟩) g.blks.length Cy) (vs.set k (.slice B1 b.ops.length D1, (Fo.blk b).cond, .slice B3 (Fo.blk b).next.length D3)) (Fo.bmix g.blks (k + 1))) from ⟨(((HZd.out.1.grownO HOp.out HGr.out).storeB hcur HGb2 _).storeB (hcur.set _ _) HGb2 _).storeB ((hcur.set _ _).set _ _) HGb2 _, by
          have h := (show Bks (w.heap.size + 1 + 1) wr.drew (.slice (some ⟨gy, 0, none⟩) (Fo.bmix g.blks k).length Cy) vs (Fo.bmix g.blks k) by rw [bmix_len]; exact HZd.out.2).upd (i := k) (by rw [bmix_len]; exact hlt) (by rw [HXe.out]; exact HGr.out) HBq.out (by rw [HXe.out])
          rw [bmix_len, ← HBe.out, bmix_set hlt, HBe.out] at h
          exact h⟩)
        clear hHeld r0 r1 r2 f0 f1 f2 hlo hcur cur HZd HOp HNx HBq HGr HCl HC
        generalize hW : World.setCell _ ⟨gy, k * 3 + 2, none⟩ (.slice B3 (Fo.blk b).next.length D3) = W6 at HN2 ⊢
        clear hW
        have hbk : Below W6.heap.size W6 ((W6.alloc (.cells #[.int .i64 (k : Int)] 3)).alloc (.cells #[.slice (some ⟨W6.heap.size, 0, none⟩) 1 1] 38)) := bla (bla (Below.refl _ _) _) _
        have HY := Lib.hid (HN2.out.1.below hbk)
        have HRow := Lib.hid (show World.ownsRow _ (w.heap.size + 1 + 1) 38 1 tv k ts from by
          have h := HY.out.tos.1
          rwa [show (Fo.ones k).length = k by unfold Fo.ones; simp] at h)
        have hwl := HN2.out.1.cb.rb.lt
        go_wp2_with (at_builtin; refine wpList_append_row rfl _ _ 25 rfl (w.heap.size + 1 + 1) 38 iTL _ 1 24 Tryz.underlying25 HTL.out.1 HTL.out.2.1 HTL.out.2.2.1 HTL.out.2.2.2 rfl (by decide) _ _ _ rfl (HRow.out) _ _ _ rfl (lit_lst (W6.alloc (.cells #[.int .i64 (k : Int)] 3)) (some ⟨W6.heap.size, 0, none⟩) 1 1 _ (by rw [size_alloc])) ?qc3 ?qc4 ?qc5 ?qc6 ?_)
        case qc3 => first | rfl | (intro u hu; simp at hu; subst hu; rfl)
        case qc4 => unfold maxLen; omega
        case qc5 => omega
        case qc6 => have := HY.out.cb.rb.lt; omega
        intro v2 w3 hown hg hv
        have hO := own_below (World.ownsRow_lit (e := 3) (size := 1) (base := W6.heap.size) W6 #[.int .i64 (k : Int)] 1 (Nat.le_refl _) (by unfold maxLen; omega) rfl) (bla (Below.refl _ _) (.cells #[.slice (some ⟨W6.heap.size, 0, none⟩) 1 1] 38))
        have HN3 := Lib.hid (HY.out.push (x := .slice (some ⟨W6.heap.size, 0, none⟩) 1 1) (own_mono_b hO (by omega)) (fun z hz => by
          obtain ⟨i, hi, rfl⟩ := List.getElem_of_mem hz
          exact (ap_late (HN2.out.1.tos.2.1 i _ (List.getElem?_eq_getElem hi)) hO).symm) hown hg (by simpa using hv))
        have HN4 := Lib.hid ((HN2.out.2.below hbk).grownL HRow.out hg)
        rw [← HV.out] at HN3
        clear hown hg hv hO HY HRow hbk HN2 hwl
        go_wp2
        go_roundw
        case rel => exact ⟨k + 1, _, _, _, by omega, by first | rfl | go_num, rfl, Lib.hid ⟨HN3.out, HN4.out⟩⟩
        case measure => simp [intOf]; omega
      · have hlt' : ¬ (k : Int) < g.blks.length := by omega
        obtain rfl : k = g.blks.length := by omega
        have HBm := Lib.hid (show Bks (w.heap.size + 1 + 1) wr (.slice Ay g.blks.length Cy) vs (g.blks.map Fo.blk) from by have h := HZ.out.2; rwa [bmix_all] at h)
        have c0 := HZ.out.1.ob.cell 0
        have c1 := HZ.out.1.ob.cell 1
        have c2 := HZ.out.1.ob.cell 2
        have c3 := HZ.out.1.ob.cell 3
        have c4 := HZ.out.1.ob.cell 4
        have c6 := HZ.out.1.ob.cell 6
        have c7 := HZ.out.1.ob.cell 7
        have z0 := HZ.out.1.cb.rb.cell 0
        have y0 := HZ.out.1.cb.rb.frozen 0
        have z1 := HZ.out.1.cb.rb.cell 1
        have y1 := HZ.out.1.cb.rb.frozen 1
        have z2 := HZ.out.1.cb.rb.cell 2
        have y2 := HZ.out.1.cb.rb.frozen 2
        have z3 := HZ.out.1.cb.rb.cell 3
        have y3 := HZ.out.1.cb.rb.frozen 3
        have z4 := HZ.out.1.cb.rb.cell 4
        have y4 := HZ.out.1.cb.rb.frozen 4
        have z5 := HZ.out.1.cb.rb.cell 5
        have y5 := HZ.out.1.cb.rb.frozen 5
        have z6 := HZ.out.1.cb.rb.cell 6
        have y6 := HZ.out.1.cb.rb.frozen 6
        have z7 := HZ.out.1.cb.rb.cell 7
        have y7 := HZ.out.1.cb.rb.frozen 7
        have HE := Lib.hid (((((((((HZ.out.1.res 0 (.slice A1 g.ins.length C1)).res 1 (.int .i64 g.vars)).res 2 (.int .i64 g.keep)).res 3 (.slice A2 g.ars.length C2)).res 4 (.int .i64 g.sh)).res 5 (.slice Ay g.blks.length Cy)).res 6 (.slice Ap2 g.pts.length Cp2)).res 7 (.slice A3 g.hds.length C3)))
        have HE2 := Lib.hid (((((((((HBm.out.far (p := ⟨w.heap.size + 1, 0, none⟩) (Nat.lt_succ_self _) (.slice A1 g.ins.length C1)).far (p := ⟨w.heap.size + 1, 1, none⟩) (Nat.lt_succ_self _) (.int .i64 g.vars)).far (p := ⟨w.heap.size + 1, 2, none⟩) (Nat.lt_succ_self _) (.int .i64 g.keep)).far (p := ⟨w.heap.size + 1, 3, none⟩) (Nat.lt_succ_self _) (.slice A2 g.ars.length C2)).far (p := ⟨w.heap.size + 1, 4, none⟩) (Nat.lt_succ_self _) (.int .i64 g.sh)).far (p := ⟨w.heap.size + 1, 5, none⟩) (Nat.lt_succ_self _) (.slice Ay g.blks.length Cy)).far (p := ⟨w.heap.size + 1, 6, none⟩) (Nat.lt_succ_self _) (.slice Ap2 g.pts.length Cp2)).far (p := ⟨w.heap.size + 1, 7, none⟩) (Nat.lt_succ_self _) (.slice A3 g.hds.length C3)))
        clear HZ HBm
        go_wp2
        refine bodyPost_ret (v := .tuple #[.agg #[.slice A1 g.ins.length C1, .int .i64 g.vars, .int .i64 g.keep, .slice A2 g.ars.length C2, .int .i64 g.sh, .slice Ay g.blks.length Cy, .slice Ap2 g.pts.length Cp2, .slice A3 g.hds.length C3], tv, .int .i64 0]) (by simp [results, Tryz.results13, go_sem, z0, z1, z2, z3, z4, z5, z6, z7]) rfl ⟨HE.out.cb.low, .inr ⟨HR.out, _, _, _, _, _, _, rfl, ⟨RowIn.own HE.out.cr.ins, RowIn.own HE.out.cr.ars, HE2.out.blks, HE.out.pts.lsts, RowIn.own HE.out.cr.hds⟩, HE.out.tos.lsts⟩⟩
  · skip
    have hrn : ¬ r = 0 := h0
    have HE := Lib.hid (((((((((HS.out.res 0 (.slice none 0 0)).res 1 (.int .i64 0)).res 2 (.int .i64 0)).res 3 (.slice none 0 0)).res 4 (.int .i64 0)).res 5 (.slice none 0 0)).res 6 (.slice none 0 0)).res 7 (.slice none 0 0)))
    go_wp2
    refine bodyPost_ret (v := .tuple #[.agg #[.slice none 0 0, .int .i64 0, .int .i64 0, .slice none 0 0, .int .i64 0, .slice none 0 0, .slice none 0 0, .slice none 0 0], .slice none 0 0, .int .i64 r]) (by simp [results, Tryz.results13, go_sem, z0, z1, z2, z3, z4, z5, z6, z7]) rfl ⟨HE.out.low, .inl ⟨by rw [HR.out]; exact h0, by rw [HR.out]⟩⟩
end Go.Proofs.YtojflhkmonicoaaGreat
