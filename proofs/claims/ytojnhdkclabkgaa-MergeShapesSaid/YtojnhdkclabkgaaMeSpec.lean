/- The specification of layer 16: what its loop keeps. No condition. The specification of layer 16: Merge. No condition. -/
import Derived.Test.YtojnhdkclabkgaaMeOne
import Derived.Test.YtojnhdkclabkgaaMeTakes
import Derived.Test.YtojnhdkclabkgaaMeMain
import Derived.Test.YtojnhdkclabkgaaGrRefD
namespace Go.Proofs.Ytojnhdkclabkgaa
open Go.RowKit
set_option linter.unusedVariables false
set_option linter.unusedSimpArgs false
/-- The boxes, the graph as it is now, and where its blocks came from. -/
structure Mz (w : World) (gc zc : Array Value) (F gt n : Nat) (t : List Int) (G : Gr.G) (cs : Array Value) (vi va vb vp vh : Value) (us : List (Value × Int × Value)) (ps : List Value) (u : World) : Prop where
  mx : Mx w gc zc u
  far : w.heap.size + 1 + 1 ≤ F
  ft : F < gt
  fb : Bk u F 40 cs
  gf : Gf (w.heap.size + 1 + 1) G vi va vb vp vh us ps u
  gx : Gx G us ps gt
  tor : u.ownsRow gt 3 1 (.slice (some ⟨gt, 0, none⟩) n n) n (t.map (.int .i64))
section
variable {w u u' : World} {gc zc : Array Value} {F gt n : Nat} {t : List Int} {G : Gr.G} {cs : Array Value} {vi va vb vp vh : Value} {us : List (Value × Int × Value)} {ps : List Value}
theorem Mz.below (h : Mz w gc zc F gt n t G cs vi va vb vp vh us ps u) (hb : Below u.heap.size u u') : Mz w gc zc F gt n t G cs vi va vb vp vh us ps u' :=
  ⟨h.mx.below hb, h.far, h.ft, h.fb.below hb, h.gf.below hb, h.gx, own_below h.tor hb⟩
/-- A store into the graph's box. -/
theorem Mz.fset (h : Mz w gc zc F gt n t G cs vi va vb vp vh us ps u) (i : Nat) (x : Value) : Mz w gc zc F gt n t G (cs.setIfInBounds i x) vi va vb vp vh us ps (u.setCell ⟨F, i, none⟩ x) :=
  ⟨h.mx.at h.far i x, h.far, h.ft, h.fb.set i x, h.gf.box h.fb x, h.gx, own_store_b h.tor h.fb (by decide)⟩
/-- A store into the row of numbers. -/
theorem Mz.tset (h : Mz w gc zc F gt n t G cs vi va vb vp vh us ps u) (k : Nat) (z : Int) : Mz w gc zc F gt n (t.set k z) G cs vi va vb vp vh us ps (u.setCell ⟨gt, k, none⟩ (.int .i64 z)) := by
  have h2 := own_setd h.tor k (.int .i64 z)
  rw [← List.map_set] at h2
  exact ⟨h.mx.at (by have := h.far; have := h.ft; omega) k _, h.far, h.ft, h.fb.far (by show F ≠ gt; have := h.ft; omega) _, h.gf.num h.gx h.tor _, h.gx, h2⟩
/-- A store into the result's box. -/
theorem Mz.res (h : Mz w gc zc F gt n t G cs vi va vb vp vh us ps u) (i : Nat) (x : Value) : Mz w gc (zc.setIfInBounds i x) F gt n t G cs vi va vb vp vh us ps (u.setCell ⟨w.heap.size + 1, i, none⟩ x) :=
  ⟨h.mx.res i x, h.far, h.ft, h.fb.far (by show F ≠ w.heap.size + 1; have := h.far; omega) x, h.gf.far (Nat.lt_succ_self _) x, h.gx, ownsRow_setCell_below h.tor (a := ⟨w.heap.size + 1, i, none⟩) (by show w.heap.size + 1 < gt; have := h.far; have := h.ft; omega) x⟩
/-- Another graph. -/
theorem Mz.graph {base : Nat} {G' : Gr.G} {vi' va' vb' vp' vh' : Value} {us' : List (Value × Int × Value)} {ps' : List Value} (h : Mz w gc zc F gt n t G cs vi va vb vp vh us ps u) (hg : Gf base G' vi' va' vb' vp' vh' us' ps' u) (hb : gt < base) : Mz w gc zc F gt n t G' cs vi' va' vb' vp' vh' us' ps' u :=
  ⟨h.mx, h.far, h.ft, h.fb, hg.mono (by have := h.far; have := h.ft; omega), hg.late hb, h.tor⟩
end
theorem CopyPost.gf {g : Gr.G} {w w' : World} {vi va vh y p : Value} {us : List (Value × Int × Value)} {ps : List Value} (hcr : Cr g w vi va vh w') (hbk : Bks (w.heap.size + 1 + 1) w' y us g.blks) (hmp : Mps (w.heap.size + 1 + 1) w' p ps g.pts) : Gf (w.heap.size + 1 + 1) g vi va y p vh us ps w' :=
  ⟨hcr.ins, hcr.ars, hcr.hds, hbk, hmp.1, fun i hi => hmp.2.1 i _ (getD_some nl (by have := hmp.len; omega))⟩
/-- The first numbers in the making. -/
def stK (n k : Nat) : List Int := (List.range n).map fun i => if i < k then (i : Int) else 0
theorem stK_zero (n : Nat) : stK n 0 = List.replicate n 0 := by
  apply List.ext_getElem
  · simp [stK]
  · intro i h1 h2; simp [stK]
theorem stK_all (n : Nat) : stK n n = Me.start n := by
  apply List.ext_getElem
  · simp [stK, Me.start]
  · intro i h1 h2
    have hi : i < n := by simpa [stK] using h1
    simp [stK, Me.start, hi]
theorem stK_set {n k : Nat} (h : k < n) : (stK n k).set k (k : Int) = stK n (k + 1) := by
  apply List.ext_getElem
  · simp [stK]
  · intro i h1 h2
    rw [List.getElem_set]
    by_cases e : k = i
    · subst e; simp [stK]
    · rw [if_neg e]
      simp only [stK, List.getElem_map, List.getElem_range]
      by_cases h3 : i < k
      · rw [if_pos h3, if_pos (by omega)]
      · rw [if_neg h3, if_neg (by omega)]
/-- Lists of one number each, in the making. -/
structure Ow (base : Nat) (u : World) (y : Value) (ul : List Value) (t : List Int) : Prop where
  out : u.ownsRow base 32 1 y t.length ul
  row : ∀ i, i < t.length → u.ownsRow base 3 1 (ul.getD i nl) 1 [.int .i64 (t.getD i 0)]
section
variable {base : Nat} {u u' : World} {y y' x : Value} {ul : List Value} {t : List Int} {z : Int}
theorem Ow.below (h : Ow base u y ul t) (hb : Below u.heap.size u u') : Ow base u' y ul t := ⟨own_below h.out hb, fun i hi => own_below (h.row i hi) hb⟩
theorem Ow.far (h : Ow base u y ul t) {p : Addr} (hp : p.block < base) (v : Value) : Ow base (u.setCell p v) y ul t := ⟨ownsRow_setCell_below h.out hp v, fun i hi => ownsRow_setCell_below (h.row i hi) hp v⟩
theorem Ow.push (h : Ow base u y ul t) (hx : u.ownsRow base 3 1 x 1 [.int .i64 z]) (hown : u'.ownsRow base 32 1 y' (t.length + 1) (ul ++ [x])) (hg : u.grownBy u' y.ownBlock) : Ow base u' y' (ul ++ [x]) (t ++ [z]) := by
  have hl : ul.length = t.length := by have := h.out.1; omega
  refine ⟨by simpa using hown, fun i hi => ?_⟩
  rw [List.length_append, List.length_singleton] at hi
  rcases Nat.lt_succ_iff_lt_or_eq.1 hi with h1 | h1
  · rw [getD_left (by omega), getD_left h1]
    exact own_grown_t (h.row i h1) h.out (by decide) hg
  · rw [getD_last (by omega), getD_last h1]
    exact own_grown_t hx h.out (by decide) hg
theorem Ow.lsts (h : Ow base u y ul t) : LstsIn u y (Me.one1 t) := by
  refine rows_lsts (base := base) (by rw [Me.one1_len]; exact h.out) (fun i hi => ?_)
  rw [Me.one1_len] at hi
  have e : (Me.one1 t).getD i [] = [t.getD i 0] := by unfold Me.one1; rw [Me.getD_map (d := (0 : Int)) _ hi]
  rw [e]
  exact h.row i hi
theorem take_one {j : Nat} (h : j < t.length) : t.take (j + 1) = t.take j ++ [t.getD j 0] := by
  rw [List.take_add_one, List.getElem?_eq_getElem h, Me.getD_eq h]
  rfl
end
end Go.Proofs.Ytojnhdkclabkgaa
namespace Go.Proofs.Ytojnhdkclabkgaa
open Go.RowKit
set_option linter.unusedVariables false
set_option linter.unusedSimpArgs false
attribute [local go_sem] y_undef
theorem ptsin_belowM {w w' : World} {v : Value} {l : List (List Int)} (h : PtsIn w v l) (hb : Below w.heap.size w w') : PtsIn w' v l := by
  obtain ⟨A, c, a1, c1, e, ho⟩ := h
  refine ⟨A, c, a1, c1, e, fun i hi => ?_⟩
  obtain ⟨b, off, eA, hlt, hc, hq, hs⟩ := ho i hi
  exact ⟨b, off, eA, Nat.lt_of_lt_of_le hlt hb.size, (hb.cell (p := ⟨b, off + i, none⟩) hlt).trans hc, hq.below hb, hs⟩
set_option maxHeartbeats 4000000 in
set_option maxRecDepth 100000 in
theorem rmerge_any (g : Gr.G) (vi va vb vp vh : Value) (w : World) (hi : GrIn w g vi va vb vp vh) (hp : PtsIn w vp g.pts) (hf : Gr.Fit g) :
    Calls Try.prog 36 #[.agg #[vi, .int .i64 g.vars, .int .i64 g.keep, va, .int .i64 g.sh, vb, vp, vh]] w (PassAns (Me.ans g) (Me.lst g) (Gr.chk g) w) := by
  obtain ⟨Ai, ci, rfl, -⟩ := hi.ins.opened
  obtain ⟨Aa, ca, rfl, -⟩ := hi.ars.opened
  obtain ⟨Ab, cb, a1, a2, k1, k2, rfl, -⟩ := id hi.blks
  obtain ⟨Aq, cp, ap, kp, rfl, -⟩ := hi.pts.opened
  obtain ⟨Ah, ch, rfl, -⟩ := hi.hds.opened
  have HI := Lib.hid hi
  obtain ⟨r, hr⟩ : ∃ r, Gr.chk g = r := ⟨_, rfl⟩
  have HCk := Lib.hid fun (W : World) (hW : Below w.heap.size w W) => rcheck_any g _ _ _ _ _ r hr W (hi.below hW) (ptsin_belowM hp hW) hf
  have HR := Lib.hid hr
  have HX := Lib.hid (show Mx w #[.slice Ai g.ins.length ci, .int .i64 g.vars, .int .i64 g.keep, .slice Aa g.ars.length ca, .int .i64 g.sh, .slice Ab g.blks.length cb, .slice Aq g.pts.length cp, .slice Ah g.hds.length ch] #[.slice none 0 0, .int .i64 0, .int .i64 0, .slice none 0 0, .int .i64 0, .slice none 0 0, .slice none 0 0, .slice none 0 0] ((w.alloc (.cells #[.slice Ai g.ins.length ci, .int .i64 g.vars, .int .i64 g.keep, .slice Aa g.ars.length ca, .int .i64 g.sh, .slice Ab g.blks.length cb, .slice Aq g.pts.length cp, .slice Ah g.hds.length ch] 40)).alloc (.cells #[.slice none 0 0, .int .i64 0, .int .i64 0, .slice none 0 0, .int .i64 0, .slice none 0 0, .slice none 0 0, .slice none 0 0] 40)) from by
    have h := Bk.new (w.alloc (.cells #[.slice Ai g.ins.length ci, .int .i64 g.vars, .int .i64 g.keep, .slice Aa g.ars.length ca, .int .i64 g.sh, .slice Ab g.blks.length cb, .slice Aq g.pts.length cp, .slice Ah g.hds.length ch] 40)) 40 #[.slice none 0 0, .int .i64 0, .int .i64 0, .slice none 0 0, .int .i64 0, .slice none 0 0, .slice none 0 0, .slice none 0 0]
    rw [size_alloc] at h
    exact ⟨bla (bla (Below.refl _ _) _) _, (Bk.new w _ _).below (bla (Below.refl _ _) _), h⟩)
  clear hi hf hp
  rw [hr]
  clear hr
  go_enter Try.func36, Try.ntmps36
  go_wp2_with fail
  refine (HCk.out _ HX.out.low).mono ?_
  rintro e w1 ⟨rfl, hb1⟩
  replace HX := Lib.hid (HX.out.below hb1)
  clear hb1 HCk
  have g0 := HX.out.gb.cell 0
  have g1 := HX.out.gb.cell 1
  have g2 := HX.out.gb.cell 2
  have g3 := HX.out.gb.cell 3
  have g4 := HX.out.gb.cell 4
  have g5 := HX.out.gb.cell 5
  have g6 := HX.out.gb.cell 6
  have g7 := HX.out.gb.cell 7
  by_cases h0 : r = 0
  · subst h0
    have HIv := Lib.hid (Me.Iv.of HR.out)
    have HEa := Lib.hid (show Me.ans g = (Me.out g).1 ∧ Me.lst g = Me.one1 (Me.out g).2 by unfold Me.ans Me.lst; rw [if_pos HR.out, if_pos HR.out]; exact ⟨rfl, rfl⟩)
    have hn64 := HIv.out.hi
    go_wp2_with fail
    refine (rcopy_any g _ _ _ _ _ w1 (HI.out.below HX.out.low) (by have := HIv.out.ins; omega) (by have := HIv.out.ars; omega) (by have := HIv.out.hdn; omega) (by omega) (by have := HIv.out.ptn; omega) (fun k hk => ⟨by have := HIv.out.op k; omega, by have := HIv.out.two k hk; omega⟩) (fun k hk => by have := HIv.out.ptl _ (Me.getD_mem (d := []) hk); omega)).mono ?_
    rintro e w2 ⟨vi, va, vh, vb, us, vp, ps, rfl, hb2, hcr, hbk, hmp⟩
    have hgf := CopyPost.gf hcr hbk hmp
    have HBw := Lib.hid (show w.heap.size + 1 + 1 ≤ w1.heap.size ∧ w1.heap.size ≤ w2.heap.size from ⟨HX.out.rb.lt, hb2.size⟩)
    obtain ⟨D1, e1, rfl⟩ := own_eta hgf.ins
    obtain ⟨D2, e2, rfl⟩ := own_eta hgf.ars
    obtain ⟨D3, e3, rfl⟩ := own_eta hgf.bks.row
    obtain ⟨D4, e4, rfl⟩ := own_eta hgf.po
    obtain ⟨D5, e5, rfl⟩ := own_eta hgf.hds
    have hbl : Below w2.heap.size w2 (w2.alloc (.cells #[.slice D1 g.ins.length e1, .int .i64 g.vars, .int .i64 g.keep, .slice D2 g.ars.length e2, .int .i64 g.sh, .slice D3 g.blks.length e3, .slice D4 g.pts.length e4, .slice D5 g.hds.length e5] 40)) := bla (Below.refl _ _) _
    have HG := Lib.hid ((hgf.mono (show w.heap.size + 1 + 1 ≤ w1.heap.size + 1 + 1 by have := HBw.out.1; omega)).below hbl)
    have HF := Lib.hid (Bk.new w2 40 #[.slice D1 g.ins.length e1, .int .i64 g.vars, .int .i64 g.keep, .slice D2 g.ars.length e2, .int .i64 g.sh, .slice D3 g.blks.length e3, .slice D4 g.pts.length e4, .slice D5 g.hds.length e5])
    have HX2 := Lib.hid ((HX.out.below hb2).below hbl)
    have HWs := Lib.hid (show (w2.alloc (.cells #[.slice D1 g.ins.length e1, .int .i64 g.vars, .int .i64 g.keep, .slice D2 g.ars.length e2, .int .i64 g.sh, .slice D3 g.blks.length e3, .slice D4 g.pts.length e4, .slice D5 g.hds.length e5] 40)).heap.size = w2.heap.size + 1 from size_alloc _ _)
    clear hb2 hcr hbk hmp hgf hbl HX g0 g1 g2 g3 g4 g5 g6 g7
    go_upto_region 5 with fail
    obtain ⟨F, hF⟩ : ∃ F, w2.heap.size = F := ⟨_, rfl⟩
    rw [hF] at HF HBw HWs ⊢
    clear hF
    generalize hW : World.alloc w2 (.cells #[.slice D1 g.ins.length e1, .int .i64 g.vars, .int .i64 g.keep, .slice D2 g.ars.length e2, .int .i64 g.sh, .slice D3 g.blks.length e3, .slice D4 g.pts.length e4, .slice D5 g.hds.length e5] 40) = U at HG HF HX2 HWs ⊢
    clear hW w2
    obtain ⟨n, hn⟩ : ∃ n, g.blks.length = n := ⟨_, rfl⟩
    have HN := Lib.hid hn
    have hmk := mk_ints n (by omega)
    have g5 := HX2.out.gb.cell 5
    rw [hn] at g5 hn64 HG HX2 HF ⊢
    clear hn
    go_wp2
    clear g5 hmk
    obtain ⟨gt, hgt⟩ : ∃ gt, U.heap.size = gt := ⟨_, rfl⟩
    have HT := Lib.hid (show Below gt U (U.alloc (.cells (slRow n (fun _ => .int .i64 0)) 3)) ∧ (U.alloc (.cells (slRow n (fun _ => .int .i64 0)) 3)).ownsRow gt 3 1 (.slice (some ⟨gt, 0, none⟩) n n) n ((stK n 0).map (.int .i64)) from by
      rw [← hgt, stK_zero]
      exact ⟨bla (Below.refl _ _) _, own_ints U n (by omega)⟩)
    have HGt := Lib.hid hgt
    rw [hgt]
    clear hgt
    go_loopw [8] (fun i wr => ∃ k : Nat, k ≤ n ∧ i = .int .i64 k ∧ Hid (Below gt U wr ∧ wr.ownsRow gt 3 1 (.slice (some ⟨gt, 0, none⟩) n n) n ((stK n k).map (.int .i64)))) (fun i _ => n - (intOf i).toNat)
    case atStart => exact ⟨0, Nat.zero_le _, rfl, HT⟩
    case round =>
      clear HT
      obtain ⟨k, hk, rfl, HT⟩ := hrel
      by_cases hlt : k < n
      · have hlt' : (k : Int) < n := by omega
        have hlt0 : (0 : Int) ≤ (k : Int) := by omega
        obtain ⟨zz, r, y, hgl⟩ := own_inn HT.out.2 (i := k) (by omega)
        have HN2 := Lib.hid (show Below gt U (wr.setCell ⟨gt, k, none⟩ (.int .i64 (k : Int))) ∧ (wr.setCell ⟨gt, k, none⟩ (.int .i64 (k : Int))).ownsRow gt 3 1 (.slice (some ⟨gt, 0, none⟩) n n) n ((stK n (k + 1)).map (.int .i64)) from by
          refine ⟨HT.out.1.setCell (Nat.le_refl _) _, ?_⟩
          have h := own_setd HT.out.2 k (.int .i64 (k : Int))
          rw [← List.map_set, stK_set hlt] at h
          exact h)
        clear HT
        go_wp2
        clear r y hgl
        go_roundw
        case rel => exact ⟨k + 1, by omega, by first | rfl | go_num, HN2⟩
        case measure => simp [intOf]; omega
      · have hlt' : ¬ (k : Int) < n := by omega
        obtain rfl : n = k := by omega
        have HM := Lib.hid (show Mz w #[.slice Ai g.ins.length ci, .int .i64 g.vars, .int .i64 g.keep, .slice Aa g.ars.length ca, .int .i64 g.sh, .slice Ab n cb, .slice Aq g.pts.length cp, .slice Ah g.hds.length ch] #[.slice none 0 0, .int .i64 0, .int .i64 0, .slice none 0 0, .int .i64 0, .slice none 0 0, .slice none 0 0, .slice none 0 0] F gt n (Me.start n) g #[.slice D1 g.ins.length e1, .int .i64 g.vars, .int .i64 g.keep, .slice D2 g.ars.length e2, .int .i64 g.sh, .slice D3 n e3, .slice D4 g.pts.length e4, .slice D5 g.hds.length e5] (.slice D1 g.ins.length e1) (.slice D2 g.ars.length e2) (.slice D3 n e3) (.slice D4 g.pts.length e4) (.slice D5 g.hds.length e5) us ps wr from by
          have hb : Below U.heap.size U wr := by rw [HGt.out]; exact HT.out.1
          have h2 := HT.out.2
          rw [stK_all] at h2
          exact ⟨HX2.out.below hb, by have := HBw.out; omega, by have := HWs.out; have := HGt.out; omega, HF.out.below hb, HG.out.below hb, HG.out.old (by rw [HGt.out]; exact Nat.le_refl _), h2⟩)
        have HAt := Lib.hid (show Me.At g g (Me.start n) n from by have h := Me.At.start HIv.out; rw [HN.out] at h; exact h)
        have HF0 := Lib.hid (show w.heap.size + 1 + 1 ≤ F from by have := HBw.out; omega)
        clear HT HG HX2 HF HBw
        go_wp2
        go_loopw [9] (fun i wr => ∃ (k : Nat) (G : Gr.G) (t : List Int) (f : Nat) (vi va vb vp vh : Value) (us : List (Value × Int × Value)) (ps : List Value), i = .int .i64 k ∧ k ≤ G.blks.length ∧ G.blks.length ≤ 64 ∧ Hid (Me.At g G t f) ∧ Hid (Mz w #[.slice Ai g.ins.length ci, .int .i64 g.vars, .int .i64 g.keep, .slice Aa g.ars.length ca, .int .i64 g.sh, .slice Ab n cb, .slice Aq g.pts.length cp, .slice Ah g.hds.length ch] #[.slice none 0 0, .int .i64 0, .int .i64 0, .slice none 0 0, .int .i64 0, .slice none 0 0, .slice none 0 0, .slice none 0 0] F gt n t G #[vi, .int .i64 g.vars, .int .i64 g.keep, va, .int .i64 g.sh, vb, vp, vh] vi va vb vp vh us ps wr) ∧ Hid (∀ j, j < k → Me.tk G j = false)) (fun i wr => slLen (wr.cell? ⟨F, 5, none⟩) * 100 + 100 - (intOf i).toNat)
        case atStart => exact ⟨0, g, _, _, _, _, _, _, _, _, _, rfl, Nat.zero_le _, by rw [HN.out]; exact hn64, HAt, HM, Lib.hid fun j hj => absurd hj (Nat.not_lt_zero _)⟩
        case round =>
          clear HM HAt
          obtain ⟨k, G, t, f, vi, va, vb, vp, vh, us, ps, rfl, hk, hG, HAt, HM, HFr⟩ := hrel
          obtain ⟨E1, f1, rfl⟩ := own_eta HM.out.gf.ins
          obtain ⟨E2, f2, rfl⟩ := own_eta HM.out.gf.ars
          obtain ⟨E3, f3, rfl⟩ := own_eta HM.out.gf.bks.row
          obtain ⟨E4, f4, rfl⟩ := own_eta HM.out.gf.po
          obtain ⟨E5, f5, rfl⟩ := own_eta HM.out.gf.hds
          have HGr := Lib.hid HM.out.gf.gr
          obtain ⟨m1, hm1⟩ : ∃ x, G.ins.length = x := ⟨_, rfl⟩
          obtain ⟨m2, hm2⟩ : ∃ x, G.ars.length = x := ⟨_, rfl⟩
          obtain ⟨m3, hm3⟩ : ∃ x, G.blks.length = x := ⟨_, rfl⟩
          obtain ⟨m4, hm4⟩ : ∃ x, G.pts.length = x := ⟨_, rfl⟩
          obtain ⟨m5, hm5⟩ : ∃ x, G.hds.length = x := ⟨_, rfl⟩
          have HM3 := Lib.hid hm3
          rw [hm1, hm2, hm3, hm4, hm5] at HM HGr
          rw [hm3] at hk hG
          clear hm1 hm2 hm3 hm4 hm5
          have c5 := HM.out.fb.cell 5
          by_cases hlt : k < m3
          · have hlt' : (k : Int) < m3 := by omega
            have hlt0 : (0 : Int) ≤ (k : Int) := by omega
            have HZb := Lib.hid fun (u : World) (h : Bk u F 40 #[.slice E1 m1 f1, .int .i64 g.vars, .int .i64 g.keep, .slice E2 m2 f2, .int .i64 g.sh, .slice E3 m3 f3, .slice E4 m4 f4, .slice E5 m5 f5]) => And.intro (h.cell 0) (And.intro (h.cell 1) (And.intro (h.cell 2) (And.intro (h.cell 3) (And.intro (h.cell 4) (And.intro (h.cell 5) (And.intro (h.cell 6) (h.cell 7)))))))
            have HMd := Lib.hid (HM.out.below (below_drewN wr.heap.size wr 1))
            have z0 := HZb.out _ HMd.out.fb
            have HBe := Lib.hid (rbefore_any E1 E2 E3 E4 E5 m1 f1 m2 f2 m3 f3 m4 f4 m5 f5 g.vars g.keep g.sh G.blks wr.drew HMd.out.gf.gr.blks hG HAt.out.iv.two HAt.out.iv.nx HAt.out.iv.nd)
            have HTa := Lib.hid fun (base gy cy : Nat) (ub : List Value) (r : Bool) (hr : Me.tk G k = r) (u : World) (h1 : GrIn u G (.slice E1 m1 f1) (.slice E2 m2 f2) (.slice E3 m3 f3) (.slice E4 m4 f4) (.slice E5 m5 f5)) (h2 : Lst base u (.slice (some ⟨gy, 0, none⟩) m3 cy) ub (Me.bef G.blks)) => takes_any E1 E2 E3 E4 E5 m1 f1 m2 f2 m3 f3 m4 f4 m5 f5 g.vars g.keep g.sh G k base gy cy ub r hr u h1 HAt.out.iv (by rw [HM3.out]; exact hlt) h2
            obtain ⟨r, htk⟩ : ∃ r, Me.tk G k = r := ⟨_, rfl⟩
            have HTk := Lib.hid htk
            clear htk
            go_wp2
            refine wp_region_held_drew (S := (fun w' => w'.cell? ⟨F, 0, none⟩ = some (.slice E1 m1 f1) ∧ w'.cell? ⟨F, 1, none⟩ = some (.int .i64 g.vars) ∧ w'.cell? ⟨F, 2, none⟩ = some (.int .i64 g.keep) ∧ w'.cell? ⟨F, 3, none⟩ = some (.slice E2 m2 f2) ∧ w'.cell? ⟨F, 4, none⟩ = some (.int .i64 g.sh) ∧ w'.cell? ⟨F, 5, none⟩ = some (.slice E3 m3 f3) ∧ w'.cell? ⟨F, 6, none⟩ = some (.slice E4 m4 f4) ∧ w'.cell? ⟨F, 7, none⟩ = some (.slice E5 m5 f5))) (by kernel_rfl) (z0) (fun hHeld => ?_)
            refine' wpAnyH_take (i := 0) (v := _) ?_ ?_ ?_ ?_ ?_ ?_ ?_ ?_
            rotate_left 2
            focus (simp only [List.getElem?_toArray, List.getElem?_cons_succ, List.getElem?_cons_zero]; rfl)
            focus kernel_rfl
            focus kernel_rfl
            focus kernel_rfl
            focus exact (fun _ _ _ h => h)
            refine Or.inl ⟨?_, ?_⟩
            focus (go_simp; done)
            focus (intro w hSw; (try dsimp only at hSw); (first | (go_simp; done) | (go_simp; with_reducible rfl)))
            focus assumption
            (try simp only [Act.put, List.setIfInBounds_toArray, List.set_cons_zero, List.set_cons_succ])
            refine' wpAnyH_take (i := 1) (v := _) ?_ ?_ ?_ ?_ ?_ ?_ ?_ ?_
            rotate_left 2
            focus (simp only [List.getElem?_toArray, List.getElem?_cons_succ, List.getElem?_cons_zero]; rfl)
            focus kernel_rfl
            focus kernel_rfl
            focus kernel_rfl
            focus exact (fun _ _ _ h => h)
            refine Or.inl ⟨?_, ?_⟩
            focus (go_simp; done)
            focus (intro w hSw; (try dsimp only at hSw); (first | (go_simp; done) | (go_simp; with_reducible rfl)))
            focus assumption
            (try simp only [Act.put, List.setIfInBounds_toArray, List.set_cons_zero, List.set_cons_succ])
            refine' wpAnyH_take (i := 3) (v := _) ?_ ?_ ?_ ?_ ?_ ?_ ?_ ?_
            rotate_left 2
            focus (simp only [List.getElem?_toArray, List.getElem?_cons_succ, List.getElem?_cons_zero]; rfl)
            focus kernel_rfl
            focus kernel_rfl
            focus kernel_rfl
            focus exact (fun _ _ _ h => h)
            refine Or.inl ⟨?_, ?_⟩
            focus (go_simp; done)
            focus (intro w hSw; (try dsimp only at hSw); (first | (go_simp; done) | (go_simp; with_reducible rfl)))
            focus assumption
            (try simp only [Act.put, List.setIfInBounds_toArray, List.set_cons_zero, List.set_cons_succ])
            refine wpAnyH_ready (rs := [2]) (by kernel_rfl) (by simp) ?_
            refine' AllReadyH.cons ?_ (fun K hK => ?_) AllReadyH.nil
            rotate_left
            focus (simp only [List.getElem?_toArray, List.getElem?_cons_succ, List.getElem?_cons_zero]; rfl)
            go_simp
            go_at_call 70
            refine HBe.out.mono ?_
            rintro e w2 ⟨yb, ub, rfl, hb2, hl⟩
            obtain ⟨gy, cy, rfl⟩ : ∃ gy cy, yb = .slice (some ⟨gy, 0, none⟩) m3 cy := by
              obtain ⟨g', c', e, -⟩ := own_at (i := 0) (d := nl) hl.out (by rw [show (Me.bef G.blks).length = G.blks.length from Me.befK_len _ _, HM3.out]; omega)
              refine ⟨g', c', e.trans ?_⟩
              rw [show (Me.bef G.blks).length = m3 from (Me.befK_len _ _).trans HM3.out]
            have HM2 := Lib.hid (HMd.out.below hb2)
            have HL2 := Lib.hid hl
            have z1 := HZb.out _ HM2.out.fb
            clear hb2 hl
            refine hK.out _ _ (by first | exact z0 | exact z1 | exact z2) (fun hH2 => ?_)
            clear hK K hHeld
            have hHeld := hH2
            clear hH2
            (try simp only [Act.put, List.setIfInBounds_toArray, List.set_cons_zero, List.set_cons_succ])
            refine wpAnyH_ready (rs := [4]) (by kernel_rfl) (by simp) ?_
            refine' AllReadyH.cons ?_ (fun K hK => ?_) AllReadyH.nil
            rotate_left
            focus (simp only [List.getElem?_toArray, List.getElem?_cons_succ, List.getElem?_cons_zero]; rfl)
            go_simp
            go_at_call 69
            refine (HTa.out _ gy cy ub r HTk.out w2 HM2.out.gf.gr HL2.out).mono ?_
            rintro e w3 ⟨hb3, rfl⟩
            have HM4 := Lib.hid (HM2.out.below hb3)
            have z2 := HZb.out _ HM4.out.fb
            clear hb3
            refine hK.out _ _ (by first | exact z0 | exact z1 | exact z2) (fun hH2 => ?_)
            clear hK K hHeld
            have hHeld := hH2
            clear hH2
            (try simp only [Act.put, List.setIfInBounds_toArray, List.set_cons_zero, List.set_cons_succ])
            refine' wpAnyH_take (i := 5) (v := _) ?_ ?_ ?_ ?_ ?_ ?_ ?_ ?_
            rotate_left 2
            focus (simp only [List.getElem?_toArray, List.getElem?_cons_succ, List.getElem?_cons_zero]; rfl)
            focus kernel_rfl
            focus kernel_rfl
            focus kernel_rfl
            focus exact (fun _ _ _ h => h)
            refine Or.inl ⟨?_, ?_⟩
            focus (go_simp; done)
            focus (intro w hSw; (try dsimp only at hSw); (first | (go_simp; done) | (go_simp; with_reducible rfl)))
            focus assumption
            (try simp only [Act.put, List.setIfInBounds_toArray, List.set_cons_zero, List.set_cons_succ])
            refine' wpAnyH_take (i := 6) (v := _) ?_ ?_ ?_ ?_ ?_ ?_ ?_ ?_
            rotate_left 2
            focus (simp only [List.getElem?_toArray, List.getElem?_cons_succ, List.getElem?_cons_zero]; rfl)
            focus kernel_rfl
            focus kernel_rfl
            focus kernel_rfl
            focus exact (fun _ _ _ h => h)
            refine Or.inl ⟨?_, ?_⟩
            focus (go_simp; done)
            focus (intro w hSw; (try dsimp only at hSw); (first | (go_simp; done) | (go_simp; with_reducible rfl)))
            focus assumption
            (try simp only [Act.put, List.setIfInBounds_toArray, List.set_cons_zero, List.set_cons_succ])
            refine' wpAnyH_take (i := 7) (v := _) ?_ ?_ ?_ ?_ ?_ ?_ ?_ ?_
            rotate_left 2
            focus (simp only [List.getElem?_toArray, List.getElem?_cons_succ, List.getElem?_cons_zero]; rfl)
            focus kernel_rfl
            focus kernel_rfl
            focus kernel_rfl
            focus exact (fun _ _ _ h => h)
            refine Or.inl ⟨?_, ?_⟩
            focus (go_simp; done)
            focus (intro w hSw; (try dsimp only at hSw); (first | (go_simp; done) | (go_simp; with_reducible rfl)))
            focus assumption
            (try simp only [Act.put, List.setIfInBounds_toArray, List.set_cons_zero, List.set_cons_succ])
            refine' wpAnyH_take (i := 8) (v := _) ?_ ?_ ?_ ?_ ?_ ?_ ?_ ?_
            rotate_left 2
            focus (simp only [List.getElem?_toArray, List.getElem?_cons_succ, List.getElem?_cons_zero]; rfl)
            focus kernel_rfl
            focus kernel_rfl
            focus kernel_rfl
            focus exact (fun _ _ _ h => h)
            refine Or.inl ⟨?_, ?_⟩
            focus (go_simp; done)
            focus (intro w hSw; (try dsimp only at hSw); (first | (go_simp; done) | (go_simp; with_reducible rfl)))
            focus assumption
            (try simp only [Act.put, List.setIfInBounds_toArray, List.set_cons_zero, List.set_cons_succ])
            refine' wpAnyH_take (i := 9) (v := _) ?_ ?_ ?_ ?_ ?_ ?_ ?_ ?_
            rotate_left 2
            focus (simp only [List.getElem?_toArray, List.getElem?_cons_succ, List.getElem?_cons_zero]; rfl)
            focus kernel_rfl
            focus kernel_rfl
            focus kernel_rfl
            focus exact (fun _ _ _ h => h)
            refine Or.inl ⟨?_, ?_⟩
            focus (go_simp; done)
            focus (intro w hSw; (try dsimp only at hSw); (first | (go_simp; done) | (go_simp; with_reducible rfl)))
            focus assumption
            (try simp only [Act.put, List.setIfInBounds_toArray, List.set_cons_zero, List.set_cons_succ])
            refine wpAnyH_done (by kernel_rfl) ?_ _

            have HSl := Lib.hid (show slLen (wr.cell? ⟨F, 5, none⟩) = m3 from by rw [c5]; rfl)
            clear HM HMd HBe HTa HM2 HL2 z0 z1 z2 hHeld HZb HGr c5
            cases r with
            | false =>
              have HFn := Lib.hid (show ∀ j, j < k + 1 → Me.tk G j = false from fun j hj => by
                rcases Nat.lt_succ_iff_lt_or_eq.1 hj with h | rfl
                · exact HFr.out j h
                · exact HTk.out)
              go_wp2
              go_roundw
              case rel => exact ⟨k + 1, G, t, f, _, _, _, _, _, us, ps, by first | rfl | go_num, by rw [HM3.out]; omega, by rw [HM3.out]; omega, HAt, HM4, HFn⟩
              case measure =>
                have e1 : slLen (w3.cell? ⟨F, 5, none⟩) = m3 := by rw [HM4.out.fb.cell 5]; rfl
                have e2 := HSl.out
                simp only [e1, e2]
                simp [intOf]
                omega
            | true =>
              have hkG : k < G.blks.length := by rw [HM3.out]; exact hlt
              have HFi := Lib.hid (Me.first_some hkG HTk.out HFr.out)
              obtain ⟨b, f', ht, hat⟩ := HAt.out.step hkG HTk.out HFi.out
              have HT := Lib.hid ht
              have HAt2 := Lib.hid hat
              rw [if_pos rfl, ht.nb]
              have hOn := one_any G k b (.slice E1 m1 f1) (.slice E2 m2 f2) (.slice E3 m3 f3) (.slice E4 m4 f4) (.slice E5 m5 f5) w3 HM4.out.gf.gr HAt.out.iv ht
              rw [HAt.out.vars, HAt.out.keep, HAt.out.sh] at hOn
              have HOn := Lib.hid hOn
              clear hOn ht hat hkG
              have c0 := HM4.out.fb.cell 0
              have c1 := HM4.out.fb.cell 1
              have c2 := HM4.out.fb.cell 2
              have c3 := HM4.out.fb.cell 3
              have c4 := HM4.out.fb.cell 4
              have c5 := HM4.out.fb.cell 5
              have c6 := HM4.out.fb.cell 6
              have c7 := HM4.out.fb.cell 7
              go_wp2_with fail
              refine HOn.out.mono ?_
              rintro e w5 ⟨vi5, va5, vb5, vp5, vh5, vt5, us5, ps5, rfl, hb5, hgf, hto⟩
              rw [HAt.out.vars, HAt.out.keep, HAt.out.sh]
              rw [HM3.out] at hto
              obtain ⟨T5, q5, rfl⟩ := own_eta hto
              obtain ⟨D1', e1', rfl⟩ := own_eta hgf.ins
              obtain ⟨D2', e2', rfl⟩ := own_eta hgf.ars
              obtain ⟨D3', e3', rfl⟩ := own_eta hgf.bks.row
              obtain ⟨D4', e4', rfl⟩ := own_eta hgf.po
              obtain ⟨D5', e5', rfl⟩ := own_eta hgf.hds
              have HGl := Lib.hid (show gt < w3.heap.size from (HM4.out.tor.lt gt rfl).2)
              have HM5 := Lib.hid ((HM4.out.below hb5).graph hgf (by have := HGl.out; omega))
              have HTo := Lib.hid (show w5.ownsRow (w3.heap.size + 1 + 1) 3 1 (.slice T5 m3 q5) m3 ((Me.tl2 m3 k b).map (.int .i64)) from hto)
              obtain ⟨l1, hl1⟩ : ∃ x, (Me.join G k b).ins.length = x := ⟨_, rfl⟩
              obtain ⟨l2, hl2⟩ : ∃ x, (Me.join G k b).ars.length = x := ⟨_, rfl⟩
              obtain ⟨l3, hl3⟩ : ∃ x, (Me.join G k b).blks.length = x := ⟨_, rfl⟩
              obtain ⟨l4, hl4⟩ : ∃ x, (Me.join G k b).pts.length = x := ⟨_, rfl⟩
              obtain ⟨l5, hl5⟩ : ∃ x, (Me.join G k b).hds.length = x := ⟨_, rfl⟩
              have HL3 := Lib.hid (show l3 < m3 ∧ (Me.join G k b).blks.length = l3 from ⟨by rw [← hl3, Me.join_len HT.out.lb, HM3.out]; omega, hl3⟩)
              rw [hl1, hl2, hl3, hl4, hl5] at HM5 ⊢
              clear hl1 hl2 hl3 hl4 hl5 hgf hto hb5 HM4 HOn c0 c1 c2 c3 c4 c5 c6 c7
              go_upto_region 16 with fail
              have hbk : Below w5.heap.size w5 (w5.alloc (.cells #[.slice D1' l1 e1', .int .i64 g.vars, .int .i64 g.keep, .slice D2' l2 e2', .int .i64 g.sh, .slice D3' l3 e3', .slice D4' l4 e4', .slice D5' l5 e5'] 40)) := bla (Below.refl _ _) _
              have HM6 := Lib.hid (HM5.out.below hbk)
              have HF6 := Lib.hid (Bk.new w5 40 #[.slice D1' l1 e1', .int .i64 g.vars, .int .i64 g.keep, .slice D2' l2 e2', .int .i64 g.sh, .slice D3' l3 e3', .slice D4' l4 e4', .slice D5' l5 e5'])
              have HT6 := Lib.hid (own_below HTo.out hbk)
              clear hbk HM5 HTo
              obtain ⟨F2, hF2⟩ : ∃ x, w5.heap.size = x := ⟨_, rfl⟩
              rw [hF2] at HF6 ⊢
              clear hF2
              generalize hW : World.alloc w5 (.cells #[.slice D1' l1 e1', .int .i64 g.vars, .int .i64 g.keep, .slice D2' l2 e2', .int .i64 g.sh, .slice D3' l3 e3', .slice D4' l4 e4', .slice D5' l5 e5'] 40) = W6 at HM6 HF6 HT6 ⊢
              clear hW w5
              have d0 := HF6.out.cell 0
              have r0 := HM6.out.fb.cell 0
              have y0 := HM6.out.fb.frozen 0
              have d1 := HF6.out.cell 1
              have r1 := HM6.out.fb.cell 1
              have y1 := HM6.out.fb.frozen 1
              have d2 := HF6.out.cell 2
              have r2 := HM6.out.fb.cell 2
              have y2 := HM6.out.fb.frozen 2
              have d3 := HF6.out.cell 3
              have r3 := HM6.out.fb.cell 3
              have y3 := HM6.out.fb.frozen 3
              have d4 := HF6.out.cell 4
              have r4 := HM6.out.fb.cell 4
              have y4 := HM6.out.fb.frozen 4
              have d5 := HF6.out.cell 5
              have r5 := HM6.out.fb.cell 5
              have y5 := HM6.out.fb.frozen 5
              have d6 := HF6.out.cell 6
              have r6 := HM6.out.fb.cell 6
              have y6 := HM6.out.fb.frozen 6
              have d7 := HF6.out.cell 7
              have r7 := HM6.out.fb.cell 7
              have y7 := HM6.out.fb.frozen 7
              have HM7 := Lib.hid (show Mz w #[.slice Ai g.ins.length ci, .int .i64 g.vars, .int .i64 g.keep, .slice Aa g.ars.length ca, .int .i64 g.sh, .slice Ab n cb, .slice Aq g.pts.length cp, .slice Ah g.hds.length ch] #[.slice none 0 0, .int .i64 0, .int .i64 0, .slice none 0 0, .int .i64 0, .slice none 0 0, .slice none 0 0, .slice none 0 0] F gt n t (Me.join G k b) #[.slice D1' l1 e1', .int .i64 g.vars, .int .i64 g.keep, .slice D2' l2 e2', .int .i64 g.sh, .slice D3' l3 e3', .slice D4' l4 e4', .slice D5' l5 e5'] (.slice D1' l1 e1') (.slice D2' l2 e2') (.slice D3' l3 e3') (.slice D4' l4 e4') (.slice D5' l5 e5') us5 ps5 (World.setCell (World.setCell (World.setCell (World.setCell (World.setCell (World.setCell (World.setCell (World.setCell W6 ⟨F, 0, none⟩ (.slice D1' l1 e1')) ⟨F, 1, none⟩ (.int .i64 g.vars)) ⟨F, 2, none⟩ (.int .i64 g.keep)) ⟨F, 3, none⟩ (.slice D2' l2 e2')) ⟨F, 4, none⟩ (.int .i64 g.sh)) ⟨F, 5, none⟩ (.slice D3' l3 e3')) ⟨F, 6, none⟩ (.slice D4' l4 e4')) ⟨F, 7, none⟩ (.slice D5' l5 e5')) from ((((((((HM6.out.fset 0 (.slice D1' l1 e1')).fset 1 (.int .i64 g.vars)).fset 2 (.int .i64 g.keep)).fset 3 (.slice D2' l2 e2')).fset 4 (.int .i64 g.sh)).fset 5 (.slice D3' l3 e3')).fset 6 (.slice D4' l4 e4')).fset 7 (.slice D5' l5 e5')))
              have HFb := Lib.hid (show F < w3.heap.size + 1 + 1 from by have := HM6.out.ft; have := HGl.out; omega)
              have HT7 := Lib.hid (show ((World.setCell (World.setCell (World.setCell (World.setCell (World.setCell (World.setCell (World.setCell (World.setCell W6 ⟨F, 0, none⟩ (.slice D1' l1 e1')) ⟨F, 1, none⟩ (.int .i64 g.vars)) ⟨F, 2, none⟩ (.int .i64 g.keep)) ⟨F, 3, none⟩ (.slice D2' l2 e2')) ⟨F, 4, none⟩ (.int .i64 g.sh)) ⟨F, 5, none⟩ (.slice D3' l3 e3')) ⟨F, 6, none⟩ (.slice D4' l4 e4')) ⟨F, 7, none⟩ (.slice D5' l5 e5'))).ownsRow (w3.heap.size + 1 + 1) 3 1 (.slice T5 m3 q5) m3 ((Me.tl2 m3 k b).map (.int .i64)) from (ownsRow_setCell_below ((ownsRow_setCell_below ((ownsRow_setCell_below ((ownsRow_setCell_below ((ownsRow_setCell_below ((ownsRow_setCell_below ((ownsRow_setCell_below ((ownsRow_setCell_below (HT6.out) (a := ⟨F, 0, none⟩) HFb.out (.slice D1' l1 e1'))) (a := ⟨F, 1, none⟩) HFb.out (.int .i64 g.vars))) (a := ⟨F, 2, none⟩) HFb.out (.int .i64 g.keep))) (a := ⟨F, 3, none⟩) HFb.out (.slice D2' l2 e2'))) (a := ⟨F, 4, none⟩) HFb.out (.int .i64 g.sh))) (a := ⟨F, 5, none⟩) HFb.out (.slice D3' l3 e3'))) (a := ⟨F, 6, none⟩) HFb.out (.slice D4' l4 e4'))) (a := ⟨F, 7, none⟩) HFb.out (.slice D5' l5 e5')))
              go_upto_region 17 with fail
              clear HM6 HF6 HT6 d0 d1 d2 d3 d4 d5 d6 d7 r0 r1 r2 r3 r4 r5 r6 r7 y0 y1 y2 y3 y4 y5 y6 y7
              generalize hW : (World.setCell (World.setCell (World.setCell (World.setCell (World.setCell (World.setCell (World.setCell (World.setCell W6 ⟨F, 0, none⟩ (.slice D1' l1 e1')) ⟨F, 1, none⟩ (.int .i64 g.vars)) ⟨F, 2, none⟩ (.int .i64 g.keep)) ⟨F, 3, none⟩ (.slice D2' l2 e2')) ⟨F, 4, none⟩ (.int .i64 g.sh)) ⟨F, 5, none⟩ (.slice D3' l3 e3')) ⟨F, 6, none⟩ (.slice D4' l4 e4')) ⟨F, 7, none⟩ (.slice D5' l5 e5')) = W7 at HM7 HT7 ⊢
              clear hW W6
              have HMt := Lib.hid (show Mz w #[.slice Ai g.ins.length ci, .int .i64 g.vars, .int .i64 g.keep, .slice Aa g.ars.length ca, .int .i64 g.sh, .slice Ab n cb, .slice Aq g.pts.length cp, .slice Ah g.hds.length ch] #[.slice none 0 0, .int .i64 0, .int .i64 0, .slice none 0 0, .int .i64 0, .slice none 0 0, .slice none 0 0, .slice none 0 0] F gt n (mx (Me.place (k : Int) (b : Int)) t 0) (Me.join G k b) #[.slice D1' l1 e1', .int .i64 g.vars, .int .i64 g.keep, .slice D2' l2 e2', .int .i64 g.sh, .slice D3' l3 e3', .slice D4' l4 e4', .slice D5' l5 e5'] (.slice D1' l1 e1') (.slice D2' l2 e2') (.slice D3' l3 e3') (.slice D4' l4 e4') (.slice D5' l5 e5') us5 ps5 W7 ∧ W7.ownsRow (w3.heap.size + 1 + 1) 3 1 (.slice T5 m3 q5) m3 ((Me.tl2 m3 k b).map (.int .i64)) from by rw [mx_zero]; exact ⟨HM7.out, HT7.out⟩)
              clear HM7 HT7
              go_wp2
              go_loopw [14] (fun i wr => ∃ j : Nat, j ≤ n ∧ i = .int .i64 j ∧ Hid (Mz w #[.slice Ai g.ins.length ci, .int .i64 g.vars, .int .i64 g.keep, .slice Aa g.ars.length ca, .int .i64 g.sh, .slice Ab n cb, .slice Aq g.pts.length cp, .slice Ah g.hds.length ch] #[.slice none 0 0, .int .i64 0, .int .i64 0, .slice none 0 0, .int .i64 0, .slice none 0 0, .slice none 0 0, .slice none 0 0] F gt n (mx (Me.place (k : Int) (b : Int)) t j) (Me.join G k b) #[.slice D1' l1 e1', .int .i64 g.vars, .int .i64 g.keep, .slice D2' l2 e2', .int .i64 g.sh, .slice D3' l3 e3', .slice D4' l4 e4', .slice D5' l5 e5'] (.slice D1' l1 e1') (.slice D2' l2 e2') (.slice D3' l3 e3') (.slice D4' l4 e4') (.slice D5' l5 e5') us5 ps5 wr ∧ wr.ownsRow (w3.heap.size + 1 + 1) 3 1 (.slice T5 m3 q5) m3 ((Me.tl2 m3 k b).map (.int .i64)))) (fun i _ => n - (intOf i).toNat)
              case atStart => exact ⟨0, Nat.zero_le _, rfl, HMt⟩
              case round =>
                clear HMt
                obtain ⟨j, hj, rfl, HMt⟩ := hrel
                have HTl := Lib.hid (show t.length = n from by rw [← HN.out]; exact HAt.out.tl)
                by_cases hlj : j < n
                · have hlj' : (j : Int) < n := by omega
                  have hlj0 : (0 : Int) ≤ (j : Int) := by omega
                  have hjt : j < t.length := by rw [HTl.out]; exact hlj
                  have hxr := HAt.out.tin _ (Me.getD_mem (d := (0 : Int)) hjt)
                  have HMx := Lib.hid (mx_set (Me.place (k : Int) (b : Int)) hjt)
                  obtain ⟨zz, r, y, hgl⟩ := own_inn HMt.out.1.tor (i := j) (by omega)
                  have x0 : wr.cell? ⟨gt, j, none⟩ = some (.int .i64 (t.getD j 0)) := by
                    have h : wr.ownsRow gt 3 1 (.slice (some ⟨gt, 0, none⟩) (mx (Me.place (k : Int) (b : Int)) t j).length n) (mx (Me.place (k : Int) (b : Int)) t j).length ((mx (Me.place (k : Int) (b : Int)) t j).map (.int .i64)) := by rw [mx_len, HTl.out]; exact HMt.out.1.tor
                    obtain ⟨g', c', e, -, -, h3, -⟩ := own_num h (i := j) (by rw [mx_len]; exact hjt)
                    injection e with e _ _
                    injection e with e
                    injection e with e _ _
                    subst e
                    rw [mx_at _ hjt] at h3
                    exact h3
                  obtain ⟨x, hx⟩ : ∃ x, t.getD j 0 = x := ⟨_, rfl⟩
                  rw [hx] at x0 hxr HMx
                  clear hx hjt r
                  obtain ⟨xn, rfl⟩ : ∃ xn : Nat, x = (xn : Int) := ⟨x.toNat, by omega⟩
                  have hxm : xn < m3 := by have := HM3.out; omega
                  have hx1 : (xn : Int) < (m3 : Int) := by omega
                  have hx2 : (0 : Int) ≤ (xn : Int) := by omega
                  have HV := Lib.hid (show (Me.tl2 m3 k b).getD xn 0 = Me.place (k : Int) (b : Int) (xn : Int) from by
                    have h := Me.tl2_at (n := m3) (a := k) (b := b) (x := (xn : Int)) (by rw [← HM3.out]; exact HT.out.la) (by rw [← HM3.out]; exact HT.out.lb) HT.out.ne (by omega)
                    rw [Int.toNat_natCast] at h
                    exact h)
                  have HL2 := Lib.hid (show (Me.tl2 m3 k b).length = m3 from by unfold Me.tl2; rw [List.length_set, Me.tl_len])
                  obtain ⟨g5', hT5, x1, hg5⟩ : ∃ g5', T5 = some ⟨g5', 0, none⟩ ∧ wr.cell? ⟨g5', xn, none⟩ = some (.int .i64 (Me.place (k : Int) (b : Int) (xn : Int))) ∧ g5' < wr.heap.size := by
                    have h : wr.ownsRow (w3.heap.size + 1 + 1) 3 1 (.slice T5 (Me.tl2 m3 k b).length q5) (Me.tl2 m3 k b).length ((Me.tl2 m3 k b).map (.int .i64)) := by rw [HL2.out]; exact HMt.out.2
                    obtain ⟨g', c', e, -, h2, h3, -⟩ := own_num h (i := xn) (by rw [HL2.out]; exact hxm)
                    injection e with e _ _
                    rw [HV.out] at h3
                    exact ⟨g', e, h3, h2⟩
                  subst hT5
                  have HN2 := Lib.hid (show Mz w #[.slice Ai g.ins.length ci, .int .i64 g.vars, .int .i64 g.keep, .slice Aa g.ars.length ca, .int .i64 g.sh, .slice Ab n cb, .slice Aq g.pts.length cp, .slice Ah g.hds.length ch] #[.slice none 0 0, .int .i64 0, .int .i64 0, .slice none 0 0, .int .i64 0, .slice none 0 0, .slice none 0 0, .slice none 0 0] F gt n (mx (Me.place (k : Int) (b : Int)) t (j + 1)) (Me.join G k b) #[.slice D1' l1 e1', .int .i64 g.vars, .int .i64 g.keep, .slice D2' l2 e2', .int .i64 g.sh, .slice D3' l3 e3', .slice D4' l4 e4', .slice D5' l5 e5'] (.slice D1' l1 e1') (.slice D2' l2 e2') (.slice D3' l3 e3') (.slice D4' l4 e4') (.slice D5' l5 e5') us5 ps5 (wr.setCell ⟨gt, j, none⟩ (.int .i64 (Me.place (k : Int) (b : Int) (xn : Int)))) ∧ (wr.setCell ⟨gt, j, none⟩ (.int .i64 (Me.place (k : Int) (b : Int) (xn : Int)))).ownsRow (w3.heap.size + 1 + 1) 3 1 (.slice (some ⟨g5', 0, none⟩) m3 q5) m3 ((Me.tl2 m3 k b).map (.int .i64)) from by
                    refine ⟨?_, ?_⟩
                    · rw [← HMx.out]
                      exact HMt.out.1.tset j _
                    · exact own_store HMt.out.2 (fun e => by have := (HMt.out.2.lt gt e).1; have := HGl.out; omega))
                  clear HMt
                  go_wp2
                  clear x0 x1 y hgl hg5
                  go_roundw
                  case rel => exact ⟨j + 1, by omega, by first | rfl | go_num, HN2⟩
                  case measure => simp [intOf]; omega
                · have hlj' : ¬ (j : Int) < n := by omega
                  obtain rfl : n = j := by omega
                  have HM9 := Lib.hid (show Mz w #[.slice Ai g.ins.length ci, .int .i64 g.vars, .int .i64 g.keep, .slice Aa g.ars.length ca, .int .i64 g.sh, .slice Ab n cb, .slice Aq g.pts.length cp, .slice Ah g.hds.length ch] #[.slice none 0 0, .int .i64 0, .int .i64 0, .slice none 0 0, .int .i64 0, .slice none 0 0, .slice none 0 0, .slice none 0 0] F gt n (t.map (Me.place (k : Int) (b : Int))) (Me.join G k b) #[.slice D1' l1 e1', .int .i64 g.vars, .int .i64 g.keep, .slice D2' l2 e2', .int .i64 g.sh, .slice D3' l3 e3', .slice D4' l4 e4', .slice D5' l5 e5'] (.slice D1' l1 e1') (.slice D2' l2 e2') (.slice D3' l3 e3') (.slice D4' l4 e4') (.slice D5' l5 e5') us5 ps5 wr from by
                    have h := HMt.out.1
                    rw [← HTl.out, mx_all, HTl.out] at h
                    exact h)
                  clear HMt
                  go_wp2
                  go_roundw
                  case rel => exact ⟨0, Me.join G k b, t.map (Me.place (k : Int) (b : Int)), f', _, _, _, _, _, us5, ps5, by first | rfl | go_num, Nat.zero_le _, by rw [HL3.out.2]; have := HL3.out.1; omega, HAt2, HM9, Lib.hid fun j hj => absurd hj (Nat.not_lt_zero _)⟩
                  case measure =>
                    have e1 : slLen (wr.cell? ⟨F, 5, none⟩) = l3 := by rw [HM9.out.fb.cell 5]; rfl
                    have e2 := HSl.out
                    have e3 := HL3.out.1
                    simp only [e1, e2]
                    simp [intOf]
                    omega
          · have hlt' : ¬ (k : Int) < m3 := by omega
            obtain rfl : m3 = k := by omega
            have HNo := Lib.hid (Me.first_none (g := G) (by rw [HM3.out]; exact HFr.out))
            have HTl := Lib.hid (show t.length = n from by rw [← HN.out]; exact HAt.out.tl)
            obtain ⟨iTL, hi0, hz0, hz1, hz2⟩ := info_parts info_lst
            have HTL := Lib.hid (And.intro hi0 (And.intro hz0 (And.intro hz1 hz2)))
            clear hi0 hz0 hz1 hz2
            go_wp2
            clear c5
            obtain ⟨V, hV⟩ : ∃ V, V = wr := ⟨_, rfl⟩
            subst hV
            have HO := Lib.hid (show Below V.heap.size V V ∧ Ow V.heap.size V (.slice none 0 0) [] (t.take 0) from ⟨Below.refl _ _, by rw [List.take_zero]; exact ⟨World.ownsRow_nil _ _ _ _, fun i hi => absurd hi (Nat.not_lt_zero _)⟩⟩)
            go_loopw [16, 15] (fun i v wr => ∃ (j : Nat) (y : Value) (ul : List Value), j ≤ n ∧ i = .int .i64 j ∧ y = v ∧ Hid (Below V.heap.size V wr ∧ Ow V.heap.size wr y ul (t.take j))) (fun i _ _ => n - (intOf i).toNat)
            case atStart => exact ⟨0, _, _, Nat.zero_le _, rfl, rfl, HO⟩
            case round =>
              clear HO
              obtain ⟨j, y, ul, hj, rfl, rfl, HO⟩ := hrel
              have HMw := Lib.hid (HM.out.below HO.out.1)
              by_cases hlj : j < n
              · have hlj' : (j : Int) < n := by omega
                have hlj0 : (0 : Int) ≤ (j : Int) := by omega
                have hjt : j < t.length := by rw [HTl.out]; exact hlj
                have HTk1 := Lib.hid (take_one hjt)
                have hlen : (t.take j).length = j := by rw [List.length_take]; omega
                have HLn := Lib.hid hlen
                have x0 : wr.cell? ⟨gt, j, none⟩ = some (.int .i64 (t.getD j 0)) := by
                  have h : wr.ownsRow gt 3 1 (.slice (some ⟨gt, 0, none⟩) t.length n) t.length (t.map (.int .i64)) := by rw [HTl.out]; exact HMw.out.tor
                  obtain ⟨g', c', e, -, -, h3, -⟩ := own_num h hjt
                  injection e with e _ _
                  injection e with e
                  injection e with e _ _
                  subst e
                  exact h3
                obtain ⟨x, hx⟩ : ∃ x, t.getD j 0 = x := ⟨_, rfl⟩
                rw [hx] at x0 HTk1
                clear hx hjt hlen
                have HOw := Lib.hid (show wr.ownsRow V.heap.size 32 1 y j ul from by have h := HO.out.2.out; rw [HLn.out] at h; exact h)
                obtain ⟨Ay, Cy, rfl⟩ := own_eta HOw.out
                have hb1 : Below wr.heap.size wr (wr.alloc (.cells #[.int .i64 x] 3)) := bla (Below.refl _ _) _
                have hb2 : Below (wr.alloc (.cells #[.int .i64 x] 3)).heap.size (wr.alloc (.cells #[.int .i64 x] 3)) ((wr.alloc (.cells #[.int .i64 x] 3)).alloc (.cells #[.slice (some ⟨wr.heap.size, 0, none⟩) 1 1] 32)) := bla (Below.refl _ _) _
                have hgw : gt < wr.heap.size := (HMw.out.tor.lt gt rfl).2
                have hsz := HO.out.1.size
                have HQ4 := Lib.hid (show j + 1 ≤ maxLen ∧ (j + 1) * 24 ≤ 140737488355328 ∧ V.heap.size ≤ ((wr.alloc (.cells #[.int .i64 x] 3)).alloc (.cells #[.slice (some ⟨wr.heap.size, 0, none⟩) 1 1] 32)).heap.size from ⟨by unfold maxLen; omega, by omega, by have h1 := hb1.size; have h2 := hb2.size; omega⟩)
                have HLx := Lib.hid (own_below (lit_own (B := V.heap.size) wr x hsz) hb2)
                have HB12 := Lib.hid (And.intro hb1 hb2)
                have HSz1 := Lib.hid (show wr.heap.size + 1 = (wr.alloc (.cells #[.int .i64 x] 3)).heap.size from (size_alloc _ _).symm)
                have HOne := Lib.hid (show ∀ u ∈ [Value.slice (some ⟨wr.heap.size, 0, none⟩) 1 1], u.oneCell' = true from fun u hu => by simp at hu; subst hu; rfl)
                clear hsz hb1 hb2
                go_wp2_with (at_builtin; refine wpList_append_row rfl (.tmp 86) (.tmp 92) 37 rfl V.heap.size 32 iTL _ 1 24 Try.underlying37 HTL.out.1 HTL.out.2.1 HTL.out.2.2.1 HTL.out.2.2.2 rfl (by decide) _ _ _ rfl (own_below (own_below HOw.out HB12.out.1) HB12.out.2) _ 1 [.slice (some ⟨wr.heap.size, 0, none⟩) 1 1] rfl (lit_lst (wr.alloc (.cells #[.int .i64 x] 3)) (some ⟨wr.heap.size, 0, none⟩) 1 1 (wr.heap.size + 1) HSz1.out) HOne.out HQ4.out.1 HQ4.out.2.1 HQ4.out.2.2 ?_)
                intro v1 w3 hown hg hv
                have HN2 := Lib.hid (show Below V.heap.size V w3 ∧ Ow V.heap.size w3 v1 (ul ++ [.slice (some ⟨wr.heap.size, 0, none⟩) 1 1]) (t.take (j + 1)) from by
                  have h1 := blt (blt HO.out.1 HB12.out.1) HB12.out.2
                  refine ⟨h1.grown hg h1.size (fun i hi => ((own_below (own_below HOw.out HB12.out.1) HB12.out.2).lt i hi).1), ?_⟩
                  rw [HTk1.out]
                  exact ((HO.out.2.below HB12.out.1).below HB12.out.2).push HLx.out (by rw [HLn.out]; exact hown) hg)
                clear hown hg hv HO HOw HMw HLx HB12 x0 hgw
                go_wp2
                go_roundw
                case rel => exact ⟨j + 1, _, _, by omega, by first | rfl | go_num, rfl, HN2⟩
                case measure => simp [intOf]; omega
              · have hlj' : ¬ (j : Int) < n := by omega
                obtain rfl : n = j := by omega
                have HO2 := Lib.hid (show Ow V.heap.size wr y ul t from by have h := HO.out.2; rw [← HTl.out, List.take_length] at h; exact h)
                obtain ⟨Ay, Cy, hy⟩ := own_eta HO2.out.out
                rw [HTl.out] at hy
                subst hy
                have HV := Lib.hid (show w.heap.size + 1 < V.heap.size from by have := (HM.out.tor.lt gt rfl).2; have := HM.out.ft; have := HF0.out; omega)
                have c0 := HMw.out.fb.cell 0
                have z0 := HMw.out.mx.rb.cell 0
                have y0 := HMw.out.mx.rb.frozen 0
                have c1 := HMw.out.fb.cell 1
                have z1 := HMw.out.mx.rb.cell 1
                have y1 := HMw.out.mx.rb.frozen 1
                have c2 := HMw.out.fb.cell 2
                have z2 := HMw.out.mx.rb.cell 2
                have y2 := HMw.out.mx.rb.frozen 2
                have c3 := HMw.out.fb.cell 3
                have z3 := HMw.out.mx.rb.cell 3
                have y3 := HMw.out.mx.rb.frozen 3
                have c4 := HMw.out.fb.cell 4
                have z4 := HMw.out.mx.rb.cell 4
                have y4 := HMw.out.mx.rb.frozen 4
                have c5 := HMw.out.fb.cell 5
                have z5 := HMw.out.mx.rb.cell 5
                have y5 := HMw.out.mx.rb.frozen 5
                have c6 := HMw.out.fb.cell 6
                have z6 := HMw.out.mx.rb.cell 6
                have y6 := HMw.out.mx.rb.frozen 6
                have c7 := HMw.out.fb.cell 7
                have z7 := HMw.out.mx.rb.cell 7
                have y7 := HMw.out.mx.rb.frozen 7
                have HMr := Lib.hid (((((((((HMw.out.res 0 (.slice E1 m1 f1)).res 1 (.int .i64 g.vars)).res 2 (.int .i64 g.keep)).res 3 (.slice E2 m2 f2)).res 4 (.int .i64 g.sh)).res 5 (.slice E3 m3 f3)).res 6 (.slice E4 m4 f4)).res 7 (.slice E5 m5 f5)))
                have HOr := Lib.hid (((((((((HO2.out.far (p := ⟨w.heap.size + 1, 0, none⟩) HV.out (.slice E1 m1 f1)).far (p := ⟨w.heap.size + 1, 1, none⟩) HV.out (.int .i64 g.vars)).far (p := ⟨w.heap.size + 1, 2, none⟩) HV.out (.int .i64 g.keep)).far (p := ⟨w.heap.size + 1, 3, none⟩) HV.out (.slice E2 m2 f2)).far (p := ⟨w.heap.size + 1, 4, none⟩) HV.out (.int .i64 g.sh)).far (p := ⟨w.heap.size + 1, 5, none⟩) HV.out (.slice E3 m3 f3)).far (p := ⟨w.heap.size + 1, 6, none⟩) HV.out (.slice E4 m4 f4)).far (p := ⟨w.heap.size + 1, 7, none⟩) HV.out (.slice E5 m5 f5)))
                clear HMw HO HO2 HM
                go_wp2
                refine bodyPost_ret (v := .tuple #[.agg #[.slice E1 m1 f1, .int .i64 g.vars, .int .i64 g.keep, .slice E2 m2 f2, .int .i64 g.sh, .slice E3 m3 f3, .slice E4 m4 f4, .slice E5 m5 f5], .slice Ay n Cy, .int .i64 0]) (by simp [results, Try.results36, go_sem, z0, z1, z2, z3, z4, z5, z6, z7]) rfl ?_
                rw [HEa.out.1, HEa.out.2, HAt.out.fin HNo.out]
                exact ⟨HMr.out.mx.low, _, _, _, _, _, _, by rw [HAt.out.vars, HAt.out.keep, HAt.out.sh], HMr.out.gf.gr, HOr.out.lsts⟩
  · have hrn : ¬ r = 0 := h0
    have z0 := HX.out.rb.cell 0
    have y0 := HX.out.rb.frozen 0
    have z1 := HX.out.rb.cell 1
    have y1 := HX.out.rb.frozen 1
    have z2 := HX.out.rb.cell 2
    have y2 := HX.out.rb.frozen 2
    have z3 := HX.out.rb.cell 3
    have y3 := HX.out.rb.frozen 3
    have z4 := HX.out.rb.cell 4
    have y4 := HX.out.rb.frozen 4
    have z5 := HX.out.rb.cell 5
    have y5 := HX.out.rb.frozen 5
    have z6 := HX.out.rb.cell 6
    have y6 := HX.out.rb.frozen 6
    have z7 := HX.out.rb.cell 7
    have y7 := HX.out.rb.frozen 7
    have HX3 := Lib.hid (((((((((HX.out.res 0 (.slice none 0 0)).res 1 (.int .i64 0)).res 2 (.int .i64 0)).res 3 (.slice none 0 0)).res 4 (.int .i64 0)).res 5 (.slice none 0 0)).res 6 (.slice none 0 0)).res 7 (.slice none 0 0)))
    have HEa := Lib.hid (show Me.ans g = Gr.gz ∧ Me.lst g = [] by unfold Me.ans Me.lst; rw [if_neg (by rw [HR.out]; exact h0), if_neg (by rw [HR.out]; exact h0)]; exact ⟨rfl, rfl⟩)
    go_wp2
    refine bodyPost_ret (v := .tuple #[.agg #[.slice none 0 0, .int .i64 0, .int .i64 0, .slice none 0 0, .int .i64 0, .slice none 0 0, .slice none 0 0, .slice none 0 0], .slice none 0 0, .int .i64 r]) (by simp [results, Try.results36, go_sem, z0, z1, z2, z3, z4, z5, z6, z7]) rfl ?_
    rw [HEa.out.1, HEa.out.2]
    exact ⟨HX3.out.low, _, _, _, _, _, _, rfl, gz_in _, lz_in _⟩
end Go.Proofs.Ytojnhdkclabkgaa
