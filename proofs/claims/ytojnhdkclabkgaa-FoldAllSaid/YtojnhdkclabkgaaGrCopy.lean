/- A graph's copy. No condition. -/
import Derived.Test.YtojnhdkclabkgaaGrOwn
import Derived.LoopTactic
import Derived.Deep.DeepCutAuto
import Derived.Deep.CutBlock
import Derived.StillTailTactics
namespace Go.Proofs.Ytojnhdkclabkgaa
open Go.RowKit
set_option linter.unusedVariables false
set_option linter.unusedSimpArgs false
attribute [local go_sem] y_undef
theorem cinfo_ins : (Try.prog.info? 57).map (fun i => (i.zero, i.size, i.bytes)) = some (some (.agg #[.string ⟨#[]⟩, .int .i64 0, .int .i64 0]), 3, 32) := by kernel_rfl
theorem cinfo_ars : (Try.prog.info? 30).map (fun i => (i.zero, i.size, i.bytes)) = some (some (.agg #[.string ⟨#[]⟩, .int .i64 0]), 2, 24) := by kernel_rfl
theorem cinfo_hds : (Try.prog.info? 52).map (fun i => (i.zero, i.size, i.bytes)) = some (some (.agg #[.int .i64 0, .int .i64 0]), 2, 16) := by kernel_rfl
theorem cinfo_nums : (Try.prog.info? 3).map (fun i => (i.zero, i.size, i.bytes)) = some (some (.int .i64 0), 1, 8) := by kernel_rfl
theorem one_opC {l : List Gr.Op} : ∀ u ∈ l.flatMap opCells, u.oneCell' = true := by
  intro u hu
  obtain ⟨t, _, ht⟩ := List.mem_flatMap.1 hu
  simp [opCells] at ht
  rcases ht with rfl | rfl | rfl | rfl | rfl <;> rfl
theorem one_inC {l : List (ByteArray × Int × Int)} : ∀ u ∈ l.flatMap inCells, u.oneCell' = true := by
  intro u hu
  obtain ⟨t, _, ht⟩ := List.mem_flatMap.1 hu
  simp [inCells] at ht
  rcases ht with rfl | rfl | rfl <;> rfl
theorem one_arC {l : List (ByteArray × Int)} : ∀ u ∈ l.flatMap arCells, u.oneCell' = true := by
  intro u hu
  obtain ⟨t, _, ht⟩ := List.mem_flatMap.1 hu
  simp [arCells] at ht
  rcases ht with rfl | rfl <;> rfl
theorem one_prC {l : List (Int × Int)} : ∀ u ∈ l.flatMap prCells, u.oneCell' = true := by
  intro u hu
  obtain ⟨t, _, ht⟩ := List.mem_flatMap.1 hu
  simp [prCells] at ht
  rcases ht with rfl | rfl <;> rfl
theorem one_numC {l : List Int} : ∀ u ∈ l.map (Value.int .i64), u.oneCell' = true := by
  intro u hu
  obtain ⟨t, _, rfl⟩ := List.mem_map.1 hu
  rfl
/-- A literal row of one block. -/
theorem lit_blk (u : World) (A1 A2 : Option Addr) (n1 n2 c1 c2 g : Nat) (z : Int) (hg : g = u.heap.size) : RowIn 3 (u.alloc (.cells #[.slice A1 n1 c1, .int .i64 z, .slice A2 n2 c2] 34)) (.slice (some ⟨g, 0, none⟩) 1 1) 1 (bkC (.slice A1 n1 c1, z, .slice A2 n2 c2)) := by
  subst hg
  refine ⟨_, 1, rfl, rfl, .inr ⟨_, 0, rfl, by simp, fun j x hj => ?_⟩⟩
  have hb := heap_alloc_new u (.cells #[.slice A1 n1 c1, .int .i64 z, .slice A2 n2 c2] 34)
  rw [cell_of_row _ _ _ _ _ _ hb, Nat.zero_add]
  simpa [bkC] using hj
theorem lit_lst (u : World) (A : Option Addr) (n c g : Nat) (hg : g = u.heap.size) : RowIn 1 (u.alloc (.cells #[.slice A n c] 32)) (.slice (some ⟨g, 0, none⟩) 1 1) 1 [.slice A n c] := by
  subst hg
  refine ⟨_, 1, rfl, rfl, .inr ⟨_, 0, rfl, by simp, fun j x hj => ?_⟩⟩
  have hb := heap_alloc_new u (.cells #[.slice A n c] 32)
  rw [cell_of_row _ _ _ _ _ _ hb, Nat.zero_add]
  simpa using hj
/-- The boxes of Copy's argument and result. -/
structure Cb (w : World) (gc zc : Array Value) (u : World) : Prop where
  low : Below w.heap.size w u
  gb : Bk u w.heap.size 40 gc
  rb : Bk u (w.heap.size + 1) 40 zc
theorem Cb.below {w u u' : World} {gc zc : Array Value} (h : Cb w gc zc u) (hb : Below u.heap.size u u') : Cb w gc zc u' := ⟨blt h.low hb, h.gb.below hb, h.rb.below hb⟩
theorem Cb.box {w u : World} {gc zc : Array Value} (h : Cb w gc zc u) (i : Nat) (x : Value) (gc' : Array Value) (hf : gc.setIfInBounds i x = gc') : Cb w gc' zc (u.setCell ⟨w.heap.size, i, none⟩ x) := by
  subst hf
  exact ⟨h.low.setCell (Nat.le_refl _) x, h.gb.set i x, h.rb.far (by show w.heap.size + 1 ≠ w.heap.size; omega) x⟩
theorem Cb.res {w u : World} {gc zc : Array Value} (h : Cb w gc zc u) (i : Nat) (x : Value) : Cb w gc (zc.setIfInBounds i x) (u.setCell ⟨w.heap.size + 1, i, none⟩ x) :=
  ⟨h.low.setCell (Nat.le_succ _) x, h.gb.far (by show w.heap.size ≠ w.heap.size + 1; omega) x, h.rb.set i x⟩
theorem Cb.grown {w u u' : World} {gc zc : Array Value} (h : Cb w gc zc u) {e : TypeId} {sz n : Nat} {y : Value} {ys : List Value} (hy : u.ownsRow (w.heap.size + 1 + 1) e sz y n ys) (hg : u.grownBy u' y.ownBlock) : Cb w gc zc u' :=
  ⟨h.low.grown hg h.low.size (fun k hk => by have := (hy.lt k hk).1; omega), bk_grown_b h.gb hy (by omega) hg, bk_grown_b h.rb hy (by omega) hg⟩
/-- The rows that do not change any more. -/
structure Cr (g : Gr.G) (w : World) (vi va vh : Value) (u : World) : Prop where
  ins : u.ownsRow (w.heap.size + 1 + 1) 57 3 vi g.ins.length (g.ins.flatMap inCells)
  ars : u.ownsRow (w.heap.size + 1 + 1) 30 2 va g.ars.length (g.ars.flatMap arCells)
  hds : u.ownsRow (w.heap.size + 1 + 1) 52 2 vh g.hds.length (g.hds.flatMap prCells)
section
variable {g : Gr.G} {w u u' : World} {gc zc : Array Value} {vi va vh y y' : Value} {us : List (Value × Int × Value)} {k : Nat}
theorem Cr.below (h : Cr g w vi va vh u) (hb : Below u.heap.size u u') : Cr g w vi va vh u' := ⟨own_below h.ins hb, own_below h.ars hb, own_below h.hds hb⟩
theorem Cr.far (h : Cr g w vi va vh u) {p : Addr} (hp : p.block < w.heap.size + 1 + 1) (x : Value) : Cr g w vi va vh (u.setCell p x) := ⟨ownsRow_setCell_below h.ins hp x, ownsRow_setCell_below h.ars hp x, ownsRow_setCell_below h.hds hp x⟩
theorem Cr.grownB (h : Cr g w vi va vh u) {base sz n : Nat} {y : Value} {ys : List Value} (hy : u.ownsRow base 34 sz y n ys) (hg : u.grownBy u' y.ownBlock) : Cr g w vi va vh u' :=
  ⟨own_grown_t h.ins hy (by decide) hg, own_grown_t h.ars hy (by decide) hg, own_grown_t h.hds hy (by decide) hg⟩
theorem Cr.grownL (h : Cr g w vi va vh u) {base sz n : Nat} {y : Value} {ys : List Value} (hy : u.ownsRow base 32 sz y n ys) (hg : u.grownBy u' y.ownBlock) : Cr g w vi va vh u' :=
  ⟨own_grown_t h.ins hy (by decide) hg, own_grown_t h.ars hy (by decide) hg, own_grown_t h.hds hy (by decide) hg⟩
theorem Cr.grownO (h : Cr g w vi va vh u) {base sz n : Nat} {y : Value} {ys : List Value} (hy : u.ownsRow base 27 sz y n ys) (hg : u.grownBy u' y.ownBlock) : Cr g w vi va vh u' :=
  ⟨own_grown_t h.ins hy (by decide) hg, own_grown_t h.ars hy (by decide) hg, own_grown_t h.hds hy (by decide) hg⟩
theorem Bq.far {base : Nat} {x : Value × Int × Value} {b : Gr.Blk} (h : Bq base u x b) {p : Addr} (hp : p.block < base) (z : Value) : Bq base (u.setCell p z) x b := ⟨h.cnd, ownsRow_setCell_below h.ops hp z, ownsRow_setCell_below h.nxt hp z⟩
theorem Bks.far {base : Nat} {l : List Gr.Blk} (h : Bks base u y us l) {p : Addr} (hp : p.block < base) (z : Value) : Bks base (u.setCell p z) y us l := ⟨ownsRow_setCell_below h.row hp z, h.len, fun i hi => (h.el i hi).far hp z, h.ap⟩
/-- A row of lists grows beside blocks. -/
theorem Bks.grownL {base base' sz n : Nat} {l : List Gr.Blk} {p : Value} {ps : List Value} (h : Bks base u y us l) (hy : u.ownsRow base' 32 sz p n ps) (hg : u.grownBy u' p.ownBlock) : Bks base u' y us l :=
  ⟨own_grown_t h.row hy (by decide) hg, h.len, fun i hi => ⟨(h.el i hi).cnd, own_grown_t (h.el i hi).ops hy (by decide) hg, own_grown_t (h.el i hi).nxt hy (by decide) hg⟩, h.ap⟩
theorem Mps.far {base : Nat} {us : List Value} {ts : List (List Int)} (h : Mps base u y us ts) {p : Addr} (hp : p.block < base) (z : Value) : Mps base (u.setCell p z) y us ts := ⟨ownsRow_setCell_below h.1 hp z, fun i x hx => ownsRow_setCell_below (h.2.1 i x hx) hp z, h.2.2⟩
/-- Copy's first loop. -/
structure Cq (g : Gr.G) (w : World) (gc zc : Array Value) (vi va vh : Value) (y : Value) (us : List (Value × Int × Value)) (k : Nat) (u : World) : Prop where
  cb : Cb w gc zc u
  cr : Cr g w vi va vh u
  bks : Bks (w.heap.size + 1 + 1) u y us (g.blks.take k)
theorem Cq.below (h : Cq g w gc zc vi va vh y us k u) (hb : Below u.heap.size u u') : Cq g w gc zc vi va vh y us k u' := ⟨h.cb.below hb, h.cr.below hb, h.bks.below hb⟩
theorem Cq.push (h : Cq g w gc zc vi va vh y us k u) (hk : k < g.blks.length) {x : Value × Int × Value} (hx : Bq (w.heap.size + 1 + 1) u x (g.blks.getD k Gr.blk0)) (hap : ∀ i, i < k → Ap (us.getD i bkz).1 x.1) (hown : u'.ownsRow (w.heap.size + 1 + 1) 34 3 y' (k + 1) (us.flatMap bkC ++ bkC x)) (hg : u.grownBy u' y.ownBlock) : Cq g w gc zc vi va vh y' (us ++ [x]) (k + 1) u' := by
  have hlen : (g.blks.take k).length = k := by rw [List.length_take]; omega
  refine ⟨h.cb.grown h.bks.row hg, h.cr.grownB h.bks.row hg, ?_⟩
  have := h.bks.push hx (fun i hi => hap i (by omega)) (by rw [hlen]; exact hown) hg
  rw [List.take_add_one, List.getElem?_eq_getElem hk]
  rw [show g.blks.getD k Gr.blk0 = g.blks[k] by simp [List.getD, List.getElem?_eq_getElem hk]] at this
  exact this
/-- Copy's second loop. -/
structure Cs (g : Gr.G) (w : World) (gc zc : Array Value) (vi va vh : Value) (y : Value) (us : List (Value × Int × Value)) (p : Value) (ps : List Value) (k : Nat) (u : World) : Prop where
  cb : Cb w gc zc u
  cr : Cr g w vi va vh u
  bks : Bks (w.heap.size + 1 + 1) u y us g.blks
  pts : Mps (w.heap.size + 1 + 1) u p ps (g.pts.take k)
theorem Cs.below {p : Value} {ps : List Value} (h : Cs g w gc zc vi va vh y us p ps k u) (hb : Below u.heap.size u u') : Cs g w gc zc vi va vh y us p ps k u' := ⟨h.cb.below hb, h.cr.below hb, h.bks.below hb, h.pts.below hb⟩
theorem Cs.push {p p' x : Value} {ps : List Value} (h : Cs g w gc zc vi va vh y us p ps k u) (hk : k < g.pts.length) (hO : u.ownsRow (w.heap.size + 1 + 1) 3 1 x (g.pts.getD k []).length ((g.pts.getD k []).map (.int .i64))) (hz : ∀ z ∈ ps, Ap x z) (hown : u'.ownsRow (w.heap.size + 1 + 1) 32 1 p' (k + 1) (ps ++ [x])) (hg : u.grownBy u' p.ownBlock) (hv : p'.ownBlock = p.ownBlock ∨ p'.ownBlock = some u.heap.size) : Cs g w gc zc vi va vh y us p' (ps ++ [x]) (k + 1) u' := by
  have hlen : (g.pts.take k).length = k := by rw [List.length_take]; omega
  refine ⟨h.cb.grown h.pts.1 hg, h.cr.grownL h.pts.1 hg, h.bks.grownL h.pts.1 hg, ?_⟩
  have := h.pts.pushx hO (ap_type hO h.pts.1 (by decide)) hz (by rw [hlen]; exact hown) hg hv
  rw [List.take_add_one, List.getElem?_eq_getElem hk]
  rw [show g.pts.getD k [] = g.pts[k] by simp [List.getD, List.getElem?_eq_getElem hk]] at this
  exact this
end
/-- What Copy answers: a graph in blocks of the call's own. -/
def CopyPost (g : Gr.G) (w : World) (e : Ending) (w' : World) : Prop :=
  ∃ vi va vh y us p ps, e = .returned (.agg #[vi, .int .i64 g.vars, .int .i64 g.keep, va, .int .i64 g.sh, y, p, vh]) ∧ Below w.heap.size w w' ∧ Cr g w vi va vh w' ∧ Bks (w.heap.size + 1 + 1) w' y us g.blks ∧ Mps (w.heap.size + 1 + 1) w' p ps g.pts
set_option maxHeartbeats 4000000 in
set_option maxRecDepth 100000 in
theorem rcopy_any (g : Gr.G) (vi va vb vp vh : Value) (w : World) (hi : GrIn w g vi va vb vp vh) (hI : g.ins.length ≤ 1000) (hA : g.ars.length ≤ 1000) (hH : g.hds.length ≤ 1000) (hB : g.blks.length ≤ 1000) (hP : g.pts.length ≤ 1000)
    (hBo : ∀ k, k < g.blks.length → (g.blks.getD k Gr.blk0).ops.length ≤ 1000 ∧ (g.blks.getD k Gr.blk0).next.length ≤ 1000) (hPo : ∀ k, k < g.pts.length → (g.pts.getD k []).length ≤ 1000) :
    Calls Try.prog 68 #[.agg #[vi, .int .i64 g.vars, .int .i64 g.keep, va, .int .i64 g.sh, vb, vp, vh]] w (CopyPost g w) := by
  obtain ⟨Ai, ci, rfl, -⟩ := hi.ins.opened
  obtain ⟨Aa, ca, rfl, -⟩ := hi.ars.opened
  obtain ⟨Ab, cb, a1, a2, k1, k2, rfl, hbl⟩ := id hi.blks
  obtain ⟨Aq, cp, ap, kp, rfl, hpt⟩ := hi.pts.opened
  obtain ⟨Ah, ch, rfl, -⟩ := hi.hds.opened
  have HI := Lib.hid hi
  have HBl := Lib.hid hbl
  have HPt := Lib.hid hpt
  have HL := Lib.hid (And.intro hI (And.intro hA (And.intro hH (And.intro hB hP))))
  have HBo := Lib.hid hBo
  have HPo := Lib.hid hPo
  clear hi hbl hpt hI hA hH hB hP hBo hPo
  have HS := Lib.hid (show Cb w #[.slice Ai g.ins.length ci, .int .i64 g.vars, .int .i64 g.keep, .slice Aa g.ars.length ca, .int .i64 g.sh, .slice Ab g.blks.length cb, .slice Aq g.pts.length cp, .slice Ah g.hds.length ch] #[.slice none 0 0, .int .i64 0, .int .i64 0, .slice none 0 0, .int .i64 0, .slice none 0 0, .slice none 0 0, .slice none 0 0] ((w.alloc (.cells #[.slice Ai g.ins.length ci, .int .i64 g.vars, .int .i64 g.keep, .slice Aa g.ars.length ca, .int .i64 g.sh, .slice Ab g.blks.length cb, .slice Aq g.pts.length cp, .slice Ah g.hds.length ch] 40)).alloc (.cells #[.slice none 0 0, .int .i64 0, .int .i64 0, .slice none 0 0, .int .i64 0, .slice none 0 0, .slice none 0 0, .slice none 0 0] 40)) from ⟨bla (bla (Below.refl _ _) _) _, (Bk.new w _ _).below (bla (Below.refl _ _) _), by
    have h := Bk.new (w.alloc (.cells #[.slice Ai g.ins.length ci, .int .i64 g.vars, .int .i64 g.keep, .slice Aa g.ars.length ca, .int .i64 g.sh, .slice Ab g.blks.length cb, .slice Aq g.pts.length cp, .slice Ah g.hds.length ch] 40)) 40 #[.slice none 0 0, .int .i64 0, .int .i64 0, .slice none 0 0, .int .i64 0, .slice none 0 0, .slice none 0 0, .slice none 0 0]
    rw [size_alloc] at h
    exact h⟩)
  obtain ⟨iTI, hi0, hz0, hz1, hz2⟩ := info_parts cinfo_ins
  have HTI := Lib.hid (And.intro hi0 (And.intro hz0 (And.intro hz1 hz2)))
  clear hi0 hz0 hz1 hz2
  obtain ⟨iTA, hi0, hz0, hz1, hz2⟩ := info_parts cinfo_ars
  have HTA := Lib.hid (And.intro hi0 (And.intro hz0 (And.intro hz1 hz2)))
  clear hi0 hz0 hz1 hz2
  obtain ⟨iTH, hi0, hz0, hz1, hz2⟩ := info_parts cinfo_hds
  have HTH := Lib.hid (And.intro hi0 (And.intro hz0 (And.intro hz1 hz2)))
  clear hi0 hz0 hz1 hz2
  obtain ⟨iTO, hi0, hz0, hz1, hz2⟩ := info_parts info_op
  have HTO := Lib.hid (And.intro hi0 (And.intro hz0 (And.intro hz1 hz2)))
  clear hi0 hz0 hz1 hz2
  obtain ⟨iTN, hi0, hz0, hz1, hz2⟩ := info_parts cinfo_nums
  have HTN := Lib.hid (And.intro hi0 (And.intro hz0 (And.intro hz1 hz2)))
  clear hi0 hz0 hz1 hz2
  obtain ⟨iTB, hi0, hz0, hz1, hz2⟩ := info_parts info_blk
  have HTB := Lib.hid (And.intro hi0 (And.intro hz0 (And.intro hz1 hz2)))
  clear hi0 hz0 hz1 hz2
  obtain ⟨iTL, hi0, hz0, hz1, hz2⟩ := info_parts info_lst
  have HTL := Lib.hid (And.intro hi0 (And.intro hz0 (And.intro hz1 hz2)))
  clear hi0 hz0 hz1 hz2
  go_enter Try.func68, Try.ntmps68
  go_upto_region 1 with fail
  generalize hW : World.alloc _ (.cells #[.slice none 0 0, .int .i64 0, .int .i64 0, .slice none 0 0, .int .i64 0, .slice none 0 0, .slice none 0 0, .slice none 0 0] 40) = W0 at HS ⊢
  clear hW
  have hbk : Below W0.heap.size W0 (W0.alloc (.cells #[] 57)) := bla (Below.refl _ _) _
  have q := (HS.out.below hbk).gb.cell 0
  have HR := Lib.hid (HI.out.ins.below ((HS.out.below hbk).low))
  have hsz := HS.out.rb.lt
  go_wp2_with (at_builtin; refine wpList_append_row rfl _ _ 36 rfl W0.heap.size 57 iTI _ 3 32 Try.underlying36 HTI.out.1 HTI.out.2.1 HTI.out.2.2.1 HTI.out.2.2.2 rfl (by decide) _ _ _ rfl (World.ownsRow_made W0 #[] 0 (Nat.le_refl _) (Nat.zero_le _) (by simp)) _ _ _ rfl (HR.out) ?qc3 ?qc4 ?qc5 ?qc6 ?_)
  case qc3 => exact one_inC
  case qc4 => have := HL.out.1; unfold maxLen; omega
  case qc5 => have := HL.out.1; omega
  case qc6 => simp
  intro v1 w1 hown hg hv
  have hb : Below W0.heap.size W0 w1 := hbk.grown hg (by simp) (by intro k hk; simp [Value.ownBlock] at hk; omega)
  obtain ⟨A1, C1, rfl⟩ := own_eta hown
  have r := (HS.out.below hb).gb.cell 0
  have y := (HS.out.below hb).gb.frozen 0
  clear q hbk hg hv HR
  go_upto_region 2 with fail
  replace HS := Lib.hid ((HS.out.below hb).box 0 (.slice A1 g.ins.length C1) _ rfl)
  have HQ1 := Lib.hid (ownsRow_setCell_below (own_mono_b hown (show w.heap.size + 1 + 1 ≤ _ by omega)) (a := ⟨w.heap.size, 0, none⟩) (by show w.heap.size < _; omega) (.slice A1 g.ins.length C1))
  clear hb r y hsz hown
  generalize hW : World.setCell w1 ⟨w.heap.size, 0, none⟩ (.slice A1 g.ins.length C1) = W1 at HS HQ1 ⊢
  clear hW w1
  have hbk : Below W1.heap.size W1 (W1.alloc (.cells #[] 30)) := bla (Below.refl _ _) _
  have q := (HS.out.below hbk).gb.cell 3
  have HR := Lib.hid (HI.out.ars.below ((HS.out.below hbk).low))
  have hsz := HS.out.rb.lt
  go_wp2_with (at_builtin; refine wpList_append_row rfl _ _ 31 rfl W1.heap.size 30 iTA _ 2 24 Try.underlying31 HTA.out.1 HTA.out.2.1 HTA.out.2.2.1 HTA.out.2.2.2 rfl (by decide) _ _ _ rfl (World.ownsRow_made W1 #[] 0 (Nat.le_refl _) (Nat.zero_le _) (by simp)) _ _ _ rfl (HR.out) ?qc3 ?qc4 ?qc5 ?qc6 ?_)
  case qc3 => exact one_arC
  case qc4 => have := HL.out.2.1; unfold maxLen; omega
  case qc5 => have := HL.out.2.1; omega
  case qc6 => simp
  intro v1 w1 hown hg hv
  have hb : Below W1.heap.size W1 w1 := hbk.grown hg (by simp) (by intro k hk; simp [Value.ownBlock] at hk; omega)
  obtain ⟨A2, C2, rfl⟩ := own_eta hown
  have r := (HS.out.below hb).gb.cell 3
  have y := (HS.out.below hb).gb.frozen 3
  clear q hbk hg hv HR
  go_upto_region 3 with fail
  replace HS := Lib.hid ((HS.out.below hb).box 3 (.slice A2 g.ars.length C2) _ rfl)
  replace HQ1 := Lib.hid (ownsRow_setCell_below (own_below HQ1.out hb) (a := ⟨w.heap.size, 3, none⟩) (by show w.heap.size < _; omega) (.slice A2 g.ars.length C2))
  have HQ2 := Lib.hid (ownsRow_setCell_below (own_mono_b hown (show w.heap.size + 1 + 1 ≤ _ by omega)) (a := ⟨w.heap.size, 3, none⟩) (by show w.heap.size < _; omega) (.slice A2 g.ars.length C2))
  clear hb r y hsz hown
  generalize hW : World.setCell w1 ⟨w.heap.size, 3, none⟩ (.slice A2 g.ars.length C2) = W2 at HS HQ1 HQ2 ⊢
  clear hW w1
  have hbk : Below W2.heap.size W2 (W2.alloc (.cells #[] 52)) := bla (Below.refl _ _) _
  have q := (HS.out.below hbk).gb.cell 7
  have HR := Lib.hid (HI.out.hds.below ((HS.out.below hbk).low))
  have hsz := HS.out.rb.lt
  go_wp2_with (at_builtin; refine wpList_append_row rfl _ _ 38 rfl W2.heap.size 52 iTH _ 2 16 Try.underlying38 HTH.out.1 HTH.out.2.1 HTH.out.2.2.1 HTH.out.2.2.2 rfl (by decide) _ _ _ rfl (World.ownsRow_made W2 #[] 0 (Nat.le_refl _) (Nat.zero_le _) (by simp)) _ _ _ rfl (HR.out) ?qc3 ?qc4 ?qc5 ?qc6 ?_)
  case qc3 => exact one_prC
  case qc4 => have := HL.out.2.2.1; unfold maxLen; omega
  case qc5 => have := HL.out.2.2.1; omega
  case qc6 => simp
  intro v1 w1 hown hg hv
  have hb : Below W2.heap.size W2 w1 := hbk.grown hg (by simp) (by intro k hk; simp [Value.ownBlock] at hk; omega)
  obtain ⟨A3, C3, rfl⟩ := own_eta hown
  have r := (HS.out.below hb).gb.cell 7
  have y := (HS.out.below hb).gb.frozen 7
  clear q hbk hg hv HR
  go_upto_region 4 with fail
  replace HS := Lib.hid ((HS.out.below hb).box 7 (.slice A3 g.hds.length C3) _ rfl)
  replace HQ1 := Lib.hid (ownsRow_setCell_below (own_below HQ1.out hb) (a := ⟨w.heap.size, 7, none⟩) (by show w.heap.size < _; omega) (.slice A3 g.hds.length C3))
  replace HQ2 := Lib.hid (ownsRow_setCell_below (own_below HQ2.out hb) (a := ⟨w.heap.size, 7, none⟩) (by show w.heap.size < _; omega) (.slice A3 g.hds.length C3))
  have HQ3 := Lib.hid (ownsRow_setCell_below (own_mono_b hown (show w.heap.size + 1 + 1 ≤ _ by omega)) (a := ⟨w.heap.size, 7, none⟩) (by show w.heap.size < _; omega) (.slice A3 g.hds.length C3))
  clear hb r y hsz hown
  generalize hW : World.setCell w1 ⟨w.heap.size, 7, none⟩ (.slice A3 g.hds.length C3) = W3 at HS HQ1 HQ2 HQ3 ⊢
  clear hW w1
  have HC := Lib.hid (show Cq g w #[.slice A1 g.ins.length C1, .int .i64 g.vars, .int .i64 g.keep, .slice A2 g.ars.length C2, .int .i64 g.sh, .slice Ab g.blks.length cb, .slice Aq g.pts.length cp, .slice A3 g.hds.length C3] #[.slice none 0 0, .int .i64 0, .int .i64 0, .slice none 0 0, .int .i64 0, .slice none 0 0, .slice none 0 0, .slice none 0 0] (.slice A1 g.ins.length C1) (.slice A2 g.ars.length C2) (.slice A3 g.hds.length C3) (.slice none 0 0) [] 0 W3 from ⟨HS.out, ⟨HQ1.out, HQ2.out, HQ3.out⟩, by rw [List.take_zero]; exact Bks.nil _ _⟩)
  clear HS HQ1 HQ2 HQ3
  go_wp2
  go_loopw [4, 3, 5] (fun i v _ wr => ∃ (k : Nat) (y : Value) (us : List (Value × Int × Value)), k ≤ g.blks.length ∧ i = .int .i64 k ∧ y = v ∧ Hid (Cq g w #[.slice A1 g.ins.length C1, .int .i64 g.vars, .int .i64 g.keep, .slice A2 g.ars.length C2, .int .i64 g.sh, .slice Ab g.blks.length cb, .slice Aq g.pts.length cp, .slice A3 g.hds.length C3] #[.slice none 0 0, .int .i64 0, .int .i64 0, .slice none 0 0, .int .i64 0, .slice none 0 0, .slice none 0 0, .slice none 0 0] (.slice A1 g.ins.length C1) (.slice A2 g.ars.length C2) (.slice A3 g.hds.length C3) y us k wr)) (fun i _ _ _ => g.blks.length - (intOf i).toNat)
  case atStart => exact ⟨0, _, _, Nat.zero_le _, rfl, rfl, HC⟩
  case round =>
    clear HC
    obtain ⟨k, y, us, hk, rfl, rfl, HC⟩ := hrel
    have q5 := HC.out.cb.gb.cell 5
    by_cases hlt : k < g.blks.length
    · have hlt' : (k : Int) < g.blks.length := by omega
      have hlt0 : (0 : Int) ≤ (k : Int) := by omega
      have hl4 := HL.out.2.2.2.1
      obtain ⟨bo, off, rfl, hbo, x0, x1, x2, hops, hnx⟩ := HBl.out k hlt
      have HOps := Lib.hid hops
      have HNx := Lib.hid hnx
      clear hops hnx
      replace x0 := (HC.out.cb.low.cell (p := ⟨bo, off + k * 3, none⟩) hbo).trans x0
      replace x1 := (HC.out.cb.low.cell (p := ⟨bo, off + k * 3 + 1, none⟩) hbo).trans x1
      replace x2 := (HC.out.cb.low.cell (p := ⟨bo, off + k * 3 + 2, none⟩) hbo).trans x2
      have hbw : bo < wr.heap.size := Nat.lt_of_lt_of_le hbo HC.out.cb.low.size
      obtain ⟨b, hb⟩ : ∃ b, g.blks.getD k Gr.blk0 = b := ⟨_, rfl⟩
      have HE := Lib.hid hb
      have HLo := Lib.hid (HBo.out k hlt)
      rw [hb] at x0 x1 x2 HOps HNx HLo
      clear hb
      go_upto_region 9 with fail
      clear x0 x1 x2 q5
      obtain ⟨t, hte⟩ : ∃ t, wr.heap.size = t := ⟨_, rfl⟩
      have HX := Lib.hid (show (Cq g w #[.slice A1 g.ins.length C1, .int .i64 g.vars, .int .i64 g.keep, .slice A2 g.ars.length C2, .int .i64 g.sh, .slice (some ⟨bo, off, none⟩) g.blks.length cb, .slice Aq g.pts.length cp, .slice A3 g.hds.length C3] #[.slice none 0 0, .int .i64 0, .int .i64 0, .slice none 0 0, .int .i64 0, .slice none 0 0, .slice none 0 0, .slice none 0 0] (.slice A1 g.ins.length C1) (.slice A2 g.ars.length C2) (.slice A3 g.hds.length C3) y us k (wr.alloc (.cells #[.slice (a1 k) b.ops.length (k1 k), .int .i64 b.cond, .slice (a2 k) b.next.length (k2 k)] 34))) ∧ Bk (wr.alloc (.cells #[.slice (a1 k) b.ops.length (k1 k), .int .i64 b.cond, .slice (a2 k) b.next.length (k2 k)] 34)) t 34 #[.slice (a1 k) b.ops.length (k1 k), .int .i64 b.cond, .slice (a2 k) b.next.length (k2 k)] ∧ t < (wr.alloc (.cells #[.slice (a1 k) b.ops.length (k1 k), .int .i64 b.cond, .slice (a2 k) b.next.length (k2 k)] 34)).heap.size ∧ w.heap.size + 1 < t from by
        have h := Bk.new wr 34 #[.slice (a1 k) b.ops.length (k1 k), .int .i64 b.cond, .slice (a2 k) b.next.length (k2 k)]
        have h2 := HC.out.cb.rb.lt
        rw [hte] at h h2
        exact ⟨HC.out.below (bla (Below.refl _ _) _), h, by rw [size_alloc, hte]; omega, h2⟩)
      have HAp := Lib.hid (show ∀ i, i < k → ∀ (u : World) (sz n : Nat) (v : Value) (xs : List Value), u.ownsRow t 27 sz v n xs → Ap (us.getD i bkz).1 v from fun i hi u sz n v xs h => ap_late (HC.out.bks.el i (by rw [List.length_take]; omega)).ops (hte ▸ h))
      have HRt := Lib.hid (show y.ownBlock ≠ some t from fun e => by have := (HC.out.bks.row.lt t e).2; omega)
      clear HC
      rw [hte]
      generalize hW : wr.alloc (.cells #[.slice (a1 k) b.ops.length (k1 k), .int .i64 b.cond, .slice (a2 k) b.next.length (k2 k)] 34) = U0 at HX ⊢
      clear hW hte
      have hbk : Below U0.heap.size U0 (U0.alloc (.cells #[] 27)) := bla (Below.refl _ _) _
      have q := (HX.out.2.1.below hbk).cell 0
      have HR := Lib.hid (HOps.out.below ((HX.out.1.below hbk).cb.low))
      have htl := HX.out.2.2.1
      have htw := HX.out.2.2.2
      go_wp2_with (at_builtin; refine wpList_append_row rfl _ _ 25 rfl U0.heap.size 27 iTO _ 5 40 Try.underlying25 HTO.out.1 HTO.out.2.1 HTO.out.2.2.1 HTO.out.2.2.2 rfl (by decide) _ _ _ rfl (World.ownsRow_made U0 #[] 0 (Nat.le_refl _) (Nat.zero_le _) (by simp)) _ _ _ rfl (HR.out) ?qc3 ?qc4 ?qc5 ?qc6 ?_)
      case qc3 => exact one_opC
      case qc4 => have := HLo.out.1; unfold maxLen; omega
      case qc5 => have := HLo.out.1; omega
      case qc6 => simp
      intro v1 w1 hown hg hv
      have hb : Below U0.heap.size U0 w1 := hbk.grown hg (by simp) (by intro k hk; simp [Value.ownBlock] at hk; omega)
      obtain ⟨A4, C4, rfl⟩ := own_eta hown
      have r := (HX.out.2.1.below hb).cell 0
      have y_ := (HX.out.2.1.below hb).frozen 0
      clear q hbk hg hv HR
      go_upto_region 10 with fail
      have HX2 := Lib.hid (show (Cq g w #[.slice A1 g.ins.length C1, .int .i64 g.vars, .int .i64 g.keep, .slice A2 g.ars.length C2, .int .i64 g.sh, .slice (some ⟨bo, off, none⟩) g.blks.length cb, .slice Aq g.pts.length cp, .slice A3 g.hds.length C3] #[.slice none 0 0, .int .i64 0, .int .i64 0, .slice none 0 0, .int .i64 0, .slice none 0 0, .slice none 0 0, .slice none 0 0] (.slice A1 g.ins.length C1) (.slice A2 g.ars.length C2) (.slice A3 g.hds.length C3) y us k (w1.setCell ⟨t, 0, none⟩ (.slice A4 b.ops.length C4))) ∧ Bk (w1.setCell ⟨t, 0, none⟩ (.slice A4 b.ops.length C4)) t 34 #[.slice A4 b.ops.length C4, .int .i64 b.cond, .slice (a2 k) b.next.length (k2 k)] ∧ t < (w1.setCell ⟨t, 0, none⟩ (.slice A4 b.ops.length C4)).heap.size ∧ w.heap.size + 1 < t from by
        have h := HX.out.1.below hb
        refine ⟨⟨⟨h.cb.low.setCell (by show _ ≤ t; omega) _, h.cb.gb.far (by show _ ≠ t; omega) _, h.cb.rb.far (by show _ ≠ t; omega) _⟩, ?_, ?_⟩, (HX.out.2.1.below hb).set 0 _, by rw [World.size_setCell]; exact Nat.lt_of_lt_of_le htl hb.size, htw⟩
        · exact ⟨own_store_b h.cr.ins (HX.out.2.1.below hb) (by decide), own_store_b h.cr.ars (HX.out.2.1.below hb) (by decide), own_store_b h.cr.hds (HX.out.2.1.below hb) (by decide)⟩
        · exact ⟨own_store h.bks.row HRt.out, h.bks.len, fun i hi => ⟨(h.bks.el i hi).cnd, own_store_b (h.bks.el i hi).ops (HX.out.2.1.below hb) (by decide), own_store_b (h.bks.el i hi).nxt (HX.out.2.1.below hb) (by decide)⟩, h.bks.ap⟩)
      have HO := Lib.hid (ownsRow_setCell_below (own_mono_b hown (show t + 1 ≤ _ by omega)) (a := ⟨t, 0, none⟩) (by show t < _; omega) (.slice A4 b.ops.length C4))
      clear hb r y_ hown htl htw HX
      generalize hW : World.setCell w1 ⟨t, 0, none⟩ (.slice A4 b.ops.length C4) = U1 at HX2 HO ⊢
      clear hW w1
      have HX := HX2
      clear HX2
      have hbk : Below U1.heap.size U1 (U1.alloc (.cells #[] 3)) := bla (Below.refl _ _) _
      have q := (HX.out.2.1.below hbk).cell 2
      have HR := Lib.hid (HNx.out.below ((HX.out.1.below hbk).cb.low))
      have htl := HX.out.2.2.1
      have htw := HX.out.2.2.2
      go_wp2_with (at_builtin; refine wpList_append_row rfl _ _ 32 rfl U1.heap.size 3 iTN _ 1 8 Try.underlying32 HTN.out.1 HTN.out.2.1 HTN.out.2.2.1 HTN.out.2.2.2 rfl (by decide) _ _ _ rfl (World.ownsRow_made U1 #[] 0 (Nat.le_refl _) (Nat.zero_le _) (by simp)) _ _ _ rfl (HR.out) ?qc3 ?qc4 ?qc5 ?qc6 ?_)
      case qc3 => exact one_numC
      case qc4 => have := HLo.out.2; unfold maxLen; omega
      case qc5 => have := HLo.out.2; omega
      case qc6 => simp
      intro v1 w1 hown hg hv
      have hb : Below U1.heap.size U1 w1 := hbk.grown hg (by simp) (by intro k hk; simp [Value.ownBlock] at hk; omega)
      obtain ⟨A5, C5, rfl⟩ := own_eta hown
      have r := (HX.out.2.1.below hb).cell 2
      have y_ := (HX.out.2.1.below hb).frozen 2
      clear q hbk hg hv HR
      go_upto_region 11 with fail
      have HX2 := Lib.hid (show (Cq g w #[.slice A1 g.ins.length C1, .int .i64 g.vars, .int .i64 g.keep, .slice A2 g.ars.length C2, .int .i64 g.sh, .slice (some ⟨bo, off, none⟩) g.blks.length cb, .slice Aq g.pts.length cp, .slice A3 g.hds.length C3] #[.slice none 0 0, .int .i64 0, .int .i64 0, .slice none 0 0, .int .i64 0, .slice none 0 0, .slice none 0 0, .slice none 0 0] (.slice A1 g.ins.length C1) (.slice A2 g.ars.length C2) (.slice A3 g.hds.length C3) y us k (w1.setCell ⟨t, 2, none⟩ (.slice A5 b.next.length C5))) ∧ Bk (w1.setCell ⟨t, 2, none⟩ (.slice A5 b.next.length C5)) t 34 #[.slice A4 b.ops.length C4, .int .i64 b.cond, .slice A5 b.next.length C5] ∧ t < (w1.setCell ⟨t, 2, none⟩ (.slice A5 b.next.length C5)).heap.size ∧ w.heap.size + 1 < t from by
        have h := HX.out.1.below hb
        refine ⟨⟨⟨h.cb.low.setCell (by show _ ≤ t; omega) _, h.cb.gb.far (by show _ ≠ t; omega) _, h.cb.rb.far (by show _ ≠ t; omega) _⟩, ?_, ?_⟩, (HX.out.2.1.below hb).set 2 _, by rw [World.size_setCell]; exact Nat.lt_of_lt_of_le htl hb.size, htw⟩
        · exact ⟨own_store_b h.cr.ins (HX.out.2.1.below hb) (by decide), own_store_b h.cr.ars (HX.out.2.1.below hb) (by decide), own_store_b h.cr.hds (HX.out.2.1.below hb) (by decide)⟩
        · exact ⟨own_store h.bks.row HRt.out, h.bks.len, fun i hi => ⟨(h.bks.el i hi).cnd, own_store_b (h.bks.el i hi).ops (HX.out.2.1.below hb) (by decide), own_store_b (h.bks.el i hi).nxt (HX.out.2.1.below hb) (by decide)⟩, h.bks.ap⟩)
      replace HO := Lib.hid (ownsRow_setCell_below (own_below HO.out hb) (a := ⟨t, 2, none⟩) (by show t < _; omega) (.slice A5 b.next.length C5))
      have HN := Lib.hid (ownsRow_setCell_below (own_mono_b hown (show t + 1 ≤ _ by omega)) (a := ⟨t, 2, none⟩) (by show t < _; omega) (.slice A5 b.next.length C5))
      clear hb r y_ hown htl htw HX
      generalize hW : World.setCell w1 ⟨t, 2, none⟩ (.slice A5 b.next.length C5) = U2 at HX2 HO HN ⊢
      clear hW w1
      have HX := HX2
      clear HX2
      have hbk : Below U2.heap.size U2 (U2.alloc (.cells #[.slice A4 b.ops.length C4, .int .i64 b.cond, .slice A5 b.next.length C5] 34)) := bla (Below.refl _ _) _
      have q0 := HX.out.2.1.cell 0
      have q1 := HX.out.2.1.cell 1
      have q2 := HX.out.2.1.cell 2
      have HY := Lib.hid (HX.out.1.below hbk)
      have hlen : (g.blks.take k).length = k := by rw [List.length_take]; omega
      have hrow := HY.out.bks.row
      rw [hlen] at hrow
      have HRow := Lib.hid hrow
      clear hrow hlen
      have htw := HX.out.2.2.2
      go_wp2_with (at_builtin; refine wpList_append_row rfl _ _ 35 rfl (w.heap.size + 1 + 1) 34 iTB _ 3 56 Try.underlying35 HTB.out.1 HTB.out.2.1 HTB.out.2.2.1 HTB.out.2.2.2 rfl (by decide) _ _ _ rfl (HRow.out) _ _ _ rfl (lit_blk U2 A4 A5 b.ops.length b.next.length C4 C5 _ b.cond rfl) ?qc3 ?qc4 ?qc5 ?qc6 ?_)
      case qc3 => intro u hu; simp [bkC] at hu; rcases hu with rfl | rfl | rfl <;> rfl
      case qc4 => unfold maxLen; omega
      case qc5 => omega
      case qc6 => have := HY.out.cb.rb.lt; omega
      intro v1 w1 hown hg hv
      have HN2 := Lib.hid (HY.out.push hlt (x := (.slice A4 b.ops.length C4, b.cond, .slice A5 b.next.length C5)) (by rw [HE.out]; exact ⟨rfl, own_mono_b (own_below HO.out hbk) (by omega), own_mono_b (own_below HN.out hbk) (by omega)⟩) (fun i hi => HAp.out i hi _ _ _ _ _ (own_mono_b HO.out (Nat.le_succ t))) hown hg)
      clear hown hg hv HX HO HN HY HRow hbk q0 q1 q2
      go_wp2
      go_roundw
      case rel => exact ⟨k + 1, _, _, by omega, by first | rfl | go_num, rfl, HN2⟩
      case measure => simp [intOf]; omega
    · have hlt' : ¬ (k : Int) < g.blks.length := by omega
      obtain rfl : k = g.blks.length := by omega
      have HK := Lib.hid (show g.blks.take g.blks.length = g.blks from List.take_length)
      obtain ⟨Ay, Cy, hy⟩ := own_eta HC.out.bks.row
      have HBk := Lib.hid (show Bks (w.heap.size + 1 + 1) wr y us g.blks from by have := HC.out.bks; rw [HK.out] at this; exact this)
      rw [HK.out] at hy
      subst hy
      have r := HC.out.cb.gb.cell 5
      have y_ := HC.out.cb.gb.frozen 5
      go_upto_region 13 with fail
      have HD := Lib.hid (show Cs g w #[.slice A1 g.ins.length C1, .int .i64 g.vars, .int .i64 g.keep, .slice A2 g.ars.length C2, .int .i64 g.sh, .slice Ay g.blks.length Cy, .slice Aq g.pts.length cp, .slice A3 g.hds.length C3] #[.slice none 0 0, .int .i64 0, .int .i64 0, .slice none 0 0, .int .i64 0, .slice none 0 0, .slice none 0 0, .slice none 0 0] (.slice A1 g.ins.length C1) (.slice A2 g.ars.length C2) (.slice A3 g.hds.length C3) (.slice Ay g.blks.length Cy) us (.slice none 0 0) [] 0 (wr.setCell ⟨w.heap.size, 5, none⟩ (.slice Ay g.blks.length Cy)) from ⟨HC.out.cb.box 5 _ _ rfl, HC.out.cr.far (by show w.heap.size < _; omega) _, HBk.out.far (by show w.heap.size < _; omega) _, by rw [List.take_zero]; exact Mps.nil _ _⟩)
      clear HC HBk q5 r y_
      generalize hW : World.setCell wr ⟨w.heap.size, 5, none⟩ (.slice Ay g.blks.length Cy) = W4 at HD ⊢
      clear hW
      go_wp2
      go_loopw [7, 6] (fun i v wr => ∃ (k : Nat) (p : Value) (ps : List Value), k ≤ g.pts.length ∧ i = .int .i64 k ∧ p = v ∧ Hid (Cs g w #[.slice A1 g.ins.length C1, .int .i64 g.vars, .int .i64 g.keep, .slice A2 g.ars.length C2, .int .i64 g.sh, .slice Ay g.blks.length Cy, .slice Aq g.pts.length cp, .slice A3 g.hds.length C3] #[.slice none 0 0, .int .i64 0, .int .i64 0, .slice none 0 0, .int .i64 0, .slice none 0 0, .slice none 0 0, .slice none 0 0] (.slice A1 g.ins.length C1) (.slice A2 g.ars.length C2) (.slice A3 g.hds.length C3) (.slice Ay g.blks.length Cy) us p ps k wr)) (fun i _ _ => g.pts.length - (intOf i).toNat)
      case atStart => exact ⟨0, _, _, Nat.zero_le _, rfl, rfl, HD⟩
      case round =>
        clear HD
        obtain ⟨k, p, ps, hk, rfl, rfl, HD⟩ := hrel
        have q6 := HD.out.cb.gb.cell 6
        by_cases hlt : k < g.pts.length
        · have hlt' : (k : Int) < g.pts.length := by omega
          have hlt0 : (0 : Int) ≤ (k : Int) := by omega
          have hl5 := HL.out.2.2.2.2
          obtain ⟨bo, off, rfl, hbo, x0, hnum⟩ := HPt.out k hlt
          have HNum := Lib.hid hnum
          clear hnum
          have hbw : bo < wr.heap.size := Nat.lt_of_lt_of_le hbo HD.out.cb.low.size
          have HLo := Lib.hid (HPo.out k hlt)
          obtain ⟨q, hq⟩ : ∃ q, g.pts.getD k [] = q := ⟨_, rfl⟩
          have HE := Lib.hid hq
          rw [hq] at x0 HNum HLo
          clear hq q6
          have hbk : Below wr.heap.size wr (wr.alloc (.cells #[] 3)) := bla (Below.refl _ _) _
          replace x0 := ((HD.out.below hbk).cb.low.cell (p := ⟨bo, off + k, none⟩) hbo).trans x0
          have q6 := (HD.out.below hbk).cb.gb.cell 6
          have q6_ := HD.out.cb.gb.cell 6
          have HR := Lib.hid (HNum.out.below ((HD.out.below hbk).cb.low))
          have hbw2 : bo < (wr.alloc (.cells #[] 3)).heap.size := Nat.lt_of_lt_of_le hbw hbk.size
          go_wp2_with (at_builtin; refine wpList_append_row rfl _ _ 32 rfl wr.heap.size 3 iTN _ 1 8 Try.underlying32 HTN.out.1 HTN.out.2.1 HTN.out.2.2.1 HTN.out.2.2.2 rfl (by decide) _ _ _ rfl (World.ownsRow_made wr #[] 0 (Nat.le_refl _) (Nat.zero_le _) (by simp)) _ _ _ rfl (HR.out) ?qc3 ?qc4 ?qc5 ?qc6 ?_)
          case qc3 => exact one_numC
          case qc4 => have := HLo.out; unfold maxLen; omega
          case qc5 => have := HLo.out; omega
          case qc6 => simp
          intro v1 w1 hown hg hv
          have hb : Below wr.heap.size wr w1 := hbk.grown hg (by simp) (by intro k hk; simp [Value.ownBlock] at hk; omega)
          obtain ⟨A6, C6, rfl⟩ := own_eta hown
          have HO := Lib.hid hown
          have HD1 := Lib.hid (HD.out.below hb)
          have HAp := Lib.hid (show ∀ z ∈ ps, Ap (.slice A6 q.length C6) z from fun z hz => by
            obtain ⟨i, hi, rfl⟩ := List.getElem_of_mem hz
            exact (ap_late (HD.out.pts.2.1 i _ (List.getElem?_eq_getElem hi)) HO.out).symm)
          clear q6 q6_ hbk hbw2 hg hv HR x0 hown
          have hbk : Below w1.heap.size w1 (w1.alloc (.cells #[.slice A6 q.length C6] 32)) := bla (Below.refl _ _) _
          have HD2 := Lib.hid (HD1.out.below hbk)
          have hlen : (g.pts.take k).length = k := by rw [List.length_take]; omega
          have hrow := HD2.out.pts.1
          rw [hlen] at hrow
          have HRow := Lib.hid hrow
          clear hrow hlen
          go_wp2_with (at_builtin; refine wpList_append_row rfl _ _ 37 rfl (w.heap.size + 1 + 1) 32 iTL _ 1 24 Try.underlying37 HTL.out.1 HTL.out.2.1 HTL.out.2.2.1 HTL.out.2.2.2 rfl (by decide) _ _ _ rfl (HRow.out) _ _ _ rfl (lit_lst w1 A6 q.length C6 _ rfl) ?qc3 ?qc4 ?qc5 ?qc6 ?_)
          case qc3 => intro u hu; simp at hu; subst hu; rfl
          case qc4 => unfold maxLen; omega
          case qc5 => omega
          case qc6 => have := HD2.out.cb.rb.lt; omega
          intro v2 w2 hown hg hv
          have hsz := HD.out.cb.rb.lt
          have HN2 := Lib.hid (HD2.out.push hlt (x := .slice A6 q.length C6) (by rw [HE.out]; exact own_mono_b (own_below HO.out hbk) (by omega)) HAp.out hown hg (by rw [size_alloc]; exact hv))
          clear hown hg hv HD HD1 HD2 HO HRow hbk hb hsz
          go_wp2
          go_roundw
          case rel => exact ⟨k + 1, _, _, by omega, by first | rfl | go_num, rfl, HN2⟩
          case measure => simp [intOf]; omega
        · have hlt' : ¬ (k : Int) < g.pts.length := by omega
          obtain rfl : k = g.pts.length := by omega
          have HK := Lib.hid (show g.pts.take g.pts.length = g.pts from List.take_length)
          obtain ⟨Az, Cz, hz⟩ := own_eta HD.out.pts.1
          have HPs := Lib.hid (show Mps (w.heap.size + 1 + 1) wr p ps g.pts from by have := HD.out.pts; rw [HK.out] at this; exact this)
          rw [HK.out] at hz
          subst hz
          have y_ := HD.out.cb.gb.frozen 6
          go_upto_region 19 with fail
          clear q6 y_
          have HE := Lib.hid (show Cb w #[.slice A1 g.ins.length C1, .int .i64 g.vars, .int .i64 g.keep, .slice A2 g.ars.length C2, .int .i64 g.sh, .slice Ay g.blks.length Cy, .slice Az g.pts.length Cz, .slice A3 g.hds.length C3] #[.slice none 0 0, .int .i64 0, .int .i64 0, .slice none 0 0, .int .i64 0, .slice none 0 0, .slice none 0 0, .slice none 0 0] (wr.setCell ⟨w.heap.size, 6, none⟩ (.slice Az g.pts.length Cz)) ∧ Cr g w (.slice A1 g.ins.length C1) (.slice A2 g.ars.length C2) (.slice A3 g.hds.length C3) (wr.setCell ⟨w.heap.size, 6, none⟩ (.slice Az g.pts.length Cz)) ∧ Bks (w.heap.size + 1 + 1) (wr.setCell ⟨w.heap.size, 6, none⟩ (.slice Az g.pts.length Cz)) (.slice Ay g.blks.length Cy) us g.blks ∧ Mps (w.heap.size + 1 + 1) (wr.setCell ⟨w.heap.size, 6, none⟩ (.slice Az g.pts.length Cz)) (.slice Az g.pts.length Cz) ps g.pts from ⟨HD.out.cb.box 6 _ _ rfl, HD.out.cr.far (by show w.heap.size < _; omega) _, HD.out.bks.far (by show w.heap.size < _; omega) _, HPs.out.far (by show w.heap.size < _; omega) _⟩)
          clear HD HPs
          generalize hW : World.setCell wr ⟨w.heap.size, 6, none⟩ (.slice Az g.pts.length Cz) = W5 at HE ⊢
          clear hW
          have c0 := HE.out.1.gb.cell 0
          have c1 := HE.out.1.gb.cell 1
          have c2 := HE.out.1.gb.cell 2
          have c3 := HE.out.1.gb.cell 3
          have c4 := HE.out.1.gb.cell 4
          have c5 := HE.out.1.gb.cell 5
          have c6 := HE.out.1.gb.cell 6
          have c7 := HE.out.1.gb.cell 7
          have z0 := HE.out.1.rb.cell 0
          have z1 := HE.out.1.rb.cell 1
          have z2 := HE.out.1.rb.cell 2
          have z3 := HE.out.1.rb.cell 3
          have z4 := HE.out.1.rb.cell 4
          have z5 := HE.out.1.rb.cell 5
          have z6 := HE.out.1.rb.cell 6
          have z7 := HE.out.1.rb.cell 7
          have f0 := HE.out.1.rb.frozen 0
          have f1 := HE.out.1.rb.frozen 1
          have f2 := HE.out.1.rb.frozen 2
          have f3 := HE.out.1.rb.frozen 3
          have f4 := HE.out.1.rb.frozen 4
          have f5 := HE.out.1.rb.frozen 5
          have f6 := HE.out.1.rb.frozen 6
          have f7 := HE.out.1.rb.frozen 7
          have HF := Lib.hid (((((((((HE.out.1.res 0 (.slice A1 g.ins.length C1)).res 1 (.int .i64 g.vars)).res 2 (.int .i64 g.keep)).res 3 (.slice A2 g.ars.length C2)).res 4 (.int .i64 g.sh)).res 5 (.slice Ay g.blks.length Cy)).res 6 (.slice Az g.pts.length Cz)).res 7 (.slice A3 g.hds.length C3)))
          have HF2 := Lib.hid (((((((((HE.out.2.1.far (p := ⟨w.heap.size + 1, 0, none⟩) (Nat.lt_succ_self _) (.slice A1 g.ins.length C1)).far (p := ⟨w.heap.size + 1, 1, none⟩) (Nat.lt_succ_self _) (.int .i64 g.vars)).far (p := ⟨w.heap.size + 1, 2, none⟩) (Nat.lt_succ_self _) (.int .i64 g.keep)).far (p := ⟨w.heap.size + 1, 3, none⟩) (Nat.lt_succ_self _) (.slice A2 g.ars.length C2)).far (p := ⟨w.heap.size + 1, 4, none⟩) (Nat.lt_succ_self _) (.int .i64 g.sh)).far (p := ⟨w.heap.size + 1, 5, none⟩) (Nat.lt_succ_self _) (.slice Ay g.blks.length Cy)).far (p := ⟨w.heap.size + 1, 6, none⟩) (Nat.lt_succ_self _) (.slice Az g.pts.length Cz)).far (p := ⟨w.heap.size + 1, 7, none⟩) (Nat.lt_succ_self _) (.slice A3 g.hds.length C3)))
          have HF3 := Lib.hid (((((((((HE.out.2.2.1.far (p := ⟨w.heap.size + 1, 0, none⟩) (Nat.lt_succ_self _) (.slice A1 g.ins.length C1)).far (p := ⟨w.heap.size + 1, 1, none⟩) (Nat.lt_succ_self _) (.int .i64 g.vars)).far (p := ⟨w.heap.size + 1, 2, none⟩) (Nat.lt_succ_self _) (.int .i64 g.keep)).far (p := ⟨w.heap.size + 1, 3, none⟩) (Nat.lt_succ_self _) (.slice A2 g.ars.length C2)).far (p := ⟨w.heap.size + 1, 4, none⟩) (Nat.lt_succ_self _) (.int .i64 g.sh)).far (p := ⟨w.heap.size + 1, 5, none⟩) (Nat.lt_succ_self _) (.slice Ay g.blks.length Cy)).far (p := ⟨w.heap.size + 1, 6, none⟩) (Nat.lt_succ_self _) (.slice Az g.pts.length Cz)).far (p := ⟨w.heap.size + 1, 7, none⟩) (Nat.lt_succ_self _) (.slice A3 g.hds.length C3)))
          have HF4 := Lib.hid (((((((((HE.out.2.2.2.far (p := ⟨w.heap.size + 1, 0, none⟩) (Nat.lt_succ_self _) (.slice A1 g.ins.length C1)).far (p := ⟨w.heap.size + 1, 1, none⟩) (Nat.lt_succ_self _) (.int .i64 g.vars)).far (p := ⟨w.heap.size + 1, 2, none⟩) (Nat.lt_succ_self _) (.int .i64 g.keep)).far (p := ⟨w.heap.size + 1, 3, none⟩) (Nat.lt_succ_self _) (.slice A2 g.ars.length C2)).far (p := ⟨w.heap.size + 1, 4, none⟩) (Nat.lt_succ_self _) (.int .i64 g.sh)).far (p := ⟨w.heap.size + 1, 5, none⟩) (Nat.lt_succ_self _) (.slice Ay g.blks.length Cy)).far (p := ⟨w.heap.size + 1, 6, none⟩) (Nat.lt_succ_self _) (.slice Az g.pts.length Cz)).far (p := ⟨w.heap.size + 1, 7, none⟩) (Nat.lt_succ_self _) (.slice A3 g.hds.length C3)))
          clear HE
          go_wp2
          refine bodyPost_ret (v := .agg #[.slice A1 g.ins.length C1, .int .i64 g.vars, .int .i64 g.keep, .slice A2 g.ars.length C2, .int .i64 g.sh, .slice Ay g.blks.length Cy, .slice Az g.pts.length Cz, .slice A3 g.hds.length C3]) (by simp [results, Try.results68, go_sem, z0, z1, z2, z3, z4, z5, z6, z7]) rfl ⟨_, _, _, _, us, _, ps, rfl, HF.out.low, HF2.out, HF3.out, HF4.out⟩
end Go.Proofs.Ytojnhdkclabkgaa
