/- The code of layer 14: Fold. No condition. What Fold answers, as a graph in memory. No condition. -/
import Derived.Test.YtojnhdkclabkgaaFoParts
import Derived.Test.YtojnhdkclabkgaaGrCodeH
namespace Go.Proofs.Ytojnhdkclabkgaa
open Go.RowKit Go.Maps
set_option linter.unusedVariables false
set_option linter.unusedSimpArgs false
attribute [local go_sem] y_undef
/-- What Fold answers. -/
def FoldGPost (g : Gr.G) (w : World) (e : Ending) (w' : World) : Prop :=
  (Gr.chk g ≠ 0 ∧ e = .returned (.tuple #[.agg #[.slice none 0 0, .int .i64 0, .int .i64 0, .slice none 0 0, .int .i64 0, .slice none 0 0, .slice none 0 0, .slice none 0 0], .slice none 0 0, .int .i64 (Gr.chk g)]) ∧ Below w.heap.size w w') ∨
  (Gr.chk g = 0 ∧ ∃ (gc zc fc : Array Value) (F P Q S c1 c2 c3 : Nat) (vi va vh : Value) (f fs : Nat → Value) (fb : Nat → Value × Int × Value), e = .returned (.tuple #[.agg #[vi, .int .i64 g.vars, .int .i64 g.keep, va, .int .i64 g.sh, .slice (some ⟨Q, 0, none⟩) g.blks.length c1, .slice (some ⟨P, 0, none⟩) g.pts.length c2, vh], .slice (some ⟨S, 0, none⟩) g.blks.length c3, .int .i64 0]) ∧
    F2 g w gc zc fc F P Q S vi va vh f fb fs g.pts.length g.blks.length g.blks.length g.blks.length w')
/-- The boxes of Fold's argument, result and folded graph. -/
structure F0 (w : World) (gc zc fc : Array Value) (F : Nat) (u : World) : Prop where
  low : Below w.heap.size w u
  hF : w.heap.size + 1 < F
  gb : Bk u w.heap.size 40 gc
  rb : Bk u (w.heap.size + 1) 40 zc
  fb : Bk u F 40 fc
theorem F0.below {w u u' : World} {gc zc fc : Array Value} {F : Nat} (h : F0 w gc zc fc F u) (hb : Below u.heap.size u u') : F0 w gc zc fc F u' := ⟨blt h.low hb, h.hF, h.gb.below hb, h.rb.below hb, h.fb.below hb⟩
theorem F0.box {w u : World} {gc zc fc : Array Value} {F : Nat} (h : F0 w gc zc fc F u) (i : Nat) (x : Value) (fc' : Array Value) (hf : fc.setIfInBounds i x = fc') : F0 w gc zc fc' F (u.setCell ⟨F, i, none⟩ x) := by
  subst hf
  have h1 := h.hF
  exact ⟨h.low.setCell (by show w.heap.size ≤ F; omega) x, h1, h.gb.far (by show w.heap.size ≠ F; omega) x, h.rb.far (by show w.heap.size + 1 ≠ F; omega) x, h.fb.set i x⟩
theorem F2.rbox {g : Gr.G} {w u : World} {gc zc fc : Array Value} {F P Q S n np kb ks : Nat} {vi va vh : Value} {f fs : Nat → Value} {fb : Nat → Value × Int × Value} (h : F2 g w gc zc fc F P Q S vi va vh f fb fs np n kb ks u) (i : Nat) (x : Value) : F2 g w gc (zc.setIfInBounds i x) fc F P Q S vi va vh f fb fs np n kb ks (u.setCell ⟨w.heap.size + 1, i, none⟩ x) := by
  have h1 := h.hF
  have h2 := h.hP
  have h3 := h.hQ
  have h4 := h.hS
  refine ⟨h.low.setCell (by show w.heap.size ≤ w.heap.size + 1; omega) x, h1, h2, h3, h4, h.gb.far (by show w.heap.size ≠ w.heap.size + 1; omega) x, h.rb.set i x, h.fbx.far (by show F ≠ w.heap.size + 1; omega) x, h.pr.far (by show P ≠ w.heap.size + 1; omega) x, h.ins.far (.inl (by show w.heap.size + 1 < F + 1; omega)) x, h.ars.far (.inl (by show w.heap.size + 1 < F + 1; omega)) x, h.hds.far (.inl (by show w.heap.size + 1 < F + 1; omega)) x, fun i hi => (h.pts i hi).far (.inl (by show w.heap.size + 1 < P + 1; omega)) x, h.qr.far (by show Q ≠ w.heap.size + 1; omega) x, h.sr.far (by show S ≠ w.heap.size + 1; omega) x, fun i hi => (h.blks i hi).far (by show w.heap.size + 1 ≤ S; omega) x, fun i hi => ⟨_, (h.same i hi).choose_spec.far (.inl (by show w.heap.size + 1 < S + 1; omega)) x⟩⟩
theorem one_in {l : List (ByteArray × Int × Int)} : ∀ u ∈ l.flatMap inCells, u.oneCell' = true := by
  intro u hu
  obtain ⟨t, _, ht⟩ := List.mem_flatMap.1 hu
  simp [inCells] at ht
  rcases ht with rfl | rfl | rfl <;> rfl
theorem one_ar {l : List (ByteArray × Int)} : ∀ u ∈ l.flatMap arCells, u.oneCell' = true := by
  intro u hu
  obtain ⟨t, _, ht⟩ := List.mem_flatMap.1 hu
  simp [arCells] at ht
  rcases ht with rfl | rfl <;> rfl
theorem one_pr {l : List (Int × Int)} : ∀ u ∈ l.flatMap prCells, u.oneCell' = true := by
  intro u hu
  obtain ⟨t, _, ht⟩ := List.mem_flatMap.1 hu
  simp [prCells] at ht
  rcases ht with rfl | rfl <;> rfl
theorem one_num {l : List Int} : ∀ u ∈ l.map (Value.int .i64), u.oneCell' = true := by
  intro u hu
  obtain ⟨t, _, rfl⟩ := List.mem_map.1 hu
  rfl
set_option maxHeartbeats 800000 in
set_option maxRecDepth 100000 in
theorem foldg_any (g : Gr.G) (vi va vb vp vh : Value) (w : World) (hi : GrIn w g vi va vb vp vh) (hf : Gr.Fit g) :
    Calls Try.prog 8 #[.agg #[vi, .int .i64 g.vars, .int .i64 g.keep, va, .int .i64 g.sh, vb, vp, vh]] w (FoldGPost g w) := by
  obtain ⟨Ai, ci, rfl, -⟩ := hi.ins.opened
  obtain ⟨Aa, ca, rfl, -⟩ := hi.ars.opened
  obtain ⟨Ab, cb, a1, a2, k1, k2, rfl, hbl⟩ := id hi.blks
  obtain ⟨Ap, cp, ap, kp, rfl, hpt⟩ := hi.pts.opened
  obtain ⟨Ah, ch, rfl, -⟩ := hi.hds.opened
  have HI := Lib.hid hi
  have HBl := Lib.hid hbl
  have HPt := Lib.hid hpt
  have HB0 := Lib.hid (show Below w.heap.size w ((w.alloc (.cells #[.slice Ai g.ins.length ci, .int .i64 g.vars, .int .i64 g.keep, .slice Aa g.ars.length ca, .int .i64 g.sh, .slice Ab g.blks.length cb, .slice Ap g.pts.length cp, .slice Ah g.hds.length ch] 40)).alloc (.cells #[.slice none 0 0, .int .i64 0, .int .i64 0, .slice none 0 0, .int .i64 0, .slice none 0 0, .slice none 0 0, .slice none 0 0] 40)) from bla (bla (Below.refl _ _) _) _)
  have HG0 := Lib.hid (show Bk ((w.alloc (.cells #[.slice Ai g.ins.length ci, .int .i64 g.vars, .int .i64 g.keep, .slice Aa g.ars.length ca, .int .i64 g.sh, .slice Ab g.blks.length cb, .slice Ap g.pts.length cp, .slice Ah g.hds.length ch] 40)).alloc (.cells #[.slice none 0 0, .int .i64 0, .int .i64 0, .slice none 0 0, .int .i64 0, .slice none 0 0, .slice none 0 0, .slice none 0 0] 40)) w.heap.size 40 #[.slice Ai g.ins.length ci, .int .i64 g.vars, .int .i64 g.keep, .slice Aa g.ars.length ca, .int .i64 g.sh, .slice Ab g.blks.length cb, .slice Ap g.pts.length cp, .slice Ah g.hds.length ch] from (Bk.new w _ _).below (bla (Below.refl _ _) _))
  have HZ0 := Lib.hid (show Bk ((w.alloc (.cells #[.slice Ai g.ins.length ci, .int .i64 g.vars, .int .i64 g.keep, .slice Aa g.ars.length ca, .int .i64 g.sh, .slice Ab g.blks.length cb, .slice Ap g.pts.length cp, .slice Ah g.hds.length ch] 40)).alloc (.cells #[.slice none 0 0, .int .i64 0, .int .i64 0, .slice none 0 0, .int .i64 0, .slice none 0 0, .slice none 0 0, .slice none 0 0] 40)) (w.heap.size + 1) 40 #[.slice none 0 0, .int .i64 0, .int .i64 0, .slice none 0 0, .int .i64 0, .slice none 0 0, .slice none 0 0, .slice none 0 0] from by
    have h := Bk.new (w.alloc (.cells #[.slice Ai g.ins.length ci, .int .i64 g.vars, .int .i64 g.keep, .slice Aa g.ars.length ca, .int .i64 g.sh, .slice Ab g.blks.length cb, .slice Ap g.pts.length cp, .slice Ah g.hds.length ch] 40)) 40 #[.slice none 0 0, .int .i64 0, .int .i64 0, .slice none 0 0, .int .i64 0, .slice none 0 0, .slice none 0 0, .slice none 0 0]
    rw [size_alloc] at h
    exact h)
  obtain ⟨r, hr⟩ : ∃ r, Gr.chk g = r := ⟨_, rfl⟩
  have HCk := Lib.hid fun (W : World) (hW : Below w.heap.size w W) => gcheck_any g _ _ _ _ _ r hr W (hi.below hW) hf
  have HR := Lib.hid hr
  have HF := Lib.hid hf
  clear hi hf hbl hpt hr
  go_enter Try.func8, Try.ntmps8
  go_wp2_with fail
  refine (HCk.out _ HB0.out).mono ?_
  rintro e w1 ⟨rfl, hb1⟩
  replace HB0 := Lib.hid (blt HB0.out hb1)
  replace HG0 := Lib.hid (HG0.out.below hb1)
  replace HZ0 := Lib.hid (HZ0.out.below hb1)
  clear hb1
  have g0 := HG0.out.cell 0
  have g1 := HG0.out.cell 1
  have g2 := HG0.out.cell 2
  have g3 := HG0.out.cell 3
  have g4 := HG0.out.cell 4
  have g5 := HG0.out.cell 5
  have g6 := HG0.out.cell 6
  have g7 := HG0.out.cell 7
  have z0 := HZ0.out.cell 0
  have y0 := HZ0.out.frozen 0
  have z1 := HZ0.out.cell 1
  have y1 := HZ0.out.frozen 1
  have z2 := HZ0.out.cell 2
  have y2 := HZ0.out.frozen 2
  have z3 := HZ0.out.cell 3
  have y3 := HZ0.out.frozen 3
  have z4 := HZ0.out.cell 4
  have y4 := HZ0.out.frozen 4
  have z5 := HZ0.out.cell 5
  have y5 := HZ0.out.frozen 5
  have z6 := HZ0.out.cell 6
  have y6 := HZ0.out.frozen 6
  have z7 := HZ0.out.cell 7
  have y7 := HZ0.out.frozen 7
  by_cases h0 : r = 0
  · subst h0
    clear z0 y0 z1 y1 z2 y2 z3 y3 z4 y4 z5 y5 z6 y6 z7 y7
    have HOk := Lib.hid (Fo.okg_of HR.out)
    go_upto_region 5 with fail
    obtain ⟨F, hFe⟩ : ∃ F, w1.heap.size = F := ⟨_, rfl⟩
    have HS := Lib.hid (show F0 w #[.slice Ai g.ins.length ci, .int .i64 g.vars, .int .i64 g.keep, .slice Aa g.ars.length ca, .int .i64 g.sh, .slice Ab g.blks.length cb, .slice Ap g.pts.length cp, .slice Ah g.hds.length ch] #[.slice none 0 0, .int .i64 0, .int .i64 0, .slice none 0 0, .int .i64 0, .slice none 0 0, .slice none 0 0, .slice none 0 0] #[.slice Ai g.ins.length ci, .int .i64 g.vars, .int .i64 g.keep, .slice Aa g.ars.length ca, .int .i64 g.sh, .slice Ab g.blks.length cb, .slice Ap g.pts.length cp, .slice Ah g.hds.length ch] F (w1.alloc (.cells #[.slice Ai g.ins.length ci, .int .i64 g.vars, .int .i64 g.keep, .slice Aa g.ars.length ca, .int .i64 g.sh, .slice Ab g.blks.length cb, .slice Ap g.pts.length cp, .slice Ah g.hds.length ch] 40)) from by
      have hb : Below w1.heap.size w1 (w1.alloc (.cells #[.slice Ai g.ins.length ci, .int .i64 g.vars, .int .i64 g.keep, .slice Aa g.ars.length ca, .int .i64 g.sh, .slice Ab g.blks.length cb, .slice Ap g.pts.length cp, .slice Ah g.hds.length ch] 40)) := bla (Below.refl _ _) _
      have hfb := Bk.new w1 40 #[.slice Ai g.ins.length ci, .int .i64 g.vars, .int .i64 g.keep, .slice Aa g.ars.length ca, .int .i64 g.sh, .slice Ab g.blks.length cb, .slice Ap g.pts.length cp, .slice Ah g.hds.length ch]
      rw [hFe] at hfb
      have hlt := HZ0.out.lt
      exact ⟨blt HB0.out hb, by omega, HG0.out.below hb, HZ0.out.below hb, hfb⟩)
    rw [hFe] at *
    clear HB0 HG0 HZ0 HCk g0 g1 g2 g3 g4 g5 g6 g7
    generalize hW : w1.alloc (.cells #[.slice Ai g.ins.length ci, .int .i64 g.vars, .int .i64 g.keep, .slice Aa g.ars.length ca, .int .i64 g.sh, .slice Ab g.blks.length cb, .slice Ap g.pts.length cp, .slice Ah g.hds.length ch] 40) = W0 at HS ⊢
    clear hW hFe w1
    have q := HS.out.gb.cell 0
    go_wp2_with fail
    refine (clone_ins g.ins.length (g.ins.flatMap inCells) _ _ (HI.out.ins.below HS.out.low) one_in (by have := HOk.out.ins; omega)).mono ?_
    rintro e w1 ⟨v1, rfl, hown, hb⟩
    obtain ⟨hin, A1, C1, rfl, _⟩ := own_in hown
    have HQ1 := Lib.hid ((Part.own hown).more (show F + 1 ≤ W0.heap.size from HS.out.fb.lt) (Nat.le_refl _))
    have r := (HS.out.below hb).fb.cell 0
    have y := (HS.out.below hb).fb.frozen 0
    clear q hin hown
    go_upto_region 6 with fail
    replace HS := Lib.hid ((HS.out.below hb).box 0 (.slice A1 g.ins.length C1) _ rfl)
    replace HQ1 := Lib.hid (HQ1.out.far (p := ⟨F, 0, none⟩) (.inl (Nat.lt_succ_self _)) (.slice A1 g.ins.length C1))
    have hsz : w1.heap.size = (World.setCell w1 ⟨F, 0, none⟩ (.slice A1 g.ins.length C1)).heap.size := (World.size_setCell ..).symm
    rw [hsz] at HQ1
    clear hb r y hsz
    generalize hW : World.setCell w1 ⟨F, 0, none⟩ (.slice A1 g.ins.length C1) = W1 at HS HQ1 ⊢
    clear hW w1
    have q := HS.out.gb.cell 3
    go_wp2_with fail
    refine (clone_ars g.ars.length (g.ars.flatMap arCells) _ _ (HI.out.ars.below HS.out.low) one_ar (by have := HOk.out.ars; omega)).mono ?_
    rintro e w1 ⟨v1, rfl, hown, hb⟩
    obtain ⟨hin, A2, C2, rfl, _⟩ := own_in hown
    have HQ2 := Lib.hid ((Part.own hown).more (show F + 1 ≤ W1.heap.size from HS.out.fb.lt) (Nat.le_refl _))
    have r := (HS.out.below hb).fb.cell 3
    have y := (HS.out.below hb).fb.frozen 3
    clear q hin hown
    go_upto_region 7 with fail
    replace HS := Lib.hid ((HS.out.below hb).box 3 (.slice A2 g.ars.length C2) _ rfl)
    replace HQ1 := Lib.hid (((HQ1.out.below hb).far (p := ⟨F, 3, none⟩) (.inl (Nat.lt_succ_self _)) (.slice A2 g.ars.length C2)).more (Nat.le_refl _) hb.size)
    replace HQ2 := Lib.hid (HQ2.out.far (p := ⟨F, 3, none⟩) (.inl (Nat.lt_succ_self _)) (.slice A2 g.ars.length C2))
    have hsz : w1.heap.size = (World.setCell w1 ⟨F, 3, none⟩ (.slice A2 g.ars.length C2)).heap.size := (World.size_setCell ..).symm
    rw [hsz] at HQ1 HQ2
    clear hb r y hsz
    generalize hW : World.setCell w1 ⟨F, 3, none⟩ (.slice A2 g.ars.length C2) = W2 at HS HQ1 HQ2 ⊢
    clear hW w1
    have q := HS.out.gb.cell 7
    go_wp2_with fail
    refine (clone_hds g.hds.length (g.hds.flatMap prCells) _ _ (HI.out.hds.below HS.out.low) one_pr (by have := HOk.out.hds; omega)).mono ?_
    rintro e w1 ⟨v1, rfl, hown, hb⟩
    obtain ⟨hin, A3, C3, rfl, _⟩ := own_in hown
    have HQ3 := Lib.hid ((Part.own hown).more (show F + 1 ≤ W2.heap.size from HS.out.fb.lt) (Nat.le_refl _))
    have r := (HS.out.below hb).fb.cell 7
    have y := (HS.out.below hb).fb.frozen 7
    clear q hin hown
    go_upto_region 8 with fail
    replace HS := Lib.hid ((HS.out.below hb).box 7 (.slice A3 g.hds.length C3) _ rfl)
    replace HQ1 := Lib.hid (((HQ1.out.below hb).far (p := ⟨F, 7, none⟩) (.inl (Nat.lt_succ_self _)) (.slice A3 g.hds.length C3)).more (Nat.le_refl _) hb.size)
    replace HQ2 := Lib.hid (((HQ2.out.below hb).far (p := ⟨F, 7, none⟩) (.inl (Nat.lt_succ_self _)) (.slice A3 g.hds.length C3)).more (Nat.le_refl _) hb.size)
    replace HQ3 := Lib.hid (HQ3.out.far (p := ⟨F, 7, none⟩) (.inl (Nat.lt_succ_self _)) (.slice A3 g.hds.length C3))
    have hsz : w1.heap.size = (World.setCell w1 ⟨F, 7, none⟩ (.slice A3 g.hds.length C3)).heap.size := (World.size_setCell ..).symm
    rw [hsz] at HQ1 HQ2 HQ3
    clear hb r y hsz
    generalize hW : World.setCell w1 ⟨F, 7, none⟩ (.slice A3 g.hds.length C3) = W3 at HS HQ1 HQ2 HQ3 ⊢
    clear hW w1
    have q := HS.out.gb.cell 6
    have hmk := make_lsts g.pts.length (by have := HOk.out.pts; omega)
    obtain ⟨P, hPe⟩ : ∃ P, W3.heap.size = P := ⟨_, rfl⟩
    have hbk : Below W3.heap.size W3 (W3.alloc (.cells (slRow g.pts.length (fun _ => .slice none 0 0)) 32)) := bla (Below.refl _ _) _
    have r := (HS.out.below hbk).fb.cell 6
    have y := (HS.out.below hbk).fb.frozen 6
    have q2 := (HS.out.below hbk).gb.cell 6
    have hsz : (W3.alloc (.cells (slRow g.pts.length (fun _ => .slice none 0 0)) 32)).heap.size = P + 1 := by rw [size_alloc, hPe]
    have HF := Lib.hid (show (F1 g w #[.slice Ai g.ins.length ci, .int .i64 g.vars, .int .i64 g.keep, .slice Aa g.ars.length ca, .int .i64 g.sh, .slice Ab g.blks.length cb, .slice Ap g.pts.length cp, .slice Ah g.hds.length ch] #[.slice none 0 0, .int .i64 0, .int .i64 0, .slice none 0 0, .int .i64 0, .slice none 0 0, .slice none 0 0, .slice none 0 0] #[.slice A1 g.ins.length C1, .int .i64 g.vars, .int .i64 g.keep, .slice A2 g.ars.length C2, .int .i64 g.sh, .slice Ab g.blks.length cb, .slice (some ⟨P, 0, none⟩) g.pts.length g.pts.length, .slice A3 g.hds.length C3] F P (.slice A1 g.ins.length C1) (.slice A2 g.ars.length C2) (.slice A3 g.hds.length C3) (fun _ => .slice none 0 0) g.pts.length 0) ((W3.alloc (.cells (slRow g.pts.length (fun _ => .slice none 0 0)) 32)).setCell ⟨F, 6, none⟩ (.slice (some ⟨P, 0, none⟩) g.pts.length g.pts.length)) from by
      have hlt := HS.out.fb.lt
      rw [hPe] at hlt HQ1 HQ2 HQ3
      have hnew := Bk.new W3 32 (slRow g.pts.length (fun _ => .slice none 0 0))
      rw [hPe] at hnew
      have h1 : F1 g w #[.slice Ai g.ins.length ci, .int .i64 g.vars, .int .i64 g.keep, .slice Aa g.ars.length ca, .int .i64 g.sh, .slice Ab g.blks.length cb, .slice Ap g.pts.length cp, .slice Ah g.hds.length ch] #[.slice none 0 0, .int .i64 0, .int .i64 0, .slice none 0 0, .int .i64 0, .slice none 0 0, .slice none 0 0, .slice none 0 0] _ F P (.slice A1 g.ins.length C1) (.slice A2 g.ars.length C2) (.slice A3 g.hds.length C3) (fun _ => .slice none 0 0) g.pts.length 0 (W3.alloc (.cells (slRow g.pts.length (fun _ => .slice none 0 0)) 32)) := ⟨(HS.out.below hbk).low, HS.out.hF, hlt, (HS.out.below hbk).gb, (HS.out.below hbk).rb, (HS.out.below hbk).fb, hnew, HQ1.out.below hbk, HQ2.out.below hbk, HQ3.out.below hbk, fun i hi => absurd hi (Nat.not_lt_zero _)⟩
      exact h1.box 6 _ _ rfl)
    clear HS HQ1 HQ2 HQ3 hbk
    go_upto_region 9 with fail
    clear q q2 r y hmk hsz
    generalize hW : World.setCell _ ⟨F, 6, none⟩ (Value.slice (some ⟨P, 0, none⟩) g.pts.length g.pts.length) = W4 at HF ⊢
    clear hW hPe W3
    have q := HF.out.gb.cell 6
    go_wp2
    clear q
    go_loopw [39, 7, 8] (fun i _ _ wr => ∃ (k : Nat) (f : Nat → Value), k ≤ g.pts.length ∧ i = .int .i64 k ∧ Hid ((F1 g w #[.slice Ai g.ins.length ci, .int .i64 g.vars, .int .i64 g.keep, .slice Aa g.ars.length ca, .int .i64 g.sh, .slice Ab g.blks.length cb, .slice Ap g.pts.length cp, .slice Ah g.hds.length ch] #[.slice none 0 0, .int .i64 0, .int .i64 0, .slice none 0 0, .int .i64 0, .slice none 0 0, .slice none 0 0, .slice none 0 0] #[.slice A1 g.ins.length C1, .int .i64 g.vars, .int .i64 g.keep, .slice A2 g.ars.length C2, .int .i64 g.sh, .slice Ab g.blks.length cb, .slice (some ⟨P, 0, none⟩) g.pts.length g.pts.length, .slice A3 g.hds.length C3] F P (.slice A1 g.ins.length C1) (.slice A2 g.ars.length C2) (.slice A3 g.hds.length C3) f g.pts.length k) wr)) (fun i _ _ _ => g.pts.length - (intOf i).toNat)
    case atStart => exact ⟨0, _, Nat.zero_le _, rfl, HF⟩
    case round =>
      clear HF
      obtain ⟨k, f, hk, rfl, HF⟩ := hrel
      by_cases hlt : k < g.pts.length
      · have hlt' : (k : Int) < g.pts.length := by omega
        have hlt0 : (0 : Int) ≤ (k : Int) := by omega
        obtain ⟨bo, off, rfl, hbo, x0, hnum⟩ := HPt.out k hlt
        replace x0 := (HF.out.low.cell (p := ⟨bo, off + k, none⟩) hbo).trans x0
        have hbw : bo < wr.heap.size := Nat.lt_of_lt_of_le hbo HF.out.low.size
        have hql := HOk.out.pt k hlt
        have hpl := HOk.out.pts
        obtain ⟨q, hq⟩ : ∃ q, g.pts.getD k [] = q := ⟨_, rfl⟩
        have HQe := Lib.hid hq
        rw [hq] at x0 hnum hql
        clear hq
        have HC := Lib.hid fun (u : World) (hu : Below w.heap.size w u) => clone_nums q.length (q.map (.int .i64)) _ u (hnum.below hu) one_num (by omega)
        clear hnum
        go_upto_region 12 with fail
        clear x0
        refine wp_region_last (S := (fun u : World => F1 g w #[.slice Ai g.ins.length ci, .int .i64 g.vars, .int .i64 g.keep, .slice Aa g.ars.length ca, .int .i64 g.sh, .slice Ab g.blks.length cb, .slice (some ⟨bo, off, none⟩) g.pts.length cp, .slice Ah g.hds.length ch] #[.slice none 0 0, .int .i64 0, .int .i64 0, .slice none 0 0, .int .i64 0, .slice none 0 0, .slice none 0 0, .slice none 0 0] #[.slice A1 g.ins.length C1, .int .i64 g.vars, .int .i64 g.keep, .slice A2 g.ars.length C2, .int .i64 g.sh, .slice Ab g.blks.length cb, .slice (some ⟨P, 0, none⟩) g.pts.length g.pts.length, .slice A3 g.hds.length C3] F P (.slice A1 g.ins.length C1) (.slice A2 g.ars.length C2) (.slice A3 g.hds.length C3) f g.pts.length k u)) 6 (by kernel_rfl) ?_ (fun hHeld => ?_)
        · exact HF.out.below (below_drewN _ _ 1)
        refine' wpAnyL_take (i := 0) (v := _) ?_ ?_ ?_ ?_ ?_ ?_ ?_ ?_ ?_
        rotate_left 2
        focus (simp only [List.getElem?_toArray, List.getElem?_cons_succ, List.getElem?_cons_zero]; rfl)
        focus kernel_rfl
        focus kernel_rfl
        focus kernel_rfl
        focus kernel_rfl
        focus exact (fun _ _ _ h => h)
        refine Or.inl ⟨?_, ?_⟩
        focus (go_simp; done)
        focus (intro w hSw; have c6 := hSw.fb.cell 6; (first | (go_simp; done) | (go_simp; with_reducible rfl)))
        focus assumption
        (try simp only [Act.put, List.setIfInBounds_toArray, List.set_cons_zero, List.set_cons_succ])
        refine' wpAnyL_take (i := 1) (v := _) ?_ ?_ ?_ ?_ ?_ ?_ ?_ ?_ ?_
        rotate_left 2
        focus (simp only [List.getElem?_toArray, List.getElem?_cons_succ, List.getElem?_cons_zero]; rfl)
        focus kernel_rfl
        focus kernel_rfl
        focus kernel_rfl
        focus kernel_rfl
        focus exact (fun _ _ _ h => h)
        refine Or.inl ⟨?_, ?_⟩
        focus (go_simp; done)
        focus (intro w hSw; have c6 := hSw.fb.cell 6; (first | (go_simp; done) | (go_simp; with_reducible rfl)))
        focus assumption
        (try simp only [Act.put, List.setIfInBounds_toArray, List.set_cons_zero, List.set_cons_succ])
        refine' wpAnyL_take (i := 2) (v := _) ?_ ?_ ?_ ?_ ?_ ?_ ?_ ?_ ?_
        rotate_left 2
        focus (simp only [List.getElem?_toArray, List.getElem?_cons_succ, List.getElem?_cons_zero]; rfl)
        focus kernel_rfl
        focus kernel_rfl
        focus kernel_rfl
        focus kernel_rfl
        focus exact (fun _ _ _ h => h)
        refine Or.inl ⟨?_, ?_⟩
        focus (go_simp; done)
        focus (intro w hSw; have c6 := hSw.fb.cell 6; (first | (go_simp; done) | (go_simp; with_reducible rfl)))
        focus assumption
        (try simp only [Act.put, List.setIfInBounds_toArray, List.set_cons_zero, List.set_cons_succ])
        refine' wpAnyL_take (i := 3) (v := _) ?_ ?_ ?_ ?_ ?_ ?_ ?_ ?_ ?_
        rotate_left 2
        focus (simp only [List.getElem?_toArray, List.getElem?_cons_succ, List.getElem?_cons_zero]; rfl)
        focus kernel_rfl
        focus kernel_rfl
        focus kernel_rfl
        focus kernel_rfl
        focus exact (fun _ _ _ h => h)
        refine Or.inl ⟨?_, ?_⟩
        focus (go_simp; done)
        focus (intro w hSw; have c6 := hSw.fb.cell 6; (first | (go_simp; done) | (go_simp; with_reducible rfl)))
        focus assumption
        (try simp only [Act.put, List.setIfInBounds_toArray, List.set_cons_zero, List.set_cons_succ])
        refine' wpAnyL_one (i := 4) ?_ ?_ ?_ (fun K hK => ?_)
        rotate_left
        focus kernel_rfl
        focus kernel_rfl
        focus (simp only [List.getElem?_toArray, List.getElem?_cons_succ, List.getElem?_cons_zero]; rfl)
        go_simp
        (go_at_call 22; refine (HC.out _ hHeld.low).mono ?_; intro e u1 hpost)
        obtain ⟨v1, hv1, hown, hb⟩ := hpost
        subst hv1
        obtain ⟨hin, A5, C5, rfl, _⟩ := own_in hown
        have HV := Lib.hid ((Part.own hown).more (show P + 1 ≤ _ from hHeld.pr.lt) (Nat.le_refl _))
        clear hin hown
        refine hK.out _ _ (hHeld.below hb) (fun hHeld => ?_)
        clear hK K
        (try simp only [Act.put, List.setIfInBounds_toArray, List.set_cons_zero, List.set_cons_succ])
        clear hb
        refine' wpAnyL_take (i := 5) (v := _) ?_ ?_ ?_ ?_ ?_ ?_ ?_ ?_ ?_
        rotate_left 2
        focus (simp only [List.getElem?_toArray, List.getElem?_cons_succ, List.getElem?_cons_zero]; rfl)
        focus kernel_rfl
        focus kernel_rfl
        focus kernel_rfl
        focus kernel_rfl
        focus exact (fun _ _ _ h => h)
        refine Or.inl ⟨?_, ?_⟩
        focus (go_simp; done)
        focus (intro w hSw; have c6 := hSw.fb.cell 6; (first | (go_simp; done) | (go_simp; with_reducible rfl)))
        focus assumption
        (try simp only [Act.put, List.setIfInBounds_toArray, List.set_cons_zero, List.set_cons_succ])
        refine' wpAnyL_last ?_ ?_ (fun K hK => ?_)
        rotate_left
        focus kernel_rfl
        focus (simp only [List.getElem?_toArray, List.getElem?_cons_succ, List.getElem?_cons_zero]; rfl)
        have r0 := (hHeld.pr.cell k).trans (slRow_cell g.pts.length f hlt)
        have f0 := hHeld.pr.frozen k
        have hlo := hHeld.pr.lt
        go_simp
        refine hK.out _ _ ?_
        clear hK K
        (try simp only [Act.put, List.setIfInBounds_toArray, List.set_cons_zero, List.set_cons_succ])
        refine wpAny_done (by kernel_rfl) ?_ _
        have HF2 := Lib.hid (hHeld.step (by rw [HQe.out]; exact HV.out))
        clear hHeld r0 f0 hlo HV HC
        go_wp2
        go_roundw
        case rel => exact ⟨k + 1, _, by omega, by first | rfl | go_num, HF2⟩
        case measure => simp [intOf]; omega
      · have hlt' : ¬ (k : Int) < g.pts.length := by omega
        obtain rfl : k = g.pts.length := by omega
        have hmb := make_blks g.blks.length (by have := HOk.out.blks; omega)
        have hml := make_lsts g.blks.length (by have := HOk.out.blks; omega)
        obtain ⟨Q, hQe⟩ : ∃ Q, wr.heap.size = Q := ⟨_, rfl⟩
        have hbk : Below wr.heap.size wr (wr.alloc (.cells (bkRow g.blks.length (fun _ => bkz)) 34)) := bla (Below.refl _ _) _
        have q5 := HF.out.gb.cell 5
        have r := (HF.out.below hbk).fb.cell 5
        have y := (HF.out.below hbk).fb.frozen 5
        have HF3 := Lib.hid (show (F1 g w #[.slice Ai g.ins.length ci, .int .i64 g.vars, .int .i64 g.keep, .slice Aa g.ars.length ca, .int .i64 g.sh, .slice Ab g.blks.length cb, .slice Ap g.pts.length cp, .slice Ah g.hds.length ch] #[.slice none 0 0, .int .i64 0, .int .i64 0, .slice none 0 0, .int .i64 0, .slice none 0 0, .slice none 0 0, .slice none 0 0] #[.slice A1 g.ins.length C1, .int .i64 g.vars, .int .i64 g.keep, .slice A2 g.ars.length C2, .int .i64 g.sh, .slice (some ⟨Q, 0, none⟩) g.blks.length g.blks.length, .slice (some ⟨P, 0, none⟩) g.pts.length g.pts.length, .slice A3 g.hds.length C3] F P (.slice A1 g.ins.length C1) (.slice A2 g.ars.length C2) (.slice A3 g.hds.length C3) f g.pts.length g.pts.length) ((wr.alloc (.cells (bkRow g.blks.length (fun _ => bkz)) 34)).setCell ⟨F, 5, none⟩ (.slice (some ⟨Q, 0, none⟩) g.blks.length g.blks.length)) from (HF.out.below hbk).box 5 _ _ rfl)
        have HQr := Lib.hid (show Bk ((wr.alloc (.cells (bkRow g.blks.length (fun _ => bkz)) 34)).setCell ⟨F, 5, none⟩ (.slice (some ⟨Q, 0, none⟩) g.blks.length g.blks.length)) Q 34 (bkRow g.blks.length (fun _ => bkz)) ∧ P < Q from by
          have h := Bk.new wr 34 (bkRow g.blks.length (fun _ => bkz))
          have h1 := HF.out.pr.lt
          have h2 := HF.out.hP
          rw [hQe] at h h1
          exact ⟨h.far (by show Q ≠ F; omega) _, h1⟩)
        have HPt2 := Lib.hid (show ∀ i, i < g.pts.length → Part 1 (P + 1) Q ((wr.alloc (.cells (bkRow g.blks.length (fun _ => bkz)) 34)).setCell ⟨F, 5, none⟩ (.slice (some ⟨Q, 0, none⟩) g.blks.length g.blks.length)) (f i) (g.pts.getD i []).length ((g.pts.getD i []).map (.int .i64)) from fun i hi => by
          have h := (HF.out.pts i hi).below hbk
          rw [hQe] at h
          have h2 := HF.out.hP
          exact h.far (.inl (by show F < P + 1; omega)) _)
        have hsz : ((wr.alloc (.cells (bkRow g.blks.length (fun _ => bkz)) 34)).setCell ⟨F, 5, none⟩ (.slice (some ⟨Q, 0, none⟩) g.blks.length g.blks.length)).heap.size = Q + 1 := by rw [World.size_setCell, size_alloc, hQe]
        clear hbk HF
        go_upto_region 15 with fail
        clear q5 r y hmb
        generalize hW : World.setCell _ ⟨F, 5, none⟩ (Value.slice (some ⟨Q, 0, none⟩) g.blks.length g.blks.length) = W5 at HF3 HQr HPt2 hsz ⊢
        clear hW hQe
        have hbk : Below W5.heap.size W5 (W5.alloc (.cells (slRow g.blks.length (fun _ => .slice none 0 0)) 32)) := bla (Below.refl _ _) _
        have q5 := HF3.out.gb.cell 5
        have q6 := (HF3.out.below hbk).gb.cell 5
        have HG := Lib.hid (show (F2 g w #[.slice Ai g.ins.length ci, .int .i64 g.vars, .int .i64 g.keep, .slice Aa g.ars.length ca, .int .i64 g.sh, .slice Ab g.blks.length cb, .slice Ap g.pts.length cp, .slice Ah g.hds.length ch] #[.slice none 0 0, .int .i64 0, .int .i64 0, .slice none 0 0, .int .i64 0, .slice none 0 0, .slice none 0 0, .slice none 0 0] #[.slice A1 g.ins.length C1, .int .i64 g.vars, .int .i64 g.keep, .slice A2 g.ars.length C2, .int .i64 g.sh, .slice (some ⟨Q, 0, none⟩) g.blks.length g.blks.length, .slice (some ⟨P, 0, none⟩) g.pts.length g.pts.length, .slice A3 g.hds.length C3] F P Q (Q + 1) (.slice A1 g.ins.length C1) (.slice A2 g.ars.length C2) (.slice A3 g.hds.length C3) f (fun _ => bkz) (fun _ => .slice none 0 0) g.pts.length g.blks.length 0 0) (W5.alloc (.cells (slRow g.blks.length (fun _ => .slice none 0 0)) 32)) from
          have h := Bk.new W5 32 (slRow g.blks.length (fun _ => .slice none 0 0))
          ⟨(HF3.out.below hbk).low, HF3.out.hF, HF3.out.hP, HQr.out.2, Nat.lt_succ_self Q, (HF3.out.below hbk).gb, (HF3.out.below hbk).rb, (HF3.out.below hbk).fb, (HF3.out.below hbk).pr, (HF3.out.below hbk).ins, (HF3.out.below hbk).ars, (HF3.out.below hbk).hds, fun i hi => (HPt2.out i hi).below hbk, HQr.out.1.below hbk, hsz ▸ h, fun i hi => absurd hi (Nat.not_lt_zero _), fun i hi => absurd hi (Nat.not_lt_zero _)⟩)
        clear HF3 HQr HPt2 hbk
        go_wp2
        clear q5 q6 hml hsz
        go_loopw [63, 10, 11] (fun i _ _ wr => ∃ (k : Nat) (fb : Nat → Value × Int × Value) (fs : Nat → Value), k ≤ g.blks.length ∧ i = .int .i64 k ∧ Hid ((F2 g w #[.slice Ai g.ins.length ci, .int .i64 g.vars, .int .i64 g.keep, .slice Aa g.ars.length ca, .int .i64 g.sh, .slice Ab g.blks.length cb, .slice Ap g.pts.length cp, .slice Ah g.hds.length ch] #[.slice none 0 0, .int .i64 0, .int .i64 0, .slice none 0 0, .int .i64 0, .slice none 0 0, .slice none 0 0, .slice none 0 0] #[.slice A1 g.ins.length C1, .int .i64 g.vars, .int .i64 g.keep, .slice A2 g.ars.length C2, .int .i64 g.sh, .slice (some ⟨Q, 0, none⟩) g.blks.length g.blks.length, .slice (some ⟨P, 0, none⟩) g.pts.length g.pts.length, .slice A3 g.hds.length C3] F P Q (Q + 1) (.slice A1 g.ins.length C1) (.slice A2 g.ars.length C2) (.slice A3 g.hds.length C3) f fb fs g.pts.length g.blks.length k k) wr)) (fun i _ _ _ => g.blks.length - (intOf i).toNat)
        case atStart => exact ⟨0, _, _, Nat.zero_le _, rfl, HG⟩
        case round =>
          clear HG
          obtain ⟨k, fb, fs, hk, rfl, HG⟩ := hrel
          by_cases hlt : k < g.blks.length
          · have hlt' : (k : Int) < g.blks.length := by omega
            have hlt0 : (0 : Int) ≤ (k : Int) := by omega
            have hbl64 := HOk.out.blks
            obtain ⟨bo, off, rfl, hbo, x0, x1, x2, hops, hnx⟩ := HBl.out k hlt
            replace x0 := (HG.out.low.cell (p := ⟨bo, off + k * 3, none⟩) hbo).trans x0
            replace x1 := (HG.out.low.cell (p := ⟨bo, off + k * 3 + 1, none⟩) hbo).trans x1
            replace x2 := (HG.out.low.cell (p := ⟨bo, off + k * 3 + 2, none⟩) hbo).trans x2
            have hbw : bo < wr.heap.size := Nat.lt_of_lt_of_le hbo HG.out.low.size
            have hbg := HOk.out.blk k hlt
            obtain ⟨q, hq⟩ : ∃ q, g.blks.getD k Gr.blk0 = q := ⟨_, rfl⟩
            have HQe := Lib.hid hq
            rw [hq] at x0 x1 x2 hops hnx hbg
            clear hq
            have HC := Lib.hid fun (u : World) (hu : Below w.heap.size w u) => fold_any q (a1 k) (a2 k) (k1 k) (k2 k) u hbg (hops.below hu) (hnx.below hu)
            clear hops hnx hbg
            have hbk : Below wr.heap.size wr (wr.alloc (.cells #[.slice (a1 k) q.ops.length (k1 k), .int .i64 q.cond, .slice (a2 k) q.next.length (k2 k)] 34)) := bla (Below.refl _ _) _
            have HG1 := Lib.hid (show (fun u : World => (F2 g w #[.slice Ai g.ins.length ci, .int .i64 g.vars, .int .i64 g.keep, .slice Aa g.ars.length ca, .int .i64 g.sh, .slice (some ⟨bo, off, none⟩) g.blks.length cb, .slice Ap g.pts.length cp, .slice Ah g.hds.length ch] #[.slice none 0 0, .int .i64 0, .int .i64 0, .slice none 0 0, .int .i64 0, .slice none 0 0, .slice none 0 0, .slice none 0 0] #[.slice A1 g.ins.length C1, .int .i64 g.vars, .int .i64 g.keep, .slice A2 g.ars.length C2, .int .i64 g.sh, .slice (some ⟨Q, 0, none⟩) g.blks.length g.blks.length, .slice (some ⟨P, 0, none⟩) g.pts.length g.pts.length, .slice A3 g.hds.length C3] F P Q (Q + 1) (.slice A1 g.ins.length C1) (.slice A2 g.ars.length C2) (.slice A3 g.hds.length C3) f fb fs g.pts.length g.blks.length k k) u ∧ Bk u wr.heap.size 34 #[.slice (a1 k) q.ops.length (k1 k), .int .i64 q.cond, .slice (a2 k) q.next.length (k2 k)]) (wr.alloc (.cells #[.slice (a1 k) q.ops.length (k1 k), .int .i64 q.cond, .slice (a2 k) q.next.length (k2 k)] 34)) from ⟨HG.out.below hbk, Bk.new _ _ _⟩)
            obtain ⟨t, hte⟩ : ∃ t, wr.heap.size = t := ⟨_, rfl⟩
            clear hbk
            go_upto_region 19 with fail
            clear x0 x1 x2
            rw [hte] at HG1
            clear hte
            refine wp_region_last (S := (fun u : World => (F2 g w #[.slice Ai g.ins.length ci, .int .i64 g.vars, .int .i64 g.keep, .slice Aa g.ars.length ca, .int .i64 g.sh, .slice (some ⟨bo, off, none⟩) g.blks.length cb, .slice Ap g.pts.length cp, .slice Ah g.hds.length ch] #[.slice none 0 0, .int .i64 0, .int .i64 0, .slice none 0 0, .int .i64 0, .slice none 0 0, .slice none 0 0, .slice none 0 0] #[.slice A1 g.ins.length C1, .int .i64 g.vars, .int .i64 g.keep, .slice A2 g.ars.length C2, .int .i64 g.sh, .slice (some ⟨Q, 0, none⟩) g.blks.length g.blks.length, .slice (some ⟨P, 0, none⟩) g.pts.length g.pts.length, .slice A3 g.hds.length C3] F P Q (Q + 1) (.slice A1 g.ins.length C1) (.slice A2 g.ars.length C2) (.slice A3 g.hds.length C3) f fb fs g.pts.length g.blks.length k k) u ∧ Bk u t 34 #[.slice (a1 k) q.ops.length (k1 k), .int .i64 q.cond, .slice (a2 k) q.next.length (k2 k)])) 6 (by kernel_rfl) ?_ (fun hHeld => ?_)
            · exact ⟨HG1.out.1.below (below_drewN _ _ 1), HG1.out.2.below (below_drewN _ _ 1)⟩
            refine' wpAnyL_take (i := 0) (v := _) ?_ ?_ ?_ ?_ ?_ ?_ ?_ ?_ ?_
            rotate_left 2
            focus (simp only [List.getElem?_toArray, List.getElem?_cons_succ, List.getElem?_cons_zero]; rfl)
            focus kernel_rfl
            focus kernel_rfl
            focus kernel_rfl
            focus kernel_rfl
            focus exact (fun _ _ _ h => h)
            refine Or.inl ⟨?_, ?_⟩
            focus (go_simp; done)
            focus (intro w hSw; obtain ⟨hF, hOb⟩ := hSw; have c5 := hF.fbx.cell 5; have d0 := hOb.cell 0; have d1 := hOb.cell 1; have d2 := hOb.cell 2; (first | (go_simp; done) | (go_simp; with_reducible rfl)))
            focus assumption
            (try simp only [Act.put, List.setIfInBounds_toArray, List.set_cons_zero, List.set_cons_succ])
            refine' wpAnyL_take (i := 1) (v := _) ?_ ?_ ?_ ?_ ?_ ?_ ?_ ?_ ?_
            rotate_left 2
            focus (simp only [List.getElem?_toArray, List.getElem?_cons_succ, List.getElem?_cons_zero]; rfl)
            focus kernel_rfl
            focus kernel_rfl
            focus kernel_rfl
            focus kernel_rfl
            focus exact (fun _ _ _ h => h)
            refine Or.inl ⟨?_, ?_⟩
            focus (go_simp; done)
            focus (intro w hSw; obtain ⟨hF, hOb⟩ := hSw; have c5 := hF.fbx.cell 5; have d0 := hOb.cell 0; have d1 := hOb.cell 1; have d2 := hOb.cell 2; (first | (go_simp; done) | (go_simp; with_reducible rfl)))
            focus assumption
            (try simp only [Act.put, List.setIfInBounds_toArray, List.set_cons_zero, List.set_cons_succ])
            refine' wpAnyL_take (i := 2) (v := _) ?_ ?_ ?_ ?_ ?_ ?_ ?_ ?_ ?_
            rotate_left 2
            focus (simp only [List.getElem?_toArray, List.getElem?_cons_succ, List.getElem?_cons_zero]; rfl)
            focus kernel_rfl
            focus kernel_rfl
            focus kernel_rfl
            focus kernel_rfl
            focus exact (fun _ _ _ h => h)
            refine Or.inl ⟨?_, ?_⟩
            focus (go_simp; done)
            focus (intro w hSw; obtain ⟨hF, hOb⟩ := hSw; have c5 := hF.fbx.cell 5; have d0 := hOb.cell 0; have d1 := hOb.cell 1; have d2 := hOb.cell 2; (first | (go_simp; done) | (go_simp; with_reducible rfl)))
            focus assumption
            (try simp only [Act.put, List.setIfInBounds_toArray, List.set_cons_zero, List.set_cons_succ])
            refine' wpAnyL_take (i := 3) (v := _) ?_ ?_ ?_ ?_ ?_ ?_ ?_ ?_ ?_
            rotate_left 2
            focus (simp only [List.getElem?_toArray, List.getElem?_cons_succ, List.getElem?_cons_zero]; rfl)
            focus kernel_rfl
            focus kernel_rfl
            focus kernel_rfl
            focus kernel_rfl
            focus exact (fun _ _ _ h => h)
            refine Or.inl ⟨?_, ?_⟩
            focus (go_simp; done)
            focus (intro w hSw; obtain ⟨hF, hOb⟩ := hSw; have c5 := hF.fbx.cell 5; have d0 := hOb.cell 0; have d1 := hOb.cell 1; have d2 := hOb.cell 2; (first | (go_simp; done) | (go_simp; with_reducible rfl)))
            focus assumption
            (try simp only [Act.put, List.setIfInBounds_toArray, List.set_cons_zero, List.set_cons_succ])
            refine' wpAnyL_one (i := 4) ?_ ?_ ?_ (fun K hK => ?_)
            rotate_left
            focus kernel_rfl
            focus kernel_rfl
            focus (simp only [List.getElem?_toArray, List.getElem?_cons_succ, List.getElem?_cons_zero]; rfl)
            go_simp
            (go_at_call 23; refine (HC.out _ hHeld.1.low).mono ?_; intro e u1 hpost)
            obtain ⟨A7, A8, C7, C8, hv1, ho7, hn8, hf7, hf8, hb⟩ := hpost
            subst hv1
            have HV := Lib.hid (show Bp (Q + 1) u1 (.slice A7 (Fo.blk q).ops.length C7, (Fo.blk q).cond, .slice A8 (Fo.blk q).next.length C8) (Fo.blk q) from ⟨part_lo ho7 (fun g o f e => by have := hf7 g o f e; have := hHeld.1.sr.lt; omega), rfl, part_lo hn8 (fun g o f e => by have := hf8 g o f e; have := hHeld.1.sr.lt; omega)⟩)
            clear ho7 hn8 hf7 hf8
            refine hK.out _ _ (⟨hHeld.1.below hb, hHeld.2.below hb⟩) (fun hHeld => ?_)
            clear hK K
            (try simp only [Act.put, List.setIfInBounds_toArray, List.set_cons_zero, List.set_cons_succ])
            clear hb
            refine' wpAnyL_take (i := 5) (v := _) ?_ ?_ ?_ ?_ ?_ ?_ ?_ ?_ ?_
            rotate_left 2
            focus (simp only [List.getElem?_toArray, List.getElem?_cons_succ, List.getElem?_cons_zero]; rfl)
            focus kernel_rfl
            focus kernel_rfl
            focus kernel_rfl
            focus kernel_rfl
            focus exact (fun _ _ _ h => h)
            refine Or.inl ⟨?_, ?_⟩
            focus (go_simp; done)
            focus (intro w hSw; obtain ⟨hF, hOb⟩ := hSw; have c5 := hF.fbx.cell 5; have d0 := hOb.cell 0; have d1 := hOb.cell 1; have d2 := hOb.cell 2; (first | (go_simp; done) | (go_simp; with_reducible rfl)))
            focus assumption
            (try simp only [Act.put, List.setIfInBounds_toArray, List.set_cons_zero, List.set_cons_succ])
            refine' wpAnyL_last ?_ ?_ (fun K hK => ?_)
            rotate_left
            focus kernel_rfl
            focus (simp only [List.getElem?_toArray, List.getElem?_cons_succ, List.getElem?_cons_zero]; rfl)
            have hq := bkRow_cell g.blks.length fb hlt
            have r0 := (hHeld.1.qr.cell (k * 3)).trans hq.1
            have r1 := (hHeld.1.qr.cell (k * 3 + 1)).trans hq.2.1
            have r2 := (hHeld.1.qr.cell (k * 3 + 2)).trans hq.2.2
            have f0 := hHeld.1.qr.frozen (k * 3)
            have f1 := hHeld.1.qr.frozen (k * 3 + 1)
            have f2 := hHeld.1.qr.frozen (k * 3 + 2)
            clear hq
            have hlo := hHeld.1.qr.lt
            go_simp
            refine hK.out _ _ ?_
            clear hK K
            (try simp only [Act.put, List.setIfInBounds_toArray, List.set_cons_zero, List.set_cons_succ])
            refine wpAny_done (by kernel_rfl) ?_ _
            have HF2 := Lib.hid (hHeld.1.blk (x := (.slice A7 (Fo.blk q).ops.length C7, (Fo.blk q).cond, .slice A8 (Fo.blk q).next.length C8)) (by rw [HQe.out]; exact HV.out))
            clear hHeld r0 r1 r2 f0 f1 f2 hlo HV HC
            generalize hW : World.setCell _ ⟨Q, k * 3 + 2, none⟩ (Value.slice A8 (Fo.blk q).next.length C8) = W6 at HF2 ⊢
            clear hW
            have hbk : Below W6.heap.size W6 (W6.alloc (.cells #[.int .i64 (k : Int)] 3)) := bla (Below.refl _ _) _
            have r := ((HF2.out.below hbk).sr.cell k).trans (slRow_cell g.blks.length fs hlt)
            have y := (HF2.out.below hbk).sr.frozen k
            have r_ := (HF2.out.sr.cell k).trans (slRow_cell g.blks.length fs hlt)
            have y_ := HF2.out.sr.frozen k
            have HF3 := Lib.hid ((HF2.out.below hbk).one (v := .slice (some ⟨W6.heap.size, 0, none⟩) 1 1) (part_lo (nums_new W6 [(k : Int)] 3 1 _ rfl) (fun g o f e => by injection e with e; injection e with e1 e2 e3; have := HF2.out.sr.lt; omega)))
            have hlo := HF2.out.sr.lt
            rw [World.setCell_alloc_past _ _ _ _ hlo] at HF3
            clear hbk HF2
            go_wp2
            clear r y r_ y_ hlo
            go_roundw
            case rel => exact ⟨k + 1, _, _, by omega, by first | rfl | go_num, HF3⟩
            case measure => simp [intOf]; omega
          · have hlt' : ¬ (k : Int) < g.blks.length := by omega
            obtain rfl : k = g.blks.length := by omega
            have c0 := HG.out.fbx.cell 0
            have c1 := HG.out.fbx.cell 1
            have c2 := HG.out.fbx.cell 2
            have c3 := HG.out.fbx.cell 3
            have c4 := HG.out.fbx.cell 4
            have c5 := HG.out.fbx.cell 5
            have c6 := HG.out.fbx.cell 6
            have c7 := HG.out.fbx.cell 7
            have z0 := HG.out.rb.cell 0
            have z1 := HG.out.rb.cell 1
            have z2 := HG.out.rb.cell 2
            have z3 := HG.out.rb.cell 3
            have z4 := HG.out.rb.cell 4
            have z5 := HG.out.rb.cell 5
            have z6 := HG.out.rb.cell 6
            have z7 := HG.out.rb.cell 7
            have y0 := HG.out.rb.frozen 0
            have y1 := HG.out.rb.frozen 1
            have y2 := HG.out.rb.frozen 2
            have y3 := HG.out.rb.frozen 3
            have y4 := HG.out.rb.frozen 4
            have y5 := HG.out.rb.frozen 5
            have y6 := HG.out.rb.frozen 6
            have y7 := HG.out.rb.frozen 7
            have HG2 := Lib.hid (((((((((HG.out.rbox 0 (.slice A1 g.ins.length C1)).rbox 1 (.int .i64 g.vars)).rbox 2 (.int .i64 g.keep)).rbox 3 (.slice A2 g.ars.length C2)).rbox 4 (.int .i64 g.sh)).rbox 5 (.slice (some ⟨Q, 0, none⟩) g.blks.length g.blks.length)).rbox 6 (.slice (some ⟨P, 0, none⟩) g.pts.length g.pts.length)).rbox 7 (.slice A3 g.hds.length C3)))
            clear HG
            go_wp2
            refine bodyPost_ret (v := .tuple #[.agg #[.slice A1 g.ins.length C1, .int .i64 g.vars, .int .i64 g.keep, .slice A2 g.ars.length C2, .int .i64 g.sh, .slice (some ⟨Q, 0, none⟩) g.blks.length g.blks.length, .slice (some ⟨P, 0, none⟩) g.pts.length g.pts.length, .slice A3 g.hds.length C3], .slice (some ⟨Q + 1, 0, none⟩) g.blks.length g.blks.length, .int .i64 0]) (by simp only [results, Try.results8]; simp [go_sem, z0, z1, z2, z3, z4, z5, z6, z7]) rfl (.inr ⟨HR.out, _, _, _, F, P, Q, Q + 1, _, _, _, _, _, _, f, fs, fb, rfl, HG2.out⟩)
  · have hrn : ¬ r = 0 := h0
    go_wp2
    refine bodyPost_ret (v := .tuple #[.agg #[.slice none 0 0, .int .i64 0, .int .i64 0, .slice none 0 0, .int .i64 0, .slice none 0 0, .slice none 0 0, .slice none 0 0], .slice none 0 0, .int .i64 r]) (by simp [results, Try.results8, go_sem, z0, z1, z2, z3, z4, z5, z6, z7]) rfl (.inl ⟨by rw [HR.out]; exact h0, by rw [HR.out], ?_⟩)
    have hbe : w.heap.size ≤ w.heap.size + 1 := Nat.le_succ _
    exact ((((((((HB0.out.setCell (p := ⟨w.heap.size + 1, 0, none⟩) hbe (.slice none 0 0)).setCell (p := ⟨w.heap.size + 1, 1, none⟩) hbe (.int .i64 0)).setCell (p := ⟨w.heap.size + 1, 2, none⟩) hbe (.int .i64 0)).setCell (p := ⟨w.heap.size + 1, 3, none⟩) hbe (.slice none 0 0)).setCell (p := ⟨w.heap.size + 1, 4, none⟩) hbe (.int .i64 0)).setCell (p := ⟨w.heap.size + 1, 5, none⟩) hbe (.slice none 0 0)).setCell (p := ⟨w.heap.size + 1, 6, none⟩) hbe (.slice none 0 0)).setCell (p := ⟨w.heap.size + 1, 7, none⟩) hbe (.slice none 0 0))
end Go.Proofs.Ytojnhdkclabkgaa
namespace Go.Proofs.Ytojnhdkclabkgaa
open Go.RowKit Go.Maps
set_option linter.unusedVariables false
def slA : Value → Option Addr | .slice A _ _ => A | _ => none
def slC : Value → Nat | .slice _ _ c => c | _ => 0
theorem row_eta {size n : Nat} {u : World} {v : Value} {xs : List Value} (h : RowIn size u v n xs) : v = .slice (slA v) n (slC v) := by
  obtain ⟨A, c, rfl, _⟩ := h
  rfl
theorem ones_at {n i : Nat} (hi : i < n) : (Fo.ones n).getD i [] = [(i : Int)] := by
  unfold Fo.ones
  rw [List.getD, List.getElem?_map, List.getElem?_range hi]
  rfl
section
variable {g : Gr.G} {w u : World} {gc zc fc : Array Value} {F P Q S : Nat} {vi va vh : Value} {f fs : Nat → Value} {fb : Nat → Value × Int × Value}
theorem F2.blks_in (h : F2 g w gc zc fc F P Q S vi va vh f fb fs g.pts.length g.blks.length g.blks.length g.blks.length u) (c : Nat) : BlksIn u (.slice (some ⟨Q, 0, none⟩) g.blks.length c) (g.blks.map Fo.blk) := by
  refine ⟨some ⟨Q, 0, none⟩, c, fun i => slA (fb i).1, fun i => slA (fb i).2.2, fun i => slC (fb i).1, fun i => slC (fb i).2.2, by rw [List.length_map], fun i hi => ?_⟩
  rw [List.length_map] at hi
  have hg : (g.blks.map Fo.blk).getD i Gr.blk0 = Fo.blk (g.blks.getD i Gr.blk0) := by
    simp [List.getD, List.getElem?_eq_getElem hi]
  rw [hg]
  obtain ⟨⟨h1, hp1⟩, hc, h2, hp2⟩ := h.blks i hi
  have hq := bkRow_cell g.blks.length fb hi
  refine ⟨Q, 0, rfl, h.qr.lt, ?_, ?_, ?_, ?_, ?_⟩
  · rw [Nat.zero_add, h.qr.cell, hq.1, ← row_eta hp1.1]
  · rw [Nat.zero_add, h.qr.cell, hq.2.1, hc]
  · rw [Nat.zero_add, h.qr.cell, hq.2.2, ← row_eta hp2.1]
  · rw [← row_eta hp1.1]; exact hp1.1
  · rw [← row_eta hp2.1]; exact hp2.1
theorem F2.pts_in (h : F2 g w gc zc fc F P Q S vi va vh f fb fs g.pts.length g.blks.length g.blks.length g.blks.length u) (c : Nat) : LstsIn u (.slice (some ⟨P, 0, none⟩) g.pts.length c) g.pts :=
  ⟨_, c, rfl, fun i hi => ⟨P, 0, f i, rfl, h.pr.lt, by rw [Nat.zero_add, h.pr.cell, slRow_cell _ _ hi], (h.pts i hi).1⟩⟩
theorem F2.same_in (h : F2 g w gc zc fc F P Q S vi va vh f fb fs g.pts.length g.blks.length g.blks.length g.blks.length u) (c : Nat) : LstsIn u (.slice (some ⟨S, 0, none⟩) g.blks.length c) (Fo.ones g.blks.length) := by
  have hl : (Fo.ones g.blks.length).length = g.blks.length := by unfold Fo.ones; simp
  refine ⟨some ⟨S, 0, none⟩, c, by rw [hl], fun i hi => ?_⟩
  rw [hl] at hi
  obtain ⟨hi', hp⟩ := h.same i hi
  refine ⟨S, 0, fs i, rfl, h.sr.lt, by rw [Nat.zero_add, h.sr.cell, slRow_cell _ _ hi], ?_⟩
  rw [ones_at hi]
  exact hp.1
theorem F2.gr_in (h : F2 g w gc zc fc F P Q S vi va vh f fb fs g.pts.length g.blks.length g.blks.length g.blks.length u) (c1 c2 : Nat) : GrIn u (Fo.gr g) vi va (.slice (some ⟨Q, 0, none⟩) g.blks.length c1) (.slice (some ⟨P, 0, none⟩) g.pts.length c2) vh :=
  ⟨h.ins.1, h.ars.1, h.blks_in c1, h.pts_in c2, h.hds.1⟩
end
/-- A graph whose lists lie in blocks from base on. -/
structure GrFrom (base : Nat) (vi va vb vp vh : Value) : Prop where
  ins : ∀ A n c, vi = .slice A n c → ∀ g o f, A = some ⟨g, o, f⟩ → base ≤ g
  ars : ∀ A n c, va = .slice A n c → ∀ g o f, A = some ⟨g, o, f⟩ → base ≤ g
  blks : ∀ A n c, vb = .slice A n c → ∀ g o f, A = some ⟨g, o, f⟩ → base ≤ g
  pts : ∀ A n c, vp = .slice A n c → ∀ g o f, A = some ⟨g, o, f⟩ → base ≤ g
  hds : ∀ A n c, vh = .slice A n c → ∀ g o f, A = some ⟨g, o, f⟩ → base ≤ g
/-- What Fold answers, in short. -/
def FoldAns (g : Gr.G) (w : World) (e : Ending) (w' : World) : Prop :=
  Below w.heap.size w w' ∧ ((Gr.chk g ≠ 0 ∧ e = .returned (.tuple #[.agg #[.slice none 0 0, .int .i64 0, .int .i64 0, .slice none 0 0, .int .i64 0, .slice none 0 0, .slice none 0 0, .slice none 0 0], .slice none 0 0, .int .i64 (Gr.chk g)])) ∨
    (Gr.chk g = 0 ∧ ∃ vi va vb vp vh vs, e = .returned (.tuple #[.agg #[vi, .int .i64 g.vars, .int .i64 g.keep, va, .int .i64 g.sh, vb, vp, vh], vs, .int .i64 0]) ∧ GrIn w' (Fo.gr g) vi va vb vp vh ∧ LstsIn w' vs (Fo.ones g.blks.length)))
theorem foldg_ans (g : Gr.G) (vi va vb vp vh : Value) (w : World) (hi : GrIn w g vi va vb vp vh) (hf : Gr.Fit g) :
    Calls Try.prog 8 #[.agg #[vi, .int .i64 g.vars, .int .i64 g.keep, va, .int .i64 g.sh, vb, vp, vh]] w (FoldAns g w) := by
  refine (foldg_any g vi va vb vp vh w hi hf).mono ?_
  rintro e w' (⟨h0, rfl, hb⟩ | ⟨h0, gc, zc, fc, F, P, Q, S, c1, c2, c3, vi', va', vh', f, fs, fb, rfl, h⟩)
  · exact ⟨hb, .inl ⟨h0, rfl⟩⟩
  · exact ⟨h.low, .inr ⟨h0, _, _, _, _, _, _, rfl, h.gr_in c1 c2, h.same_in c3⟩⟩
end Go.Proofs.Ytojnhdkclabkgaa
