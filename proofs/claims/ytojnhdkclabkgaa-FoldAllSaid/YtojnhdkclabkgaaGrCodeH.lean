/- The code of layer 12: Check. No condition. -/
import Derived.Test.YtojnhdkclabkgaaGrCodeG
namespace Go.Proofs.Ytojnhdkclabkgaa
open Go.RowKit
set_option linter.unusedVariables false
set_option linter.unusedSimpArgs false
attribute [local go_sem] y_undef
namespace Gr
theorem chk_big {g : G} (h : big g = true) : chk g = 4 := if_pos h
theorem chk_ok {g : G} (h : big g = false) (k : right g = true) : chk g = 0 := by unfold chk; rw [h, k]; rfl
theorem chk_no {g : G} (h : big g = false) (k : right g = false) : chk g = 10 := by unfold chk; rw [h, k]; rfl
end Gr
/-- The graph's own cells in a world. -/
theorem gcells {W w1 : World} {B : Nat} {v0 v1 v2 v3 v4 v5 v6 v7 : Value} (hg : Bk W B 40 #[v0, v1, v2, v3, v4, v5, v6, v7]) (hb : Below W.heap.size W w1) :
    Bk w1 B 40 #[v0, v1, v2, v3, v4, v5, v6, v7] ∧ w1.cell? ⟨B, 0, none⟩ = some v0 ∧ w1.cell? ⟨B, 1, none⟩ = some v1 ∧ w1.cell? ⟨B, 2, none⟩ = some v2 ∧ w1.cell? ⟨B, 3, none⟩ = some v3 ∧ w1.cell? ⟨B, 4, none⟩ = some v4 ∧ w1.cell? ⟨B, 5, none⟩ = some v5 ∧ w1.cell? ⟨B, 6, none⟩ = some v6 ∧ w1.cell? ⟨B, 7, none⟩ = some v7 :=
  ⟨hg.below hb, (hg.below hb).cell 0, (hg.below hb).cell 1, (hg.below hb).cell 2, (hg.below hb).cell 3, (hg.below hb).cell 4, (hg.below hb).cell 5, (hg.below hb).cell 6, (hg.below hb).cell 7⟩
set_option maxHeartbeats 8000000 in
theorem gcheck_any (g : Gr.G) (vi va vb vp vh : Value) (r : Int) (hr : Gr.chk g = r) (w : World) (hi : GrIn w g vi va vb vp vh) (hf : Gr.Fit g) :
    Calls Try.prog 18 #[.agg #[vi, .int .i64 g.vars, .int .i64 g.keep, va, .int .i64 g.sh, vb, vp, vh]] w fun e w' => e = .returned (.int .i64 r) ∧ Below w.heap.size w w' := by
  subst hr
  obtain ⟨Ai, ci, rfl, -⟩ := hi.ins.opened
  obtain ⟨Aa, ca, rfl, -⟩ := hi.ars.opened
  obtain ⟨Ab, cb, -, -, -, -, rfl, -⟩ := id hi.blks
  obtain ⟨Ap, cp, _, _, rfl, -⟩ := hi.pts.opened
  obtain ⟨Ah, ch, rfl, -⟩ := hi.hds.opened
  obtain ⟨ni, hni⟩ : ∃ n, g.ins.length = n := ⟨_, rfl⟩
  obtain ⟨na, hna⟩ : ∃ n, g.ars.length = n := ⟨_, rfl⟩
  obtain ⟨nb, hnb⟩ : ∃ n, g.blks.length = n := ⟨_, rfl⟩
  obtain ⟨np, hnp⟩ : ∃ n, g.pts.length = n := ⟨_, rfl⟩
  obtain ⟨nh, hnh⟩ : ∃ n, g.hds.length = n := ⟨_, rfl⟩
  obtain ⟨V, hV⟩ : ∃ n, g.vars = n := ⟨_, rfl⟩
  obtain ⟨K, hK⟩ : ∃ n, g.keep = n := ⟨_, rfl⟩
  obtain ⟨S, hS⟩ : ∃ n, g.sh = n := ⟨_, rfl⟩
  have hbg : Gr.big g = (Gr.manyB g.blks || decide (64 < V) || decide (8 < na) || decide (39 < np)) := by unfold Gr.big; rw [hV, hna, hnp]
  have hdat : Gr.datOk g = (Gr.inn K (V + 1) && decide ((ni : Int) ≤ K) && Gr.inn S (na + 1) && Gr.insOk g.ins && Gr.arsOk g.ars) := by unfold Gr.datOk; rw [hV, hK, hS, hna, hni]
  have hrt : Gr.right g = (Gr.datOk g && (decide (Gr.ends g.blks nb = 1) && Gr.blksOk V na nb g.blks) && Gr.ptsOk nb g.pts && Gr.hdsOk nb g.hds) := by unfold Gr.right; rw [hV, hna, hnb]
  have HBig := Lib.hid hbg
  have HDat := Lib.hid hdat
  have HRt := Lib.hid hrt
  rw [hni, hna, hnb, hnp, hnh] at hi ⊢
  rw [hV, hK, hS]
  have b1 := hf.ins
  have b2 := hf.ars
  have b3 := hf.blks
  have b4 := hf.pts
  have b5 := hf.hds
  have b6 := hf.vlo
  rw [hni] at b1
  rw [hna] at b2
  rw [hnb] at b3
  rw [hnp] at b4
  rw [hnh] at b5
  rw [hV] at b6
  have HI := Lib.hid hi
  have HF := Lib.hid hf
  have HNB := Lib.hid hnb
  have HB0 := Lib.hid (bla (Below.refl w.heap.size w) (.cells #[.slice Ai ni ci, .int .i64 V, .int .i64 K, .slice Aa na ca, .int .i64 S, .slice Ab nb cb, .slice Ap np cp, .slice Ah nh ch] 40))
  have HG0 := Lib.hid (Bk.new w 40 #[.slice Ai ni ci, .int .i64 V, .int .i64 K, .slice Aa na ca, .int .i64 S, .slice Ab nb cb, .slice Ap np cp, .slice Ah nh ch])
  clear hi hf hni hna hnb hnp hnh hV hK hS hbg hdat hrt
  have HMany := Lib.hid fun (q : Bool) (hq : Gr.manyB g.blks = q) (W : World) (hW : Below w.heap.size w W) => many_any g.blks (.slice Ab nb cb) q hq W (HI.out.blks.below hW) (by rw [HNB.out]; exact Gr.le_max b3) HF.out.ops
  cases h1 : Gr.manyB g.blks
  · have hnb64 : nb ≤ 64 := by
      unfold Gr.manyB at h1
      rw [Bool.or_eq_false_iff] at h1
      have := h1.1
      rw [HNB.out] at this
      simpa using this
    have H1 := Lib.hid h1
    clear h1
    by_cases h2 : (64 : Int) < V
    · have HX := Lib.hid (Gr.chk_big (g := g) (by rw [HBig.out, decide_eq_true h2]; simp))
      go_enter Try.func18, Try.ntmps18
      go_wp2_with fail
      refine (HMany.out _ H1.out _ HB0.out).mono ?_
      rintro e w1 ⟨rfl, hb1⟩
      obtain ⟨G1, g0, g1, g2, g3, g4, g5, g6, g7⟩ := gcells HG0.out hb1
      have HB1 := Lib.hid (blt HB0.out hb1)
      clear hb1 G1
      go_wp2
      go_ret
      exact ⟨by rw [HX.out]; rfl, HB1.out⟩
    · have e2 : decide ((64 : Int) < V) = false := by simp; omega
      by_cases h3 : 8 < na
      · have h3' : (8 : Int) < na := by omega
        have HX := Lib.hid (Gr.chk_big (g := g) (by rw [HBig.out, decide_eq_true h3]; simp))
        go_enter Try.func18, Try.ntmps18
        go_wp2_with fail
        refine (HMany.out _ H1.out _ HB0.out).mono ?_
        rintro e w1 ⟨rfl, hb1⟩
        obtain ⟨G1, g0, g1, g2, g3, g4, g5, g6, g7⟩ := gcells HG0.out hb1
        have HB1 := Lib.hid (blt HB0.out hb1)
        clear hb1 G1
        go_wp2
        go_ret
        exact ⟨by rw [HX.out]; rfl, HB1.out⟩
      · have h3' : ¬ (8 : Int) < na := by omega
        have e3 : decide ((8 : Int) < na) = false := by simp; omega
        by_cases h4 : 39 < np
        · have h4' : (39 : Int) < np := by omega
          have HX := Lib.hid (Gr.chk_big (g := g) (by rw [HBig.out, decide_eq_true h4]; simp))
          go_enter Try.func18, Try.ntmps18
          go_wp2_with fail
          refine (HMany.out _ H1.out _ HB0.out).mono ?_
          rintro e w1 ⟨rfl, hb1⟩
          obtain ⟨G1, g0, g1, g2, g3, g4, g5, g6, g7⟩ := gcells HG0.out hb1
          have HB1 := Lib.hid (blt HB0.out hb1)
          clear hb1 G1
          go_wp2
          go_ret
          exact ⟨by rw [HX.out]; rfl, HB1.out⟩
        · have h4' : ¬ (39 : Int) < np := by omega
          have e4 : decide ((39 : Int) < np) = false := by simp; omega
          have HSm := Lib.hid (show Gr.big g = false by rw [HBig.out, H1.out]; simp; omega)
          cases h5 : Gr.datOk g
          · skip
            have H5 := Lib.hid h5
            have HX := Lib.hid (Gr.chk_no (g := g) HSm.out (by rw [HRt.out, H5.out]; first | done | rfl))
            clear h5
            go_enter Try.func18, Try.ntmps18
            go_wp2_with fail
            refine (HMany.out _ H1.out _ HB0.out).mono ?_
            rintro e w1 ⟨rfl, hb1⟩
            obtain ⟨G1, g0, g1, g2, g3, g4, g5, g6, g7⟩ := gcells HG0.out hb1
            have HG1 := Lib.hid G1
            have HB1 := Lib.hid (blt HB0.out hb1)
            clear hb1 G1
            go_wp2_with fail
            refine (rdata_any _ Ai Aa Ab Ap Ah ni ci na ca nb cb np cp nh ch V K S ⟨b6, by omega⟩ g.ins g.ars (HI.out.ins.below HB1.out) (HI.out.ars.below HB1.out) b1 b2 _ (HDat.out.symm.trans H5.out)).mono ?_
            rintro e w5 ⟨rfl, hb5⟩
            have HB5 := Lib.hid (blt HB1.out hb5)
            clear hb5
            go_wp2
            go_ret
            exact ⟨by rw [HX.out]; rfl, HB5.out⟩
          · cases h6 : (decide (Gr.ends g.blks nb = 1) && Gr.blksOk V na nb g.blks)
            · skip
              have H5 := Lib.hid h5
              have H6 := Lib.hid h6
              have HX := Lib.hid (Gr.chk_no (g := g) HSm.out (by rw [HRt.out, H5.out, H6.out]; first | done | rfl))
              clear h5 h6
              go_enter Try.func18, Try.ntmps18
              go_wp2_with fail
              refine (HMany.out _ H1.out _ HB0.out).mono ?_
              rintro e w1 ⟨rfl, hb1⟩
              obtain ⟨G1, g0, g1, g2, g3, g4, g5, g6, g7⟩ := gcells HG0.out hb1
              have HG1 := Lib.hid G1
              have HB1 := Lib.hid (blt HB0.out hb1)
              clear hb1 G1
              go_wp2_with fail
              refine (rdata_any _ Ai Aa Ab Ap Ah ni ci na ca nb cb np cp nh ch V K S ⟨b6, by omega⟩ g.ins g.ars (HI.out.ins.below HB1.out) (HI.out.ars.below HB1.out) b1 b2 _ (HDat.out.symm.trans H5.out)).mono ?_
              rintro e w5 ⟨rfl, hb5⟩
              clear g0 g1 g2 g3 g4 g5 g6 g7
              obtain ⟨G5, g0, g1, g2, g3, g4, g5, g6, g7⟩ := gcells HG1.out hb5
              have HG5 := Lib.hid G5
              clear G5
              have HB5 := Lib.hid (blt HB1.out hb5)
              clear hb5
              go_wp2_with fail
              refine (rblocks_any Ai Aa Ab Ap Ah ni ci na ca nb cb np cp nh ch V K S (Gr.le_max b2) g.blks false (by rw [HNB.out]; exact H6.out) _ (HI.out.blks.below HB5.out) (by rw [HNB.out]; exact Gr.le_max b3) (fun b hb => ⟨Gr.le_max (HF.out.ops b hb).1, Gr.le_max (HF.out.ops b hb).2⟩)).mono ?_
              rintro e w6 ⟨rfl, hb6⟩
              have HB6 := Lib.hid (blt HB5.out hb6)
              clear hb6
              go_wp2
              go_ret
              exact ⟨by rw [HX.out]; rfl, HB6.out⟩
            · cases h7 : Gr.ptsOk nb g.pts
              · skip
                have H5 := Lib.hid h5
                have H6 := Lib.hid h6
                have H7 := Lib.hid h7
                have HX := Lib.hid (Gr.chk_no (g := g) HSm.out (by rw [HRt.out, H5.out, H6.out, H7.out]; first | done | rfl))
                clear h5 h6 h7
                go_enter Try.func18, Try.ntmps18
                go_wp2_with fail
                refine (HMany.out _ H1.out _ HB0.out).mono ?_
                rintro e w1 ⟨rfl, hb1⟩
                obtain ⟨G1, g0, g1, g2, g3, g4, g5, g6, g7⟩ := gcells HG0.out hb1
                have HG1 := Lib.hid G1
                have HB1 := Lib.hid (blt HB0.out hb1)
                clear hb1 G1
                go_wp2_with fail
                refine (rdata_any _ Ai Aa Ab Ap Ah ni ci na ca nb cb np cp nh ch V K S ⟨b6, by omega⟩ g.ins g.ars (HI.out.ins.below HB1.out) (HI.out.ars.below HB1.out) b1 b2 _ (HDat.out.symm.trans H5.out)).mono ?_
                rintro e w5 ⟨rfl, hb5⟩
                clear g0 g1 g2 g3 g4 g5 g6 g7
                obtain ⟨G5, g0, g1, g2, g3, g4, g5, g6, g7⟩ := gcells HG1.out hb5
                have HG5 := Lib.hid G5
                clear G5
                have HB5 := Lib.hid (blt HB1.out hb5)
                clear hb5
                go_wp2_with fail
                refine (rblocks_any Ai Aa Ab Ap Ah ni ci na ca nb cb np cp nh ch V K S (Gr.le_max b2) g.blks true (by rw [HNB.out]; exact H6.out) _ (HI.out.blks.below HB5.out) (by rw [HNB.out]; exact Gr.le_max b3) (fun b hb => ⟨Gr.le_max (HF.out.ops b hb).1, Gr.le_max (HF.out.ops b hb).2⟩)).mono ?_
                rintro e w6 ⟨rfl, hb6⟩
                clear g0 g1 g2 g3 g4 g5 g6 g7
                obtain ⟨G6, g0, g1, g2, g3, g4, g5, g6, g7⟩ := gcells HG5.out hb6
                have HG6 := Lib.hid G6
                clear G6
                have HB6 := Lib.hid (blt HB5.out hb6)
                clear hb6
                go_wp2_with fail
                refine (rpoints_any Ai Aa Ab Ap Ah ni ci na ca nb cb np cp nh ch V K S hnb64 g.pts _ H7.out _ (HI.out.pts.below HB6.out) (Gr.le_max b4) (fun q hq => Gr.le_max (HF.out.pt q hq))).mono ?_
                rintro e w7 ⟨rfl, hb7⟩
                have HB7 := Lib.hid (blt HB6.out hb7)
                clear hb7
                go_wp2
                go_ret
                exact ⟨by rw [HX.out]; rfl, HB7.out⟩
              · cases h8 : Gr.hdsOk nb g.hds
                · skip
                  have H5 := Lib.hid h5
                  have H6 := Lib.hid h6
                  have H7 := Lib.hid h7
                  have H8 := Lib.hid h8
                  have HX := Lib.hid (Gr.chk_no (g := g) HSm.out (by rw [HRt.out, H5.out, H6.out, H7.out, H8.out]; first | done | rfl))
                  clear h5 h6 h7 h8
                  go_enter Try.func18, Try.ntmps18
                  go_wp2_with fail
                  refine (HMany.out _ H1.out _ HB0.out).mono ?_
                  rintro e w1 ⟨rfl, hb1⟩
                  obtain ⟨G1, g0, g1, g2, g3, g4, g5, g6, g7⟩ := gcells HG0.out hb1
                  have HG1 := Lib.hid G1
                  have HB1 := Lib.hid (blt HB0.out hb1)
                  clear hb1 G1
                  go_wp2_with fail
                  refine (rdata_any _ Ai Aa Ab Ap Ah ni ci na ca nb cb np cp nh ch V K S ⟨b6, by omega⟩ g.ins g.ars (HI.out.ins.below HB1.out) (HI.out.ars.below HB1.out) b1 b2 _ (HDat.out.symm.trans H5.out)).mono ?_
                  rintro e w5 ⟨rfl, hb5⟩
                  clear g0 g1 g2 g3 g4 g5 g6 g7
                  obtain ⟨G5, g0, g1, g2, g3, g4, g5, g6, g7⟩ := gcells HG1.out hb5
                  have HG5 := Lib.hid G5
                  clear G5
                  have HB5 := Lib.hid (blt HB1.out hb5)
                  clear hb5
                  go_wp2_with fail
                  refine (rblocks_any Ai Aa Ab Ap Ah ni ci na ca nb cb np cp nh ch V K S (Gr.le_max b2) g.blks true (by rw [HNB.out]; exact H6.out) _ (HI.out.blks.below HB5.out) (by rw [HNB.out]; exact Gr.le_max b3) (fun b hb => ⟨Gr.le_max (HF.out.ops b hb).1, Gr.le_max (HF.out.ops b hb).2⟩)).mono ?_
                  rintro e w6 ⟨rfl, hb6⟩
                  clear g0 g1 g2 g3 g4 g5 g6 g7
                  obtain ⟨G6, g0, g1, g2, g3, g4, g5, g6, g7⟩ := gcells HG5.out hb6
                  have HG6 := Lib.hid G6
                  clear G6
                  have HB6 := Lib.hid (blt HB5.out hb6)
                  clear hb6
                  go_wp2_with fail
                  refine (rpoints_any Ai Aa Ab Ap Ah ni ci na ca nb cb np cp nh ch V K S hnb64 g.pts _ H7.out _ (HI.out.pts.below HB6.out) (Gr.le_max b4) (fun q hq => Gr.le_max (HF.out.pt q hq))).mono ?_
                  rintro e w7 ⟨rfl, hb7⟩
                  clear g0 g1 g2 g3 g4 g5 g6 g7
                  obtain ⟨G7, g0, g1, g2, g3, g4, g5, g6, g7⟩ := gcells HG6.out hb7
                  have HG7 := Lib.hid G7
                  clear G7
                  have HB7 := Lib.hid (blt HB6.out hb7)
                  clear hb7
                  go_wp2_with fail
                  refine (rheads_any Ai Aa Ab Ap Ah ni ci na ca nb cb np cp nh ch V K S g.hds _ H8.out _ (HI.out.hds.below HB7.out) (Gr.le_max b5)).mono ?_
                  rintro e w8 ⟨rfl, hb8⟩
                  have HB8 := Lib.hid (blt HB7.out hb8)
                  clear hb8
                  go_wp2
                  go_ret
                  exact ⟨by rw [HX.out]; rfl, HB8.out⟩
                · skip
                  have H5 := Lib.hid h5
                  have H6 := Lib.hid h6
                  have H7 := Lib.hid h7
                  have H8 := Lib.hid h8
                  have HX := Lib.hid (Gr.chk_ok (g := g) HSm.out (by rw [HRt.out, H5.out, H6.out, H7.out, H8.out]; first | done | rfl))
                  clear h5 h6 h7 h8
                  go_enter Try.func18, Try.ntmps18
                  go_wp2_with fail
                  refine (HMany.out _ H1.out _ HB0.out).mono ?_
                  rintro e w1 ⟨rfl, hb1⟩
                  obtain ⟨G1, g0, g1, g2, g3, g4, g5, g6, g7⟩ := gcells HG0.out hb1
                  have HG1 := Lib.hid G1
                  have HB1 := Lib.hid (blt HB0.out hb1)
                  clear hb1 G1
                  go_wp2_with fail
                  refine (rdata_any _ Ai Aa Ab Ap Ah ni ci na ca nb cb np cp nh ch V K S ⟨b6, by omega⟩ g.ins g.ars (HI.out.ins.below HB1.out) (HI.out.ars.below HB1.out) b1 b2 _ (HDat.out.symm.trans H5.out)).mono ?_
                  rintro e w5 ⟨rfl, hb5⟩
                  clear g0 g1 g2 g3 g4 g5 g6 g7
                  obtain ⟨G5, g0, g1, g2, g3, g4, g5, g6, g7⟩ := gcells HG1.out hb5
                  have HG5 := Lib.hid G5
                  clear G5
                  have HB5 := Lib.hid (blt HB1.out hb5)
                  clear hb5
                  go_wp2_with fail
                  refine (rblocks_any Ai Aa Ab Ap Ah ni ci na ca nb cb np cp nh ch V K S (Gr.le_max b2) g.blks true (by rw [HNB.out]; exact H6.out) _ (HI.out.blks.below HB5.out) (by rw [HNB.out]; exact Gr.le_max b3) (fun b hb => ⟨Gr.le_max (HF.out.ops b hb).1, Gr.le_max (HF.out.ops b hb).2⟩)).mono ?_
                  rintro e w6 ⟨rfl, hb6⟩
                  clear g0 g1 g2 g3 g4 g5 g6 g7
                  obtain ⟨G6, g0, g1, g2, g3, g4, g5, g6, g7⟩ := gcells HG5.out hb6
                  have HG6 := Lib.hid G6
                  clear G6
                  have HB6 := Lib.hid (blt HB5.out hb6)
                  clear hb6
                  go_wp2_with fail
                  refine (rpoints_any Ai Aa Ab Ap Ah ni ci na ca nb cb np cp nh ch V K S hnb64 g.pts _ H7.out _ (HI.out.pts.below HB6.out) (Gr.le_max b4) (fun q hq => Gr.le_max (HF.out.pt q hq))).mono ?_
                  rintro e w7 ⟨rfl, hb7⟩
                  clear g0 g1 g2 g3 g4 g5 g6 g7
                  obtain ⟨G7, g0, g1, g2, g3, g4, g5, g6, g7⟩ := gcells HG6.out hb7
                  have HG7 := Lib.hid G7
                  clear G7
                  have HB7 := Lib.hid (blt HB6.out hb7)
                  clear hb7
                  go_wp2_with fail
                  refine (rheads_any Ai Aa Ab Ap Ah ni ci na ca nb cb np cp nh ch V K S g.hds _ H8.out _ (HI.out.hds.below HB7.out) (Gr.le_max b5)).mono ?_
                  rintro e w8 ⟨rfl, hb8⟩
                  have HB8 := Lib.hid (blt HB7.out hb8)
                  clear hb8
                  go_wp2
                  go_ret
                  exact ⟨by rw [HX.out]; rfl, HB8.out⟩
  · have H1 := Lib.hid h1
    have HX := Lib.hid (Gr.chk_big (g := g) (by rw [HBig.out, H1.out]; rfl))
    clear h1
    go_enter Try.func18, Try.ntmps18
    go_wp2_with fail
    refine (HMany.out _ H1.out _ HB0.out).mono ?_
    rintro e w1 ⟨rfl, hb1⟩
    have HB1 := Lib.hid (blt HB0.out hb1)
    clear hb1
    go_wp2
    go_ret
    exact ⟨by rw [HX.out]; rfl, HB1.out⟩
end Go.Proofs.Ytojnhdkclabkgaa
