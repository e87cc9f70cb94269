/- light answers. No condition. Two passes agree, if they answer the same graph. No condition. Layer 16's awake: the example of the chapter. No condition. MergeRaw's walk. No condition. -/
import Derived.Test.YtojnhdkclabkgaaGrMem
import Derived.Test.YtojnhdkclabkgaaPaAns
import Derived.Test.YtojnhdkclabkgaaGrSame
import Derived.Test.YtojnhdkclabkgaaMeMain
import Derived.Test.YtojnhdkclabkgaaMeSpec
namespace Go.Proofs.Ytojnhdkclabkgaa
open Go.RowKit
set_option linter.unusedVariables false
set_option linter.unusedSimpArgs false
attribute [local go_sem] y_undef
/-- Some truth value. -/
def SomeB (w : World) (e : Ending) (w' : World) : Prop := ∃ b : Bool, e = .returned (.bool b) ∧ Below w.heap.size w w'
set_option maxHeartbeats 8000000 in
theorem light_any (g : Gr.G) (vi va vb vp vh : Value) (w : World) (hi : GrIn w g vi va vb vp vh) (hf : Gr.Fit g) :
    Calls Try.prog 15 #[.agg #[vi, .int .i64 g.vars, .int .i64 g.keep, va, .int .i64 g.sh, vb, vp, vh]] w (SomeB w) := by
  obtain ⟨Ai, ci, rfl, -⟩ := hi.ins.opened
  obtain ⟨Aa, ca, rfl, -⟩ := hi.ars.opened
  obtain ⟨Ab, cb, a1, a2, c1, c2, rfl, hbl⟩ := id hi.blks
  obtain ⟨Ap, cp, d1, e1, rfl, hpt⟩ := hi.pts.opened
  obtain ⟨Ah, ch, rfl, -⟩ := hi.hds.opened
  obtain ⟨ni, hni⟩ : ∃ n, g.ins.length = n := ⟨_, rfl⟩
  obtain ⟨na, hna⟩ : ∃ n, g.ars.length = n := ⟨_, rfl⟩
  obtain ⟨nb, hnb⟩ : ∃ n, g.blks.length = n := ⟨_, rfl⟩
  obtain ⟨np, hnp⟩ : ∃ n, g.pts.length = n := ⟨_, rfl⟩
  obtain ⟨nh, hnh⟩ : ∃ n, g.hds.length = n := ⟨_, rfl⟩
  obtain ⟨V, hV⟩ : ∃ n, g.vars = n := ⟨_, rfl⟩
  obtain ⟨K, hK⟩ : ∃ n, g.keep = n := ⟨_, rfl⟩
  obtain ⟨S, hS⟩ : ∃ n, g.sh = n := ⟨_, rfl⟩
  have b1 := hf.ins
  have b2 := hf.ars
  have b3 := hf.blks
  have b4 := hf.pts
  have b5 := hf.hds
  rw [hni] at b1
  rw [hna] at b2
  rw [hnb] at b3 hbl
  rw [hnp] at b4 hpt
  rw [hnh] at b5
  rw [hni, hna, hnb, hnp, hnh, hV, hK, hS]
  have HB := Lib.hid hbl
  have HP := Lib.hid hpt
  have HT0 := Lib.hid (show Below w.heap.size w (w.alloc (.cells #[.slice Ai ni ci, .int .i64 V, .int .i64 K, .slice Aa na ca, .int .i64 S, .slice Ab nb cb, .slice Ap np cp, .slice Ah nh ch] 40)) ∧ Bk (w.alloc (.cells #[.slice Ai ni ci, .int .i64 V, .int .i64 K, .slice Aa na ca, .int .i64 S, .slice Ab nb cb, .slice Ap np cp, .slice Ah nh ch] 40)) w.heap.size 40 #[.slice Ai ni ci, .int .i64 V, .int .i64 K, .slice Aa na ca, .int .i64 S, .slice Ab nb cb, .slice Ap np cp, .slice Ah nh ch] from ⟨bla (Below.refl _ _) _, Bk.new _ _ _⟩)
  clear hi hf hbl hpt hni hna hnb hnp hnh hV hK hS
  go_enter Try.func15, Try.ntmps15
  go_wp2
  go_loopw [3, 4] (fun t i wr => ∃ (k : Nat) (z : Int), k ≤ nb ∧ i = .int .i64 k ∧ t = .int .i64 z ∧ Hid (Below w.heap.size w wr ∧ Bk wr w.heap.size 40 #[.slice Ai ni ci, .int .i64 V, .int .i64 K, .slice Aa na ca, .int .i64 S, .slice Ab nb cb, .slice Ap np cp, .slice Ah nh ch])) (fun _ i _ => nb - (intOf i).toNat)
  case atStart => exact ⟨0, _, Nat.zero_le _, rfl, rfl, HT0⟩
  case round =>
    clear HT0
    obtain ⟨k, z, hk, rfl, rfl, HT⟩ := hrel
    have g5 := HT.out.2.cell 5
    have g6 := HT.out.2.cell 6
    by_cases hlt : k < nb
    · have hlt' : (k : Int) < nb := by omega
      have hlt0 : (0 : Int) ≤ (k : Int) := by omega
      obtain ⟨b, off, rfl, hbb, h0, h1, h2, _, _⟩ := HB.out k hlt
      replace h0 := (HT.out.1.cell (p := ⟨b, off + k * 3, none⟩) hbb).trans h0
      replace h2 := (HT.out.1.cell (p := ⟨b, off + k * 3 + 2, none⟩) hbb).trans h2
      go_wp2
      go_quiet (fail)
      go_wp2
      go_roundw
      case rel => exact ⟨k + 1, _, by omega, by first | rfl | go_num, rfl, Lib.hid ⟨HT.out.1.trans (below_drewN _ _ _), HT.out.2.below (below_drewN _ _ _)⟩⟩
      case measure => simp [intOf]; omega
    · have hlt' : ¬ (k : Int) < nb := by omega
      go_wp2
      clear g5 g6
      go_loopw [3, 5] (fun t i wr => ∃ (k : Nat) (z : Int), k ≤ np ∧ i = .int .i64 k ∧ t = .int .i64 z ∧ Hid (Below w.heap.size w wr ∧ Bk wr w.heap.size 40 #[.slice Ai ni ci, .int .i64 V, .int .i64 K, .slice Aa na ca, .int .i64 S, .slice Ab nb cb, .slice Ap np cp, .slice Ah nh ch])) (fun _ i _ => np - (intOf i).toNat)
      case atStart => exact ⟨0, _, Nat.zero_le _, rfl, rfl, HT⟩
      case round =>
        clear HT
        obtain ⟨k, z, hk, rfl, rfl, HT⟩ := hrel
        have g5 := HT.out.2.cell 5
        have g6 := HT.out.2.cell 6
        by_cases hlt : k < np
        · have hlt' : (k : Int) < np := by omega
          have hlt0 : (0 : Int) ≤ (k : Int) := by omega
          obtain ⟨b, off, rfl, hbb, h0, _⟩ := HP.out k hlt
          replace h0 := (HT.out.1.cell (p := ⟨b, off + k, none⟩) hbb).trans h0
          go_wp2
          go_roundw
          case rel => exact ⟨k + 1, _, by omega, by first | rfl | go_num, rfl, Lib.hid ⟨HT.out.1.trans (Below.refl _ _), HT.out.2.below (Below.refl _ _)⟩⟩
          case measure => simp [intOf]; omega
        · have hlt' : ¬ (k : Int) < np := by omega
          go_wp2
          go_ret
          exact ⟨_, rfl, HT.out.1⟩
end Go.Proofs.Ytojnhdkclabkgaa
namespace Go.Proofs.Ytojnhdkclabkgaa
open Go.RowKit
set_option linter.unusedVariables false
set_option linter.unusedSimpArgs false
attribute [local go_sem] y_undef
set_option maxHeartbeats 4000000 in
set_option maxRecDepth 100000 in
theorem agree_any (g G : Gr.G) (L : List (List Int)) (r : Int) (vi va vb vp vh : Value) (w : World) (hi : GrIn w g vi va vb vp vh)
    (hC : ∀ W : World, Below w.heap.size w W → Calls Try.prog 35 #[.agg #[vi, .int .i64 g.vars, .int .i64 g.keep, va, .int .i64 g.sh, vb, vp, vh]] W (PassAns G L r W))
    (hR : ∀ W : World, Below w.heap.size w W → Calls Try.prog 36 #[.agg #[vi, .int .i64 g.vars, .int .i64 g.keep, va, .int .i64 g.sh, vb, vp, vh]] W (PassAns G L r W))
    (hF : Gr.Fit G) (hl : L.length ≤ maxLen) (hl2 : ∀ q ∈ L, q.length ≤ maxLen) :
    Calls Try.prog 16 #[.agg #[vi, .int .i64 g.vars, .int .i64 g.keep, va, .int .i64 g.sh, vb, vp, vh]] w fun e w' => e = .returned (.bool true) ∧ Below w.heap.size w w' := by
  obtain ⟨Ai, ci, rfl, -⟩ := hi.ins.opened
  obtain ⟨Aa, ca, rfl, -⟩ := hi.ars.opened
  obtain ⟨Ab, cb, a1, a2, k1, k2, rfl, -⟩ := id hi.blks
  obtain ⟨Aq, cp, ap, kp, rfl, -⟩ := hi.pts.opened
  obtain ⟨Ah, ch, rfl, -⟩ := hi.hds.opened
  have HC := Lib.hid hC
  have HR := Lib.hid hR
  have HL := Lib.hid (And.intro hF (And.intro hl hl2))
  clear hi hC hR hF hl hl2
  have HB := Lib.hid (show Below w.heap.size w (w.alloc (.cells #[.slice Ai g.ins.length ci, .int .i64 g.vars, .int .i64 g.keep, .slice Aa g.ars.length ca, .int .i64 g.sh, .slice Ab g.blks.length cb, .slice Aq g.pts.length cp, .slice Ah g.hds.length ch] 40)) ∧ Bk (w.alloc (.cells #[.slice Ai g.ins.length ci, .int .i64 g.vars, .int .i64 g.keep, .slice Aa g.ars.length ca, .int .i64 g.sh, .slice Ab g.blks.length cb, .slice Aq g.pts.length cp, .slice Ah g.hds.length ch] 40)) w.heap.size 40 #[.slice Ai g.ins.length ci, .int .i64 g.vars, .int .i64 g.keep, .slice Aa g.ars.length ca, .int .i64 g.sh, .slice Ab g.blks.length cb, .slice Aq g.pts.length cp, .slice Ah g.hds.length ch] from ⟨bla (Below.refl _ _) _, Bk.new _ _ _⟩)
  go_enter Try.func16, Try.ntmps16
  go_upto_region 1 with fail
  generalize hW : w.alloc (.cells #[.slice Ai g.ins.length ci, .int .i64 g.vars, .int .i64 g.keep, .slice Aa g.ars.length ca, .int .i64 g.sh, .slice Ab g.blks.length cb, .slice Aq g.pts.length cp, .slice Ah g.hds.length ch] 40) = W0 at HB ⊢
  clear hW
  have g0 := HB.out.2.cell 0
  have g1 := HB.out.2.cell 1
  have g2 := HB.out.2.cell 2
  have g3 := HB.out.2.cell 3
  have g4 := HB.out.2.cell 4
  have g5 := HB.out.2.cell 5
  have g6 := HB.out.2.cell 6
  have g7 := HB.out.2.cell 7
  go_wp2_with fail
  refine (HC.out W0 HB.out.1).mono ?_
  intro e w1 hpost
  obtain ⟨hb, vi1, va1, vb1, vp1, vh1, vs1, rfl, hgr, hls⟩ := hpost
  obtain ⟨I1, i1, rfl, -⟩ := hgr.ins.opened
  obtain ⟨R1, r1, rfl, -⟩ := hgr.ars.opened
  obtain ⟨B1, b1, x1, x2, x3, x4, rfl, -⟩ := id hgr.blks
  clear x1 x2 x3 x4
  obtain ⟨P1, p1, x1, x2, rfl, -⟩ := hgr.pts.opened
  clear x1 x2
  obtain ⟨H1, h1, rfl, -⟩ := hgr.hds.opened
  have hbk : Below w1.heap.size w1 (w1.alloc (.cells #[.slice I1 G.ins.length i1, .int .i64 G.vars, .int .i64 G.keep, .slice R1 G.ars.length r1, .int .i64 G.sh, .slice B1 G.blks.length b1, .slice P1 G.pts.length p1, .slice H1 G.hds.length h1] 40)) := bla (Below.refl _ _) _
  have HG1 := Lib.hid (show GrIn (w1.alloc (.cells #[.slice I1 G.ins.length i1, .int .i64 G.vars, .int .i64 G.keep, .slice R1 G.ars.length r1, .int .i64 G.sh, .slice B1 G.blks.length b1, .slice P1 G.pts.length p1, .slice H1 G.hds.length h1] 40)) G _ _ _ _ _ from hgr.below hbk)
  have HS1 := Lib.hid (show LstsIn (w1.alloc (.cells #[.slice I1 G.ins.length i1, .int .i64 G.vars, .int .i64 G.keep, .slice R1 G.ars.length r1, .int .i64 G.sh, .slice B1 G.blks.length b1, .slice P1 G.pts.length p1, .slice H1 G.hds.length h1] 40)) vs1 L from hls.below hbk)
  have HX1 := Lib.hid (show Bk (w1.alloc (.cells #[.slice I1 G.ins.length i1, .int .i64 G.vars, .int .i64 G.keep, .slice R1 G.ars.length r1, .int .i64 G.sh, .slice B1 G.blks.length b1, .slice P1 G.pts.length p1, .slice H1 G.hds.length h1] 40)) w1.heap.size 40 #[.slice I1 G.ins.length i1, .int .i64 G.vars, .int .i64 G.keep, .slice R1 G.ars.length r1, .int .i64 G.sh, .slice B1 G.blks.length b1, .slice P1 G.pts.length p1, .slice H1 G.hds.length h1] from Bk.new _ _ _)
  have HB2 := Lib.hid (show Below w.heap.size w (w1.alloc (.cells #[.slice I1 G.ins.length i1, .int .i64 G.vars, .int .i64 G.keep, .slice R1 G.ars.length r1, .int .i64 G.sh, .slice B1 G.blks.length b1, .slice P1 G.pts.length p1, .slice H1 G.hds.length h1] 40)) ∧ Bk (w1.alloc (.cells #[.slice I1 G.ins.length i1, .int .i64 G.vars, .int .i64 G.keep, .slice R1 G.ars.length r1, .int .i64 G.sh, .slice B1 G.blks.length b1, .slice P1 G.pts.length p1, .slice H1 G.hds.length h1] 40)) w.heap.size 40 #[.slice Ai g.ins.length ci, .int .i64 g.vars, .int .i64 g.keep, .slice Aa g.ars.length ca, .int .i64 g.sh, .slice Ab g.blks.length cb, .slice Aq g.pts.length cp, .slice Ah g.hds.length ch] from ⟨blt (blt HB.out.1 hb) hbk, (HB.out.2.below hb).below hbk⟩)
  clear hgr hls hbk hb HB g0 g1 g2 g3 g4 g5 g6 g7
  go_upto_region 2 with fail
  obtain ⟨N1, hN⟩ : ∃ N, w1.heap.size = N := ⟨_, rfl⟩
  rw [hN] at HX1 ⊢
  generalize hW : w1.alloc (.cells #[.slice I1 G.ins.length i1, .int .i64 G.vars, .int .i64 G.keep, .slice R1 G.ars.length r1, .int .i64 G.sh, .slice B1 G.blks.length b1, .slice P1 G.pts.length p1, .slice H1 G.hds.length h1] 40) = W1 at HG1 HS1 HX1 HB2 ⊢
  clear hW hN w1
  have HB := HB2
  clear HB2
  have g0 := HB.out.2.cell 0
  have g1 := HB.out.2.cell 1
  have g2 := HB.out.2.cell 2
  have g3 := HB.out.2.cell 3
  have g4 := HB.out.2.cell 4
  have g5 := HB.out.2.cell 5
  have g6 := HB.out.2.cell 6
  have g7 := HB.out.2.cell 7
  go_wp2_with fail
  refine (HR.out W1 HB.out.1).mono ?_
  intro e w2 hpost
  obtain ⟨hb, vi2, va2, vb2, vp2, vh2, vs2, rfl, hgr, hls⟩ := hpost
  obtain ⟨I2, i2, rfl, -⟩ := hgr.ins.opened
  obtain ⟨R2, r2, rfl, -⟩ := hgr.ars.opened
  obtain ⟨B2, b2, x1, x2, x3, x4, rfl, -⟩ := id hgr.blks
  clear x1 x2 x3 x4
  obtain ⟨P2, p2, x1, x2, rfl, -⟩ := hgr.pts.opened
  clear x1 x2
  obtain ⟨H2, h2, rfl, -⟩ := hgr.hds.opened
  have hbk : Below w2.heap.size w2 (w2.alloc (.cells #[.slice I2 G.ins.length i2, .int .i64 G.vars, .int .i64 G.keep, .slice R2 G.ars.length r2, .int .i64 G.sh, .slice B2 G.blks.length b2, .slice P2 G.pts.length p2, .slice H2 G.hds.length h2] 40)) := bla (Below.refl _ _) _
  have HG2 := Lib.hid (show GrIn (w2.alloc (.cells #[.slice I2 G.ins.length i2, .int .i64 G.vars, .int .i64 G.keep, .slice R2 G.ars.length r2, .int .i64 G.sh, .slice B2 G.blks.length b2, .slice P2 G.pts.length p2, .slice H2 G.hds.length h2] 40)) G _ _ _ _ _ from hgr.below hbk)
  have HS2 := Lib.hid (show LstsIn (w2.alloc (.cells #[.slice I2 G.ins.length i2, .int .i64 G.vars, .int .i64 G.keep, .slice R2 G.ars.length r2, .int .i64 G.sh, .slice B2 G.blks.length b2, .slice P2 G.pts.length p2, .slice H2 G.hds.length h2] 40)) vs2 L from hls.below hbk)
  have HX2 := Lib.hid (show Bk (w2.alloc (.cells #[.slice I2 G.ins.length i2, .int .i64 G.vars, .int .i64 G.keep, .slice R2 G.ars.length r2, .int .i64 G.sh, .slice B2 G.blks.length b2, .slice P2 G.pts.length p2, .slice H2 G.hds.length h2] 40)) w2.heap.size 40 #[.slice I2 G.ins.length i2, .int .i64 G.vars, .int .i64 G.keep, .slice R2 G.ars.length r2, .int .i64 G.sh, .slice B2 G.blks.length b2, .slice P2 G.pts.length p2, .slice H2 G.hds.length h2] from Bk.new _ _ _)
  have HB2 := Lib.hid (show Below w.heap.size w (w2.alloc (.cells #[.slice I2 G.ins.length i2, .int .i64 G.vars, .int .i64 G.keep, .slice R2 G.ars.length r2, .int .i64 G.sh, .slice B2 G.blks.length b2, .slice P2 G.pts.length p2, .slice H2 G.hds.length h2] 40)) ∧ Bk (w2.alloc (.cells #[.slice I2 G.ins.length i2, .int .i64 G.vars, .int .i64 G.keep, .slice R2 G.ars.length r2, .int .i64 G.sh, .slice B2 G.blks.length b2, .slice P2 G.pts.length p2, .slice H2 G.hds.length h2] 40)) w.heap.size 40 #[.slice Ai g.ins.length ci, .int .i64 g.vars, .int .i64 g.keep, .slice Aa g.ars.length ca, .int .i64 g.sh, .slice Ab g.blks.length cb, .slice Aq g.pts.length cp, .slice Ah g.hds.length ch] from ⟨blt (blt HB.out.1 hb) hbk, (HB.out.2.below hb).below hbk⟩)
  have HG1b := Lib.hid ((HG1.out.below hb).below hbk)
  have HS1b := Lib.hid ((HS1.out.below hb).below hbk)
  have HX1b := Lib.hid ((HX1.out.below hb).below hbk)
  clear HG1 HS1 HX1
  clear hgr hls hbk hb HB g0 g1 g2 g3 g4 g5 g6 g7
  go_upto_region 3 with fail
  obtain ⟨N2, hN⟩ : ∃ N, w2.heap.size = N := ⟨_, rfl⟩
  rw [hN] at HX2 ⊢
  generalize hW : w2.alloc (.cells #[.slice I2 G.ins.length i2, .int .i64 G.vars, .int .i64 G.keep, .slice R2 G.ars.length r2, .int .i64 G.sh, .slice B2 G.blks.length b2, .slice P2 G.pts.length p2, .slice H2 G.hds.length h2] 40) = W2 at HG2 HS2 HX2 HB2 HG1b HS1b HX1b ⊢
  clear hW hN w2
  have HB := HB2
  clear HB2
  have c0 := HX1b.out.cell 0
  have d0 := HX2.out.cell 0
  have c1 := HX1b.out.cell 1
  have d1 := HX2.out.cell 1
  have c2 := HX1b.out.cell 2
  have d2 := HX2.out.cell 2
  have c3 := HX1b.out.cell 3
  have d3 := HX2.out.cell 3
  have c4 := HX1b.out.cell 4
  have d4 := HX2.out.cell 4
  have c5 := HX1b.out.cell 5
  have d5 := HX2.out.cell 5
  have c6 := HX1b.out.cell 6
  have d6 := HX2.out.cell 6
  have c7 := HX1b.out.cell 7
  have d7 := HX2.out.cell 7
  go_wp2_with fail
  refine (same_any G _ _ _ _ _ _ _ _ _ _ W2 HG1b.out HG2.out HL.out.1).mono ?_
  rintro e w3 ⟨rfl, hb3⟩
  have HS1 := Lib.hid (HS1b.out.below hb3)
  have HS2b := Lib.hid (HS2.out.below hb3)
  have HBf := Lib.hid (blt HB.out.1 hb3)
  clear hb3 HG1b HG2 HS1b HS2 HX1b HX2 HB c0 d0 c1 d1 c2 d2 c3 d3 c4 d4 c5 d5 c6 d6 c7 d7
  go_wp2_with fail
  refine (samelists_any L _ _ w3 HS1.out HS2b.out HL.out.2.1 HL.out.2.2).mono ?_
  rintro e w4 ⟨rfl, hb4⟩
  have HBe := Lib.hid (blt HBf.out hb4)
  clear hb4 HS1 HS2b HBf
  go_wp2
  go_ret
  exact ⟨rfl, HBe.out⟩
end Go.Proofs.Ytojnhdkclabkgaa
namespace Go.Proofs.Ytojnhdkclabkgaa
open Go.RowKit
set_option linter.unusedVariables false
set_option linter.unusedSimpArgs false
attribute [local go_sem] y_undef
namespace Me
def exG : Gr.G := ⟨[], 0, 0, [], 0, [⟨[], 0, [1]⟩, ⟨[], 0, [2]⟩, ⟨[], 0, []⟩], [], []⟩
def exH : Gr.G := ⟨[], 0, 0, [], 0, [⟨[], 0, []⟩], [], []⟩
theorem ex_chk : Gr.chk exG = 0 := by decide +kernel
theorem ex_ans : Me.ans exG = exH := by kernel_rfl
theorem ex_lst : Me.lst exG = [[0], [0], [0]] := by kernel_rfl
end Me
theorem nums_blkM {w : World} {g : Nat} {z : Int} (h : Bk w g 3 #[.int .i64 z]) : NumsIn w (.slice (some ⟨g, 0, none⟩) 1 1) [z] :=
  ⟨_, 1, rfl, rfl, .inr ⟨g, 0, rfl, h.lt, fun j u hu => by rw [Nat.zero_add, h.cell]; simpa using hu⟩⟩
theorem nums_nlM (w : World) : NumsIn w (.slice none 0 0) [] := ⟨none, 0, rfl, by simp, .inl rfl⟩
/-- The example's graph in memory. -/
def meW (w : World) : World := ((w.alloc (.cells #[.int .i64 1] 3)).alloc (.cells #[.int .i64 2] 3)).alloc (.cells #[.slice none 0 0, .int .i64 0, .slice (some ⟨w.heap.size, 0, none⟩) 1 1, .slice none 0 0, .int .i64 0, .slice (some ⟨w.heap.size + 1, 0, none⟩) 1 1, .slice none 0 0, .int .i64 0, .slice none 0 0] 34)
theorem meW_below (w : World) : Below w.heap.size w (meW w) := bla (bla (bla (Below.refl _ _) _) _) _
theorem meW_in (w : World) : GrIn (meW w) Me.exG (.slice none 0 0) (.slice none 0 0) (.slice (some ⟨w.heap.size + 1 + 1, 0, none⟩) 3 3) (.slice none 0 0) (.slice none 0 0) := by
  have h1 : Bk (meW w) w.heap.size 3 #[.int .i64 1] := ((Bk.new w _ _).below (bla (Below.refl _ _) _)).below (bla (Below.refl _ _) _)
  have h2 : Bk (meW w) (w.heap.size + 1) 3 #[.int .i64 2] := by
    have h := Bk.new (w.alloc (.cells #[.int .i64 1] 3)) 3 #[.int .i64 2]
    rw [size_alloc] at h
    exact h.below (bla (Below.refl _ _) _)
  have hB : Bk (meW w) (w.heap.size + 1 + 1) 34 #[.slice none 0 0, .int .i64 0, .slice (some ⟨w.heap.size, 0, none⟩) 1 1, .slice none 0 0, .int .i64 0, .slice (some ⟨w.heap.size + 1, 0, none⟩) 1 1, .slice none 0 0, .int .i64 0, .slice none 0 0] := by
    have h := Bk.new ((w.alloc (.cells #[.int .i64 1] 3)).alloc (.cells #[.int .i64 2] 3)) 34 #[.slice none 0 0, .int .i64 0, .slice (some ⟨w.heap.size, 0, none⟩) 1 1, .slice none 0 0, .int .i64 0, .slice (some ⟨w.heap.size + 1, 0, none⟩) 1 1, .slice none 0 0, .int .i64 0, .slice none 0 0]
    rw [size_alloc, size_alloc] at h
    exact h
  refine ⟨RowIn.nil _ 3, RowIn.nil _ 2, ⟨_, 3, fun _ => none, fun i => if i = 0 then some ⟨w.heap.size, 0, none⟩ else if i = 1 then some ⟨w.heap.size + 1, 0, none⟩ else none, fun _ => 0, fun i => if i < 2 then 1 else 0, rfl, fun i hi => ?_⟩, ⟨none, 0, rfl, fun i hi => absurd hi (Nat.not_lt_zero _)⟩, RowIn.nil _ 2⟩
  have hi' : i < 3 := hi
  rcases (show i = 0 ∨ i = 1 ∨ i = 2 by omega) with rfl | rfl | rfl
  · exact ⟨_, 0, rfl, hB.lt, hB.cell 0, hB.cell 1, hB.cell 2, RowIn.nil _ 5, nums_blkM h1⟩
  · exact ⟨_, 0, rfl, hB.lt, hB.cell 3, hB.cell 4, hB.cell 5, RowIn.nil _ 5, nums_blkM h2⟩
  · exact ⟨_, 0, rfl, hB.lt, hB.cell 6, hB.cell 7, hB.cell 8, RowIn.nil _ 5, nums_nlM _⟩
theorem me_fit : Gr.Fit Me.exG := by
  refine ⟨by decide, by decide, by decide, by decide, by decide, fun b hb => ?_, fun q hq => ?_, by decide⟩
  · unfold Me.exG at hb
    simp at hb
    rcases hb with rfl | rfl | rfl <;> decide
  · cases hq
set_option maxRecDepth 100000 in
set_option maxHeartbeats 4000000 in
theorem awake_any (w : World) : Calls Try.prog 17 #[] w fun e w' => e = .returned (.bool true) ∧ Below w.heap.size w w' := by
  have HC := Lib.hid (merge_any Me.exG _ _ _ _ _ (meW w) (meW_in w) me_fit)
  have HB := Lib.hid (meW_below w)
  rw [Me.ex_ans, Me.ex_lst, Me.ex_chk] at HC
  go_enter Try.func17, Try.ntmps17
  go_wp2_with fail
  generalize hW : World.alloc _ (.cells #[.slice none 0 0, .int .i64 0, .slice (some ⟨w.heap.size, 0, none⟩) 1 1, .slice none 0 0, .int .i64 0, .slice (some ⟨w.heap.size + 1, 0, none⟩) 1 1, .slice none 0 0, .int .i64 0, .slice none 0 0] 34) = W0
  obtain rfl : meW w = W0 := hW
  refine HC.out.mono ?_
  rintro e w1 ⟨hb, vi, va, vb, vp, vh, vs, rfl, hg, hl⟩
  obtain ⟨Ai, ci, rfl, -⟩ := hg.ins.opened
  obtain ⟨Aa, ca, rfl, -⟩ := hg.ars.opened
  obtain ⟨Ap, cp, _, _, rfl, -⟩ := hg.pts.opened
  obtain ⟨Ah, ch, rfl, -⟩ := hg.hds.opened
  obtain ⟨Ab, cb, a1, a2, c1, c2, rfl, -⟩ := id hg.blks
  obtain ⟨Al, cl, al, kl, rfl, hls⟩ := hl.opened
  obtain ⟨b, off, rfl, hlt, x0, hn⟩ := hls 2 (by decide)
  obtain ⟨An, cn, en, hns⟩ := hn.opened
  injection en with en1 _ en3
  obtain ⟨b2, off2, e2, hlt2, y0⟩ := hns 0 (by decide)
  rw [en1, e2] at x0
  have X0 := Lib.hid (show w1.cell? ⟨b, off + 2, none⟩ = some (.slice (some ⟨b2, off2, none⟩) 1 (kl 2)) from x0)
  have Y0 := Lib.hid (show w1.cell? ⟨b2, off2, none⟩ = some (.int .i64 0) from y0)
  have HBe := Lib.hid (blt HB.out hb)
  clear hg hl hls hn hns en1 en3 e2 x0 y0 hb HC HB
  generalize hO : (Value.tuple #[.agg #[.slice Ai Me.exH.ins.length ci, .int .i64 Me.exH.vars, .int .i64 Me.exH.keep, .slice Aa Me.exH.ars.length ca, .int .i64 Me.exH.sh, .slice Ab Me.exH.blks.length cb, .slice Ap Me.exH.pts.length cp, .slice Ah Me.exH.hds.length ch], .slice (some ⟨b, off, none⟩) ([[0], [0], [0]] : List (List Int)).length cl, .int .i64 0]) = v
  obtain rfl : (Value.tuple #[.agg #[.slice Ai 0 ci, .int .i64 0, .int .i64 0, .slice Aa 0 ca, .int .i64 0, .slice Ab 1 cb, .slice Ap 0 cp, .slice Ah 0 ch], .slice (some ⟨b, off, none⟩) 3 cl, .int .i64 0]) = v := hO
  have HX := Lib.hid (Bk.new w1 40 #[.slice Ai 0 ci, .int .i64 0, .int .i64 0, .slice Aa 0 ca, .int .i64 0, .slice Ab 1 cb, .slice Ap 0 cp, .slice Ah 0 ch])
  have hbk : Below w1.heap.size w1 (w1.alloc (.cells #[.slice Ai 0 ci, .int .i64 0, .int .i64 0, .slice Aa 0 ca, .int .i64 0, .slice Ab 1 cb, .slice Ap 0 cp, .slice Ah 0 ch] 40)) := bla (Below.refl _ _) _
  have x0 := (hbk.cell (p := ⟨b, off + 2, none⟩) hlt).trans X0.out
  have y0 := (hbk.cell (p := ⟨b2, off2, none⟩) hlt2).trans Y0.out
  have HBf := Lib.hid (blt HBe.out hbk)
  clear hbk X0 Y0 HBe
  go_upto_region 2 with fail
  obtain ⟨F, hF⟩ : ∃ F, w1.heap.size = F := ⟨_, rfl⟩
  rw [hF] at HX ⊢
  generalize hW2 : World.alloc w1 _ = W2 at HX HBf x0 y0 ⊢
  clear hW2 hF hlt hlt2
  have f5 := HX.out.cell 5
  go_wp2
  go_ret
  exact ⟨rfl, HBf.out⟩
end Go.Proofs.Ytojnhdkclabkgaa
namespace Go.Proofs.Ytojnhdkclabkgaa
open Go.RowKit
set_option linter.unusedVariables false
set_option linter.unusedSimpArgs false
attribute [local go_sem] y_undef
namespace Me
/-- What merging comes to keeps its bounds. -/
theorem mg_keeps (N : Nat) : ∀ (f : Nat) (G : Gr.G) (t : List Int), Iv G → t.length = N → Iv (mg f G t).1 ∧ (mg f G t).2.length = N ∧ (mg f G t).1.vars = G.vars
  | 0, G, t, h, ht => ⟨h, ht, rfl⟩
  | f + 1, G, t, h, ht => by
    cases hf : first G with
    | none => rw [mg_end hf]; exact ⟨h, ht, rfl⟩
    | some a =>
      have hs := hf
      unfold first at hs
      rw [List.find?_range_eq_some] at hs
      have ha : a < G.blks.length := by simpa using hs.2.1
      have hk := Tk.of h ha hs.1
      rw [mg_go hf]
      have := mg_keeps N f (join G a (nb G a).toNat) (t.map (place a (nb G a))) (h.join hk) (by rw [List.length_map]; exact ht)
      exact ⟨this.1, this.2.1, this.2.2⟩
end Me
theorem me_ans_fit {g : Gr.G} (hfit : Gr.Fit g) : Gr.Fit (Me.ans g) := by
  unfold Me.ans
  by_cases h0 : Gr.chk g = 0
  · rw [if_pos h0]
    have hI := Me.Iv.of h0
    obtain ⟨h1, -, hv⟩ := Me.mg_keeps g.blks.length g.blks.length g (Me.start g.blks.length) hI (Me.start_len _)
    change Me.Iv (Me.out g).1 at h1
    change (Me.out g).1.vars = g.vars at hv
    refine ⟨by have := h1.ins; omega, by have := h1.ars; omega, by have := h1.hi; omega, by have := h1.ptn; omega, by have := h1.hdn; omega, fun b hb => ?_, fun q hq => ?_, by rw [hv]; exact hfit.vlo⟩
    · obtain ⟨k, hk, rfl⟩ := Me.mem_get (d := Gr.blk0) hb
      have h2 := h1.op k
      have h3 := h1.two k hk
      exact ⟨by omega, by omega⟩
    · have := h1.ptl q hq; omega
  · rw [if_neg h0]
    exact Gr.gz_fit
theorem me_lst_fit {g : Gr.G} : (Me.lst g).length ≤ maxLen ∧ ∀ q ∈ Me.lst g, q.length ≤ maxLen := by
  unfold Me.lst
  by_cases h0 : Gr.chk g = 0
  · rw [if_pos h0]
    have hI := Me.Iv.of h0
    obtain ⟨-, h2, -⟩ := Me.mg_keeps g.blks.length g.blks.length g (Me.start g.blks.length) hI (Me.start_len _)
    change (Me.out g).2.length = g.blks.length at h2
    have := hI.hi
    refine ⟨by rw [Me.one1_len]; unfold maxLen; omega, fun q hq => ?_⟩
    unfold Me.one1 at hq
    obtain ⟨i, _, rfl⟩ := List.mem_map.1 hq
    unfold maxLen
    simp
  · rw [if_neg h0]
    exact ⟨by unfold maxLen; simp, fun q hq => by cases hq⟩
set_option maxHeartbeats 4000000 in
theorem raw_law (g : Gr.G) (vi va vb vp vh : Value) (w : World) (hi : GrIn w g vi va vb vp vh) (hp : PtsIn w vp g.pts) (hf : Gr.Fit g) :
    Calls Try.prog 5 #[.agg #[vi, .int .i64 g.vars, .int .i64 g.keep, va, .int .i64 g.sh, vb, vp, vh]] w fun e w' => e = .returned (.bool true) ∧ Below w.heap.size w w' := by
  have HA := Lib.hid fun (W : World) (hW : Below w.heap.size w W) => agree_any g (Me.ans g) (Me.lst g) (Gr.chk g) vi va vb vp vh W (hi.below hW)
    (fun U hU => merge_any g vi va vb vp vh U (hi.below (blt hW hU)) hf)
    (fun U hU => rmerge_any g vi va vb vp vh U (hi.below (blt hW hU)) (ptsin_belowM hp (blt hW hU)) hf)
    (me_ans_fit hf) me_lst_fit.1 me_lst_fit.2
  have HLt := Lib.hid fun (W : World) (hW : Below w.heap.size w W) => light_any g vi va vb vp vh W (hi.below hW) hf
  obtain ⟨Ai, ci, rfl, -⟩ := hi.ins.opened
  obtain ⟨Aa, ca, rfl, -⟩ := hi.ars.opened
  obtain ⟨Ab, cb, a1, a2, k1, k2, rfl, -⟩ := id hi.blks
  obtain ⟨Aq, cp, ap, kp, rfl, -⟩ := hi.pts.opened
  obtain ⟨Ah, ch, rfl, -⟩ := hi.hds.opened
  clear hi hp hf
  have HB := Lib.hid (show Below w.heap.size w (w.alloc (.cells #[.slice Ai g.ins.length ci, .int .i64 g.vars, .int .i64 g.keep, .slice Aa g.ars.length ca, .int .i64 g.sh, .slice Ab g.blks.length cb, .slice Aq g.pts.length cp, .slice Ah g.hds.length ch] 40)) ∧ Bk (w.alloc (.cells #[.slice Ai g.ins.length ci, .int .i64 g.vars, .int .i64 g.keep, .slice Aa g.ars.length ca, .int .i64 g.sh, .slice Ab g.blks.length cb, .slice Aq g.pts.length cp, .slice Ah g.hds.length ch] 40)) w.heap.size 40 #[.slice Ai g.ins.length ci, .int .i64 g.vars, .int .i64 g.keep, .slice Aa g.ars.length ca, .int .i64 g.sh, .slice Ab g.blks.length cb, .slice Aq g.pts.length cp, .slice Ah g.hds.length ch] from ⟨bla (Below.refl _ _) _, Bk.new _ _ _⟩)
  go_enter Try.func5, Try.ntmps5
  go_upto_region 1 with fail
  generalize hW : w.alloc (.cells #[.slice Ai g.ins.length ci, .int .i64 g.vars, .int .i64 g.keep, .slice Aa g.ars.length ca, .int .i64 g.sh, .slice Ab g.blks.length cb, .slice Aq g.pts.length cp, .slice Ah g.hds.length ch] 40) = W0 at HB ⊢
  clear hW
  have g0 := HB.out.2.cell 0
  have g1 := HB.out.2.cell 1
  have g2 := HB.out.2.cell 2
  have g3 := HB.out.2.cell 3
  have g4 := HB.out.2.cell 4
  have g5 := HB.out.2.cell 5
  have g6 := HB.out.2.cell 6
  have g7 := HB.out.2.cell 7
  go_wp2_with fail
  refine (HLt.out W0 HB.out.1).mono ?_
  rintro e w1 ⟨b, rfl, hb1⟩
  have HB1 := Lib.hid (show Below w.heap.size w w1 ∧ Bk w1 w.heap.size _ _ from ⟨blt HB.out.1 hb1, HB.out.2.below hb1⟩)
  clear hb1 HB HLt g0 g1 g2 g3 g4 g5 g6 g7
  have g0 := HB1.out.2.cell 0
  have g1 := HB1.out.2.cell 1
  have g2 := HB1.out.2.cell 2
  have g3 := HB1.out.2.cell 3
  have g4 := HB1.out.2.cell 4
  have g5 := HB1.out.2.cell 5
  have g6 := HB1.out.2.cell 6
  have g7 := HB1.out.2.cell 7
  cases b with
  | true =>
    go_wp2_with fail
    refine (HA.out w1 HB1.out.1).mono ?_
    rintro e w2 ⟨rfl, hb2⟩
    have HB2 := Lib.hid (blt HB1.out.1 hb2)
    clear hb2 HB1 HA g0 g1 g2 g3 g4 g5 g6 g7
    go_wp2_with fail
    refine (awake_any w2).mono ?_
    rintro e w3 ⟨rfl, hb3⟩
    have HB3 := Lib.hid (blt HB2.out hb3)
    clear hb3 HB2
    go_wp2
    go_ret
    exact ⟨rfl, HB3.out⟩
  | false =>
    have HB2 := Lib.hid HB1.out.1
    clear HB1 HA g0 g1 g2 g3 g4 g5 g6 g7
    go_wp2_with fail
    refine (awake_any w1).mono ?_
    rintro e w3 ⟨rfl, hb3⟩
    have HB3 := Lib.hid (blt HB2.out hb3)
    clear hb3 HB2
    go_wp2
    go_ret
    exact ⟨rfl, HB3.out⟩
end Go.Proofs.Ytojnhdkclabkgaa
