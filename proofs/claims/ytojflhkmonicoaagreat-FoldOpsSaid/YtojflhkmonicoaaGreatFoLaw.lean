/- What a pass over a graph answers: a graph, a map, an error. No condition. light answers. No condition. Two passes agree, if they answer the same graph. No condition. Layer 14's awake: the example of the chapter. No condition. FoldRaw's walk. No condition. -/
import Derived.Test.YtojflhkmonicoaaGreatGrMem
import Derived.Test.YtojflhkmonicoaaGreatGrSame
import Derived.Test.YtojflhkmonicoaaGreatFoGE
import Derived.Test.YtojflhkmonicoaaGreatGrOwn
import Derived.Test.YtojflhkmonicoaaGreatFoRefJ
namespace Go.Proofs.YtojflhkmonicoaaGreat
open Go.RowKit
set_option linter.unusedVariables false
def PassAns (G : Gr.G) (L : List (List Int)) (r : Int) (w : World) (e : Ending) (w' : World) : Prop :=
  Below w.heap.size w w' ∧ ∃ vi va vb vp vh vs, e = .returned (.tuple #[.agg #[vi, .int .i64 G.vars, .int .i64 G.keep, va, .int .i64 G.sh, vb, vp, vh], vs, .int .i64 r]) ∧ GrIn w' G vi va vb vp vh ∧ LstsIn w' vs L
/-- No graph. -/
def Gr.gz : Gr.G := ⟨[], 0, 0, [], 0, [], [], []⟩
theorem Gr.gz_fit : Gr.Fit Gr.gz := by
  refine ⟨by decide, by decide, by decide, by decide, by decide, fun b hb => ?_, fun q hq => ?_, by decide⟩
  · cases hb
  · cases hq
theorem gz_in (w : World) : GrIn w Gr.gz (.slice none 0 0) (.slice none 0 0) (.slice none 0 0) (.slice none 0 0) (.slice none 0 0) :=
  ⟨RowIn.nil w 3, RowIn.nil w 2, ⟨none, 0, fun _ => none, fun _ => none, fun _ => 0, fun _ => 0, rfl, fun i hi => absurd hi (Nat.not_lt_zero _)⟩, ⟨none, 0, rfl, fun i hi => absurd hi (Nat.not_lt_zero _)⟩, RowIn.nil w 2⟩
theorem lz_in (w : World) : LstsIn w (.slice none 0 0) [] := ⟨none, 0, rfl, fun i hi => absurd hi (Nat.not_lt_zero _)⟩
end Go.Proofs.YtojflhkmonicoaaGreat
namespace Go.Proofs.YtojflhkmonicoaaGreat
open Go.RowKit
set_option linter.unusedVariables false
set_option linter.unusedSimpArgs false
attribute [local go_sem] y_undef
/-- Some truth value. -/
def SomeB (w : World) (e : Ending) (w' : World) : Prop := ∃ b : Bool, e = .returned (.bool b) ∧ Below w.heap.size w w'
set_option maxHeartbeats 8000000 in
theorem light_any (g : Gr.G) (vi va vb vp vh : Value) (w : World) (hi : GrIn w g vi va vb vp vh) (hf : Gr.Fit g) :
    Calls Tryz.prog 5 #[.agg #[vi, .int .i64 g.vars, .int .i64 g.keep, va, .int .i64 g.sh, vb, vp, vh]] w (SomeB w) := by
  obtain ⟨Ai, ci, rfl, -⟩ := hi.ins.opened
  obtain ⟨Aa, ca, rfl, -⟩ := hi.ars.opened
  obtain ⟨Ab, cb, a1, a2, c1, c2, rfl, hbl⟩ := id hi.blks
  obtain ⟨Ap, cp, d1, e1, rfl, hpt⟩ := hi.pts.opened
  obtain ⟨Ah, ch, rfl, -⟩ := hi.hds.opened
  obtain ⟨ni, hni⟩ : ∃ n, g.ins.length = n := ⟨_, rfl⟩
  obtain ⟨na, hna⟩ : ∃ n, g.ars.length = n := ⟨_, rfl⟩
  obtain ⟨nb, hnb⟩ : ∃ n, g.blks.length = n := ⟨_, rfl⟩
  obtain ⟨np, hnp⟩ : ∃ n, g.pts.length = n := ⟨_, rfl⟩
  obtain ⟨nh, hnh⟩ : ∃ n, g.hds.length = n := ⟨_, rfl⟩
  obtain ⟨V, hV⟩ : ∃ n, g.vars = n := ⟨_, rfl⟩
  obtain ⟨K, hK⟩ : ∃ n, g.keep = n := ⟨_, rfl⟩
  obtain ⟨S, hS⟩ : ∃ n, g.sh = n := ⟨_, rfl⟩
  have b1 := hf.ins
  have b2 := hf.ars
  have b3 := hf.blks
  have b4 := hf.pts
  have b5 := hf.hds
  rw [hni] at b1
  rw [hna] at b2
  rw [hnb] at b3 hbl
  rw [hnp] at b4 hpt
  rw [hnh] at b5
  rw [hni, hna, hnb, hnp, hnh, hV, hK, hS]
  have HB := Lib.hid hbl
  have HP := Lib.hid hpt
  have HT0 := Lib.hid (show Below w.heap.size w (w.alloc (.cells #[.slice Ai ni ci, .int .i64 V, .int .i64 K, .slice Aa na ca, .int .i64 S, .slice Ab nb cb, .slice Ap np cp, .slice Ah nh ch] 28)) ∧ Bk (w.alloc (.cells #[.slice Ai ni ci, .int .i64 V, .int .i64 K, .slice Aa na ca, .int .i64 S, .slice Ab nb cb, .slice Ap np cp, .slice Ah nh ch] 28)) w.heap.size 28 #[.slice Ai ni ci, .int .i64 V, .int .i64 K, .slice Aa na ca, .int .i64 S, .slice Ab nb cb, .slice Ap np cp, .slice Ah nh ch] from ⟨bla (Below.refl _ _) _, Bk.new _ _ _⟩)
  clear hi hf hbl hpt hni hna hnb hnp hnh hV hK hS
  go_enter Tryz.func5, Tryz.ntmps5
  go_wp2
  go_loopw [3, 4] (fun t i wr => ∃ (k : Nat) (z : Int), k ≤ nb ∧ i = .int .i64 k ∧ t = .int .i64 z ∧ Hid (Below w.heap.size w wr ∧ Bk wr w.heap.size 28 #[.slice Ai ni ci, .int .i64 V, .int .i64 K, .slice Aa na ca, .int .i64 S, .slice Ab nb cb, .slice Ap np cp, .slice Ah nh ch])) (fun _ i _ => nb - (intOf i).toNat)
  case atStart => exact ⟨0, _, Nat.zero_le _, rfl, rfl, HT0⟩
  case round =>
    clear HT0
    obtain ⟨k, z, hk, rfl, rfl, HT⟩ := hrel
    have g5 := HT.out.2.cell 5
    have g6 := HT.out.2.cell 6
    by_cases hlt : k < nb
    · have hlt' : (k : Int) < nb := by omega
      have hlt0 : (0 : Int) ≤ (k : Int) := by omega
      obtain ⟨b, off, rfl, hbb, h0, h1, h2, _, _⟩ := HB.out k hlt
      replace h0 := (HT.out.1.cell (p := ⟨b, off + k * 3, none⟩) hbb).trans h0
      replace h2 := (HT.out.1.cell (p := ⟨b, off + k * 3 + 2, none⟩) hbb).trans h2
      go_wp2
      go_quiet (fail)
      go_wp2
      go_roundw
      case rel => exact ⟨k + 1, _, by omega, by first | rfl | go_num, rfl, Lib.hid ⟨HT.out.1.trans (below_drewN _ _ _), HT.out.2.below (below_drewN _ _ _)⟩⟩
      case measure => simp [intOf]; omega
    · have hlt' : ¬ (k : Int) < nb := by omega
      go_wp2
      clear g5 g6
      go_loopw [3, 5] (fun t i wr => ∃ (k : Nat) (z : Int), k ≤ np ∧ i = .int .i64 k ∧ t = .int .i64 z ∧ Hid (Below w.heap.size w wr ∧ Bk wr w.heap.size 28 #[.slice Ai ni ci, .int .i64 V, .int .i64 K, .slice Aa na ca, .int .i64 S, .slice Ab nb cb, .slice Ap np cp, .slice Ah nh ch])) (fun _ i _ => np - (intOf i).toNat)
      case atStart => exact ⟨0, _, Nat.zero_le _, rfl, rfl, HT⟩
      case round =>
        clear HT
        obtain ⟨k, z, hk, rfl, rfl, HT⟩ := hrel
        have g5 := HT.out.2.cell 5
        have g6 := HT.out.2.cell 6
        by_cases hlt : k < np
        · have hlt' : (k : Int) < np := by omega
          have hlt0 : (0 : Int) ≤ (k : Int) := by omega
          obtain ⟨b, off, rfl, hbb, h0, _⟩ := HP.out k hlt
          replace h0 := (HT.out.1.cell (p := ⟨b, off + k, none⟩) hbb).trans h0
          go_wp2
          go_roundw
          case rel => exact ⟨k + 1, _, by omega, by first | rfl | go_num, rfl, Lib.hid ⟨HT.out.1.trans (Below.refl _ _), HT.out.2.below (Below.refl _ _)⟩⟩
          case measure => simp [intOf]; omega
        · have hlt' : ¬ (k : Int) < np := by omega
          go_wp2
          go_ret
          exact ⟨_, rfl, HT.out.1⟩
end Go.Proofs.YtojflhkmonicoaaGreat
namespace Go.Proofs.YtojflhkmonicoaaGreat
open Go.RowKit
set_option linter.unusedVariables false
set_option linter.unusedSimpArgs false
attribute [local go_sem] y_undef
set_option maxHeartbeats 4000000 in
set_option maxRecDepth 100000 in
theorem agree_any (g G : Gr.G) (L : List (List Int)) (r : Int) (vi va vb vp vh : Value) (w : World) (hi : GrIn w g vi va vb vp vh)
    (hC : ∀ W : World, Below w.heap.size w W → Calls Tryz.prog 9 #[.agg #[vi, .int .i64 g.vars, .int .i64 g.keep, va, .int .i64 g.sh, vb, vp, vh]] W (PassAns G L r W))
    (hR : ∀ W : World, Below w.heap.size w W → Calls Tryz.prog 13 #[.agg #[vi, .int .i64 g.vars, .int .i64 g.keep, va, .int .i64 g.sh, vb, vp, vh]] W (PassAns G L r W))
    (hF : Gr.Fit G) (hl : L.length ≤ maxLen) (hl2 : ∀ q ∈ L, q.length ≤ maxLen) :
    Calls Tryz.prog 6 #[.agg #[vi, .int .i64 g.vars, .int .i64 g.keep, va, .int .i64 g.sh, vb, vp, vh]] w fun e w' => e = .returned (.bool true) ∧ Below w.heap.size w w' := by
  obtain ⟨Ai, ci, rfl, -⟩ := hi.ins.opened
  obtain ⟨Aa, ca, rfl, -⟩ := hi.ars.opened
  obtain ⟨Ab, cb, a1, a2, k1, k2, rfl, -⟩ := id hi.blks
  obtain ⟨Aq, cp, ap, kp, rfl, -⟩ := hi.pts.opened
  obtain ⟨Ah, ch, rfl, -⟩ := hi.hds.opened
  have HC := Lib.hid hC
  have HR := Lib.hid hR
  have HL := Lib.hid (And.intro hF (And.intro hl hl2))
  clear hi hC hR hF hl hl2
  have HB := Lib.hid (show Below w.heap.size w (w.alloc (.cells #[.slice Ai g.ins.length ci, .int .i64 g.vars, .int .i64 g.keep, .slice Aa g.ars.length ca, .int .i64 g.sh, .slice Ab g.blks.length cb, .slice Aq g.pts.length cp, .slice Ah g.hds.length ch] 28)) ∧ Bk (w.alloc (.cells #[.slice Ai g.ins.length ci, .int .i64 g.vars, .int .i64 g.keep, .slice Aa g.ars.length ca, .int .i64 g.sh, .slice Ab g.blks.length cb, .slice Aq g.pts.length cp, .slice Ah g.hds.length ch] 28)) w.heap.size 28 #[.slice Ai g.ins.length ci, .int .i64 g.vars, .int .i64 g.keep, .slice Aa g.ars.length ca, .int .i64 g.sh, .slice Ab g.blks.length cb, .slice Aq g.pts.length cp, .slice Ah g.hds.length ch] from ⟨bla (Below.refl _ _) _, Bk.new _ _ _⟩)
  go_enter Tryz.func6, Tryz.ntmps6
  go_upto_region 1 with fail
  generalize hW : w.alloc (.cells #[.slice Ai g.ins.length ci, .int .i64 g.vars, .int .i64 g.keep, .slice Aa g.ars.length ca, .int .i64 g.sh, .slice Ab g.blks.length cb, .slice Aq g.pts.length cp, .slice Ah g.hds.length ch] 28) = W0 at HB ⊢
  clear hW
  have g0 := HB.out.2.cell 0
  have g1 := HB.out.2.cell 1
  have g2 := HB.out.2.cell 2
  have g3 := HB.out.2.cell 3
  have g4 := HB.out.2.cell 4
  have g5 := HB.out.2.cell 5
  have g6 := HB.out.2.cell 6
  have g7 := HB.out.2.cell 7
  go_wp2_with fail
  refine (HC.out W0 HB.out.1).mono ?_
  intro e w1 hpost
  obtain ⟨hb, vi1, va1, vb1, vp1, vh1, vs1, rfl, hgr, hls⟩ := hpost
  obtain ⟨I1, i1, rfl, -⟩ := hgr.ins.opened
  obtain ⟨R1, r1, rfl, -⟩ := hgr.ars.opened
  obtain ⟨B1, b1, x1, x2, x3, x4, rfl, -⟩ := id hgr.blks
  clear x1 x2 x3 x4
  obtain ⟨P1, p1, x1, x2, rfl, -⟩ := hgr.pts.opened
  clear x1 x2
  obtain ⟨H1, h1, rfl, -⟩ := hgr.hds.opened
  have hbk : Below w1.heap.size w1 (w1.alloc (.cells #[.slice I1 G.ins.length i1, .int .i64 G.vars, .int .i64 G.keep, .slice R1 G.ars.length r1, .int .i64 G.sh, .slice B1 G.blks.length b1, .slice P1 G.pts.length p1, .slice H1 G.hds.length h1] 28)) := bla (Below.refl _ _) _
  have HG1 := Lib.hid (show GrIn (w1.alloc (.cells #[.slice I1 G.ins.length i1, .int .i64 G.vars, .int .i64 G.keep, .slice R1 G.ars.length r1, .int .i64 G.sh, .slice B1 G.blks.length b1, .slice P1 G.pts.length p1, .slice H1 G.hds.length h1] 28)) G _ _ _ _ _ from hgr.below hbk)
  have HS1 := Lib.hid (show LstsIn (w1.alloc (.cells #[.slice I1 G.ins.length i1, .int .i64 G.vars, .int .i64 G.keep, .slice R1 G.ars.length r1, .int .i64 G.sh, .slice B1 G.blks.length b1, .slice P1 G.pts.length p1, .slice H1 G.hds.length h1] 28)) vs1 L from hls.below hbk)
  have HX1 := Lib.hid (show Bk (w1.alloc (.cells #[.slice I1 G.ins.length i1, .int .i64 G.vars, .int .i64 G.keep, .slice R1 G.ars.length r1, .int .i64 G.sh, .slice B1 G.blks.length b1, .slice P1 G.pts.length p1, .slice H1 G.hds.length h1] 28)) w1.heap.size 28 #[.slice I1 G.ins.length i1, .int .i64 G.vars, .int .i64 G.keep, .slice R1 G.ars.length r1, .int .i64 G.sh, .slice B1 G.blks.length b1, .slice P1 G.pts.length p1, .slice H1 G.hds.length h1] from Bk.new _ _ _)
  have HB2 := Lib.hid (show Below w.heap.size w (w1.alloc (.cells #[.slice I1 G.ins.length i1, .int .i64 G.vars, .int .i64 G.keep, .slice R1 G.ars.length r1, .int .i64 G.sh, .slice B1 G.blks.length b1, .slice P1 G.pts.length p1, .slice H1 G.hds.length h1] 28)) ∧ Bk (w1.alloc (.cells #[.slice I1 G.ins.length i1, .int .i64 G.vars, .int .i64 G.keep, .slice R1 G.ars.length r1, .int .i64 G.sh, .slice B1 G.blks.length b1, .slice P1 G.pts.length p1, .slice H1 G.hds.length h1] 28)) w.heap.size 28 #[.slice Ai g.ins.length ci, .int .i64 g.vars, .int .i64 g.keep, .slice Aa g.ars.length ca, .int .i64 g.sh, .slice Ab g.blks.length cb, .slice Aq g.pts.length cp, .slice Ah g.hds.length ch] from ⟨blt (blt HB.out.1 hb) hbk, (HB.out.2.below hb).below hbk⟩)
  clear hgr hls hbk hb HB g0 g1 g2 g3 g4 g5 g6 g7
  go_upto_region 2 with fail
  obtain ⟨N1, hN⟩ : ∃ N, w1.heap.size = N := ⟨_, rfl⟩
  rw [hN] at HX1 ⊢
  generalize hW : w1.alloc (.cells #[.slice I1 G.ins.length i1, .int .i64 G.vars, .int .i64 G.keep, .slice R1 G.ars.length r1, .int .i64 G.sh, .slice B1 G.blks.length b1, .slice P1 G.pts.length p1, .slice H1 G.hds.length h1] 28) = W1 at HG1 HS1 HX1 HB2 ⊢
  clear hW hN w1
  have HB := HB2
  clear HB2
  have g0 := HB.out.2.cell 0
  have g1 := HB.out.2.cell 1
  have g2 := HB.out.2.cell 2
  have g3 := HB.out.2.cell 3
  have g4 := HB.out.2.cell 4
  have g5 := HB.out.2.cell 5
  have g6 := HB.out.2.cell 6
  have g7 := HB.out.2.cell 7
  go_wp2_with fail
  refine (HR.out W1 HB.out.1).mono ?_
  intro e w2 hpost
  obtain ⟨hb, vi2, va2, vb2, vp2, vh2, vs2, rfl, hgr, hls⟩ := hpost
  obtain ⟨I2, i2, rfl, -⟩ := hgr.ins.opened
  obtain ⟨R2, r2, rfl, -⟩ := hgr.ars.opened
  obtain ⟨B2, b2, x1, x2, x3, x4, rfl, -⟩ := id hgr.blks
  clear x1 x2 x3 x4
  obtain ⟨P2, p2, x1, x2, rfl, -⟩ := hgr.pts.opened
  clear x1 x2
  obtain ⟨H2, h2, rfl, -⟩ := hgr.hds.opened
  have hbk : Below w2.heap.size w2 (w2.alloc (.cells #[.slice I2 G.ins.length i2, .int .i64 G.vars, .int .i64 G.keep, .slice R2 G.ars.length r2, .int .i64 G.sh, .slice B2 G.blks.length b2, .slice P2 G.pts.length p2, .slice H2 G.hds.length h2] 28)) := bla (Below.refl _ _) _
  have HG2 := Lib.hid (show GrIn (w2.alloc (.cells #[.slice I2 G.ins.length i2, .int .i64 G.vars, .int .i64 G.keep, .slice R2 G.ars.length r2, .int .i64 G.sh, .slice B2 G.blks.length b2, .slice P2 G.pts.length p2, .slice H2 G.hds.length h2] 28)) G _ _ _ _ _ from hgr.below hbk)
  have HS2 := Lib.hid (show LstsIn (w2.alloc (.cells #[.slice I2 G.ins.length i2, .int .i64 G.vars, .int .i64 G.keep, .slice R2 G.ars.length r2, .int .i64 G.sh, .slice B2 G.blks.length b2, .slice P2 G.pts.length p2, .slice H2 G.hds.length h2] 28)) vs2 L from hls.below hbk)
  have HX2 := Lib.hid (show Bk (w2.alloc (.cells #[.slice I2 G.ins.length i2, .int .i64 G.vars, .int .i64 G.keep, .slice R2 G.ars.length r2, .int .i64 G.sh, .slice B2 G.blks.length b2, .slice P2 G.pts.length p2, .slice H2 G.hds.length h2] 28)) w2.heap.size 28 #[.slice I2 G.ins.length i2, .int .i64 G.vars, .int .i64 G.keep, .slice R2 G.ars.length r2, .int .i64 G.sh, .slice B2 G.blks.length b2, .slice P2 G.pts.length p2, .slice H2 G.hds.length h2] from Bk.new _ _ _)
  have HB2 := Lib.hid (show Below w.heap.size w (w2.alloc (.cells #[.slice I2 G.ins.length i2, .int .i64 G.vars, .int .i64 G.keep, .slice R2 G.ars.length r2, .int .i64 G.sh, .slice B2 G.blks.length b2, .slice P2 G.pts.length p2, .slice H2 G.hds.length h2] 28)) ∧ Bk (w2.alloc (.cells #[.slice I2 G.ins.length i2, .int .i64 G.vars, .int .i64 G.keep, .slice R2 G.ars.length r2, .int .i64 G.sh, .slice B2 G.blks.length b2, .slice P2 G.pts.length p2, .slice H2 G.hds.length h2] 28)) w.heap.size 28 #[.slice Ai g.ins.length ci, .int .i64 g.vars, .int .i64 g.keep, .slice Aa g.ars.length ca, .int .i64 g.sh, .slice Ab g.blks.length cb, .slice Aq g.pts.length cp, .slice Ah g.hds.length ch] from ⟨blt (blt HB.out.1 hb) hbk, (HB.out.2.below hb).below hbk⟩)
  have HG1b := Lib.hid ((HG1.out.below hb).below hbk)
  have HS1b := Lib.hid ((HS1.out.below hb).below hbk)
  have HX1b := Lib.hid ((HX1.out.below hb).below hbk)
  clear HG1 HS1 HX1
  clear hgr hls hbk hb HB g0 g1 g2 g3 g4 g5 g6 g7
  go_upto_region 3 with fail
  obtain ⟨N2, hN⟩ : ∃ N, w2.heap.size = N := ⟨_, rfl⟩
  rw [hN] at HX2 ⊢
  generalize hW : w2.alloc (.cells #[.slice I2 G.ins.length i2, .int .i64 G.vars, .int .i64 G.keep, .slice R2 G.ars.length r2, .int .i64 G.sh, .slice B2 G.blks.length b2, .slice P2 G.pts.length p2, .slice H2 G.hds.length h2] 28) = W2 at HG2 HS2 HX2 HB2 HG1b HS1b HX1b ⊢
  clear hW hN w2
  have HB := HB2
  clear HB2
  have c0 := HX1b.out.cell 0
  have d0 := HX2.out.cell 0
  have c1 := HX1b.out.cell 1
  have d1 := HX2.out.cell 1
  have c2 := HX1b.out.cell 2
  have d2 := HX2.out.cell 2
  have c3 := HX1b.out.cell 3
  have d3 := HX2.out.cell 3
  have c4 := HX1b.out.cell 4
  have d4 := HX2.out.cell 4
  have c5 := HX1b.out.cell 5
  have d5 := HX2.out.cell 5
  have c6 := HX1b.out.cell 6
  have d6 := HX2.out.cell 6
  have c7 := HX1b.out.cell 7
  have d7 := HX2.out.cell 7
  go_wp2_with fail
  refine (same_any G _ _ _ _ _ _ _ _ _ _ W2 HG1b.out HG2.out HL.out.1).mono ?_
  rintro e w3 ⟨rfl, hb3⟩
  have HS1 := Lib.hid (HS1b.out.below hb3)
  have HS2b := Lib.hid (HS2.out.below hb3)
  have HBf := Lib.hid (blt HB.out.1 hb3)
  clear hb3 HG1b HG2 HS1b HS2 HX1b HX2 HB c0 d0 c1 d1 c2 d2 c3 d3 c4 d4 c5 d5 c6 d6 c7 d7
  go_wp2_with fail
  refine (samelists_any L _ _ w3 HS1.out HS2b.out HL.out.2.1 HL.out.2.2).mono ?_
  rintro e w4 ⟨rfl, hb4⟩
  have HBe := Lib.hid (blt HBf.out hb4)
  clear hb4 HS1 HS2b HBf
  go_wp2
  go_ret
  exact ⟨rfl, HBe.out⟩
end Go.Proofs.YtojflhkmonicoaaGreat
namespace Go.Proofs.YtojflhkmonicoaaGreat
open Go.RowKit
set_option linter.unusedVariables false
set_option linter.unusedSimpArgs false
attribute [local go_sem] y_undef
namespace Fo
def exB : Gr.Blk := ⟨[⟨1, 0, 0, 0, 2⟩, ⟨1, 1, 0, 0, 3⟩, ⟨3, 2, 0, 1, 1⟩], 0, []⟩
def exG : Gr.G := ⟨[], 3, 3, [], 0, [exB], [], []⟩
def exC : Gr.Blk := ⟨[⟨1, 0, 0, 0, 2⟩, ⟨1, 1, 0, 0, 3⟩, ⟨1, 2, 0, 0, 5⟩], 0, []⟩
def exH : Gr.G := ⟨[], 3, 3, [], 0, [exC], [], []⟩
theorem ex_chk : Gr.chk exG = 0 := by decide +kernel
theorem ex_gr : Fo.gr exG = exH := by kernel_rfl
end Fo
theorem bk_al {w : World} {g : Nat} {t : TypeId} {cs : Array Value} (h : Bk w g t cs) (o : Obj) : Bk (w.alloc o) g t cs := h.below ((Below.refl _ _).alloc (Nat.le_refl _) o)
theorem bk_nw {w : World} {g : Nat} {t : TypeId} {cs : Array Value} (h : g = w.heap.size) : Bk (w.alloc (.cells cs t)) g t cs := by subst h; exact Bk.new w t cs
theorem ops_blk {w : World} {g : Nat} {t : TypeId} {l : List Gr.Op} (h : Bk w g t (l.flatMap opCells).toArray) : OpsIn w (.slice (some ⟨g, 0, none⟩) l.length l.length) l :=
  ⟨_, _, rfl, flat_length opCells 5 (fun _ => rfl) l, .inr ⟨g, 0, rfl, h.lt, fun j u hu => by rw [Nat.zero_add, h.cell]; simpa using hu⟩⟩
theorem nums_nl (w : World) : NumsIn w (.slice none 0 0) [] := ⟨none, 0, rfl, by simp, .inl rfl⟩
/-- The example's graph in memory. -/
def foW (w : World) : World := ((w.alloc (.cells #[.int .i64 1, .int .i64 0, .int .i64 0, .int .i64 0, .int .i64 2, .int .i64 1, .int .i64 1, .int .i64 0, .int .i64 0, .int .i64 3, .int .i64 3, .int .i64 2, .int .i64 0, .int .i64 1, .int .i64 1] 42)).alloc
  (.cells #[.slice (some ⟨w.heap.size, 0, none⟩) 3 3, .int .i64 0, .slice none 0 0] 40)).alloc (.cells #[.slice none 0 0, .int .i64 3, .int .i64 3, .slice none 0 0, .int .i64 0, .slice (some ⟨w.heap.size + 1, 0, none⟩) 1 1, .slice none 0 0, .slice none 0 0] 28)
theorem foW_below (w : World) : Below w.heap.size w (foW w) := bla (bla (bla (Below.refl _ _) _) _) _
theorem foW_box (w : World) : Bk (foW w) (w.heap.size + 1 + 1) 28 #[.slice none 0 0, .int .i64 3, .int .i64 3, .slice none 0 0, .int .i64 0, .slice (some ⟨w.heap.size + 1, 0, none⟩) 1 1, .slice none 0 0, .slice none 0 0] := bk_nw (by simp)
theorem foW_in (w : World) : GrIn (foW w) Fo.exG (.slice none 0 0) (.slice none 0 0) (.slice (some ⟨w.heap.size + 1, 0, none⟩) 1 1) (.slice none 0 0) (.slice none 0 0) := by
  have hB : Bk (foW w) (w.heap.size + 1) 40 #[.slice (some ⟨w.heap.size, 0, none⟩) 3 3, .int .i64 0, .slice none 0 0] := bk_al (bk_nw (by simp)) _
  have hO : OpsIn (foW w) (.slice (some ⟨w.heap.size, 0, none⟩) 3 3) Fo.exB.ops := ops_blk (l := Fo.exB.ops) (t := 42) (bk_al (bk_al (Bk.new w _ _) _) _)
  refine ⟨RowIn.nil _ 3, RowIn.nil _ 2, ⟨_, 1, fun _ => some ⟨w.heap.size, 0, none⟩, fun _ => none, fun _ => 3, fun _ => 0, rfl, fun i hi => ?_⟩, ⟨none, 0, rfl, fun i hi => absurd hi (Nat.not_lt_zero _)⟩, RowIn.nil _ 2⟩
  obtain rfl : i = 0 := Nat.lt_one_iff.1 hi
  exact ⟨_, 0, rfl, hB.lt, hB.cell 0, hB.cell 1, hB.cell 2, hO, nums_nl _⟩
theorem fo_fit : Gr.Fit Fo.exG := by
  refine ⟨by decide, by decide, by decide, by decide, by decide, fun b hb => ?_, fun q hq => ?_, by decide⟩
  · obtain rfl : b = Fo.exB := List.mem_singleton.1 hb
    decide
  · cases hq
set_option maxRecDepth 100000 in
set_option maxHeartbeats 4000000 in
theorem awake_any (w : World) : Calls Tryz.prog 7 #[] w fun e w' => e = .returned (.bool true) ∧ Below w.heap.size w w' := by
  have HC := Lib.hid (foldg_ans Fo.exG _ _ _ _ _ (foW w) (foW_in w) fo_fit)
  have HB := Lib.hid (foW_below w)
  have HP := Lib.hid (foW_box w)
  go_enter Tryz.func7, Tryz.ntmps7
  go_upto_region 2 with fail
  generalize hW : World.alloc _ (.cells #[.slice none 0 0, .int .i64 3, .int .i64 3, .slice none 0 0, .int .i64 0, .slice (some ⟨w.heap.size + 1, 0, none⟩) 1 1, .slice none 0 0, .slice none 0 0] 28) = W0
  obtain rfl : foW w = W0 := hW
  have g0 := HP.out.cell 0
  have g1 := HP.out.cell 1
  have g2 := HP.out.cell 2
  have g3 := HP.out.cell 3
  have g4 := HP.out.cell 4
  have g5 := HP.out.cell 5
  have g6 := HP.out.cell 6
  have g7 := HP.out.cell 7
  generalize hW : foW w = W0 at HC HB g0 g1 g2 g3 g4 g5 g6 g7 ⊢
  go_wp2_with fail
  refine HC.out.mono ?_
  intro e w1 hpost
  obtain ⟨hb, ⟨h, _⟩ | ⟨_, vi, va, vb, vp, vh, vs, he, hg, hl⟩⟩ := hpost
  · exact absurd Fo.ex_chk h
  subst he
  rw [Fo.ex_gr] at hg
  obtain ⟨Ai, ci, rfl, -⟩ := hg.ins.opened
  obtain ⟨Aa, ca, rfl, -⟩ := hg.ars.opened
  obtain ⟨Ap, cp, _, _, rfl, -⟩ := hg.pts.opened
  obtain ⟨Ah, ch, rfl, -⟩ := hg.hds.opened
  obtain ⟨Al, cl, rfl, -⟩ := id hl
  obtain ⟨Ab, cb, a1, a2, c1, c2, rfl, hbl⟩ := hg.blks
  obtain ⟨b, off, rfl, hlt, x0, x1, x2, hop, -⟩ := hbl 0 (by decide)
  obtain ⟨Ao, co, eo, hcs⟩ := hop.opened
  injection eo with eo _ _
  obtain ⟨b2, off2, e2, hlt2, y0, y1, y2, y3, y4⟩ := hcs 2 (by decide)
  rw [eo, e2] at x0
  have X0 := Lib.hid (show w1.cell? ⟨b, off, none⟩ = some (.slice (some ⟨b2, off2, none⟩) 3 (c1 0)) from x0)
  have Y0 := Lib.hid (show w1.cell? ⟨b2, off2 + 10, none⟩ = some (.int .i64 1) ∧ w1.cell? ⟨b2, off2 + 10 + 1, none⟩ = some (.int .i64 2) ∧ w1.cell? ⟨b2, off2 + 10 + 2, none⟩ = some (.int .i64 0) ∧ w1.cell? ⟨b2, off2 + 10 + 3, none⟩ = some (.int .i64 0) ∧ w1.cell? ⟨b2, off2 + 10 + 4, none⟩ = some (.int .i64 5) from ⟨y0, y1, y2, y3, y4⟩)
  have HBe := Lib.hid (blt HB.out hb)
  have hll : (Fo.ones Fo.exG.blks.length).length = 1 := by decide
  rw [hll]
  clear hg hl hbl hop hcs eo e2 x0 x1 x2 y0 y1 y2 y3 y4 hb hll g0 g1 g2 g3 g4 g5 g6 g7 HC HP
  generalize hO : (Value.agg #[.slice Ai Fo.exH.ins.length ci, .int .i64 Fo.exG.vars, .int .i64 Fo.exG.keep, .slice Aa Fo.exH.ars.length ca, .int .i64 Fo.exG.sh, .slice (some ⟨b, off, none⟩) Fo.exH.blks.length cb, .slice Ap Fo.exH.pts.length cp, .slice Ah Fo.exH.hds.length ch]) = v
  obtain rfl : (Value.agg #[.slice Ai 0 ci, .int .i64 3, .int .i64 3, .slice Aa 0 ca, .int .i64 0, .slice (some ⟨b, off, none⟩) 1 cb, .slice Ap 0 cp, .slice Ah 0 ch]) = v := hO
  have HX := Lib.hid (Bk.new w1 28 #[.slice Ai 0 ci, .int .i64 3, .int .i64 3, .slice Aa 0 ca, .int .i64 0, .slice (some ⟨b, off, none⟩) 1 cb, .slice Ap 0 cp, .slice Ah 0 ch])
  have hbk : Below w1.heap.size w1 (w1.alloc (.cells #[.slice Ai 0 ci, .int .i64 3, .int .i64 3, .slice Aa 0 ca, .int .i64 0, .slice (some ⟨b, off, none⟩) 1 cb, .slice Ap 0 cp, .slice Ah 0 ch] 28)) := bla (Below.refl _ _) _
  have x0 := (hbk.cell (p := ⟨b, off, none⟩) hlt).trans X0.out
  have y0 := (hbk.cell (p := ⟨b2, off2 + 10, none⟩) hlt2).trans Y0.out.1
  have y1 := (hbk.cell (p := ⟨b2, off2 + 10 + 1, none⟩) hlt2).trans Y0.out.2.1
  have y2 := (hbk.cell (p := ⟨b2, off2 + 10 + 2, none⟩) hlt2).trans Y0.out.2.2.1
  have y3 := (hbk.cell (p := ⟨b2, off2 + 10 + 3, none⟩) hlt2).trans Y0.out.2.2.2.1
  have y4 := (hbk.cell (p := ⟨b2, off2 + 10 + 4, none⟩) hlt2).trans Y0.out.2.2.2.2
  have HBf := Lib.hid (blt HBe.out hbk)
  clear hbk X0 Y0 HBe HB
  go_upto_region 3 with fail
  obtain ⟨F, hF⟩ : ∃ F, w1.heap.size = F := ⟨_, rfl⟩
  rw [hF] at HX ⊢
  generalize hW2 : w1.alloc (.cells #[.slice Ai 0 ci, .int .i64 3, .int .i64 3, .slice Aa 0 ca, .int .i64 0, .slice (some ⟨b, off, none⟩) 1 cb, .slice Ap 0 cp, .slice Ah 0 ch] 28) = W2 at HX HBf x0 y0 y1 y2 y3 y4 ⊢
  clear hW2 hF hlt hlt2
  have f5 := HX.out.cell 5
  go_wp2
  go_ret
  exact ⟨rfl, HBf.out⟩
end Go.Proofs.YtojflhkmonicoaaGreat
namespace Go.Proofs.YtojflhkmonicoaaGreat
open Go.RowKit
set_option linter.unusedVariables false
set_option linter.unusedSimpArgs false
attribute [local go_sem] y_undef
namespace Fo
def ans (g : Gr.G) : Gr.G := if Gr.chk g = 0 then Fo.gr g else Gr.gz
def lst (g : Gr.G) : List (List Int) := if Gr.chk g = 0 then Fo.ones g.blks.length else []
end Fo
theorem foldans_pass {g : Gr.G} {w : World} {e : Ending} {w' : World} (h : FoldAns g w e w') : PassAns (Fo.ans g) (Fo.lst g) (Gr.chk g) w e w' := by
  obtain ⟨hb, ⟨h0, rfl⟩ | ⟨h0, vi, va, vb, vp, vh, vs, rfl, hg, hl⟩⟩ := h
  · unfold Fo.ans Fo.lst
    rw [if_neg h0, if_neg h0]
    exact ⟨hb, _, _, _, _, _, _, rfl, gz_in w', lz_in w'⟩
  · unfold Fo.ans Fo.lst
    rw [if_pos h0, if_pos h0]
    exact ⟨hb, _, _, _, _, _, _, by rw [h0]; rfl, hg, hl⟩
theorem blk_nx_len {b : Gr.Blk} (h : b.next.length ≤ 2) : (Fo.blk b).next.length ≤ 2 := by
  unfold Fo.blk
  simp only
  split
  · split
    · simp
    · exact h
  · exact h
theorem ans_fit {g : Gr.G} : Gr.Fit (Fo.ans g) := by
  unfold Fo.ans
  by_cases h0 : Gr.chk g = 0
  · rw [if_pos h0]
    have ho := Fo.okg_of h0
    obtain ⟨V, hV, -, -⟩ := okv_of h0
    refine ⟨by have := ho.ins; show g.ins.length ≤ _; omega, by have := ho.ars; show g.ars.length ≤ _; omega, ?_, by have := ho.pts; show g.pts.length ≤ _; omega, by have := ho.hds; show g.hds.length ≤ _; omega, fun b hb => ?_, fun q hq => ?_, by show _ ≤ g.vars; omega⟩
    · show (g.blks.map Fo.blk).length ≤ _
      rw [List.length_map]
      have := ho.blks
      omega
    · obtain ⟨b', hb', rfl⟩ := List.mem_map.1 hb
      obtain ⟨k, hk, rfl⟩ := List.getElem_of_mem hb'
      have hq := ho.blk k hk
      rw [show g.blks.getD k Gr.blk0 = g.blks[k] by simp [List.getD, List.getElem?_eq_getElem hk]] at hq
      rw [blk_ops_len]
      have h1 := hq.len
      have h2 := blk_nx_len hq.nx
      exact ⟨by omega, by omega⟩
    · obtain ⟨k, hk, rfl⟩ := List.getElem_of_mem (show q ∈ g.pts from hq)
      have := ho.pt k hk
      rw [show g.pts.getD k [] = g.pts[k] by simp [List.getD, List.getElem?_eq_getElem hk]] at this
      omega
  · rw [if_neg h0]
    exact Gr.gz_fit
theorem lst_fit {g : Gr.G} : (Fo.lst g).length ≤ maxLen ∧ ∀ q ∈ Fo.lst g, q.length ≤ maxLen := by
  unfold Fo.lst
  by_cases h0 : Gr.chk g = 0
  · rw [if_pos h0]
    have ho := (Fo.okg_of h0).blks
    refine ⟨by unfold Fo.ones maxLen; simp; omega, fun q hq => ?_⟩
    unfold Fo.ones at hq
    obtain ⟨i, _, rfl⟩ := List.mem_map.1 hq
    unfold maxLen
    simp
  · rw [if_neg h0]
    exact ⟨by unfold maxLen; simp, fun q hq => by cases hq⟩
set_option maxHeartbeats 4000000 in
theorem raw_law (g : Gr.G) (vi va vb vp vh : Value) (w : World) (hi : GrIn w g vi va vb vp vh) (hp : PtsIn w vp g.pts) (hf : Gr.Fit g) :
    Calls Tryz.prog 3 #[.agg #[vi, .int .i64 g.vars, .int .i64 g.keep, va, .int .i64 g.sh, vb, vp, vh]] w fun e w' => e = .returned (.bool true) ∧ Below w.heap.size w w' := by
  have HA := Lib.hid fun (W : World) (hW : Below w.heap.size w W) => agree_any g (Fo.ans g) (Fo.lst g) (Gr.chk g) vi va vb vp vh W (hi.below hW)
    (fun U hU => (foldg_ans g vi va vb vp vh U (hi.below (blt hW hU)) hf).mono fun _ _ h => foldans_pass h)
    (fun U hU => (rfoldg_any g vi va vb vp vh U (hi.below (blt hW hU)) (ptsin_below hp (blt hW hU)) hf).mono fun _ _ h => foldans_pass h)
    ans_fit lst_fit.1 lst_fit.2
  have HLt := Lib.hid fun (W : World) (hW : Below w.heap.size w W) => light_any g vi va vb vp vh W (hi.below hW) hf
  obtain ⟨Ai, ci, rfl, -⟩ := hi.ins.opened
  obtain ⟨Aa, ca, rfl, -⟩ := hi.ars.opened
  obtain ⟨Ab, cb, a1, a2, k1, k2, rfl, -⟩ := id hi.blks
  obtain ⟨Aq, cp, ap, kp, rfl, -⟩ := hi.pts.opened
  obtain ⟨Ah, ch, rfl, -⟩ := hi.hds.opened
  clear hi hp hf
  have HB := Lib.hid (show Below w.heap.size w (w.alloc (.cells #[.slice Ai g.ins.length ci, .int .i64 g.vars, .int .i64 g.keep, .slice Aa g.ars.length ca, .int .i64 g.sh, .slice Ab g.blks.length cb, .slice Aq g.pts.length cp, .slice Ah g.hds.length ch] 28)) ∧ Bk (w.alloc (.cells #[.slice Ai g.ins.length ci, .int .i64 g.vars, .int .i64 g.keep, .slice Aa g.ars.length ca, .int .i64 g.sh, .slice Ab g.blks.length cb, .slice Aq g.pts.length cp, .slice Ah g.hds.length ch] 28)) w.heap.size 28 #[.slice Ai g.ins.length ci, .int .i64 g.vars, .int .i64 g.keep, .slice Aa g.ars.length ca, .int .i64 g.sh, .slice Ab g.blks.length cb, .slice Aq g.pts.length cp, .slice Ah g.hds.length ch] from ⟨bla (Below.refl _ _) _, Bk.new _ _ _⟩)
  go_enter Tryz.func3, Tryz.ntmps3
  go_upto_region 1 with fail
  generalize hW : w.alloc (.cells #[.slice Ai g.ins.length ci, .int .i64 g.vars, .int .i64 g.keep, .slice Aa g.ars.length ca, .int .i64 g.sh, .slice Ab g.blks.length cb, .slice Aq g.pts.length cp, .slice Ah g.hds.length ch] 28) = W0 at HB ⊢
  clear hW
  have g0 := HB.out.2.cell 0
  have g1 := HB.out.2.cell 1
  have g2 := HB.out.2.cell 2
  have g3 := HB.out.2.cell 3
  have g4 := HB.out.2.cell 4
  have g5 := HB.out.2.cell 5
  have g6 := HB.out.2.cell 6
  have g7 := HB.out.2.cell 7
  go_wp2_with fail
  refine (HLt.out W0 HB.out.1).mono ?_
  rintro e w1 ⟨b, rfl, hb1⟩
  have HB1 := Lib.hid (show Below w.heap.size w w1 ∧ Bk w1 w.heap.size _ _ from ⟨blt HB.out.1 hb1, HB.out.2.below hb1⟩)
  clear hb1 HB HLt g0 g1 g2 g3 g4 g5 g6 g7
  have g0 := HB1.out.2.cell 0
  have g1 := HB1.out.2.cell 1
  have g2 := HB1.out.2.cell 2
  have g3 := HB1.out.2.cell 3
  have g4 := HB1.out.2.cell 4
  have g5 := HB1.out.2.cell 5
  have g6 := HB1.out.2.cell 6
  have g7 := HB1.out.2.cell 7
  cases b with
  | true =>
    go_wp2_with fail
    refine (HA.out w1 HB1.out.1).mono ?_
    rintro e w2 ⟨rfl, hb2⟩
    have HB2 := Lib.hid (blt HB1.out.1 hb2)
    clear hb2 HB1 HA g0 g1 g2 g3 g4 g5 g6 g7
    go_wp2_with fail
    refine (awake_any w2).mono ?_
    rintro e w3 ⟨rfl, hb3⟩
    have HB3 := Lib.hid (blt HB2.out hb3)
    clear hb3 HB2
    go_wp2
    go_ret
    exact ⟨rfl, HB3.out⟩
  | false =>
    have HB2 := Lib.hid HB1.out.1
    clear HB1 HA g0 g1 g2 g3 g4 g5 g6 g7
    go_wp2_with fail
    refine (awake_any w1).mono ?_
    rintro e w3 ⟨rfl, hb3⟩
    have HB3 := Lib.hid (blt HB2.out hb3)
    clear hb3 HB2
    go_wp2
    go_ret
    exact ⟨rfl, HB3.out⟩
end Go.Proofs.YtojflhkmonicoaaGreat
