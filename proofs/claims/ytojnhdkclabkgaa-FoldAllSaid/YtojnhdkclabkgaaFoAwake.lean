/- Layer 14's awake: the example of the chapter. No condition. -/
import Derived.Test.YtojnhdkclabkgaaFoEnd
import Derived.Test.YtojnhdkclabkgaaGrOwn
namespace Go.Proofs.Ytojnhdkclabkgaa
open Go.RowKit
set_option linter.unusedVariables false
set_option linter.unusedSimpArgs false
attribute [local go_sem] y_undef
namespace Fo
def exB : Gr.Blk := ⟨[⟨1, 0, 0, 0, 2⟩, ⟨1, 1, 0, 0, 3⟩, ⟨3, 2, 0, 1, 1⟩], 0, []⟩
def exG : Gr.G := ⟨[], 3, 3, [], 0, [exB], [], []⟩
def exC : Gr.Blk := ⟨[⟨1, 0, 0, 0, 2⟩, ⟨1, 1, 0, 0, 3⟩, ⟨1, 2, 0, 0, 5⟩], 0, []⟩
def exH : Gr.G := ⟨[], 3, 3, [], 0, [exC], [], []⟩
theorem ex_chk : Gr.chk exG = 0 := by decide +kernel
theorem ex_gr : Fo.gr exG = exH := by kernel_rfl
end Fo
theorem bk_al {w : World} {g : Nat} {t : TypeId} {cs : Array Value} (h : Bk w g t cs) (o : Obj) : Bk (w.alloc o) g t cs := h.below ((Below.refl _ _).alloc (Nat.le_refl _) o)
theorem bk_nw {w : World} {g : Nat} {t : TypeId} {cs : Array Value} (h : g = w.heap.size) : Bk (w.alloc (.cells cs t)) g t cs := by subst h; exact Bk.new w t cs
theorem ops_blk {w : World} {g : Nat} {t : TypeId} {l : List Gr.Op} (h : Bk w g t (l.flatMap opCells).toArray) : OpsIn w (.slice (some ⟨g, 0, none⟩) l.length l.length) l :=
  ⟨_, _, rfl, flat_length opCells 5 (fun _ => rfl) l, .inr ⟨g, 0, rfl, h.lt, fun j u hu => by rw [Nat.zero_add, h.cell]; simpa using hu⟩⟩
theorem nums_nl (w : World) : NumsIn w (.slice none 0 0) [] := ⟨none, 0, rfl, by simp, .inl rfl⟩
/-- The example's graph in memory. -/
def foW (w : World) : World := ((w.alloc (.cells #[.int .i64 1, .int .i64 0, .int .i64 0, .int .i64 0, .int .i64 2, .int .i64 1, .int .i64 1, .int .i64 0, .int .i64 0, .int .i64 3, .int .i64 3, .int .i64 2, .int .i64 0, .int .i64 1, .int .i64 1] 27)).alloc
  (.cells #[.slice (some ⟨w.heap.size, 0, none⟩) 3 3, .int .i64 0, .slice none 0 0] 34)).alloc (.cells #[.slice none 0 0, .int .i64 3, .int .i64 3, .slice none 0 0, .int .i64 0, .slice (some ⟨w.heap.size + 1, 0, none⟩) 1 1, .slice none 0 0, .slice none 0 0] 40)
theorem foW_below (w : World) : Below w.heap.size w (foW w) := bla (bla (bla (Below.refl _ _) _) _) _
theorem foW_box (w : World) : Bk (foW w) (w.heap.size + 1 + 1) 40 #[.slice none 0 0, .int .i64 3, .int .i64 3, .slice none 0 0, .int .i64 0, .slice (some ⟨w.heap.size + 1, 0, none⟩) 1 1, .slice none 0 0, .slice none 0 0] := bk_nw (by simp)
theorem foW_in (w : World) : GrIn (foW w) Fo.exG (.slice none 0 0) (.slice none 0 0) (.slice (some ⟨w.heap.size + 1, 0, none⟩) 1 1) (.slice none 0 0) (.slice none 0 0) := by
  have hB : Bk (foW w) (w.heap.size + 1) 34 #[.slice (some ⟨w.heap.size, 0, none⟩) 3 3, .int .i64 0, .slice none 0 0] := bk_al (bk_nw (by simp)) _
  have hO : OpsIn (foW w) (.slice (some ⟨w.heap.size, 0, none⟩) 3 3) Fo.exB.ops := ops_blk (l := Fo.exB.ops) (t := 27) (bk_al (bk_al (Bk.new w _ _) _) _)
  refine ⟨RowIn.nil _ 3, RowIn.nil _ 2, ⟨_, 1, fun _ => some ⟨w.heap.size, 0, none⟩, fun _ => none, fun _ => 3, fun _ => 0, rfl, fun i hi => ?_⟩, ⟨none, 0, rfl, fun i hi => absurd hi (Nat.not_lt_zero _)⟩, RowIn.nil _ 2⟩
  obtain rfl : i = 0 := Nat.lt_one_iff.1 hi
  exact ⟨_, 0, rfl, hB.lt, hB.cell 0, hB.cell 1, hB.cell 2, hO, nums_nl _⟩
theorem fo_fit : Gr.Fit Fo.exG := by
  refine ⟨by decide, by decide, by decide, by decide, by decide, fun b hb => ?_, fun q hq => ?_, by decide⟩
  · obtain rfl : b = Fo.exB := List.mem_singleton.1 hb
    decide
  · cases hq
set_option maxRecDepth 100000 in
set_option maxHeartbeats 4000000 in
theorem awake_any (w : World) : Calls Try.prog 10 #[] w fun e w' => e = .returned (.bool true) ∧ Below w.heap.size w w' := by
  have HC := Lib.hid (foldg_ans Fo.exG _ _ _ _ _ (foW w) (foW_in w) fo_fit)
  have HB := Lib.hid (foW_below w)
  have HP := Lib.hid (foW_box w)
  go_enter Try.func10, Try.ntmps10
  go_upto_region 2 with fail
  generalize hW : World.alloc _ (.cells #[.slice none 0 0, .int .i64 3, .int .i64 3, .slice none 0 0, .int .i64 0, .slice (some ⟨w.heap.size + 1, 0, none⟩) 1 1, .slice none 0 0, .slice none 0 0] 40) = W0
  obtain rfl : foW w = W0 := hW
  have g0 := HP.out.cell 0
  have g1 := HP.out.cell 1
  have g2 := HP.out.cell 2
  have g3 := HP.out.cell 3
  have g4 := HP.out.cell 4
  have g5 := HP.out.cell 5
  have g6 := HP.out.cell 6
  have g7 := HP.out.cell 7
  generalize hW : foW w = W0 at HC HB g0 g1 g2 g3 g4 g5 g6 g7 ⊢
  go_wp2_with fail
  refine HC.out.mono ?_
  intro e w1 hpost
  obtain ⟨hb, ⟨h, _⟩ | ⟨_, vi, va, vb, vp, vh, vs, he, hg, hl⟩⟩ := hpost
  · exact absurd Fo.ex_chk h
  subst he
  rw [Fo.ex_gr] at hg
  obtain ⟨Ai, ci, rfl, -⟩ := hg.ins.opened
  obtain ⟨Aa, ca, rfl, -⟩ := hg.ars.opened
  obtain ⟨Ap, cp, _, _, rfl, -⟩ := hg.pts.opened
  obtain ⟨Ah, ch, rfl, -⟩ := hg.hds.opened
  obtain ⟨Al, cl, rfl, -⟩ := id hl
  obtain ⟨Ab, cb, a1, a2, c1, c2, rfl, hbl⟩ := hg.blks
  obtain ⟨b, off, rfl, hlt, x0, x1, x2, hop, -⟩ := hbl 0 (by decide)
  obtain ⟨Ao, co, eo, hcs⟩ := hop.opened
  injection eo with eo _ _
  obtain ⟨b2, off2, e2, hlt2, y0, y1, y2, y3, y4⟩ := hcs 2 (by decide)
  rw [eo, e2] at x0
  have X0 := Lib.hid (show w1.cell? ⟨b, off, none⟩ = some (.slice (some ⟨b2, off2, none⟩) 3 (c1 0)) from x0)
  have Y0 := Lib.hid (show w1.cell? ⟨b2, off2 + 10, none⟩ = some (.int .i64 1) ∧ w1.cell? ⟨b2, off2 + 10 + 1, none⟩ = some (.int .i64 2) ∧ w1.cell? ⟨b2, off2 + 10 + 2, none⟩ = some (.int .i64 0) ∧ w1.cell? ⟨b2, off2 + 10 + 3, none⟩ = some (.int .i64 0) ∧ w1.cell? ⟨b2, off2 + 10 + 4, none⟩ = some (.int .i64 5) from ⟨y0, y1, y2, y3, y4⟩)
  have HBe := Lib.hid (blt HB.out hb)
  have hll : (Fo.ones Fo.exG.blks.length).length = 1 := by decide
  rw [hll]
  clear hg hl hbl hop hcs eo e2 x0 x1 x2 y0 y1 y2 y3 y4 hb hll g0 g1 g2 g3 g4 g5 g6 g7 HC HP
  generalize hO : (Value.agg #[.slice Ai Fo.exH.ins.length ci, .int .i64 Fo.exG.vars, .int .i64 Fo.exG.keep, .slice Aa Fo.exH.ars.length ca, .int .i64 Fo.exG.sh, .slice (some ⟨b, off, none⟩) Fo.exH.blks.length cb, .slice Ap Fo.exH.pts.length cp, .slice Ah Fo.exH.hds.length ch]) = v
  obtain rfl : (Value.agg #[.slice Ai 0 ci, .int .i64 3, .int .i64 3, .slice Aa 0 ca, .int .i64 0, .slice (some ⟨b, off, none⟩) 1 cb, .slice Ap 0 cp, .slice Ah 0 ch]) = v := hO
  have HX := Lib.hid (Bk.new w1 40 #[.slice Ai 0 ci, .int .i64 3, .int .i64 3, .slice Aa 0 ca, .int .i64 0, .slice (some ⟨b, off, none⟩) 1 cb, .slice Ap 0 cp, .slice Ah 0 ch])
  have hbk : Below w1.heap.size w1 (w1.alloc (.cells #[.slice Ai 0 ci, .int .i64 3, .int .i64 3, .slice Aa 0 ca, .int .i64 0, .slice (some ⟨b, off, none⟩) 1 cb, .slice Ap 0 cp, .slice Ah 0 ch] 40)) := bla (Below.refl _ _) _
  have x0 := (hbk.cell (p := ⟨b, off, none⟩) hlt).trans X0.out
  have y0 := (hbk.cell (p := ⟨b2, off2 + 10, none⟩) hlt2).trans Y0.out.1
  have y1 := (hbk.cell (p := ⟨b2, off2 + 10 + 1, none⟩) hlt2).trans Y0.out.2.1
  have y2 := (hbk.cell (p := ⟨b2, off2 + 10 + 2, none⟩) hlt2).trans Y0.out.2.2.1
  have y3 := (hbk.cell (p := ⟨b2, off2 + 10 + 3, none⟩) hlt2).trans Y0.out.2.2.2.1
  have y4 := (hbk.cell (p := ⟨b2, off2 + 10 + 4, none⟩) hlt2).trans Y0.out.2.2.2.2
  have HBf := Lib.hid (blt HBe.out hbk)
  clear hbk X0 Y0 HBe HB
  go_upto_region 3 with fail
  obtain ⟨F, hF⟩ : ∃ F, w1.heap.size = F := ⟨_, rfl⟩
  rw [hF] at HX ⊢
  generalize hW2 : w1.alloc (.cells #[.slice Ai 0 ci, .int .i64 3, .int .i64 3, .slice Aa 0 ca, .int .i64 0, .slice (some ⟨b, off, none⟩) 1 cb, .slice Ap 0 cp, .slice Ah 0 ch] 40) = W2 at HX HBf x0 y0 y1 y2 y3 y4 ⊢
  clear hW2 hF hlt hlt2
  have f5 := HX.out.cell 5
  go_wp2
  go_ret
  exact ⟨rfl, HBf.out⟩
end Go.Proofs.Ytojnhdkclabkgaa
