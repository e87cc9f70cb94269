/- What Fold answers, as a graph in memory. No condition. -/
import Derived.Test.YtojflhkmonicoaaGreatFoGraph
namespace Go.Proofs.YtojflhkmonicoaaGreat
open Go.RowKit Go.Maps
set_option linter.unusedVariables false
def slA : Value → Option Addr | .slice A _ _ => A | _ => none
def slC : Value → Nat | .slice _ _ c => c | _ => 0
theorem row_eta {size n : Nat} {u : World} {v : Value} {xs : List Value} (h : RowIn size u v n xs) : v = .slice (slA v) n (slC v) := by
  obtain ⟨A, c, rfl, _⟩ := h
  rfl
theorem ones_at {n i : Nat} (hi : i < n) : (Fo.ones n).getD i [] = [(i : Int)] := by
  unfold Fo.ones
  rw [List.getD, List.getElem?_map, List.getElem?_range hi]
  rfl
section
variable {g : Gr.G} {w u : World} {gc zc fc : Array Value} {F P Q S : Nat} {vi va vh : Value} {f fs : Nat → Value} {fb : Nat → Value × Int × Value}
theorem F2.blks_in (h : F2 g w gc zc fc F P Q S vi va vh f fb fs g.pts.length g.blks.length g.blks.length g.blks.length u) (c : Nat) : BlksIn u (.slice (some ⟨Q, 0, none⟩) g.blks.length c) (g.blks.map Fo.blk) := by
  refine ⟨some ⟨Q, 0, none⟩, c, fun i => slA (fb i).1, fun i => slA (fb i).2.2, fun i => slC (fb i).1, fun i => slC (fb i).2.2, by rw [List.length_map], fun i hi => ?_⟩
  rw [List.length_map] at hi
  have hg : (g.blks.map Fo.blk).getD i Gr.blk0 = Fo.blk (g.blks.getD i Gr.blk0) := by
    simp [List.getD, List.getElem?_eq_getElem hi]
  rw [hg]
  obtain ⟨⟨h1, hp1⟩, hc, h2, hp2⟩ := h.blks i hi
  have hq := bkRow_cell g.blks.length fb hi
  refine ⟨Q, 0, rfl, h.qr.lt, ?_, ?_, ?_, ?_, ?_⟩
  · rw [Nat.zero_add, h.qr.cell, hq.1, ← row_eta hp1.1]
  · rw [Nat.zero_add, h.qr.cell, hq.2.1, hc]
  · rw [Nat.zero_add, h.qr.cell, hq.2.2, ← row_eta hp2.1]
  · rw [← row_eta hp1.1]; exact hp1.1
  · rw [← row_eta hp2.1]; exact hp2.1
theorem F2.pts_in (h : F2 g w gc zc fc F P Q S vi va vh f fb fs g.pts.length g.blks.length g.blks.length g.blks.length u) (c : Nat) : LstsIn u (.slice (some ⟨P, 0, none⟩) g.pts.length c) g.pts :=
  ⟨_, c, rfl, fun i hi => ⟨P, 0, f i, rfl, h.pr.lt, by rw [Nat.zero_add, h.pr.cell, slRow_cell _ _ hi], (h.pts i hi).1⟩⟩
theorem F2.same_in (h : F2 g w gc zc fc F P Q S vi va vh f fb fs g.pts.length g.blks.length g.blks.length g.blks.length u) (c : Nat) : LstsIn u (.slice (some ⟨S, 0, none⟩) g.blks.length c) (Fo.ones g.blks.length) := by
  have hl : (Fo.ones g.blks.length).length = g.blks.length := by unfold Fo.ones; simp
  refine ⟨some ⟨S, 0, none⟩, c, by rw [hl], fun i hi => ?_⟩
  rw [hl] at hi
  obtain ⟨hi', hp⟩ := h.same i hi
  refine ⟨S, 0, fs i, rfl, h.sr.lt, by rw [Nat.zero_add, h.sr.cell, slRow_cell _ _ hi], ?_⟩
  rw [ones_at hi]
  exact hp.1
theorem F2.gr_in (h : F2 g w gc zc fc F P Q S vi va vh f fb fs g.pts.length g.blks.length g.blks.length g.blks.length u) (c1 c2 : Nat) : GrIn u (Fo.gr g) vi va (.slice (some ⟨Q, 0, none⟩) g.blks.length c1) (.slice (some ⟨P, 0, none⟩) g.pts.length c2) vh :=
  ⟨h.ins.1, h.ars.1, h.blks_in c1, h.pts_in c2, h.hds.1⟩
end
/-- A graph whose lists lie in blocks from base on. -/
structure GrFrom (base : Nat) (vi va vb vp vh : Value) : Prop where
  ins : ∀ A n c, vi = .slice A n c → ∀ g o f, A = some ⟨g, o, f⟩ → base ≤ g
  ars : ∀ A n c, va = .slice A n c → ∀ g o f, A = some ⟨g, o, f⟩ → base ≤ g
  blks : ∀ A n c, vb = .slice A n c → ∀ g o f, A = some ⟨g, o, f⟩ → base ≤ g
  pts : ∀ A n c, vp = .slice A n c → ∀ g o f, A = some ⟨g, o, f⟩ → base ≤ g
  hds : ∀ A n c, vh = .slice A n c → ∀ g o f, A = some ⟨g, o, f⟩ → base ≤ g
/-- What Fold answers, in short. -/
def FoldAns (g : Gr.G) (w : World) (e : Ending) (w' : World) : Prop :=
  Below w.heap.size w w' ∧ ((Gr.chk g ≠ 0 ∧ e = .returned (.tuple #[.agg #[.slice none 0 0, .int .i64 0, .int .i64 0, .slice none 0 0, .int .i64 0, .slice none 0 0, .slice none 0 0, .slice none 0 0], .slice none 0 0, .int .i64 (Gr.chk g)])) ∨
    (Gr.chk g = 0 ∧ ∃ vi va vb vp vh vs, e = .returned (.tuple #[.agg #[vi, .int .i64 g.vars, .int .i64 g.keep, va, .int .i64 g.sh, vb, vp, vh], vs, .int .i64 0]) ∧ GrIn w' (Fo.gr g) vi va vb vp vh ∧ LstsIn w' vs (Fo.ones g.blks.length)))
theorem foldg_ans (g : Gr.G) (vi va vb vp vh : Value) (w : World) (hi : GrIn w g vi va vb vp vh) (hf : Gr.Fit g) :
    Calls Tryz.prog 9 #[.agg #[vi, .int .i64 g.vars, .int .i64 g.keep, va, .int .i64 g.sh, vb, vp, vh]] w (FoldAns g w) := by
  refine (foldg_any g vi va vb vp vh w hi hf).mono ?_
  rintro e w' (⟨h0, rfl, hb⟩ | ⟨h0, gc, zc, fc, F, P, Q, S, c1, c2, c3, vi', va', vh', f, fs, fb, rfl, h⟩)
  · exact ⟨hb, .inl ⟨h0, rfl⟩⟩
  · exact ⟨h.low, .inr ⟨h0, _, _, _, _, _, _, rfl, h.gr_in c1 c2, h.same_in c3⟩⟩
end Go.Proofs.YtojflhkmonicoaaGreat
