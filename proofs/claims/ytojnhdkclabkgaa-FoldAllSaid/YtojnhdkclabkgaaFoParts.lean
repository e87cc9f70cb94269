/- Rows of rows that a call makes. No condition. -/
import Derived.Test.YtojnhdkclabkgaaFoFit
import Derived.Test.YtojnhdkclabkgaaFoMain
namespace Go.Proofs.Ytojnhdkclabkgaa
open Go.RowKit Go.Maps
set_option linter.unusedVariables false
set_option linter.unusedSimpArgs false
/-- The boxes of Fold's argument, result and folded graph, the row of points in the making, and the rows that were cloned. -/
structure F1 (g : Gr.G) (w : World) (gc zc fc : Array Value) (F P : Nat) (vi va vh : Value) (f : Nat → Value) (n k : Nat) (u : World) : Prop where
  low : Below w.heap.size w u
  hF : w.heap.size + 1 < F
  hP : F < P
  gb : Bk u w.heap.size 40 gc
  rb : Bk u (w.heap.size + 1) 40 zc
  fb : Bk u F 40 fc
  pr : Bk u P 32 (slRow n f)
  ins : Part 3 (F + 1) P u vi g.ins.length (g.ins.flatMap inCells)
  ars : Part 2 (F + 1) P u va g.ars.length (g.ars.flatMap arCells)
  hds : Part 2 (F + 1) P u vh g.hds.length (g.hds.flatMap prCells)
  pts : ∀ i, i < k → Part 1 (P + 1) u.heap.size u (f i) (g.pts.getD i []).length ((g.pts.getD i []).map (.int .i64))
section
variable {g : Gr.G} {w u u' : World} {gc zc fc : Array Value} {F P n k : Nat} {vi va vh : Value} {f : Nat → Value}
theorem F1.below (h : F1 g w gc zc fc F P vi va vh f n k u) (hb : Below u.heap.size u u') : F1 g w gc zc fc F P vi va vh f n k u' :=
  ⟨blt h.low hb, h.hF, h.hP, h.gb.below hb, h.rb.below hb, h.fb.below hb, h.pr.below hb, h.ins.below hb, h.ars.below hb, h.hds.below hb, fun i hi => ((h.pts i hi).below hb).more (Nat.le_refl _) hb.size⟩
theorem F1.step (h : F1 g w gc zc fc F P vi va vh f n k u) {v : Value} (hv : Part 1 (P + 1) u.heap.size u v (g.pts.getD k []).length ((g.pts.getD k []).map (.int .i64))) : F1 g w gc zc fc F P vi va vh (fun j => if j = k then v else f j) n (k + 1) (u.setCell ⟨P, k, none⟩ v) := by
  have h1 := h.hF
  have h2 := h.hP
  refine ⟨h.low.setCell (by show w.heap.size ≤ P; omega) v, h1, h2, h.gb.far (by show w.heap.size ≠ P; omega) v, h.rb.far (by show w.heap.size + 1 ≠ P; omega) v, h.fb.far (by show F ≠ P; omega) v, ?_, h.ins.far (.inr (Nat.le_refl _)) v, h.ars.far (.inr (Nat.le_refl _)) v, h.hds.far (.inr (Nat.le_refl _)) v, fun i hi => ?_⟩
  · rw [← slRow_set n f _ k v (fun j hj => rfl)]
    exact h.pr.set k v
  · rw [World.size_setCell]
    by_cases e : i = k
    · subst e
      simp only [if_pos]
      exact hv.far (.inl (Nat.lt_succ_self _)) v
    · simp only [if_neg e]
      exact (h.pts i (by omega)).far (.inl (Nat.lt_succ_self _)) v
theorem F1.box (h : F1 g w gc zc fc F P vi va vh f n k u) (i : Nat) (x : Value) (fc' : Array Value) (hf : fc.setIfInBounds i x = fc') : F1 g w gc zc fc' F P vi va vh f n k (u.setCell ⟨F, i, none⟩ x) := by
  have h1 := h.hF
  have h2 := h.hP
  subst hf
  refine ⟨h.low.setCell (by show w.heap.size ≤ F; omega) x, h1, h2, h.gb.far (by show w.heap.size ≠ F; omega) x, h.rb.far (by show w.heap.size + 1 ≠ F; omega) x, h.fb.set i x, h.pr.far (by show P ≠ F; omega) x, h.ins.far (.inl (Nat.lt_succ_self _)) x, h.ars.far (.inl (Nat.lt_succ_self _)) x, h.hds.far (.inl (Nat.lt_succ_self _)) x, fun i hi => ?_⟩
  rw [World.size_setCell]
  exact (h.pts i hi).far (.inl (by show F < P + 1; omega)) x
end
/-- What a folded block's three cells hold. -/
def Bp (S : Nat) (u : World) (x : Value × Int × Value) (b : Gr.Blk) : Prop :=
  (∃ hi, Part 5 (S + 1) hi u x.1 b.ops.length (b.ops.flatMap opCells)) ∧ x.2.1 = b.cond ∧ ∃ hi, Part 1 (S + 1) hi u x.2.2 b.next.length (b.next.map (.int .i64))
/-- The boxes and rows, the row of blocks in the making, and the map. -/
structure F2 (g : Gr.G) (w : World) (gc zc fc : Array Value) (F P Q S : Nat) (vi va vh : Value) (f : Nat → Value) (fb : Nat → Value × Int × Value) (fs : Nat → Value) (np n kb ks : Nat) (u : World) : Prop where
  low : Below w.heap.size w u
  hF : w.heap.size + 1 < F
  hP : F < P
  hQ : P < Q
  hS : Q < S
  gb : Bk u w.heap.size 40 gc
  rb : Bk u (w.heap.size + 1) 40 zc
  fbx : Bk u F 40 fc
  pr : Bk u P 32 (slRow np f)
  ins : Part 3 (F + 1) P u vi g.ins.length (g.ins.flatMap inCells)
  ars : Part 2 (F + 1) P u va g.ars.length (g.ars.flatMap arCells)
  hds : Part 2 (F + 1) P u vh g.hds.length (g.hds.flatMap prCells)
  pts : ∀ i, i < np → Part 1 (P + 1) Q u (f i) (g.pts.getD i []).length ((g.pts.getD i []).map (.int .i64))
  qr : Bk u Q 34 (bkRow n fb)
  sr : Bk u S 32 (slRow n fs)
  blks : ∀ i, i < kb → Bp S u (fb i) (Fo.blk (g.blks.getD i Gr.blk0))
  same : ∀ i, i < ks → ∃ hi, Part 1 (S + 1) hi u (fs i) 1 [.int .i64 (i : Int)]
section
variable {g : Gr.G} {w u u' : World} {gc zc fc : Array Value} {F P Q S n np kb ks : Nat} {vi va vh : Value} {f fs : Nat → Value} {fb : Nat → Value × Int × Value}
theorem Bp.below {x : Value × Int × Value} {b : Gr.Blk} (h : Bp S u x b) (hb : Below u.heap.size u u') : Bp S u' x b := ⟨⟨_, h.1.choose_spec.below hb⟩, h.2.1, ⟨_, h.2.2.choose_spec.below hb⟩⟩
theorem Bp.far {x : Value × Int × Value} {b : Gr.Blk} (h : Bp S u x b) {p : Addr} (hp : p.block ≤ S) (v : Value) : Bp S (u.setCell p v) x b := ⟨⟨_, h.1.choose_spec.far (.inl (by omega)) v⟩, h.2.1, ⟨_, h.2.2.choose_spec.far (.inl (by omega)) v⟩⟩
theorem F2.below (h : F2 g w gc zc fc F P Q S vi va vh f fb fs np n kb ks u) (hb : Below u.heap.size u u') : F2 g w gc zc fc F P Q S vi va vh f fb fs np n kb ks u' :=
  ⟨blt h.low hb, h.hF, h.hP, h.hQ, h.hS, h.gb.below hb, h.rb.below hb, h.fbx.below hb, h.pr.below hb, h.ins.below hb, h.ars.below hb, h.hds.below hb, fun i hi => (h.pts i hi).below hb, h.qr.below hb, h.sr.below hb, fun i hi => (h.blks i hi).below hb, fun i hi => ⟨_, (h.same i hi).choose_spec.below hb⟩⟩
theorem F2.blk (h : F2 g w gc zc fc F P Q S vi va vh f fb fs np n kb ks u) {x : Value × Int × Value} (hx : Bp S u x (Fo.blk (g.blks.getD kb Gr.blk0))) : F2 g w gc zc fc F P Q S vi va vh f (fun j => if j = kb then x else fb j) fs np n (kb + 1) ks (((u.setCell ⟨Q, kb * 3, none⟩ x.1).setCell ⟨Q, kb * 3 + 1, none⟩ (.int .i64 x.2.1)).setCell ⟨Q, kb * 3 + 2, none⟩ x.2.2) := by
  have h1 := h.hF
  have h2 := h.hP
  have h3 := h.hQ
  have h4 := h.hS
  have hq := ((h.qr.set (kb * 3) x.1).set (kb * 3 + 1) (.int .i64 x.2.1)).set (kb * 3 + 2) x.2.2
  rw [bkRow_set n fb (fun j => if j = kb then x else fb j) kb x (fun j hj => rfl)] at hq
  refine ⟨((h.low.setCell (p := ⟨Q, kb * 3, none⟩) (by show w.heap.size ≤ Q; omega) x.1).setCell (p := ⟨Q, kb * 3 + 1, none⟩) (by show w.heap.size ≤ Q; omega) (.int .i64 x.2.1)).setCell (p := ⟨Q, kb * 3 + 2, none⟩) (by show w.heap.size ≤ Q; omega) x.2.2, h1, h2, h3, h4, ?_, ?_, ?_, ?_, ?_, ?_, ?_, fun i hi => ?_, hq, ?_, fun i hi => ?_, fun i hi => ?_⟩
  · exact ((h.gb.far (p := ⟨Q, kb * 3, none⟩) (by show w.heap.size ≠ Q; omega) _).far (p := ⟨Q, kb * 3 + 1, none⟩) (by show w.heap.size ≠ Q; omega) _).far (p := ⟨Q, kb * 3 + 2, none⟩) (by show w.heap.size ≠ Q; omega) _
  · exact ((h.rb.far (p := ⟨Q, kb * 3, none⟩) (by show w.heap.size + 1 ≠ Q; omega) _).far (p := ⟨Q, kb * 3 + 1, none⟩) (by show w.heap.size + 1 ≠ Q; omega) _).far (p := ⟨Q, kb * 3 + 2, none⟩) (by show w.heap.size + 1 ≠ Q; omega) _
  · exact ((h.fbx.far (p := ⟨Q, kb * 3, none⟩) (by show F ≠ Q; omega) _).far (p := ⟨Q, kb * 3 + 1, none⟩) (by show F ≠ Q; omega) _).far (p := ⟨Q, kb * 3 + 2, none⟩) (by show F ≠ Q; omega) _
  · exact ((h.pr.far (p := ⟨Q, kb * 3, none⟩) (by show P ≠ Q; omega) _).far (p := ⟨Q, kb * 3 + 1, none⟩) (by show P ≠ Q; omega) _).far (p := ⟨Q, kb * 3 + 2, none⟩) (by show P ≠ Q; omega) _
  · exact ((h.ins.far (p := ⟨Q, kb * 3, none⟩) (.inr (by show P ≤ Q; omega)) _).far (p := ⟨Q, kb * 3 + 1, none⟩) (.inr (by show P ≤ Q; omega)) _).far (p := ⟨Q, kb * 3 + 2, none⟩) (.inr (by show P ≤ Q; omega)) _
  · exact ((h.ars.far (p := ⟨Q, kb * 3, none⟩) (.inr (by show P ≤ Q; omega)) _).far (p := ⟨Q, kb * 3 + 1, none⟩) (.inr (by show P ≤ Q; omega)) _).far (p := ⟨Q, kb * 3 + 2, none⟩) (.inr (by show P ≤ Q; omega)) _
  · exact ((h.hds.far (p := ⟨Q, kb * 3, none⟩) (.inr (by show P ≤ Q; omega)) _).far (p := ⟨Q, kb * 3 + 1, none⟩) (.inr (by show P ≤ Q; omega)) _).far (p := ⟨Q, kb * 3 + 2, none⟩) (.inr (by show P ≤ Q; omega)) _
  · exact (((h.pts i hi).far (p := ⟨Q, kb * 3, none⟩) (.inr (Nat.le_refl _)) _).far (p := ⟨Q, kb * 3 + 1, none⟩) (.inr (Nat.le_refl _)) _).far (p := ⟨Q, kb * 3 + 2, none⟩) (.inr (Nat.le_refl _)) _
  · exact ((h.sr.far (p := ⟨Q, kb * 3, none⟩) (by show S ≠ Q; omega) _).far (p := ⟨Q, kb * 3 + 1, none⟩) (by show S ≠ Q; omega) _).far (p := ⟨Q, kb * 3 + 2, none⟩) (by show S ≠ Q; omega) _
  · by_cases e : i = kb
    · subst e
      simp only [if_pos]
      exact ((hx.far (p := ⟨Q, i * 3, none⟩) (by show Q ≤ S; omega) _).far (p := ⟨Q, i * 3 + 1, none⟩) (by show Q ≤ S; omega) _).far (p := ⟨Q, i * 3 + 2, none⟩) (by show Q ≤ S; omega) _
    · simp only [if_neg e]
      exact (((h.blks i (by omega)).far (p := ⟨Q, kb * 3, none⟩) (by show Q ≤ S; omega) _).far (p := ⟨Q, kb * 3 + 1, none⟩) (by show Q ≤ S; omega) _).far (p := ⟨Q, kb * 3 + 2, none⟩) (by show Q ≤ S; omega) _
  · obtain ⟨hi', hp⟩ := h.same i hi
    exact ⟨hi', ((hp.far (p := ⟨Q, kb * 3, none⟩) (.inl (by show Q < S + 1; omega)) _).far (p := ⟨Q, kb * 3 + 1, none⟩) (.inl (by show Q < S + 1; omega)) _).far (p := ⟨Q, kb * 3 + 2, none⟩) (.inl (by show Q < S + 1; omega)) _⟩
theorem F2.one (h : F2 g w gc zc fc F P Q S vi va vh f fb fs np n kb ks u) {v : Value} (hv : ∃ hi, Part 1 (S + 1) hi u v 1 [.int .i64 (ks : Int)]) : F2 g w gc zc fc F P Q S vi va vh f fb (fun j => if j = ks then v else fs j) np n kb (ks + 1) (u.setCell ⟨S, ks, none⟩ v) := by
  have h1 := h.hF
  have h2 := h.hP
  have h3 := h.hQ
  have h4 := h.hS
  refine ⟨h.low.setCell (by show w.heap.size ≤ S; omega) v, h1, h2, h3, h4, h.gb.far (by show w.heap.size ≠ S; omega) v, h.rb.far (by show w.heap.size + 1 ≠ S; omega) v, h.fbx.far (by show F ≠ S; omega) v, h.pr.far (by show P ≠ S; omega) v, h.ins.far (.inr (by show P ≤ S; omega)) v, h.ars.far (.inr (by show P ≤ S; omega)) v, h.hds.far (.inr (by show P ≤ S; omega)) v, fun i hi => (h.pts i hi).far (.inr (by show Q ≤ S; omega)) v, h.qr.far (by show Q ≠ S; omega) v, ?_, fun i hi => (h.blks i hi).far (Nat.le_refl _) v, fun i hi => ?_⟩
  · rw [← slRow_set n fs _ ks v (fun j hj => rfl)]
    exact h.sr.set ks v
  · by_cases e : i = ks
    · subst e
      simp only [if_pos]
      obtain ⟨hi', hp⟩ := hv
      exact ⟨hi', hp.far (.inl (Nat.lt_succ_self _)) v⟩
    · simp only [if_neg e]
      obtain ⟨hi', hp⟩ := h.same i (by omega)
      exact ⟨hi', hp.far (.inl (Nat.lt_succ_self _)) v⟩
end
end Go.Proofs.Ytojnhdkclabkgaa
