/- How large a graph is that Check lets pass. No condition. Rows of rows that a call makes. No condition. -/
import Derived.Test.YtojflhkmonicoaaGreatFoMain
namespace Go.Proofs.YtojflhkmonicoaaGreat
namespace Fo
theorem nodup_len : ∀ (n : Nat) (l : List Int), l.Nodup → (∀ x ∈ l, 0 ≤ x ∧ x < n) → l.length ≤ n
  | 0, l, _, h => by
    cases l with
    | nil => simp
    | cons x r => have := h x (by simp); omega
  | n + 1, l, hd, h => by
    have ih := nodup_len n (l.erase n) (hd.erase _) (fun x hx => by
      have h1 := h x (List.mem_of_mem_erase hx)
      have h2 : x ≠ n := fun e => by subst e; exact (hd.not_mem_erase) hx
      omega)
    by_cases hm : (n : Int) ∈ l
    · rw [List.length_erase_of_mem hm] at ih; omega
    · rw [List.erase_of_not_mem hm] at ih; omega
theorem pt_len {n : Nat} {l : List Int} (h : Gr.ptOk n l = true) : l.length ≤ n := by
  have hat : ∀ k, k < l.length → Gr.ptAt n l k = true := fun k hk => all_at h hk
  refine nodup_len n l ?_ (fun x hx => ?_)
  · unfold List.Nodup
    rw [List.pairwise_iff_getElem]
    intro i j hi hj hij e
    have h1 := hat j hj
    unfold Gr.ptAt at h1
    rw [Bool.and_eq_true, List.all_eq_true] at h1
    have h2 := h1.2 i (by simpa using hij)
    simp only [List.getD, List.getElem?_eq_getElem hj, List.getElem?_eq_getElem hi, Option.getD_some] at h2
    simp [e] at h2
  · obtain ⟨k, hk, rfl⟩ := List.mem_iff_getElem.1 hx
    have h1 := hat k hk
    unfold Gr.ptAt at h1
    rw [Bool.and_eq_true] at h1
    have h2 := inn_of h1.1
    simpa [List.getD, List.getElem?_eq_getElem hk] using h2
theorem hd_ge {n : Nat} {l : List (Int × Int)} (h : Gr.hdsOk n l = true) : ∀ k, k < l.length → (k : Int) ≤ (l.getD k (0, 0)).1
  | 0, hk => by
    have h1 := all_at (show (List.range l.length).all (Gr.hdAt n l) = true from h) hk
    unfold Gr.hdAt at h1
    simp only [Bool.and_eq_true] at h1
    have := inn_of h1.1.2
    simp only [Int.natCast_zero] at *
    omega
  | k + 1, hk => by
    have ih := hd_ge h k (by omega)
    have h1 := all_at (show (List.range l.length).all (Gr.hdAt n l) = true from h) hk
    unfold Gr.hdAt Gr.hdLast at h1
    simp only [Bool.and_eq_true] at h1
    have h2 := h1.1.1
    rw [if_neg (by omega)] at h2
    simp only [Nat.add_sub_cancel, decide_eq_true_eq] at h2
    omega
theorem hds_len {n : Nat} {l : List (Int × Int)} (h : Gr.hdsOk n l = true) : l.length ≤ n := by
  rcases Nat.eq_zero_or_pos l.length with h0 | h0
  · omega
  · have h1 := hd_ge h (l.length - 1) (by omega)
    have h2 := all_at (show (List.range l.length).all (Gr.hdAt n l) = true from h) (show l.length - 1 < l.length by omega)
    unfold Gr.hdAt at h2
    simp only [Bool.and_eq_true] at h2
    have := inn_of h2.1.2
    omega
theorem opsN_ge (l : List Gr.Blk) : ∀ n k, k < n → (l.getD k Gr.blk0).ops.length ≤ Gr.opsN l n
  | 0, k, h => by omega
  | n + 1, k, h => by
    unfold Gr.opsN
    rcases Nat.lt_succ_iff_lt_or_eq.1 h with h | rfl
    · have := opsN_ge l n k h; omega
    · omega
/-- A graph within its bounds. -/
structure OkG (g : Gr.G) : Prop where
  ins : g.ins.length ≤ 64
  ars : g.ars.length ≤ 8
  pts : g.pts.length ≤ 39
  pt : ∀ k, k < g.pts.length → (g.pts.getD k []).length ≤ 64
  hds : g.hds.length ≤ 64
  blks : g.blks.length ≤ 64
  blk : ∀ k, k < g.blks.length → Bg (g.blks.getD k Gr.blk0)
theorem okg_of {g : Gr.G} (h : Gr.chk g = 0) : OkG g := by
  unfold Gr.chk at h
  split at h
  · exact absurd h (by decide)
  · rename_i hb
    split at h
    · rename_i hr
      have hb' : Gr.big g = false := by simpa using hb
      unfold Gr.big Gr.manyB at hb'
      simp only [Bool.or_eq_false_iff, decide_eq_false_iff_not] at hb'
      obtain ⟨⟨⟨⟨b1, b2⟩, b3⟩, b4⟩, b5⟩ := hb'
      unfold Gr.right at hr
      simp only [Bool.and_eq_true] at hr
      obtain ⟨⟨⟨hd, he, hk⟩, hp⟩, hh⟩ := hr
      unfold Gr.datOk at hd
      simp only [Bool.and_eq_true] at hd
      have d1 := inn_of hd.1.1.1.1
      have d2 : (g.ins.length : Int) ≤ g.keep := by simpa using hd.1.1.1.2
      have hpt : ∀ k, k < g.pts.length → (g.pts.getD k []).length ≤ 64 := fun k hkk => by
        have := pt_len (all_at (show (List.range g.pts.length).all (fun k => Gr.ptOk g.blks.length (g.pts.getD k [])) = true from hp) hkk)
        omega
      have hhd := hds_len hh
      refine ⟨by omega, by omega, by omega, hpt, by omega, by omega, fun k hkk => ?_⟩
      have hbk := all_at (show (List.range g.blks.length).all (fun k => Gr.blkOk g.vars g.ars.length g.blks.length (g.blks.getD k Gr.blk0)) = true from hk) hkk
      unfold Gr.blkOk at hbk
      rw [Bool.and_eq_true] at hbk
      have hlen := opsN_ge g.blks _ k hkk
      have hnx := hbk.2
      unfold Gr.nxOk at hnx
      rw [Bool.and_eq_true] at hnx
      have h2 := hnx.2
      have hc : (g.blks.getD k Gr.blk0).next.length ≤ 2 ∧ 0 ≤ (g.blks.getD k Gr.blk0).cond ∧ (g.blks.getD k Gr.blk0).cond ≤ 1000 := by
        split at h2
        · rename_i e2
          rw [Bool.and_eq_true] at h2
          have := inn_of h2.2
          omega
        · rw [Bool.and_eq_true] at h2
          have h3 := zer_of h2.2
          have h4 : (g.blks.getD k Gr.blk0).next.length < 2 := by simpa using h2.1
          omega
      refine ⟨by omega, ⟨g.vars, by omega, by omega, fun j hj => ?_⟩, hc.1, hc.2⟩
      have hj' := all_at (show (List.range (g.blks.getD k Gr.blk0).ops.length).all (Gr.opAt g.vars g.ars.length (g.blks.getD k Gr.blk0).ops) = true from hbk.1) hj
      unfold Gr.opAt at hj'
      simp only [Bool.and_eq_true] at hj'
      exact good_of (A := g.ars.length) (by omega) (by omega) hj'.1.1
    · exact absurd h (by decide)
end Fo
end Go.Proofs.YtojflhkmonicoaaGreat
namespace Go.Proofs.YtojflhkmonicoaaGreat
open Go.RowKit Go.Maps
set_option linter.unusedVariables false
set_option linter.unusedSimpArgs false
/-- The boxes of Fold's argument, result and folded graph, the row of points in the making, and the rows that were cloned. -/
structure F1 (g : Gr.G) (w : World) (gc zc fc : Array Value) (F P : Nat) (vi va vh : Value) (f : Nat → Value) (n k : Nat) (u : World) : Prop where
  low : Below w.heap.size w u
  hF : w.heap.size + 1 < F
  hP : F < P
  gb : Bk u w.heap.size 28 gc
  rb : Bk u (w.heap.size + 1) 28 zc
  fb : Bk u F 28 fc
  pr : Bk u P 38 (slRow n f)
  ins : Part 3 (F + 1) P u vi g.ins.length (g.ins.flatMap inCells)
  ars : Part 2 (F + 1) P u va g.ars.length (g.ars.flatMap arCells)
  hds : Part 2 (F + 1) P u vh g.hds.length (g.hds.flatMap prCells)
  pts : ∀ i, i < k → Part 1 (P + 1) u.heap.size u (f i) (g.pts.getD i []).length ((g.pts.getD i []).map (.int .i64))
section
variable {g : Gr.G} {w u u' : World} {gc zc fc : Array Value} {F P n k : Nat} {vi va vh : Value} {f : Nat → Value}
theorem F1.below (h : F1 g w gc zc fc F P vi va vh f n k u) (hb : Below u.heap.size u u') : F1 g w gc zc fc F P vi va vh f n k u' :=
  ⟨blt h.low hb, h.hF, h.hP, h.gb.below hb, h.rb.below hb, h.fb.below hb, h.pr.below hb, h.ins.below hb, h.ars.below hb, h.hds.below hb, fun i hi => ((h.pts i hi).below hb).more (Nat.le_refl _) hb.size⟩
theorem F1.step (h : F1 g w gc zc fc F P vi va vh f n k u) {v : Value} (hv : Part 1 (P + 1) u.heap.size u v (g.pts.getD k []).length ((g.pts.getD k []).map (.int .i64))) : F1 g w gc zc fc F P vi va vh (fun j => if j = k then v else f j) n (k + 1) (u.setCell ⟨P, k, none⟩ v) := by
  have h1 := h.hF
  have h2 := h.hP
  refine ⟨h.low.setCell (by show w.heap.size ≤ P; omega) v, h1, h2, h.gb.far (by show w.heap.size ≠ P; omega) v, h.rb.far (by show w.heap.size + 1 ≠ P; omega) v, h.fb.far (by show F ≠ P; omega) v, ?_, h.ins.far (.inr (Nat.le_refl _)) v, h.ars.far (.inr (Nat.le_refl _)) v, h.hds.far (.inr (Nat.le_refl _)) v, fun i hi => ?_⟩
  · rw [← slRow_set n f _ k v (fun j hj => rfl)]
    exact h.pr.set k v
  · rw [World.size_setCell]
    by_cases e : i = k
    · subst e
      simp only [if_pos]
      exact hv.far (.inl (Nat.lt_succ_self _)) v
    · simp only [if_neg e]
      exact (h.pts i (by omega)).far (.inl (Nat.lt_succ_self _)) v
theorem F1.box (h : F1 g w gc zc fc F P vi va vh f n k u) (i : Nat) (x : Value) (fc' : Array Value) (hf : fc.setIfInBounds i x = fc') : F1 g w gc zc fc' F P vi va vh f n k (u.setCell ⟨F, i, none⟩ x) := by
  have h1 := h.hF
  have h2 := h.hP
  subst hf
  refine ⟨h.low.setCell (by show w.heap.size ≤ F; omega) x, h1, h2, h.gb.far (by show w.heap.size ≠ F; omega) x, h.rb.far (by show w.heap.size + 1 ≠ F; omega) x, h.fb.set i x, h.pr.far (by show P ≠ F; omega) x, h.ins.far (.inl (Nat.lt_succ_self _)) x, h.ars.far (.inl (Nat.lt_succ_self _)) x, h.hds.far (.inl (Nat.lt_succ_self _)) x, fun i hi => ?_⟩
  rw [World.size_setCell]
  exact (h.pts i hi).far (.inl (by show F < P + 1; omega)) x
end
/-- What a folded block's three cells hold. -/
def Bp (S : Nat) (u : World) (x : Value × Int × Value) (b : Gr.Blk) : Prop :=
  (∃ hi, Part 5 (S + 1) hi u x.1 b.ops.length (b.ops.flatMap opCells)) ∧ x.2.1 = b.cond ∧ ∃ hi, Part 1 (S + 1) hi u x.2.2 b.next.length (b.next.map (.int .i64))
/-- The boxes and rows, the row of blocks in the making, and the map. -/
structure F2 (g : Gr.G) (w : World) (gc zc fc : Array Value) (F P Q S : Nat) (vi va vh : Value) (f : Nat → Value) (fb : Nat → Value × Int × Value) (fs : Nat → Value) (np n kb ks : Nat) (u : World) : Prop where
  low : Below w.heap.size w u
  hF : w.heap.size + 1 < F
  hP : F < P
  hQ : P < Q
  hS : Q < S
  gb : Bk u w.heap.size 28 gc
  rb : Bk u (w.heap.size + 1) 28 zc
  fbx : Bk u F 28 fc
  pr : Bk u P 38 (slRow np f)
  ins : Part 3 (F + 1) P u vi g.ins.length (g.ins.flatMap inCells)
  ars : Part 2 (F + 1) P u va g.ars.length (g.ars.flatMap arCells)
  hds : Part 2 (F + 1) P u vh g.hds.length (g.hds.flatMap prCells)
  pts : ∀ i, i < np → Part 1 (P + 1) Q u (f i) (g.pts.getD i []).length ((g.pts.getD i []).map (.int .i64))
  qr : Bk u Q 40 (bkRow n fb)
  sr : Bk u S 38 (slRow n fs)
  blks : ∀ i, i < kb → Bp S u (fb i) (Fo.blk (g.blks.getD i Gr.blk0))
  same : ∀ i, i < ks → ∃ hi, Part 1 (S + 1) hi u (fs i) 1 [.int .i64 (i : Int)]
section
variable {g : Gr.G} {w u u' : World} {gc zc fc : Array Value} {F P Q S n np kb ks : Nat} {vi va vh : Value} {f fs : Nat → Value} {fb : Nat → Value × Int × Value}
theorem Bp.below {x : Value × Int × Value} {b : Gr.Blk} (h : Bp S u x b) (hb : Below u.heap.size u u') : Bp S u' x b := ⟨⟨_, h.1.choose_spec.below hb⟩, h.2.1, ⟨_, h.2.2.choose_spec.below hb⟩⟩
theorem Bp.far {x : Value × Int × Value} {b : Gr.Blk} (h : Bp S u x b) {p : Addr} (hp : p.block ≤ S) (v : Value) : Bp S (u.setCell p v) x b := ⟨⟨_, h.1.choose_spec.far (.inl (by omega)) v⟩, h.2.1, ⟨_, h.2.2.choose_spec.far (.inl (by omega)) v⟩⟩
theorem F2.below (h : F2 g w gc zc fc F P Q S vi va vh f fb fs np n kb ks u) (hb : Below u.heap.size u u') : F2 g w gc zc fc F P Q S vi va vh f fb fs np n kb ks u' :=
  ⟨blt h.low hb, h.hF, h.hP, h.hQ, h.hS, h.gb.below hb, h.rb.below hb, h.fbx.below hb, h.pr.below hb, h.ins.below hb, h.ars.below hb, h.hds.below hb, fun i hi => (h.pts i hi).below hb, h.qr.below hb, h.sr.below hb, fun i hi => (h.blks i hi).below hb, fun i hi => ⟨_, (h.same i hi).choose_spec.below hb⟩⟩
theorem F2.blk (h : F2 g w gc zc fc F P Q S vi va vh f fb fs np n kb ks u) {x : Value × Int × Value} (hx : Bp S u x (Fo.blk (g.blks.getD kb Gr.blk0))) : F2 g w gc zc fc F P Q S vi va vh f (fun j => if j = kb then x else fb j) fs np n (kb + 1) ks (((u.setCell ⟨Q, kb * 3, none⟩ x.1).setCell ⟨Q, kb * 3 + 1, none⟩ (.int .i64 x.2.1)).setCell ⟨Q, kb * 3 + 2, none⟩ x.2.2) := by
  have h1 := h.hF
  have h2 := h.hP
  have h3 := h.hQ
  have h4 := h.hS
  have hq := ((h.qr.set (kb * 3) x.1).set (kb * 3 + 1) (.int .i64 x.2.1)).set (kb * 3 + 2) x.2.2
  rw [bkRow_set n fb (fun j => if j = kb then x else fb j) kb x (fun j hj => rfl)] at hq
  refine ⟨((h.low.setCell (p := ⟨Q, kb * 3, none⟩) (by show w.heap.size ≤ Q; omega) x.1).setCell (p := ⟨Q, kb * 3 + 1, none⟩) (by show w.heap.size ≤ Q; omega) (.int .i64 x.2.1)).setCell (p := ⟨Q, kb * 3 + 2, none⟩) (by show w.heap.size ≤ Q; omega) x.2.2, h1, h2, h3, h4, ?_, ?_, ?_, ?_, ?_, ?_, ?_, fun i hi => ?_, hq, ?_, fun i hi => ?_, fun i hi => ?_⟩
  · exact ((h.gb.far (p := ⟨Q, kb * 3, none⟩) (by show w.heap.size ≠ Q; omega) _).far (p := ⟨Q, kb * 3 + 1, none⟩) (by show w.heap.size ≠ Q; omega) _).far (p := ⟨Q, kb * 3 + 2, none⟩) (by show w.heap.size ≠ Q; omega) _
  · exact ((h.rb.far (p := ⟨Q, kb * 3, none⟩) (by show w.heap.size + 1 ≠ Q; omega) _).far (p := ⟨Q, kb * 3 + 1, none⟩) (by show w.heap.size + 1 ≠ Q; omega) _).far (p := ⟨Q, kb * 3 + 2, none⟩) (by show w.heap.size + 1 ≠ Q; omega) _
  · exact ((h.fbx.far (p := ⟨Q, kb * 3, none⟩) (by show F ≠ Q; omega) _).far (p := ⟨Q, kb * 3 + 1, none⟩) (by show F ≠ Q; omega) _).far (p := ⟨Q, kb * 3 + 2, none⟩) (by show F ≠ Q; omega) _
  · exact ((h.pr.far (p := ⟨Q, kb * 3, none⟩) (by show P ≠ Q; omega) _).far (p := ⟨Q, kb * 3 + 1, none⟩) (by show P ≠ Q; omega) _).far (p := ⟨Q, kb * 3 + 2, none⟩) (by show P ≠ Q; omega) _
  · exact ((h.ins.far (p := ⟨Q, kb * 3, none⟩) (.inr (by show P ≤ Q; omega)) _).far (p := ⟨Q, kb * 3 + 1, none⟩) (.inr (by show P ≤ Q; omega)) _).far (p := ⟨Q, kb * 3 + 2, none⟩) (.inr (by show P ≤ Q; omega)) _
  · exact ((h.ars.far (p := ⟨Q, kb * 3, none⟩) (.inr (by show P ≤ Q; omega)) _).far (p := ⟨Q, kb * 3 + 1, none⟩) (.inr (by show P ≤ Q; omega)) _).far (p := ⟨Q, kb * 3 + 2, none⟩) (.inr (by show P ≤ Q; omega)) _
  · exact ((h.hds.far (p := ⟨Q, kb * 3, none⟩) (.inr (by show P ≤ Q; omega)) _).far (p := ⟨Q, kb * 3 + 1, none⟩) (.inr (by show P ≤ Q; omega)) _).far (p := ⟨Q, kb * 3 + 2, none⟩) (.inr (by show P ≤ Q; omega)) _
  · exact (((h.pts i hi).far (p := ⟨Q, kb * 3, none⟩) (.inr (Nat.le_refl _)) _).far (p := ⟨Q, kb * 3 + 1, none⟩) (.inr (Nat.le_refl _)) _).far (p := ⟨Q, kb * 3 + 2, none⟩) (.inr (Nat.le_refl _)) _
  · exact ((h.sr.far (p := ⟨Q, kb * 3, none⟩) (by show S ≠ Q; omega) _).far (p := ⟨Q, kb * 3 + 1, none⟩) (by show S ≠ Q; omega) _).far (p := ⟨Q, kb * 3 + 2, none⟩) (by show S ≠ Q; omega) _
  · by_cases e : i = kb
    · subst e
      simp only [if_pos]
      exact ((hx.far (p := ⟨Q, i * 3, none⟩) (by show Q ≤ S; omega) _).far (p := ⟨Q, i * 3 + 1, none⟩) (by show Q ≤ S; omega) _).far (p := ⟨Q, i * 3 + 2, none⟩) (by show Q ≤ S; omega) _
    · simp only [if_neg e]
      exact (((h.blks i (by omega)).far (p := ⟨Q, kb * 3, none⟩) (by show Q ≤ S; omega) _).far (p := ⟨Q, kb * 3 + 1, none⟩) (by show Q ≤ S; omega) _).far (p := ⟨Q, kb * 3 + 2, none⟩) (by show Q ≤ S; omega) _
  · obtain ⟨hi', hp⟩ := h.same i hi
    exact ⟨hi', ((hp.far (p := ⟨Q, kb * 3, none⟩) (.inl (by show Q < S + 1; omega)) _).far (p := ⟨Q, kb * 3 + 1, none⟩) (.inl (by show Q < S + 1; omega)) _).far (p := ⟨Q, kb * 3 + 2, none⟩) (.inl (by show Q < S + 1; omega)) _⟩
theorem F2.one (h : F2 g w gc zc fc F P Q S vi va vh f fb fs np n kb ks u) {v : Value} (hv : ∃ hi, Part 1 (S + 1) hi u v 1 [.int .i64 (ks : Int)]) : F2 g w gc zc fc F P Q S vi va vh f fb (fun j => if j = ks then v else fs j) np n kb (ks + 1) (u.setCell ⟨S, ks, none⟩ v) := by
  have h1 := h.hF
  have h2 := h.hP
  have h3 := h.hQ
  have h4 := h.hS
  refine ⟨h.low.setCell (by show w.heap.size ≤ S; omega) v, h1, h2, h3, h4, h.gb.far (by show w.heap.size ≠ S; omega) v, h.rb.far (by show w.heap.size + 1 ≠ S; omega) v, h.fbx.far (by show F ≠ S; omega) v, h.pr.far (by show P ≠ S; omega) v, h.ins.far (.inr (by show P ≤ S; omega)) v, h.ars.far (.inr (by show P ≤ S; omega)) v, h.hds.far (.inr (by show P ≤ S; omega)) v, fun i hi => (h.pts i hi).far (.inr (by show Q ≤ S; omega)) v, h.qr.far (by show Q ≠ S; omega) v, ?_, fun i hi => (h.blks i hi).far (Nat.le_refl _) v, fun i hi => ?_⟩
  · rw [← slRow_set n fs _ ks v (fun j hj => rfl)]
    exact h.sr.set ks v
  · by_cases e : i = ks
    · subst e
      simp only [if_pos]
      obtain ⟨hi', hp⟩ := hv
      exact ⟨hi', hp.far (.inl (Nat.lt_succ_self _)) v⟩
    · simp only [if_neg e]
      obtain ⟨hi', hp⟩ := h.same i (by omega)
      exact ⟨hi', hp.far (.inl (Nat.lt_succ_self _)) v⟩
end
end Go.Proofs.YtojflhkmonicoaaGreat
