/- A graph of the call's own while two of its blocks become one. No condition. -/
import Derived.Test.YthjolbgkancohaaMeMem
namespace Go.Proofs.Ythjolbgkancohaa
open Go.RowKit
set_option linter.unusedVariables false
set_option linter.unusedSimpArgs false
/-- Of what was there below a base, and of boxes of graphs, nothing has turned. -/
def Chg (base : Nat) (w w' : World) : Prop := Below base w w' ∧ ∀ k cs, Bk w k 40 cs → Bk w' k 40 cs
section
variable {base : Nat} {w u v : World}
theorem Chg.refl (base : Nat) (w : World) : Chg base w w := ⟨Below.refl _ _, fun _ _ h => h⟩
theorem Chg.trans (h : Chg base w u) (k : Chg base u v) : Chg base w v := ⟨h.1.trans k.1, fun i cs hb => k.2 i cs (h.2 i cs hb)⟩
theorem Chg.below (hb : Below w.heap.size w u) (hs : base ≤ w.heap.size) : Chg base w u := ⟨hb.mono hs, fun _ _ h => h.below hb⟩
theorem Chg.grown {base' sz n : Nat} {e : TypeId} {y : Value} {ys : List Value} (hy : w.ownsRow base' e sz y n ys) (h0 : base ≤ base') (hs : base ≤ w.heap.size) (hne : 40 ≠ e) (hg : w.grownBy u y.ownBlock) : Chg base w u :=
  ⟨(Below.refl _ _).grown hg hs (fun k hk => by have := (hy.lt k hk).1; omega), fun k cs hb => bk_grown_t hb hy hne hg⟩
theorem Chg.set {g i : Nat} {t : TypeId} {cs : Array Value} {x : Value} (hb : Bk w g t cs) (h0 : base ≤ g) (hne : 40 ≠ t) : Chg base w (w.setCell ⟨g, i, none⟩ x) :=
  ⟨(Below.refl _ _).setCell h0 x, fun k cs' hk => by
    by_cases e : k = g
    · subst e
      unfold Bk at hb hk
      rw [hb] at hk
      injection hk with hk
      injection hk with _ hk _
      exact absurd hk.symm hne
    · exact hk.far e x⟩
end
theorem flat_set0 : ∀ (us : List (Value × Int × Value)) (i : Nat) (x : Value), i < us.length → (us.set i (x, (us.getD i bkz).2)).flatMap bkC = (us.flatMap bkC).set (i * 3) x
  | [], i, x, h => by simp at h
  | u :: us, 0, x, h => by simp [bkC]
  | u :: us, i + 1, x, h => by
    have := flat_set0 us i x (by simpa using h)
    rw [List.set_cons_succ, List.flatMap_cons, List.flatMap_cons, List.getD_cons_succ, this]
    rw [show (i + 1) * 3 = (bkC u).length + i * 3 by simp [bkC]; omega, List.set_append_right _ _ (by omega)]
    simp
theorem flat_set1 : ∀ (us : List (Value × Int × Value)) (i : Nat) (x : Int), i < us.length → (us.set i ((us.getD i bkz).1, x, (us.getD i bkz).2.2)).flatMap bkC = (us.flatMap bkC).set (i * 3 + 1) (.int .i64 x)
  | [], i, x, h => by simp at h
  | u :: us, 0, x, h => by simp [bkC]
  | u :: us, i + 1, x, h => by
    have := flat_set1 us i x (by simpa using h)
    rw [List.set_cons_succ, List.flatMap_cons, List.flatMap_cons, List.getD_cons_succ, this]
    rw [show (i + 1) * 3 + 1 = (bkC u).length + (i * 3 + 1) by simp [bkC]; omega, List.set_append_right _ _ (by omega)]
    simp
theorem flat_set2 : ∀ (us : List (Value × Int × Value)) (i : Nat) (x : Value), i < us.length → (us.set i ((us.getD i bkz).1, (us.getD i bkz).2.1, x)).flatMap bkC = (us.flatMap bkC).set (i * 3 + 2) x
  | [], i, x, h => by simp at h
  | u :: us, 0, x, h => by simp [bkC]
  | u :: us, i + 1, x, h => by
    have := flat_set2 us i x (by simpa using h)
    rw [List.set_cons_succ, List.flatMap_cons, List.flatMap_cons, List.getD_cons_succ, this]
    rw [show (i + 1) * 3 + 2 = (bkC u).length + (i * 3 + 2) by simp [bkC]; omega, List.set_append_right _ _ (by omega)]
    simp
/-- A cell of the row of blocks changes. -/
theorem Hold.put {base n Q n' c k : Nat} {u : World} {us us' : List (Value × Int × Value)} {x : Value} (h : Hold base u (.slice (some ⟨Q, 0, none⟩) n' c) n us) (hl : us'.length = us.length) (hf : us'.flatMap bkC = (us.flatMap bkC).set k x) : Hold base (u.setCell ⟨Q, k, none⟩ x) (.slice (some ⟨Q, 0, none⟩) n' c) n us' := by
  obtain ⟨h0, Q', c', cs, e, h1, h2, h3, h4, h5⟩ := h
  injection e with e e2 e3
  injection e with e
  injection e with e _ _
  subst e e2 e3
  refine ⟨by omega, Q, c, _, rfl, h1, h2, h3, h4.set k x, fun j y hj => ?_⟩
  rw [hf, List.getElem?_set] at hj
  rw [Array.getElem?_setIfInBounds]
  by_cases e : k = j
  · subst e
    rw [if_pos rfl] at hj ⊢
    split at hj
    · rename_i hk
      have := h5 k _ (List.getElem?_eq_getElem hk)
      have hlt : k < cs.size := (Array.getElem?_eq_some_iff.1 this).1
      rw [if_pos hlt]; exact hj
    · cases hj
  · rw [if_neg e] at hj ⊢
    exact h5 j y hj
theorem Hold.bk {base n Q n' c : Nat} {u : World} {us : List (Value × Int × Value)} (h : Hold base u (.slice (some ⟨Q, 0, none⟩) n' c) n us) : base ≤ Q ∧ ∃ cs, Bk u Q 34 cs := by
  obtain ⟨_, Q', c', cs, e, h1, h2, h3, h4, h5⟩ := h
  injection e with e _ _
  injection e with e
  injection e with e _ _
  subst e
  exact ⟨h1, cs, h4⟩
theorem Hold.cap {base n n' c : Nat} {A : Option Addr} {u : World} {us : List (Value × Int × Value)} (h : Hold base u (.slice A n' c) n us) : n ≤ c ∧ c ≤ maxLen := by
  obtain ⟨_, Q', c', cs, e, h1, h2, h3, h4, h5⟩ := h
  injection e with _ _ e
  subst e
  exact ⟨h2, h3⟩
theorem Hold.cut {base n Q n' c k : Nat} {u : World} {us : List (Value × Int × Value)} (h : Hold base u (.slice (some ⟨Q, 0, none⟩) n' c) n us) (hk : k ≤ n) :
    (∀ (j : Nat) (x : Value), ((us.take k).flatMap bkC)[j]? = some x → u.cell? ⟨Q, j, none⟩ = some x) ∧ (∀ (j : Nat) (x : Value), ((us.drop k).flatMap bkC)[j]? = some x → u.cell? ⟨Q, k * 3 + j, none⟩ = some x) := by
  obtain ⟨hl, Q', c', cs, e, h1, h2, h3, h4, h5⟩ := h
  injection e with e _ _
  injection e with e
  injection e with e _ _
  subst e
  have e : us.flatMap bkC = (us.take k).flatMap bkC ++ (us.drop k).flatMap bkC := by rw [← List.flatMap_append, List.take_append_drop]
  have hlen : ((us.take k).flatMap bkC).length = k * 3 := by rw [flat_length bkC 3 (fun _ => rfl), List.length_take]; omega
  refine ⟨fun j x hj => ?_, fun j x hj => ?_⟩
  · rw [h4.cell]
    have hlt := (List.getElem?_eq_some_iff.1 hj).1
    exact h5 j x (by rw [e, List.getElem?_append_left hlt]; exact hj)
  · rw [h4.cell]
    exact h5 (k * 3 + j) x (by rw [e, List.getElem?_append_right (by omega), hlen, Nat.add_sub_cancel_left]; exact hj)
/-- Its beginning. -/
theorem Hold.short {base n Q n' c k : Nat} {u : World} {us : List (Value × Int × Value)} (h : Hold base u (.slice (some ⟨Q, 0, none⟩) n' c) n us) (hk : k ≤ n) : Hold base u (.slice (some ⟨Q, 0, none⟩) k k) k (us.take k) := by
  have hc := (h.cut hk).1
  obtain ⟨hl, Q', c', cs, e, h1, h2, h3, h4, h5⟩ := h
  injection e with e _ _
  injection e with e
  injection e with e _ _
  subst e
  refine ⟨by rw [List.length_take]; omega, Q, k, cs, rfl, h1, Nat.le_refl _, by omega, h4, fun j x hj => ?_⟩
  rw [← h4.cell]
  exact hc j x hj
/-- In the midst of a join: block a's operations are vA, the row of blocks has the cells us'. -/
structure Gj (base : Nat) (g : Gr.G) (tos : List (List Int)) (vi va vb vp vh vt : Value) (us us' : List (Value × Int × Value)) (ps ts : List Value) (a b : Nat) (vA : Value) (u : World) : Prop where
  ins : u.ownsRow base 57 3 vi g.ins.length (g.ins.flatMap inCells)
  ars : u.ownsRow base 30 2 va g.ars.length (g.ars.flatMap arCells)
  hds : u.ownsRow base 52 2 vh g.hds.length (g.hds.flatMap prCells)
  blk : Hold base u vb g.blks.length us'
  ops : ∀ i, i < g.blks.length → i ≠ a → u.ownsRow base 27 5 (us.getD i bkz).1 (g.blks.getD i Gr.blk0).ops.length ((g.blks.getD i Gr.blk0).ops.flatMap opCells)
  oa : u.ownsRow base 27 5 vA (Me.jn g.blks a b).ops.length ((Me.jn g.blks a b).ops.flatMap opCells)
  oap : ∀ i j, i < g.blks.length → j < g.blks.length → i ≠ a → j ≠ a → i ≠ j → Ap (us.getD i bkz).1 (us.getD j bkz).1
  oaa : ∀ i, i < g.blks.length → i ≠ a → Ap vA (us.getD i bkz).1
  prow : u.ownsRow base 32 1 vp g.pts.length ps
  trow : u.ownsRow base 32 1 vt tos.length ts
  pl : ps.length = g.pts.length
  tl : ts.length = tos.length
  fam : Rws base u (nxv us ++ (ps ++ ts)) (g.blks.map (fun x => x.next) ++ (g.pts ++ tos))
section
variable {u u' : World} {base : Nat} {g : Gr.G} {tos : List (List Int)} {vi va vb vp vh vt vA : Value} {us us' us2 : List (Value × Int × Value)} {ps ts : List Value} {a b : Nat}
theorem Gj.below (h : Gj base g tos vi va vb vp vh vt us us' ps ts a b vA u) (hb : Below u.heap.size u u') : Gj base g tos vi va vb vp vh vt us us' ps ts a b vA u' :=
  ⟨own_below h.ins hb, own_below h.ars hb, own_below h.hds hb, h.blk.below hb, fun i hi hne => own_below (h.ops i hi hne) hb, own_below h.oa hb, h.oap, h.oaa, own_below h.prow hb, own_below h.trow hb, h.pl, h.tl, h.fam.below hb⟩
/-- Operations have been appended. -/
theorem Gj.start (h : Gm base g tos vi va vb vp vh vt us ps ts u) (ha : a < g.blks.length) (hg : u.grownBy u' (us.getD a bkz).1.ownBlock)
    (hown : u'.ownsRow base 27 5 vA (Me.jn g.blks a b).ops.length ((Me.jn g.blks a b).ops.flatMap opCells)) (hv : vA.ownBlock = (us.getD a bkz).1.ownBlock ∨ vA.ownBlock = some u.heap.size) : Gj base g tos vi va vb vp vh vt us us ps ts a b vA u' := by
  have hr := h.ops a ha
  exact ⟨own_grown_t h.ins hr (by decide) hg, own_grown_t h.ars hr (by decide) hg, own_grown_t h.hds hr (by decide) hg, h.blk.grown hr (by decide) hg, fun i hi hne => own_ap (h.ops i hi) hg (h.oap i a hi ha hne), hown,
    fun i j hi hj _ _ hne => h.oap i j hi hj hne, fun i hi hne => ap_new hv (h.oap a i ha hi (fun e => hne e.symm)) (fun k hk => own_block_lt (h.ops i hi) hk), own_grown_t h.prow hr (by decide) hg, own_grown_t h.trow hr (by decide) hg, h.pl, h.tl, h.fam.other hr (by decide) hg⟩
/-- A cell of the row of blocks changes. -/
theorem Gj.put {Q n' c k : Nat} {x : Value} (h : Gj base g tos vi va (.slice (some ⟨Q, 0, none⟩) n' c) vp vh vt us us' ps ts a b vA u) (hl : us2.length = us'.length) (hf : us2.flatMap bkC = (us'.flatMap bkC).set k x) :
    Gj base g tos vi va (.slice (some ⟨Q, 0, none⟩) n' c) vp vh vt us us2 ps ts a b vA (u.setCell ⟨Q, k, none⟩ x) := by
  obtain ⟨_, Q', c', cs, e, h1, h2, h3, h4, h5⟩ := id h.blk
  injection e with e _ _
  injection e with e
  injection e with e _ _
  subst e
  exact ⟨own_store_b h.ins h4 (by decide), own_store_b h.ars h4 (by decide), own_store_b h.hds h4 (by decide), h.blk.put hl hf, fun i hi hne => own_store_b (h.ops i hi hne) h4 (by decide), own_store_b h.oa h4 (by decide), h.oap, h.oaa, own_store_b h.prow h4 (by decide), own_store_b h.trow h4 (by decide), h.pl, h.tl, h.fam.box h4 (by decide) x⟩
/-- Which row of the old ones each row of the new ones is. -/
theorem Rws.sel {us vs : List Value} {ts qs : List (List Int)} (h : Rws base u us ts) (f : Nat → Nat) (hl : vs.length = qs.length) (hf : ∀ i, i < qs.length → f i < ts.length ∧ vs.getD i nl = us.getD (f i) nl ∧ qs.getD i [] = ts.getD (f i) []) (hinj : ∀ i j, i < qs.length → j < qs.length → f i = f j → i = j) : Rws base u vs qs := by
  refine ⟨hl, fun i hi => ?_, fun i j hi hj hne => ?_⟩
  · obtain ⟨h1, h2, h3⟩ := hf i hi
    rw [h2, h3]
    exact h.row _ h1
  · obtain ⟨h1, h2, _⟩ := hf i hi
    obtain ⟨k1, k2, _⟩ := hf j hj
    rw [h2, k2]
    exact h.ap _ _ h1 k1 (fun e => hne (hinj i j hi hj e))
end
/-- Where element i of a list without element b stood. -/
def sk (b i : Nat) : Nat := if i < b then i else i + 1
theorem sk_ne (b i : Nat) : sk b i ≠ b := by unfold sk; split <;> omega
theorem sk_lt {b i n : Nat} (h : i < n - 1) : sk b i < n := by unfold sk; split <;> omega
theorem sk_inj {b i j : Nat} (h : sk b i = sk b j) : i = j := by unfold sk at h; split at h <;> split at h <;> omega
theorem er_at {α : Type} {l : List α} {b i n : Nat} {d : α} (hl : l.length = n) (hb : b < n) (hi : i < n - 1) : (l.eraseIdx b).getD i d = l.getD (sk b i) d := by
  rw [Me.getD_erase (by omega) (by omega)]
  unfold sk
  split <;> rfl
section
variable {u : World} {base : Nat} {g : Gr.G} {tos : List (List Int)} {vi va vb vb2 vp vh vt vA : Value} {us us' : List (Value × Int × Value)} {ps ts : List Value} {a b : Nat}
theorem Gj.fin (h : Gj base g tos vi va vb vp vh vt us us' ps ts a b vA u) (ht : Me.Tk g a b) (he : us' = us.set a (vA, (us.getD b bkz).2)) (hc : ∀ i, i < g.blks.length → (us.getD i bkz).2.1 = (g.blks.getD i Gr.blk0).cond) (hul : us.length = g.blks.length) (hh : Hold base u vb2 (g.blks.length - 1) (us'.eraseIdx b)) :
    Gm base { g with blks := Me.jb g.blks a b } tos vi va vb2 vp vh vt (us'.eraseIdx b) ps ts u := by
  have hla := ht.la
  have hlb := ht.lb
  have hne := ht.ne
  have hul' : us'.length = g.blks.length := by rw [he, List.length_set]; exact hul
  have hjl := Me.jb_len (a := a) hlb
  have hu : ∀ i, i < g.blks.length - 1 → (us'.eraseIdx b).getD i bkz = if sk b i = a then (vA, (us.getD b bkz).2) else us.getD (sk b i) bkz := fun i hi => by
    rw [er_at hul' hlb hi, he, Me.getD_set (by rw [hul]; exact sk_lt hi)]
  have hj : ∀ i, i < g.blks.length - 1 → (Me.jb g.blks a b).getD i Gr.blk0 = if sk b i = a then Me.jn g.blks a b else g.blks.getD (sk b i) Gr.blk0 := fun i hi => by
    unfold Me.jb
    rw [er_at (by rw [List.length_set]) hlb hi, Me.getD_set (sk_lt hi)]
  refine ⟨h.ins, h.ars, h.hds, ?_, fun i hi => ?_, fun i hi => ?_, fun i j hi hj2 hij => ?_, h.prow, h.trow, h.pl, h.tl, ?_⟩
  · show Hold base u vb2 (Me.jb g.blks a b).length _
    rw [hjl]; exact hh
  · have hi' : i < g.blks.length - 1 := by rw [← hjl]; exact hi
    show ((us'.eraseIdx b).getD i bkz).2.1 = ((Me.jb g.blks a b).getD i Gr.blk0).cond
    rw [hu i hi', hj i hi']
    split
    · exact hc b hlb
    · exact hc _ (sk_lt hi')
  · have hi' : i < g.blks.length - 1 := by rw [← hjl]; exact hi
    show u.ownsRow base _ 5 ((us'.eraseIdx b).getD i bkz).1 ((Me.jb g.blks a b).getD i Gr.blk0).ops.length (((Me.jb g.blks a b).getD i Gr.blk0).ops.flatMap opCells)
    rw [hu i hi', hj i hi']
    split
    · exact h.oa
    · rename_i e; exact h.ops _ (sk_lt hi') e
  · have hi' : i < g.blks.length - 1 := by rw [← hjl]; exact hi
    have hj' : j < g.blks.length - 1 := by rw [← hjl]; exact hj2
    have hs : sk b i ≠ sk b j := fun e => hij (sk_inj e)
    rw [hu i hi', hu j hj']
    by_cases e1 : sk b i = a
    · rw [if_pos e1, if_neg (fun e => hs (e1.trans e.symm))]
      exact h.oaa _ (sk_lt hj') (fun e => hs (e1.trans e.symm))
    · rw [if_neg e1]
      by_cases e2 : sk b j = a
      · rw [if_pos e2]; exact (h.oaa _ (sk_lt hi') e1).symm
      · rw [if_neg e2]; exact h.oap _ _ (sk_lt hi') (sk_lt hj') e1 e2 hs
  · have hnl : (nxv (us'.eraseIdx b)).length = g.blks.length - 1 := by rw [nxv_len, List.length_eraseIdx, if_pos (by omega)]; omega
    have hml : ((Me.jb g.blks a b).map fun x => x.next).length = g.blks.length - 1 := by rw [List.length_map, hjl]
    have hpl := h.pl
    have htl := h.tl
    have hnl0 : (nxv us).length = g.blks.length := by rw [nxv_len]; exact hul
    have hml0 : (g.blks.map fun x => x.next).length = g.blks.length := by rw [List.length_map]
    show Rws base u (nxv (us'.eraseIdx b) ++ (ps ++ ts)) ((Me.jb g.blks a b).map (fun x => x.next) ++ (g.pts ++ tos))
    refine h.fam.sel (fun i => if i < g.blks.length - 1 then (if sk b i = a then b else sk b i) else i + 1) (by simp only [List.length_append]; omega) (fun i hi => ?_) (fun i j hi hj2 e => ?_)
    · simp only [List.length_append] at hi ⊢
      by_cases hi' : i < g.blks.length - 1
      · rw [if_pos hi', ap_left (by omega), ap_left (l := (Me.jb g.blks a b).map fun x => x.next) (by omega), nxv_at (by rw [List.length_eraseIdx, if_pos (by omega)]; omega), Me.getD_map (d := Gr.blk0) _ (by omega), hu i hi', hj i hi']
        have := sk_lt (b := b) hi'
        by_cases e1 : sk b i = a
        · rw [if_pos e1, if_pos e1, if_pos e1, ap_left (by omega), ap_left (l := g.blks.map fun x => x.next) (by omega), nxv_at (by omega), Me.getD_map (d := Gr.blk0) _ hlb]
          exact ⟨by omega, rfl, rfl⟩
        · rw [if_neg e1, if_neg e1, if_neg e1, ap_left (by omega), ap_left (l := g.blks.map fun x => x.next) (by omega), nxv_at (by omega), Me.getD_map (d := Gr.blk0) _ this]
          exact ⟨by omega, rfl, rfl⟩
      · rw [if_neg hi']
        obtain ⟨k, rfl⟩ : ∃ k, i = (g.blks.length - 1) + k := ⟨i - (g.blks.length - 1), by omega⟩
        have e2 : (g.blks.length - 1) + k + 1 = g.blks.length + k := by omega
        rw [e2, ap_right hnl, ap_right hml, ap_right hnl0, ap_right hml0]
        exact ⟨by omega, rfl, rfl⟩
    · have hsk : ∀ k, k < g.blks.length - 1 → sk b k < g.blks.length ∧ sk b k ≠ b := fun k hk => ⟨sk_lt hk, sk_ne b k⟩
      by_cases hi' : i < g.blks.length - 1 <;> by_cases hj' : j < g.blks.length - 1
      · rw [if_pos hi', if_pos hj'] at e
        have h1 := hsk i hi'
        have h2 := hsk j hj'
        apply sk_inj (b := b)
        split at e <;> split at e <;> omega
      · rw [if_pos hi', if_neg hj'] at e
        have h1 := hsk i hi'
        split at e <;> omega
      · rw [if_neg hi', if_pos hj'] at e
        have h1 := hsk j hj'
        split at e <;> omega
      · rw [if_neg hi', if_neg hj'] at e
        omega
end
end Go.Proofs.Ythjolbgkancohaa
