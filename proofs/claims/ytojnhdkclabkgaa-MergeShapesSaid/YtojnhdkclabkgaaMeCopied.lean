/- slices.Clone, of operations, blocks and lists. No condition. A graph in the copying. No condition. The code of layer 16: a graph that can be changed. No condition. -/
import Derived.Test.YtojnhdkclabkgaaFoClone
import Derived.Test.YtojnhdkclabkgaaMeJoin
import Derived.RegionTactic
import Derived.StillTailTactics
import Derived.Deep.DeepCutAuto
import Derived.Deep.CutBlock
import Derived.LoopTactic
namespace Go.Proofs.Ytojnhdkclabkgaa
open Go.RowKit
set_option linter.unusedVariables false
set_option linter.unusedSimpArgs false
attribute [local go_sem] y_undef
theorem info_cops : (Try.prog.info? 27).map (fun i => (i.zero, i.size, i.bytes)) = some (some (.agg #[.int .i64 0, .int .i64 0, .int .i64 0, .int .i64 0, .int .i64 0]), 5, 40) := by kernel_rfl
theorem nil_cops (w : World) (A : Option Addr) (n c : Nat) : (binOp .eql 25 (.slice A n c) (.slice none 0 0)).run Try.prog w = .ok (.bool A.isNone) w := Lib.run_eql_slice_nil w _ _ A n c 0 0 Try.underlying25
set_option maxHeartbeats 2000000 in
set_option maxRecDepth 100000 in
theorem clone_cops (n : Nat) (xs : List Value) (v : Value) (w : World) (hv : RowIn 5 w v n xs) (h1 : ∀ u ∈ xs, u.oneCell' = true) (hm : n ≤ 100000) :
    Calls Try.prog 105 #[v] w (ClonePost 5 27 n xs w) := by
  obtain ⟨A, c, rfl, hl, hcs⟩ := hv
  obtain ⟨iT, hi0, hz0, hz1, hz2⟩ := info_parts info_cops
  have HIT := Lib.hid (And.intro hi0 (And.intro hz0 (And.intro hz1 hz2)))
  clear hi0 hz0 hz1 hz2
  have hq := nil_cops
  have H1 := Lib.hid h1
  have HM := Lib.hid hm
  clear h1 hm
  unfold ClonePost
  cases A with
  | none =>
    have h0 : n = 0 := by
      rcases hcs with h | ⟨b, off, e, _⟩
      · exact h
      · exact absurd e (by simp)
    subst h0
    have e0 : xs = [] := List.eq_nil_of_length_eq_zero (by omega)
    subst e0
    go_enter Try.func105, Try.ntmps105
    go_wp2
    go_ret
    exact ⟨_, rfl, World.ownsRow_nil _ _ _ _, Below.refl _ _⟩
  | some ad =>
    have HC := Lib.hid (show ∀ j u, xs[j]? = some u → (w.alloc (.cells #[] 27)).cell? (ad.add j) = some u by
      intro j u hj
      rcases hcs with h | ⟨b, off, e, hlt, h⟩
      · have e0 : xs = [] := List.eq_nil_of_length_eq_zero (by rw [hl, h])
        subst e0
        simp at hj
      · injection e with e
        subst e
        have := h j u hj
        rw [show (⟨b, off, none⟩ : Addr).add j = ⟨b, off + j, none⟩ from by unfold Addr.add; split <;> simp_all]
        exact Lib.cell?_alloc_some _ this)
    have HL := Lib.hid hl
    clear hcs hl
    go_enter Try.func105, Try.ntmps105
    go_wp2_with (at_builtin; refine wpList_append_own _ rfl _ _ 25 rfl w.heap.size 27 iT _ 5 40 Try.underlying25 HIT.out.1 HIT.out.2.1 HIT.out.2.2.1 HIT.out.2.2.2 rfl (by decide) _ _ _ rfl (World.ownsRow_made w #[] 0 (Nat.le_refl _) (Nat.zero_le _) (by simp)) ad n c xs rfl ?qc1 ?qc2 ?qc3 ?qc4 ?qc5 ?qc6 ?_)
    case qc1 => exact HL.out
    case qc2 => exact HC.out
    case qc3 => exact H1.out
    case qc4 => have := HM.out; unfold maxLen; omega
    case qc5 => have := HM.out; omega
    case qc6 => simp
    intro v' w1 hown hgrow hnil
    go_wp2
    go_ret
    refine ⟨v', rfl, by simpa using hown, ?_⟩
    exact ((Below.refl _ w).alloc (Nat.le_refl _) _).grown hgrow (by simp) (by intro k hk; simp [Value.ownBlock] at hk; omega)
theorem info_cblk : (Try.prog.info? 34).map (fun i => (i.zero, i.size, i.bytes)) = some (some (.agg #[.slice none 0 0, .int .i64 0, .slice none 0 0]), 3, 56) := by kernel_rfl
theorem nil_cblk (w : World) (A : Option Addr) (n c : Nat) : (binOp .eql 35 (.slice A n c) (.slice none 0 0)).run Try.prog w = .ok (.bool A.isNone) w := Lib.run_eql_slice_nil w _ _ A n c 0 0 Try.underlying35
set_option maxHeartbeats 2000000 in
set_option maxRecDepth 100000 in
theorem clone_cblk (n : Nat) (xs : List Value) (v : Value) (w : World) (hv : RowIn 3 w v n xs) (h1 : ∀ u ∈ xs, u.oneCell' = true) (hm : n ≤ 100000) :
    Calls Try.prog 104 #[v] w (ClonePost 3 34 n xs w) := by
  obtain ⟨A, c, rfl, hl, hcs⟩ := hv
  obtain ⟨iT, hi0, hz0, hz1, hz2⟩ := info_parts info_cblk
  have HIT := Lib.hid (And.intro hi0 (And.intro hz0 (And.intro hz1 hz2)))
  clear hi0 hz0 hz1 hz2
  have hq := nil_cblk
  have H1 := Lib.hid h1
  have HM := Lib.hid hm
  clear h1 hm
  unfold ClonePost
  cases A with
  | none =>
    have h0 : n = 0 := by
      rcases hcs with h | ⟨b, off, e, _⟩
      · exact h
      · exact absurd e (by simp)
    subst h0
    have e0 : xs = [] := List.eq_nil_of_length_eq_zero (by omega)
    subst e0
    go_enter Try.func104, Try.ntmps104
    go_wp2
    go_ret
    exact ⟨_, rfl, World.ownsRow_nil _ _ _ _, Below.refl _ _⟩
  | some ad =>
    have HC := Lib.hid (show ∀ j u, xs[j]? = some u → (w.alloc (.cells #[] 34)).cell? (ad.add j) = some u by
      intro j u hj
      rcases hcs with h | ⟨b, off, e, hlt, h⟩
      · have e0 : xs = [] := List.eq_nil_of_length_eq_zero (by rw [hl, h])
        subst e0
        simp at hj
      · injection e with e
        subst e
        have := h j u hj
        rw [show (⟨b, off, none⟩ : Addr).add j = ⟨b, off + j, none⟩ from by unfold Addr.add; split <;> simp_all]
        exact Lib.cell?_alloc_some _ this)
    have HL := Lib.hid hl
    clear hcs hl
    go_enter Try.func104, Try.ntmps104
    go_wp2_with (at_builtin; refine wpList_append_own _ rfl _ _ 35 rfl w.heap.size 34 iT _ 3 56 Try.underlying35 HIT.out.1 HIT.out.2.1 HIT.out.2.2.1 HIT.out.2.2.2 rfl (by decide) _ _ _ rfl (World.ownsRow_made w #[] 0 (Nat.le_refl _) (Nat.zero_le _) (by simp)) ad n c xs rfl ?qc1 ?qc2 ?qc3 ?qc4 ?qc5 ?qc6 ?_)
    case qc1 => exact HL.out
    case qc2 => exact HC.out
    case qc3 => exact H1.out
    case qc4 => have := HM.out; unfold maxLen; omega
    case qc5 => have := HM.out; omega
    case qc6 => simp
    intro v' w1 hown hgrow hnil
    go_wp2
    go_ret
    refine ⟨v', rfl, by simpa using hown, ?_⟩
    exact ((Below.refl _ w).alloc (Nat.le_refl _) _).grown hgrow (by simp) (by intro k hk; simp [Value.ownBlock] at hk; omega)
theorem info_clst : (Try.prog.info? 32).map (fun i => (i.zero, i.size, i.bytes)) = some (some (.slice none 0 0), 1, 24) := by kernel_rfl
theorem nil_clst (w : World) (A : Option Addr) (n c : Nat) : (binOp .eql 37 (.slice A n c) (.slice none 0 0)).run Try.prog w = .ok (.bool A.isNone) w := Lib.run_eql_slice_nil w _ _ A n c 0 0 Try.underlying37
set_option maxHeartbeats 2000000 in
set_option maxRecDepth 100000 in
theorem clone_clst (n : Nat) (xs : List Value) (v : Value) (w : World) (hv : RowIn 1 w v n xs) (h1 : ∀ u ∈ xs, u.oneCell' = true) (hm : n ≤ 100000) :
    Calls Try.prog 106 #[v] w (ClonePost 1 32 n xs w) := by
  obtain ⟨A, c, rfl, hl, hcs⟩ := hv
  obtain ⟨iT, hi0, hz0, hz1, hz2⟩ := info_parts info_clst
  have HIT := Lib.hid (And.intro hi0 (And.intro hz0 (And.intro hz1 hz2)))
  clear hi0 hz0 hz1 hz2
  have hq := nil_clst
  have H1 := Lib.hid h1
  have HM := Lib.hid hm
  clear h1 hm
  unfold ClonePost
  cases A with
  | none =>
    have h0 : n = 0 := by
      rcases hcs with h | ⟨b, off, e, _⟩
      · exact h
      · exact absurd e (by simp)
    subst h0
    have e0 : xs = [] := List.eq_nil_of_length_eq_zero (by omega)
    subst e0
    go_enter Try.func106, Try.ntmps106
    go_wp2
    go_ret
    exact ⟨_, rfl, World.ownsRow_nil _ _ _ _, Below.refl _ _⟩
  | some ad =>
    have HC := Lib.hid (show ∀ j u, xs[j]? = some u → (w.alloc (.cells #[] 32)).cell? (ad.add j) = some u by
      intro j u hj
      rcases hcs with h | ⟨b, off, e, hlt, h⟩
      · have e0 : xs = [] := List.eq_nil_of_length_eq_zero (by rw [hl, h])
        subst e0
        simp at hj
      · injection e with e
        subst e
        have := h j u hj
        rw [show (⟨b, off, none⟩ : Addr).add j = ⟨b, off + j, none⟩ from by unfold Addr.add; split <;> simp_all]
        exact Lib.cell?_alloc_some _ this)
    have HL := Lib.hid hl
    clear hcs hl
    go_enter Try.func106, Try.ntmps106
    go_wp2_with (at_builtin; refine wpList_append_own _ rfl _ _ 37 rfl w.heap.size 32 iT _ 1 24 Try.underlying37 HIT.out.1 HIT.out.2.1 HIT.out.2.2.1 HIT.out.2.2.2 rfl (by decide) _ _ _ rfl (World.ownsRow_made w #[] 0 (Nat.le_refl _) (Nat.zero_le _) (by simp)) ad n c xs rfl ?qc1 ?qc2 ?qc3 ?qc4 ?qc5 ?qc6 ?_)
    case qc1 => exact HL.out
    case qc2 => exact HC.out
    case qc3 => exact H1.out
    case qc4 => have := HM.out; unfold maxLen; omega
    case qc5 => have := HM.out; omega
    case qc6 => simp
    intro v' w1 hown hgrow hnil
    go_wp2
    go_ret
    refine ⟨v', rfl, by simpa using hown, ?_⟩
    exact ((Below.refl _ w).alloc (Nat.le_refl _) _).grown hgrow (by simp) (by intro k hk; simp [Value.ownBlock] at hk; omega)
end Go.Proofs.Ytojnhdkclabkgaa
namespace Go.Proofs.Ytojnhdkclabkgaa
open Go.RowKit
set_option linter.unusedVariables false
set_option linter.unusedSimpArgs false
/-- A graph's rows in the copying: of kO blocks the operations, of kN the successors. -/
structure Cp1 (w : World) (base : Nat) (g : Gr.G) (vi va vh vb : Value) (us : List (Value × Int × Value)) (kO kN : Nat) (u : World) : Prop where
  low : Below w.heap.size w u
  ins : u.ownsRow base 57 3 vi g.ins.length (g.ins.flatMap inCells)
  ars : u.ownsRow base 30 2 va g.ars.length (g.ars.flatMap arCells)
  hds : u.ownsRow base 52 2 vh g.hds.length (g.hds.flatMap prCells)
  row : u.ownsRow base 34 3 vb g.blks.length (us.flatMap bkC)
  cnd : ∀ i, i < g.blks.length → (us.getD i bkz).2.1 = (g.blks.getD i Gr.blk0).cond
  ops : ∀ i, i < kO → u.ownsRow base 27 5 (us.getD i bkz).1 (g.blks.getD i Gr.blk0).ops.length ((g.blks.getD i Gr.blk0).ops.flatMap opCells)
  oap : ∀ i j, i < kO → j < kO → i ≠ j → Ap (us.getD i bkz).1 (us.getD j bkz).1
  nxs : ∀ i, i < kN → u.ownsRow base 3 1 (us.getD i bkz).2.2 (g.blks.getD i Gr.blk0).next.length ((g.blks.getD i Gr.blk0).next.map (.int .i64))
  nap : ∀ i j, i < kN → j < kN → i ≠ j → Ap (us.getD i bkz).2.2 (us.getD j bkz).2.2
section
variable {w u u' : World} {base : Nat} {g : Gr.G} {vi va vh vb vp : Value} {us : List (Value × Int × Value)} {kO kN k : Nat}
theorem Cp1.ul (h : Cp1 w base g vi va vh vb us kO kN u) : us.length = g.blks.length := by
  have := h.row.1
  rw [flat_length bkC 3 (fun _ => rfl)] at this
  omega
theorem Cp1.below (h : Cp1 w base g vi va vh vb us kO kN u) (hb : Below u.heap.size u u') : Cp1 w base g vi va vh vb us kO kN u' :=
  ⟨blt h.low hb, own_below h.ins hb, own_below h.ars hb, own_below h.hds hb, own_below h.row hb, h.cnd, fun i hi => own_below (h.ops i hi) hb, h.oap, fun i hi => own_below (h.nxs i hi) hb, h.nap⟩
theorem Cp1.far (h : Cp1 w base g vi va vh vb us kO kN u) {p : Addr} (h1 : w.heap.size ≤ p.block) (hp : p.block < base) (z : Value) : Cp1 w base g vi va vh vb us kO kN (u.setCell p z) :=
  ⟨h.low.setCell h1 z, ownsRow_setCell_below h.ins hp z, ownsRow_setCell_below h.ars hp z, ownsRow_setCell_below h.hds hp z, ownsRow_setCell_below h.row hp z, h.cnd, fun i hi => ownsRow_setCell_below (h.ops i hi) hp z, h.oap, fun i hi => ownsRow_setCell_below (h.nxs i hi) hp z, h.nap⟩
theorem row_put {Q n c m k : Nat} {x : Value} {xs : List Value} {u : World} {sz : Nat} {e : TypeId} (h : u.ownsRow base e sz (.slice (some ⟨Q, 0, none⟩) n c) m xs) : (u.setCell ⟨Q, k, none⟩ x).ownsRow base e sz (.slice (some ⟨Q, 0, none⟩) n c) m (xs.set k x) := by
  rcases h.2 with ⟨e0, _⟩ | ⟨g', cap, cur, e0, h1, h2, h3, h4, h5, h6⟩
  · cases e0
  · injection e0 with e1 e2 e3
    injection e1 with e1
    injection e1 with e1 _ _
    subst e1 e2 e3
    refine ⟨by rw [List.length_set]; exact h.1, .inr ⟨Q, c, cur.setIfInBounds k x, rfl, h1, ?_, h3, h4, by simpa using h5, ?_⟩⟩
    · simp [World.setCell, Array.getElem?_modify, h2]
    · rw [Array.toList_setIfInBounds, List.take_set, h6]
theorem row_cell {Q n c m k : Nat} {xs : List Value} {u : World} {sz : Nat} {e : TypeId} (h : u.ownsRow base e sz (.slice (some ⟨Q, 0, none⟩) n c) m xs) (hk : k < m * sz) : u.cell? ⟨Q, k, none⟩ = some (xs.getD k nl) ∧ u.frozen? ⟨Q, k, none⟩ = false := by
  have hx : xs[k]? = some (xs.getD k nl) := getD_some _ (by have := h.1; omega)
  rcases id h.2 with ⟨e0, _⟩ | ⟨g', cap, cur, e0, h1, h2, h3, h4, h5, h6⟩
  · cases e0
  · injection e0 with e1 e2 e3
    injection e1 with e1
    injection e1 with e1 _ _
    subst e1 e2 e3
    have := h.cells (g := Q) rfl k _ hx
    rw [Addr.add_lit, Nat.zero_add] at this
    exact ⟨this, by simp [World.frozen?, h2]⟩
/-- The operations of block k are there. -/
theorem Cp1.putO {Q n c : Nat} {x : Value} (h : Cp1 w base g vi va vh (.slice (some ⟨Q, 0, none⟩) n c) us k kN u) (hk : k < g.blks.length) (hkN : kN ≤ k) (hw : w.heap.size ≤ base) (hx : u'.ownsRow u.heap.size 27 5 x (g.blks.getD k Gr.blk0).ops.length ((g.blks.getD k Gr.blk0).ops.flatMap opCells)) (hb : Below u.heap.size u u') :
    Cp1 w base g vi va vh (.slice (some ⟨Q, 0, none⟩) n c) (us.set k (x, (us.getD k bkz).2)) (k + 1) kN (u'.setCell ⟨Q, k * 3, none⟩ x) := by
  have h0 := h.below hb
  have hul := h.ul
  have hQ := h0.row.lt Q rfl
  have hbu : base ≤ u.heap.size := Nat.le_trans (h.row.lt Q rfl).1 (Nat.le_of_lt (h.row.lt Q rfl).2)
  have hr := row_put (k := k * 3) (x := x) h0.row
  rw [← flat_set0 us k x (by omega)] at hr
  have hg := grown_cell u' Q (k * 3) x
  have hx' := own_mono_b hx hbu
  have hu : ∀ i, i < g.blks.length → (us.set k (x, (us.getD k bkz).2)).getD i bkz = if i = k then (x, (us.getD k bkz).2) else us.getD i bkz := fun i hi => Me.getD_set (by omega)
  refine ⟨h0.low.setCell (by show w.heap.size ≤ Q; omega) _, own_grown_t h0.ins h0.row (by decide) hg, own_grown_t h0.ars h0.row (by decide) hg, own_grown_t h0.hds h0.row (by decide) hg, hr, fun i hi => ?_, fun i hi => ?_, fun i j hi hj hne => ?_, fun i hi => ?_, fun i j hi hj hne => ?_⟩
  · rw [hu i hi]
    split
    · rename_i e; rw [e]; exact h.cnd k hk
    · exact h.cnd i hi
  · rw [hu i (by omega)]
    by_cases e : i = k
    · rw [if_pos e, e]; exact own_grown_t hx' h0.row (by decide) hg
    · rw [if_neg e]; exact own_grown_t (h0.ops i (by omega)) h0.row (by decide) hg
  · rw [hu i (by omega), hu j (by omega)]
    by_cases e1 : i = k
    · rw [if_pos e1, if_neg (fun e => hne (by rw [e1, e]))]
      exact (ap_late (h.ops j (by omega)) hx).symm
    · rw [if_neg e1]
      by_cases e2 : j = k
      · rw [if_pos e2]; exact ap_late (h.ops i (by omega)) hx
      · rw [if_neg e2]; exact h.oap i j (by omega) (by omega) hne
  · rw [hu i (by omega)]
    split
    · rename_i e; exact absurd e (by omega)
    · exact own_grown_t (h0.nxs i hi) h0.row (by decide) hg
  · rw [hu i (by omega), hu j (by omega), if_neg (by omega), if_neg (by omega)]
    exact h.nap i j hi hj hne
/-- The successors of block k are there. -/
theorem Cp1.putN {Q n c : Nat} {x : Value} (h : Cp1 w base g vi va vh (.slice (some ⟨Q, 0, none⟩) n c) us (k + 1) k u) (hk : k < g.blks.length) (hw : w.heap.size ≤ base) (hx : u'.ownsRow u.heap.size 3 1 x (g.blks.getD k Gr.blk0).next.length ((g.blks.getD k Gr.blk0).next.map (.int .i64))) (hb : Below u.heap.size u u') :
    Cp1 w base g vi va vh (.slice (some ⟨Q, 0, none⟩) n c) (us.set k ((us.getD k bkz).1, (us.getD k bkz).2.1, x)) (k + 1) (k + 1) (u'.setCell ⟨Q, k * 3 + 2, none⟩ x) := by
  have h0 := h.below hb
  have hul := h.ul
  have hQ := h0.row.lt Q rfl
  have hbu : base ≤ u.heap.size := Nat.le_trans (h.row.lt Q rfl).1 (Nat.le_of_lt (h.row.lt Q rfl).2)
  have hr := row_put (k := k * 3 + 2) (x := x) h0.row
  rw [← flat_set2 us k x (by omega)] at hr
  have hg := grown_cell u' Q (k * 3 + 2) x
  have hx' := own_mono_b hx hbu
  have hu : ∀ i, i < g.blks.length → (us.set k ((us.getD k bkz).1, (us.getD k bkz).2.1, x)).getD i bkz = if i = k then ((us.getD k bkz).1, (us.getD k bkz).2.1, x) else us.getD i bkz := fun i hi => Me.getD_set (by omega)
  have hu1 : ∀ i, i < g.blks.length → ((us.set k ((us.getD k bkz).1, (us.getD k bkz).2.1, x)).getD i bkz).1 = (us.getD i bkz).1 := fun i hi => by
    rw [hu i hi]
    split
    · rename_i e; rw [e]
    · rfl
  refine ⟨h0.low.setCell (by show w.heap.size ≤ Q; omega) _, own_grown_t h0.ins h0.row (by decide) hg, own_grown_t h0.ars h0.row (by decide) hg, own_grown_t h0.hds h0.row (by decide) hg, hr, fun i hi => ?_, fun i hi => ?_, fun i j hi hj hne => ?_, fun i hi => ?_, fun i j hi hj hne => ?_⟩
  · rw [hu i hi]
    split
    · rename_i e; rw [e]; exact h.cnd k hk
    · exact h.cnd i hi
  · rw [hu1 i (by omega)]
    exact own_grown_t (h0.ops i hi) h0.row (by decide) hg
  · rw [hu1 i (by omega), hu1 j (by omega)]
    exact h.oap i j hi hj hne
  · rw [hu i (by omega)]
    by_cases e : i = k
    · rw [if_pos e, e]; exact own_grown_t hx' h0.row (by decide) hg
    · rw [if_neg e]; exact own_grown_t (h0.nxs i (by omega)) h0.row (by decide) hg
  · rw [hu i (by omega), hu j (by omega)]
    by_cases e1 : i = k
    · rw [if_pos e1, if_neg (fun e => hne (by rw [e1, e]))]
      exact (ap_late (h.nxs j (by omega)) hx).symm
    · rw [if_neg e1]
      by_cases e2 : j = k
      · rw [if_pos e2]; exact ap_late (h.nxs i (by omega)) hx
      · rw [if_neg e2]; exact h.nap i j (by omega) (by omega) hne
/-- All blocks are there, and k lists of points. -/
structure Cp2 (w : World) (base : Nat) (g : Gr.G) (vi va vh vb vp : Value) (us : List (Value × Int × Value)) (ps : List Value) (k : Nat) (u : World) : Prop where
  one : Cp1 w base g vi va vh vb us g.blks.length g.blks.length u
  prow : u.ownsRow base 32 1 vp g.pts.length ps
  pts : ∀ i, i < k → u.ownsRow base 3 1 (ps.getD i nl) (g.pts.getD i []).length ((g.pts.getD i []).map (.int .i64))
  pap : ∀ i j, i < k → j < k → i ≠ j → Ap (ps.getD i nl) (ps.getD j nl)
  cross : ∀ i j, i < g.blks.length → j < k → Ap (us.getD i bkz).2.2 (ps.getD j nl)
variable {ps : List Value}
theorem Cp2.below (h : Cp2 w base g vi va vh vb vp us ps k u) (hb : Below u.heap.size u u') : Cp2 w base g vi va vh vb vp us ps k u' :=
  ⟨h.one.below hb, own_below h.prow hb, fun i hi => own_below (h.pts i hi) hb, h.pap, h.cross⟩
theorem Cp2.far (h : Cp2 w base g vi va vh vb vp us ps k u) {p : Addr} (h1 : w.heap.size ≤ p.block) (hp : p.block < base) (z : Value) : Cp2 w base g vi va vh vb vp us ps k (u.setCell p z) :=
  ⟨h.one.far h1 hp z, ownsRow_setCell_below h.prow hp z, fun i hi => ownsRow_setCell_below (h.pts i hi) hp z, h.pap, h.cross⟩
theorem Cp2.put {Q n c : Nat} {x : Value} (h : Cp2 w base g vi va vh vb (.slice (some ⟨Q, 0, none⟩) n c) us ps k u) (hk : k < g.pts.length) (hw : w.heap.size ≤ base) (hx : u'.ownsRow u.heap.size 3 1 x (g.pts.getD k []).length ((g.pts.getD k []).map (.int .i64))) (hb : Below u.heap.size u u') :
    Cp2 w base g vi va vh vb (.slice (some ⟨Q, 0, none⟩) n c) us (ps.set k x) (k + 1) (u'.setCell ⟨Q, k, none⟩ x) := by
  have h0 := h.below hb
  have hpl : ps.length = g.pts.length := by have := h.prow.1; omega
  have hQ := h0.prow.lt Q rfl
  have hbu : base ≤ u.heap.size := Nat.le_trans (h.prow.lt Q rfl).1 (Nat.le_of_lt (h.prow.lt Q rfl).2)
  have hr := row_put (k := k) (x := x) h0.prow
  have hg := grown_cell u' Q k x
  have hx' := own_mono_b hx hbu
  have hu : ∀ i, i < g.pts.length → (ps.set k x).getD i nl = if i = k then x else ps.getD i nl := fun i hi => Me.getD_set (by omega)
  have ho := h0.one
  refine ⟨⟨ho.low.setCell (by show w.heap.size ≤ Q; omega) _, own_grown_t ho.ins h0.prow (by decide) hg, own_grown_t ho.ars h0.prow (by decide) hg, own_grown_t ho.hds h0.prow (by decide) hg, own_grown_t ho.row h0.prow (by decide) hg, ho.cnd, fun i hi => own_grown_t (ho.ops i hi) h0.prow (by decide) hg, ho.oap, fun i hi => own_grown_t (ho.nxs i hi) h0.prow (by decide) hg, ho.nap⟩, hr, fun i hi => ?_, fun i j hi hj hne => ?_, fun i j hi hj => ?_⟩
  · rw [hu i (by omega)]
    by_cases e : i = k
    · rw [if_pos e, e]; exact own_grown_t hx' h0.prow (by decide) hg
    · rw [if_neg e]; exact own_grown_t (h0.pts i (by omega)) h0.prow (by decide) hg
  · rw [hu i (by omega), hu j (by omega)]
    by_cases e1 : i = k
    · rw [if_pos e1, if_neg (fun e => hne (by rw [e1, e]))]
      exact (ap_late (h.pts j (by omega)) hx).symm
    · rw [if_neg e1]
      by_cases e2 : j = k
      · rw [if_pos e2]; exact ap_late (h.pts i (by omega)) hx
      · rw [if_neg e2]; exact h.pap i j (by omega) (by omega) hne
  · rw [hu j (by omega)]
    by_cases e2 : j = k
    · rw [if_pos e2]; exact ap_late (h.one.nxs i hi) hx
    · rw [if_neg e2]; exact h.cross i j hi (by omega)
theorem Rws.join {a b : List Value} {x y : List (List Int)} (h1 : Rws base u a x) (h2 : Rws base u b y) (hc : ∀ i j, i < x.length → j < y.length → Ap (a.getD i nl) (b.getD j nl)) : Rws base u (a ++ b) (x ++ y) := by
  have e1 := h1.len
  have e2 := h2.len
  have hs : ∀ i, i < (x ++ y).length → (i < x.length ∧ (a ++ b).getD i nl = a.getD i nl ∧ (x ++ y).getD i [] = x.getD i []) ∨ ∃ j, i = x.length + j ∧ j < y.length ∧ (a ++ b).getD i nl = b.getD j nl ∧ (x ++ y).getD i [] = y.getD j [] := fun i hi => by
    rw [List.length_append] at hi
    by_cases h : i < x.length
    · exact .inl ⟨h, ap_left (by omega), ap_left h⟩
    · refine .inr ⟨i - x.length, by omega, by omega, ?_, ?_⟩
      · have := ap_right (l := a) (r := b) (i := i - x.length) (d := nl) e1
        rwa [show x.length + (i - x.length) = i by omega] at this
      · have := ap_right (l := x) (r := y) (i := i - x.length) (d := ([] : List Int)) rfl
        rwa [show x.length + (i - x.length) = i by omega] at this
  refine ⟨by simp only [List.length_append]; omega, fun i hi => ?_, fun i j hi hj hne => ?_⟩
  · rcases hs i hi with ⟨h, e, e'⟩ | ⟨j, _, h, e, e'⟩
    · rw [e, e']; exact h1.row i h
    · rw [e, e']; exact h2.row j h
  · rcases hs i hi with ⟨h, e, _⟩ | ⟨i', q, h, e, _⟩ <;> rcases hs j hj with ⟨k, f, _⟩ | ⟨j', r, k, f, _⟩
    · rw [e, f]; exact h1.ap i j h k hne
    · rw [e, f]; exact hc i j' h k
    · rw [e, f]; exact (hc j i' k h).symm
    · rw [e, f]; exact h2.ap i' j' h k (by omega)
theorem Cp2.gm (h : Cp2 w base g vi va vh vb vp us ps g.pts.length u) (h1 : 1 ≤ g.blks.length) : Gm base g [] vi va vb vp vh nl us ps [] u := by
  have hul := h.one.ul
  have hpl : ps.length = g.pts.length := by have := h.prow.1; omega
  refine ⟨h.one.ins, h.one.ars, h.one.hds, Hold.own h.one.row (by omega), h.one.cnd, h.one.ops, h.one.oap, h.prow, World.ownsRow_nil _ _ _ _, hpl, rfl, ?_⟩
  rw [List.append_nil, List.append_nil]
  refine Rws.join ⟨by rw [nxv_len]; simp [hul], fun i hi => ?_, fun i j hi hj hne => ?_⟩ ⟨hpl, h.pts, h.pap⟩ (fun i j hi hj => ?_)
  · rw [List.length_map] at hi
    rw [nxv_at (by omega), Me.getD_map (d := Gr.blk0) _ hi]
    exact h.one.nxs i hi
  · rw [List.length_map] at hi hj
    rw [nxv_at (by omega), nxv_at (by omega)]
    exact h.one.nap i j hi hj hne
  · rw [List.length_map] at hi
    rw [nxv_at (by omega)]
    exact h.cross i j hi hj
/-- The map beside it, of rows that were made later. -/
theorem Gm.with_to {vt : Value} {ts : List Value} {tos : List (List Int)} {B : Nat} (h : Gm base g [] vi va vb vp vh nl us ps [] u) (ht : Lst B u vt ts tos) (hB : base ≤ B) (hlt : ∀ i, i < (nxv us ++ ps).length → ∀ k, ((nxv us ++ ps).getD i nl).ownBlock = some k → k < B) : Gm base g tos vi va vb vp vh vt us ps ts u := by
  have hf := h.fam
  rw [List.append_nil, List.append_nil] at hf
  refine ⟨h.ins, h.ars, h.hds, h.blk, h.cnd, h.ops, h.oap, h.prow, own_mono_b ht.out hB, h.pl, ht.rws.len, ?_⟩
  rw [← List.append_assoc, ← List.append_assoc]
  refine Rws.join hf (ht.rws.mono hB) (fun i j hi hj => ?_)
  intro k hk e
  have h1 := hlt i (by rw [hf.len]; exact hi) k hk
  have h2 := ((ht.rws.row j hj).lt k e).1
  omega
end
end Go.Proofs.Ytojnhdkclabkgaa
namespace Go.Proofs.Ytojnhdkclabkgaa
open Go.RowKit
set_option linter.unusedVariables false
set_option linter.unusedSimpArgs false
attribute [local go_sem] y_undef
/-- The boxes of copied: its argument, its result and the graph in the making. -/
structure Cx (w : World) (gc zc fc : Array Value) (u : World) : Prop where
  low : Below w.heap.size w u
  gb : Bk u w.heap.size 40 gc
  rb : Bk u (w.heap.size + 1) 40 zc
  fb : Bk u (w.heap.size + 1 + 1) 40 fc
section
variable {w u u' : World} {gc zc fc : Array Value}
theorem Cx.below (h : Cx w gc zc fc u) (hb : Below u.heap.size u u') : Cx w gc zc fc u' := ⟨blt h.low hb, h.gb.below hb, h.rb.below hb, h.fb.below hb⟩
theorem Cx.box (h : Cx w gc zc fc u) (i : Nat) (x : Value) (fc' : Array Value) (hf : fc.setIfInBounds i x = fc') : Cx w gc zc fc' (u.setCell ⟨w.heap.size + 1 + 1, i, none⟩ x) := by
  subst hf
  exact ⟨h.low.setCell (by show w.heap.size ≤ w.heap.size + 1 + 1; omega) x, h.gb.far (by show w.heap.size ≠ w.heap.size + 1 + 1; omega) x, h.rb.far (by show w.heap.size + 1 ≠ w.heap.size + 1 + 1; omega) x, h.fb.set i x⟩
theorem Cx.res (h : Cx w gc zc fc u) (i : Nat) (x : Value) : Cx w gc (zc.setIfInBounds i x) fc (u.setCell ⟨w.heap.size + 1, i, none⟩ x) :=
  ⟨h.low.setCell (by show w.heap.size ≤ w.heap.size + 1; omega) x, h.gb.far (by show w.heap.size ≠ w.heap.size + 1; omega) x, h.rb.set i x, h.fb.far (by show w.heap.size + 1 + 1 ≠ w.heap.size + 1; omega) x⟩
theorem Cx.other {base sz n : Nat} {e : TypeId} {y : Value} {ys : List Value} (h : Cx w gc zc fc u) (hy : u.ownsRow base e sz y n ys) (hb : w.heap.size ≤ base) (hne : 40 ≠ e) (hg : u.grownBy u' y.ownBlock) : Cx w gc zc fc u' :=
  ⟨h.low.grown hg h.low.size (fun k hk => by have := (hy.lt k hk).1; omega), bk_grown_t h.gb hy hne hg, bk_grown_t h.rb hy hne hg, bk_grown_t h.fb hy hne hg⟩
end
/-- What copied answers. -/
def CpdPost (g : Gr.G) (w : World) (e : Ending) (w' : World) : Prop :=
  ∃ vi va vb vp vh us ps, e = .returned (.agg #[vi, .int .i64 g.vars, .int .i64 g.keep, va, .int .i64 g.sh, vb, vp, vh]) ∧ Below w.heap.size w w' ∧ Gm (w.heap.size + 1 + 1 + 1) g [] vi va vb vp vh nl us ps [] w'
theorem blks_row {u : World} {v : Value} {l : List Gr.Blk} (h : BlksIn u v l) : ∃ us0 : List (Value × Int × Value), us0.length = l.length ∧ RowIn 3 u v l.length (us0.flatMap bkC) ∧ (∀ x ∈ us0.flatMap bkC, x.oneCell' = true) ∧ ∀ i, i < l.length → (us0.getD i bkz).2.1 = (l.getD i Gr.blk0).cond := by
  obtain ⟨A, c, a1, a2, c1, c2, rfl, ho⟩ := h
  refine ⟨(List.range l.length).map fun i => (.slice (a1 i) (l.getD i Gr.blk0).ops.length (c1 i), (l.getD i Gr.blk0).cond, .slice (a2 i) (l.getD i Gr.blk0).next.length (c2 i)), by simp, ⟨A, c, rfl, by rw [flat_length bkC 3 (fun _ => rfl)]; simp, ?_⟩, fun x hx => ?_, fun i hi => ?_⟩
  · rcases Nat.eq_zero_or_pos l.length with h0 | h0
    · exact .inl h0
    · obtain ⟨b, off, rfl, hb, -⟩ := ho 0 h0
      refine .inr ⟨b, off, rfl, hb, fun j x hj => ?_⟩
      have hjl : j < l.length * 3 := by
        have := (List.getElem?_eq_some_iff.1 hj).1
        rw [flat_length bkC 3 (fun _ => rfl)] at this
        simpa using this
      obtain ⟨b', off', e, -, h0', h1', h2', -⟩ := ho (j / 3) (by omega)
      injection e with e
      injection e with e1 e2
      subst e1 e2
      have hx : ((List.range l.length).map fun i => ((.slice (a1 i) (l.getD i Gr.blk0).ops.length (c1 i), (l.getD i Gr.blk0).cond, .slice (a2 i) (l.getD i Gr.blk0).next.length (c2 i)) : Value × Int × Value))[j / 3]? = some (.slice (a1 (j / 3)) (l.getD (j / 3) Gr.blk0).ops.length (c1 (j / 3)), (l.getD (j / 3) Gr.blk0).cond, .slice (a2 (j / 3)) (l.getD (j / 3) Gr.blk0).next.length (c2 (j / 3))) := by
        rw [List.getElem?_map, List.getElem?_range (by omega)]
        rfl
      have hm : j % 3 = 0 ∨ j % 3 = 1 ∨ j % 3 = 2 := by omega
      rcases hm with h | h | h
      · have := flat_cell bkC 3 (fun _ => rfl) _ (j / 3) 0 _ _ hx rfl
        rw [show j / 3 * 3 + 0 = j by omega, hj] at this
        injection this with this
        rw [this, show off + j = off + j / 3 * 3 by omega]
        exact h0'
      · have := flat_cell bkC 3 (fun _ => rfl) _ (j / 3) 1 _ _ hx rfl
        rw [show j / 3 * 3 + 1 = j by omega, hj] at this
        injection this with this
        rw [this, show off + j = off + j / 3 * 3 + 1 by omega]
        exact h1'
      · have := flat_cell bkC 3 (fun _ => rfl) _ (j / 3) 2 _ _ hx rfl
        rw [show j / 3 * 3 + 2 = j by omega, hj] at this
        injection this with this
        rw [this, show off + j = off + j / 3 * 3 + 2 by omega]
        exact h2'
  · obtain ⟨t, hm, ht⟩ := List.mem_flatMap.1 hx
    obtain ⟨i, _, rfl⟩ := List.mem_map.1 hm
    simp [bkC] at ht
    rcases ht with rfl | rfl | rfl <;> rfl
  · simp [List.getD, hi]
theorem lsts_row {u : World} {v : Value} {l : List (List Int)} (h : LstsIn u v l) : ∃ ps0 : List Value, RowIn 1 u v l.length ps0 ∧ ∀ x ∈ ps0, x.oneCell' = true := by
  obtain ⟨A, c, a1, c1, rfl, ho⟩ := h.opened
  refine ⟨(List.range l.length).map fun i => .slice (a1 i) (l.getD i []).length (c1 i), ⟨A, c, rfl, by simp, ?_⟩, fun x hx => ?_⟩
  · rcases Nat.eq_zero_or_pos l.length with h0 | h0
    · exact .inl h0
    · obtain ⟨b, off, rfl, hb, -⟩ := ho 0 h0
      refine .inr ⟨b, off, rfl, hb, fun j x hj => ?_⟩
      have hjl : j < l.length := by
        have := (List.getElem?_eq_some_iff.1 hj).1
        simpa using this
      obtain ⟨b', off', e, -, h0', -⟩ := ho j hjl
      injection e with e
      injection e with e1 e2
      subst e1 e2
      rw [List.getElem?_map, List.getElem?_range hjl] at hj
      injection hj with hj
      subst hj
      exact h0'
  · obtain ⟨i, _, rfl⟩ := List.mem_map.1 hx
    rfl
theorem one_inK {l : List (ByteArray × Int × Int)} : ∀ u ∈ l.flatMap inCells, u.oneCell' = true := by
  intro u hu
  obtain ⟨t, _, ht⟩ := List.mem_flatMap.1 hu
  simp [inCells] at ht
  rcases ht with rfl | rfl | rfl <;> rfl
theorem one_arK {l : List (ByteArray × Int)} : ∀ u ∈ l.flatMap arCells, u.oneCell' = true := by
  intro u hu
  obtain ⟨t, _, ht⟩ := List.mem_flatMap.1 hu
  simp [arCells] at ht
  rcases ht with rfl | rfl <;> rfl
theorem one_prK {l : List (Int × Int)} : ∀ u ∈ l.flatMap prCells, u.oneCell' = true := by
  intro u hu
  obtain ⟨t, _, ht⟩ := List.mem_flatMap.1 hu
  simp [prCells] at ht
  rcases ht with rfl | rfl <;> rfl
theorem one_opK {l : List Gr.Op} : ∀ u ∈ l.flatMap opCells, u.oneCell' = true := by
  intro u hu
  obtain ⟨t, _, ht⟩ := List.mem_flatMap.1 hu
  simp [opCells] at ht
  rcases ht with rfl | rfl | rfl | rfl | rfl <;> rfl
theorem one_numK {l : List Int} : ∀ u ∈ l.map (Value.int .i64), u.oneCell' = true := by
  intro u hu
  obtain ⟨t, _, rfl⟩ := List.mem_map.1 hu
  rfl
set_option maxHeartbeats 2000000 in
set_option maxRecDepth 100000 in
theorem copied_any (g : Gr.G) (vi va vb vp vh : Value) (w : World) (hi : GrIn w g vi va vb vp vh) (hI : Me.Iv g) :
    Calls Try.prog 64 #[.agg #[vi, .int .i64 g.vars, .int .i64 g.keep, va, .int .i64 g.sh, vb, vp, vh]] w (CpdPost g w) := by
  obtain ⟨Ai, ci, rfl, -⟩ := hi.ins.opened
  obtain ⟨Aa, ca, rfl, -⟩ := hi.ars.opened
  obtain ⟨Ab, cb, a1, a2, k1, k2, rfl, hbl⟩ := id hi.blks
  obtain ⟨Aq, cp, ap, kp, rfl, hpt⟩ := hi.pts.opened
  obtain ⟨Ah, ch, rfl, -⟩ := hi.hds.opened
  have HI := Lib.hid hi
  have HI2 := Lib.hid hI
  have HBl := Lib.hid hbl
  have HPt := Lib.hid hpt
  obtain ⟨us0, hu0⟩ := blks_row hi.blks
  have HU0 := Lib.hid hu0
  obtain ⟨ps0, hp0⟩ := lsts_row hi.pts
  have HP0 := Lib.hid hp0
  have hn64 := hI.hi
  have HX := Lib.hid (show Cx w #[.slice Ai g.ins.length ci, .int .i64 g.vars, .int .i64 g.keep, .slice Aa g.ars.length ca, .int .i64 g.sh, .slice Ab g.blks.length cb, .slice Aq g.pts.length cp, .slice Ah g.hds.length ch] #[.slice none 0 0, .int .i64 0, .int .i64 0, .slice none 0 0, .int .i64 0, .slice none 0 0, .slice none 0 0, .slice none 0 0] #[.slice Ai g.ins.length ci, .int .i64 g.vars, .int .i64 g.keep, .slice Aa g.ars.length ca, .int .i64 g.sh, .slice Ab g.blks.length cb, .slice Aq g.pts.length cp, .slice Ah g.hds.length ch] (((w.alloc (.cells #[.slice Ai g.ins.length ci, .int .i64 g.vars, .int .i64 g.keep, .slice Aa g.ars.length ca, .int .i64 g.sh, .slice Ab g.blks.length cb, .slice Aq g.pts.length cp, .slice Ah g.hds.length ch] 40)).alloc (.cells #[.slice none 0 0, .int .i64 0, .int .i64 0, .slice none 0 0, .int .i64 0, .slice none 0 0, .slice none 0 0, .slice none 0 0] 40)).alloc (.cells #[.slice Ai g.ins.length ci, .int .i64 g.vars, .int .i64 g.keep, .slice Aa g.ars.length ca, .int .i64 g.sh, .slice Ab g.blks.length cb, .slice Aq g.pts.length cp, .slice Ah g.hds.length ch] 40)) from by
    have h1 := Bk.new (w.alloc (.cells #[.slice Ai g.ins.length ci, .int .i64 g.vars, .int .i64 g.keep, .slice Aa g.ars.length ca, .int .i64 g.sh, .slice Ab g.blks.length cb, .slice Aq g.pts.length cp, .slice Ah g.hds.length ch] 40)) 40 #[.slice none 0 0, .int .i64 0, .int .i64 0, .slice none 0 0, .int .i64 0, .slice none 0 0, .slice none 0 0, .slice none 0 0]
    have h2 := Bk.new ((w.alloc (.cells #[.slice Ai g.ins.length ci, .int .i64 g.vars, .int .i64 g.keep, .slice Aa g.ars.length ca, .int .i64 g.sh, .slice Ab g.blks.length cb, .slice Aq g.pts.length cp, .slice Ah g.hds.length ch] 40)).alloc (.cells #[.slice none 0 0, .int .i64 0, .int .i64 0, .slice none 0 0, .int .i64 0, .slice none 0 0, .slice none 0 0, .slice none 0 0] 40)) 40 #[.slice Ai g.ins.length ci, .int .i64 g.vars, .int .i64 g.keep, .slice Aa g.ars.length ca, .int .i64 g.sh, .slice Ab g.blks.length cb, .slice Aq g.pts.length cp, .slice Ah g.hds.length ch]
    simp only [size_alloc] at h1 h2
    exact ⟨bla (bla (bla (Below.refl _ _) _) _) _, (Bk.new w _ _).below (blt (bla (Below.refl _ _) _) (bla (Below.refl _ _) _)), h1.below (bla (Below.refl _ _) _), h2⟩)
  clear hi hI hbl hpt hu0 hp0
  go_enter Try.func64, Try.ntmps64
  go_upto_region 2 with fail
  generalize hW : World.alloc _ (.cells #[.slice Ai g.ins.length ci, .int .i64 g.vars, .int .i64 g.keep, .slice Aa g.ars.length ca, .int .i64 g.sh, .slice Ab g.blks.length cb, .slice Aq g.pts.length cp, .slice Ah g.hds.length ch] 40) = W0 at HX ⊢
  clear hW
  have q := HX.out.gb.cell 0
  go_wp2_with fail
  refine (clone_ins g.ins.length _ _ W0 (HI.out.ins.below HX.out.low) one_inK (by have := HI2.out.ins; omega)).mono ?_
  rintro e w1 ⟨v1, rfl, hown, hb⟩
  obtain ⟨A1, C1, rfl⟩ := own_eta hown
  have r := (HX.out.below hb).fb.cell 0
  have y := (HX.out.below hb).fb.frozen 0
  have hB3 := HX.out.fb.lt
  clear q
  go_upto_region 3 with fail
  replace HX := Lib.hid ((HX.out.below hb).box 0 (.slice A1 g.ins.length C1) _ rfl)
  have HR1 := Lib.hid (ownsRow_setCell_below (own_mono_b hown (show w.heap.size + 1 + 1 + 1 ≤ _ from hB3)) (a := ⟨w.heap.size + 1 + 1, 0, none⟩) (by show w.heap.size + 1 + 1 < w.heap.size + 1 + 1 + 1; omega) (.slice A1 g.ins.length C1))
  clear hown hb r y hB3
  generalize hW : World.setCell w1 ⟨w.heap.size + 1 + 1, 0, none⟩ (.slice A1 g.ins.length C1) = W1 at HX HR1 ⊢
  clear hW w1
  have q := HX.out.gb.cell 3
  go_wp2_with fail
  refine (clone_ars g.ars.length _ _ W1 (HI.out.ars.below HX.out.low) one_arK (by have := HI2.out.ars; omega)).mono ?_
  rintro e w1 ⟨v1, rfl, hown, hb⟩
  obtain ⟨A2, C2, rfl⟩ := own_eta hown
  have r := (HX.out.below hb).fb.cell 3
  have y := (HX.out.below hb).fb.frozen 3
  have hB3 := HX.out.fb.lt
  clear q
  go_upto_region 4 with fail
  replace HX := Lib.hid ((HX.out.below hb).box 3 (.slice A2 g.ars.length C2) _ rfl)
  replace HR1 := Lib.hid (ownsRow_setCell_below (own_below HR1.out hb) (a := ⟨w.heap.size + 1 + 1, 3, none⟩) (by show w.heap.size + 1 + 1 < w.heap.size + 1 + 1 + 1; omega) (.slice A2 g.ars.length C2))
  have HR2 := Lib.hid (ownsRow_setCell_below (own_mono_b hown (show w.heap.size + 1 + 1 + 1 ≤ _ from hB3)) (a := ⟨w.heap.size + 1 + 1, 3, none⟩) (by show w.heap.size + 1 + 1 < w.heap.size + 1 + 1 + 1; omega) (.slice A2 g.ars.length C2))
  clear hown hb r y hB3
  generalize hW : World.setCell w1 ⟨w.heap.size + 1 + 1, 3, none⟩ (.slice A2 g.ars.length C2) = W2 at HX HR1 HR2 ⊢
  clear hW w1
  have q := HX.out.gb.cell 7
  go_wp2_with fail
  refine (clone_hds g.hds.length _ _ W2 (HI.out.hds.below HX.out.low) one_prK (by have := HI2.out.hdn; omega)).mono ?_
  rintro e w1 ⟨v1, rfl, hown, hb⟩
  obtain ⟨A3, C3, rfl⟩ := own_eta hown
  have r := (HX.out.below hb).fb.cell 7
  have y := (HX.out.below hb).fb.frozen 7
  have hB3 := HX.out.fb.lt
  clear q
  go_upto_region 5 with fail
  replace HX := Lib.hid ((HX.out.below hb).box 7 (.slice A3 g.hds.length C3) _ rfl)
  replace HR1 := Lib.hid (ownsRow_setCell_below (own_below HR1.out hb) (a := ⟨w.heap.size + 1 + 1, 7, none⟩) (by show w.heap.size + 1 + 1 < w.heap.size + 1 + 1 + 1; omega) (.slice A3 g.hds.length C3))
  replace HR2 := Lib.hid (ownsRow_setCell_below (own_below HR2.out hb) (a := ⟨w.heap.size + 1 + 1, 7, none⟩) (by show w.heap.size + 1 + 1 < w.heap.size + 1 + 1 + 1; omega) (.slice A3 g.hds.length C3))
  have HR3 := Lib.hid (ownsRow_setCell_below (own_mono_b hown (show w.heap.size + 1 + 1 + 1 ≤ _ from hB3)) (a := ⟨w.heap.size + 1 + 1, 7, none⟩) (by show w.heap.size + 1 + 1 < w.heap.size + 1 + 1 + 1; omega) (.slice A3 g.hds.length C3))
  clear hown hb r y hB3
  generalize hW : World.setCell w1 ⟨w.heap.size + 1 + 1, 7, none⟩ (.slice A3 g.hds.length C3) = W3 at HX HR1 HR2 HR3 ⊢
  clear hW w1
  have q := HX.out.gb.cell 5
  go_wp2_with fail
  refine (clone_cblk g.blks.length _ _ W3 (HU0.out.2.1.below HX.out.low) HU0.out.2.2.1 (by have := HI2.out.hi; omega)).mono ?_
  rintro e w1 ⟨v1, rfl, hown, hb⟩
  obtain ⟨A4, C4, rfl⟩ := own_eta hown
  have r := (HX.out.below hb).fb.cell 5
  have y := (HX.out.below hb).fb.frozen 5
  have hB3 := HX.out.fb.lt
  clear q
  go_upto_region 6 with fail
  replace HX := Lib.hid ((HX.out.below hb).box 5 (.slice A4 g.blks.length C4) _ rfl)
  replace HR1 := Lib.hid (ownsRow_setCell_below (own_below HR1.out hb) (a := ⟨w.heap.size + 1 + 1, 5, none⟩) (by show w.heap.size + 1 + 1 < w.heap.size + 1 + 1 + 1; omega) (.slice A4 g.blks.length C4))
  replace HR2 := Lib.hid (ownsRow_setCell_below (own_below HR2.out hb) (a := ⟨w.heap.size + 1 + 1, 5, none⟩) (by show w.heap.size + 1 + 1 < w.heap.size + 1 + 1 + 1; omega) (.slice A4 g.blks.length C4))
  replace HR3 := Lib.hid (ownsRow_setCell_below (own_below HR3.out hb) (a := ⟨w.heap.size + 1 + 1, 5, none⟩) (by show w.heap.size + 1 + 1 < w.heap.size + 1 + 1 + 1; omega) (.slice A4 g.blks.length C4))
  have HR4 := Lib.hid (ownsRow_setCell_below (own_mono_b hown (show w.heap.size + 1 + 1 + 1 ≤ _ from hB3)) (a := ⟨w.heap.size + 1 + 1, 5, none⟩) (by show w.heap.size + 1 + 1 < w.heap.size + 1 + 1 + 1; omega) (.slice A4 g.blks.length C4))
  clear hown hb r y hB3
  generalize hW : World.setCell w1 ⟨w.heap.size + 1 + 1, 5, none⟩ (.slice A4 g.blks.length C4) = W4 at HX HR1 HR2 HR3 HR4 ⊢
  clear hW w1
  have HC := Lib.hid (show Cp1 w (w.heap.size + 1 + 1 + 1) g (.slice A1 g.ins.length C1) (.slice A2 g.ars.length C2) (.slice A3 g.hds.length C3) (.slice A4 g.blks.length C4) us0 0 0 W4 from ⟨HX.out.low, HR1.out, HR2.out, HR3.out, HR4.out, HU0.out.2.2.2, fun i hi => absurd hi (Nat.not_lt_zero _), fun i j hi => absurd hi (Nat.not_lt_zero _), fun i hi => absurd hi (Nat.not_lt_zero _), fun i j hi => absurd hi (Nat.not_lt_zero _)⟩)
  clear HR1 HR2 HR3 HR4
  have q := HX.out.gb.cell 5
  go_wp2
  clear q
  go_loopw [28, 4, 5] (fun i _ _ wr => ∃ (k : Nat) (us : List (Value × Int × Value)), k ≤ g.blks.length ∧ i = .int .i64 k ∧ Hid (Cp1 w (w.heap.size + 1 + 1 + 1) g (.slice A1 g.ins.length C1) (.slice A2 g.ars.length C2) (.slice A3 g.hds.length C3) (.slice A4 g.blks.length C4) us k k wr ∧ Cx w #[.slice Ai g.ins.length ci, .int .i64 g.vars, .int .i64 g.keep, .slice Aa g.ars.length ca, .int .i64 g.sh, .slice Ab g.blks.length cb, .slice Aq g.pts.length cp, .slice Ah g.hds.length ch] #[.slice none 0 0, .int .i64 0, .int .i64 0, .slice none 0 0, .int .i64 0, .slice none 0 0, .slice none 0 0, .slice none 0 0] #[.slice A1 g.ins.length C1, .int .i64 g.vars, .int .i64 g.keep, .slice A2 g.ars.length C2, .int .i64 g.sh, .slice A4 g.blks.length C4, .slice Aq g.pts.length cp, .slice A3 g.hds.length C3] wr)) (fun i _ _ _ => g.blks.length - (intOf i).toNat)
  case atStart => exact ⟨0, _, Nat.zero_le _, rfl, Lib.hid ⟨HC.out, HX.out⟩⟩
  case round =>
    clear HC HX
    obtain ⟨k, us, hk, rfl, HC⟩ := hrel
    by_cases hlt : k < g.blks.length
    · have hlt' : (k : Int) < g.blks.length := by omega
      have hlt0 : (0 : Int) ≤ (k : Int) := by omega
      obtain ⟨bo, off, rfl, hbo, x0, x1, x2, hops, hnx⟩ := HBl.out k hlt
      have hbw : bo < wr.heap.size := Nat.lt_of_lt_of_le hbo HC.out.2.low.size
      replace x0 := (HC.out.2.low.cell (p := ⟨bo, off + k * 3, none⟩) hbo).trans x0
      replace x1 := (HC.out.2.low.cell (p := ⟨bo, off + k * 3 + 1, none⟩) hbo).trans x1
      replace x2 := (HC.out.2.low.cell (p := ⟨bo, off + k * 3 + 2, none⟩) hbo).trans x2
      have HO := Lib.hid fun (u : World) (hu : Below w.heap.size w u) => clone_cops _ _ _ u (hops.below hu) one_opK (by have := HI2.out.op k; omega)
      have HNn := Lib.hid fun (u : World) (hu : Below w.heap.size w u) => clone_nums _ _ _ u (hnx.below hu) one_numK (by have := HI2.out.two k hlt; omega)
      clear hops hnx
      obtain ⟨no, hno⟩ : ∃ n, (g.blks.getD k Gr.blk0).ops.length = n := ⟨_, rfl⟩
      obtain ⟨nn, hnn⟩ : ∃ n, (g.blks.getD k Gr.blk0).next.length = n := ⟨_, rfl⟩
      obtain ⟨co, hco⟩ : ∃ n, (g.blks.getD k Gr.blk0).cond = n := ⟨_, rfl⟩
      have HE := Lib.hid (And.intro hno hnn)
      rw [hno] at x0 HO
      rw [hco] at x1
      rw [hnn] at x2 HNn
      clear hno hnn hco
      have hbk : Below wr.heap.size wr (wr.alloc (.cells #[.slice (a1 k) no (k1 k), .int .i64 co, .slice (a2 k) nn (k2 k)] 34)) := bla (Below.refl _ _) _
      have HT := Lib.hid (Bk.new wr 34 #[.slice (a1 k) no (k1 k), .int .i64 co, .slice (a2 k) nn (k2 k)])
      have HC1 := Lib.hid (And.intro (HC.out.1.below hbk) (HC.out.2.below hbk))
      have HTl := Lib.hid (HC.out.1.row.lt)
      clear hbk HC
      go_upto_region 9 with fail
      clear x0 x1 x2 hbw
      obtain ⟨t, hte⟩ : ∃ t, wr.heap.size = t := ⟨_, rfl⟩
      generalize hW : World.alloc wr (.cells #[.slice (a1 k) no (k1 k), .int .i64 co, .slice (a2 k) nn (k2 k)] 34) = W1 at HT HC1 ⊢
      rw [hte] at HT HTl ⊢
      clear hW hte
      obtain ⟨Q, hQ⟩ : ∃ Q, A4 = some ⟨Q, 0, none⟩ := by
        rcases HC1.out.1.row.2 with ⟨_, h0⟩ | ⟨q, cap, cur, e0, _⟩
        · exact absurd h0 (by omega)
        · injection e0 with e0 _ _
          exact ⟨q, e0⟩
      subst hQ
      have hQt : Q < t := (HTl.out Q rfl).2
      have f5 := HC1.out.2.fb.cell 5
      have t0 := HT.out.cell 0
      have HO2 := Lib.hid (show Calls Try.prog 105 #[.slice (a1 k) no (k1 k)] W1.drew fun e u1 => ∃ A C, e = .returned (.slice A no C) ∧ u1.ownsRow W1.drew.heap.size 27 5 (.slice A no C) no ((g.blks.getD k Gr.blk0).ops.flatMap opCells) ∧ (Below W1.heap.size W1 u1 ∧ Below W1.drew.heap.size W1.drew u1) ∧ u1.cell? ⟨Q, k * 3, none⟩ = some ((us.flatMap bkC).getD (k * 3) nl) ∧ u1.frozen? ⟨Q, k * 3, none⟩ = false ∧ u1.cell? ⟨w.heap.size + 1 + 1, 5, none⟩ = some (.slice (some ⟨Q, 0, none⟩) g.blks.length C4) from
        (HO.out _ (HC1.out.2.low.trans (below_drewN _ W1 1))).mono fun e u1 ⟨v1, h1, h2, h3⟩ => by
          obtain ⟨A6, C6, rfl⟩ := own_eta h2
          have hb0 : Below W1.heap.size W1 u1 := (below_drewN W1.heap.size W1 1).trans h3
          have hcl := row_cell (k := k * 3) (HC1.out.1.below hb0).row (by omega)
          exact ⟨A6, C6, h1, h2, ⟨hb0, h3⟩, hcl.1, hcl.2, (HC1.out.2.below hb0).fb.cell 5⟩)
      go_region_with (go_at_call 105; refine HO2.out.mono ?_; rintro e u1 ⟨A6, C6, rfl, hown, hb0, r, y, f5'⟩)
      all_goals
        have HC2 := Lib.hid (show (Cp1 w (w.heap.size + 1 + 1 + 1) g (.slice A1 g.ins.length C1) (.slice A2 g.ars.length C2) (.slice A3 g.hds.length C3) (.slice (some ⟨Q, 0, none⟩) g.blks.length C4) (us.set k (.slice A6 no C6, (us.getD k bkz).2)) (k + 1) k (World.setCell u1 ⟨Q, k * 3, none⟩ (.slice A6 no C6))) ∧ (Cx w #[.slice Ai g.ins.length ci, .int .i64 g.vars, .int .i64 g.keep, .slice Aa g.ars.length ca, .int .i64 g.sh, .slice (some ⟨bo, off, none⟩) g.blks.length cb, .slice Aq g.pts.length cp, .slice Ah g.hds.length ch] #[.slice none 0 0, .int .i64 0, .int .i64 0, .slice none 0 0, .int .i64 0, .slice none 0 0, .slice none 0 0, .slice none 0 0] #[.slice A1 g.ins.length C1, .int .i64 g.vars, .int .i64 g.keep, .slice A2 g.ars.length C2, .int .i64 g.sh, .slice (some ⟨Q, 0, none⟩) g.blks.length C4, .slice Aq g.pts.length cp, .slice A3 g.hds.length C3] (World.setCell u1 ⟨Q, k * 3, none⟩ (.slice A6 no C6))) ∧ Bk (World.setCell u1 ⟨Q, k * 3, none⟩ (.slice A6 no C6)) t 34 #[.slice (a1 k) no (k1 k), .int .i64 co, .slice (a2 k) nn (k2 k)] from by
          have h1 := HC1.out.1.below hb0.1
          refine ⟨?_, (HC1.out.2.below hb0.1).other h1.row (by omega) (by decide) (grown_cell _ _ _ _), (HT.out.below hb0.1).far (by show t ≠ Q; omega) _⟩
          exact Cp1.putO (u := W1.drew) (u' := u1) (HC1.out.1.below (below_drewN _ W1 1)) hlt (Nat.le_refl _) (by omega) (by rw [HE.out.1]; exact hown) hb0.2)
        clear HC1 HT HO2 hown hb0 r y f5' f5 t0 HO HTl
        generalize hW : World.setCell u1 ⟨Q, k * 3, none⟩ (.slice A6 no C6) = W3 at HC2 ⊢
        clear hW u1 W1
        generalize us.set k (.slice A6 no C6, (us.getD k bkz).2) = us1 at HC2
        go_upto_region 10 with fail
        have f5 := HC2.out.2.1.fb.cell 5
        have t2 := HC2.out.2.2.cell 2
        have hul := HC2.out.1.ul
        have HN2 := Lib.hid (show Calls Try.prog 22 #[.slice (a2 k) nn (k2 k)] W3.drew fun e u1 => ∃ A C, e = .returned (.slice A nn C) ∧ u1.ownsRow W3.drew.heap.size 3 1 (.slice A nn C) nn ((g.blks.getD k Gr.blk0).next.map (.int .i64)) ∧ (Below W3.heap.size W3 u1 ∧ Below W3.drew.heap.size W3.drew u1) ∧ u1.cell? ⟨Q, k * 3 + 2, none⟩ = some ((us1.flatMap bkC).getD (k * 3 + 2) nl) ∧ u1.frozen? ⟨Q, k * 3 + 2, none⟩ = false ∧ u1.cell? ⟨w.heap.size + 1 + 1, 5, none⟩ = some (.slice (some ⟨Q, 0, none⟩) g.blks.length C4) from
          (HNn.out _ (HC2.out.2.1.low.trans (below_drewN _ W3 1))).mono fun e u1 ⟨v1, h1, h2, h3⟩ => by
            obtain ⟨A6, C6, rfl⟩ := own_eta h2
            have hb0 : Below W3.heap.size W3 u1 := (below_drewN W3.heap.size W3 1).trans h3
            have hcl := row_cell (k := k * 3 + 2) (HC2.out.1.below hb0).row (by omega)
            exact ⟨A6, C6, h1, h2, ⟨hb0, h3⟩, hcl.1, hcl.2, (HC2.out.2.1.below hb0).fb.cell 5⟩)
        clear hul
        go_region_with (go_at_call 22; refine HN2.out.mono ?_; rintro e u1 ⟨A7, C7, rfl, hown, hb0, r, y, f5'⟩)
        all_goals
          have HC3 := Lib.hid (show (Cp1 w (w.heap.size + 1 + 1 + 1) g (.slice A1 g.ins.length C1) (.slice A2 g.ars.length C2) (.slice A3 g.hds.length C3) (.slice (some ⟨Q, 0, none⟩) g.blks.length C4) (us1.set k ((us1.getD k bkz).1, (us1.getD k bkz).2.1, .slice A7 nn C7)) (k + 1) (k + 1) (World.setCell u1 ⟨Q, k * 3 + 2, none⟩ (.slice A7 nn C7))) ∧ (Cx w #[.slice Ai g.ins.length ci, .int .i64 g.vars, .int .i64 g.keep, .slice Aa g.ars.length ca, .int .i64 g.sh, .slice (some ⟨bo, off, none⟩) g.blks.length cb, .slice Aq g.pts.length cp, .slice Ah g.hds.length ch] #[.slice none 0 0, .int .i64 0, .int .i64 0, .slice none 0 0, .int .i64 0, .slice none 0 0, .slice none 0 0, .slice none 0 0] #[.slice A1 g.ins.length C1, .int .i64 g.vars, .int .i64 g.keep, .slice A2 g.ars.length C2, .int .i64 g.sh, .slice (some ⟨Q, 0, none⟩) g.blks.length C4, .slice Aq g.pts.length cp, .slice A3 g.hds.length C3] (World.setCell u1 ⟨Q, k * 3 + 2, none⟩ (.slice A7 nn C7))) from by
            have h1 := HC2.out.1.below hb0.1
            refine ⟨?_, (HC2.out.2.1.below hb0.1).other h1.row (by omega) (by decide) (grown_cell _ _ _ _)⟩
            exact Cp1.putN (u := W3.drew) (u' := u1) (HC2.out.1.below (below_drewN _ W3 1)) hlt (by omega) (by rw [HE.out.2]; exact hown) hb0.2)
          clear HC2 HN2 hown hb0 r y f5' f5 t2 HNn
          generalize hW : World.setCell u1 ⟨Q, k * 3 + 2, none⟩ (.slice A7 nn C7) = W5 at HC3 ⊢
          clear hW u1 W3
          go_wp2
          go_roundw
          case rel => exact ⟨k + 1, _, by omega, by first | rfl | go_num, HC3⟩
          case measure => simp [intOf]; omega
    · have hlt' : ¬ (k : Int) < g.blks.length := by omega
      obtain rfl : k = g.blks.length := by omega
      have q6 := HC.out.2.gb.cell 6
      have hpn := HI2.out.ptn
      go_wp2_with fail
      refine (clone_clst g.pts.length _ _ wr (HP0.out.1.below HC.out.2.low) HP0.out.2 (by omega)).mono ?_
      rintro e w1 ⟨v1, rfl, hown, hb⟩
      obtain ⟨A5, C5, rfl⟩ := own_eta hown
      have r := (HC.out.2.below hb).fb.cell 6
      have y := (HC.out.2.below hb).fb.frozen 6
      have hB3 := HC.out.2.fb.lt
      clear q6
      go_upto_region 13 with fail
      have HD := Lib.hid (show (Cp2 w (w.heap.size + 1 + 1 + 1) g (.slice A1 g.ins.length C1) (.slice A2 g.ars.length C2) (.slice A3 g.hds.length C3) (.slice A4 g.blks.length C4) (.slice A5 g.pts.length C5) us ps0 0 (World.setCell w1 ⟨w.heap.size + 1 + 1, 6, none⟩ (.slice A5 g.pts.length C5))) ∧ (Cx w #[.slice Ai g.ins.length ci, .int .i64 g.vars, .int .i64 g.keep, .slice Aa g.ars.length ca, .int .i64 g.sh, .slice Ab g.blks.length cb, .slice Aq g.pts.length cp, .slice Ah g.hds.length ch] #[.slice none 0 0, .int .i64 0, .int .i64 0, .slice none 0 0, .int .i64 0, .slice none 0 0, .slice none 0 0, .slice none 0 0] #[.slice A1 g.ins.length C1, .int .i64 g.vars, .int .i64 g.keep, .slice A2 g.ars.length C2, .int .i64 g.sh, .slice A4 g.blks.length C4, .slice A5 g.pts.length C5, .slice A3 g.hds.length C3] (World.setCell w1 ⟨w.heap.size + 1 + 1, 6, none⟩ (.slice A5 g.pts.length C5))) from by
        have hF : w.heap.size ≤ w.heap.size + 1 + 1 := by omega
        refine ⟨⟨(HC.out.1.below hb).far (p := ⟨w.heap.size + 1 + 1, 6, none⟩) hF (Nat.lt_succ_self _) _, ?_, fun i hi => absurd hi (Nat.not_lt_zero _), fun i j hi => absurd hi (Nat.not_lt_zero _), fun i j _ hj => absurd hj (Nat.not_lt_zero _)⟩, (HC.out.2.below hb).box 6 _ _ rfl⟩
        exact ownsRow_setCell_below (own_mono_b hown (show w.heap.size + 1 + 1 + 1 ≤ _ from hB3)) (a := ⟨w.heap.size + 1 + 1, 6, none⟩) (Nat.lt_succ_self _) _)
      clear HC hown hb r y hB3
      generalize hW : World.setCell w1 ⟨w.heap.size + 1 + 1, 6, none⟩ (.slice A5 g.pts.length C5) = W6 at HD ⊢
      clear hW w1
      have q6 := HD.out.2.gb.cell 6
      go_wp2
      clear q6
      go_loopw [57, 6, 7] (fun i _ _ wr => ∃ (k : Nat) (ps : List Value), k ≤ g.pts.length ∧ i = .int .i64 k ∧ Hid ((Cp2 w (w.heap.size + 1 + 1 + 1) g (.slice A1 g.ins.length C1) (.slice A2 g.ars.length C2) (.slice A3 g.hds.length C3) (.slice A4 g.blks.length C4) (.slice A5 g.pts.length C5) us ps k wr) ∧ (Cx w #[.slice Ai g.ins.length ci, .int .i64 g.vars, .int .i64 g.keep, .slice Aa g.ars.length ca, .int .i64 g.sh, .slice Ab g.blks.length cb, .slice Aq g.pts.length cp, .slice Ah g.hds.length ch] #[.slice none 0 0, .int .i64 0, .int .i64 0, .slice none 0 0, .int .i64 0, .slice none 0 0, .slice none 0 0, .slice none 0 0] #[.slice A1 g.ins.length C1, .int .i64 g.vars, .int .i64 g.keep, .slice A2 g.ars.length C2, .int .i64 g.sh, .slice A4 g.blks.length C4, .slice A5 g.pts.length C5, .slice A3 g.hds.length C3] wr))) (fun i _ _ _ => g.pts.length - (intOf i).toNat)
      case atStart => exact ⟨0, _, Nat.zero_le _, rfl, HD⟩
      case round =>
        clear HD
        obtain ⟨k, ps, hk, rfl, HD⟩ := hrel
        by_cases hlt : k < g.pts.length
        · have hlt' : (k : Int) < g.pts.length := by omega
          have hlt0 : (0 : Int) ≤ (k : Int) := by omega
          obtain ⟨bo, off, rfl, hbo, x0, hnum⟩ := HPt.out k hlt
          replace x0 := (HD.out.2.low.cell (p := ⟨bo, off + k, none⟩) hbo).trans x0
          have hbw : bo < wr.heap.size := Nat.lt_of_lt_of_le hbo HD.out.2.low.size
          have HNn := Lib.hid fun (u : World) (hu : Below w.heap.size w u) => clone_nums _ _ _ u (hnum.below hu) one_numK (by have := HI2.out.ptl _ (Me.getD_mem (d := []) hlt); omega)
          obtain ⟨nn, hnn⟩ : ∃ n, (g.pts.getD k []).length = n := ⟨_, rfl⟩
          have HE := Lib.hid hnn
          rw [hnn] at x0 HNn
          clear hnum hnn
          obtain ⟨Q, hQ⟩ : ∃ Q, A5 = some ⟨Q, 0, none⟩ := by
            rcases HD.out.1.prow.2 with ⟨_, h0⟩ | ⟨q, cap, cur, e0, _⟩
            · exact absurd h0 (by omega)
            · injection e0 with e0 _ _
              exact ⟨q, e0⟩
          subst hQ
          go_upto_region 16 with fail
          clear x0 hbw
          have f6 := HD.out.2.fb.cell 6
          have HN2 := Lib.hid (show Calls Try.prog 22 #[.slice (ap k) nn (kp k)] wr.drew fun e u1 => ∃ A C, e = .returned (.slice A nn C) ∧ u1.ownsRow wr.drew.heap.size 3 1 (.slice A nn C) nn ((g.pts.getD k []).map (.int .i64)) ∧ (Below wr.heap.size wr u1 ∧ Below wr.drew.heap.size wr.drew u1) ∧ u1.cell? ⟨Q, k, none⟩ = some (ps.getD k nl) ∧ u1.frozen? ⟨Q, k, none⟩ = false ∧ u1.cell? ⟨w.heap.size + 1 + 1, 6, none⟩ = some (.slice (some ⟨Q, 0, none⟩) g.pts.length C5) from
            (HNn.out _ (HD.out.2.low.trans (below_drewN _ wr 1))).mono fun e u1 ⟨v1, h1, h2, h3⟩ => by
              obtain ⟨A6, C6, rfl⟩ := own_eta h2
              have hb0 : Below wr.heap.size wr u1 := (below_drewN wr.heap.size wr 1).trans h3
              have hcl := row_cell (k := k) (HD.out.1.below hb0).prow (by omega)
              exact ⟨A6, C6, h1, h2, ⟨hb0, h3⟩, hcl.1, hcl.2, (HD.out.2.below hb0).fb.cell 6⟩)
          go_region_with (go_at_call 22; refine HN2.out.mono ?_; rintro e u1 ⟨A7, C7, rfl, hown, hb0, r, y, f6'⟩)
          all_goals
            have HD3 := Lib.hid (show (Cp2 w (w.heap.size + 1 + 1 + 1) g (.slice A1 g.ins.length C1) (.slice A2 g.ars.length C2) (.slice A3 g.hds.length C3) (.slice A4 g.blks.length C4) (.slice (some ⟨Q, 0, none⟩) g.pts.length C5) us (ps.set k (.slice A7 nn C7)) (k + 1) (World.setCell u1 ⟨Q, k, none⟩ (.slice A7 nn C7))) ∧ (Cx w #[.slice Ai g.ins.length ci, .int .i64 g.vars, .int .i64 g.keep, .slice Aa g.ars.length ca, .int .i64 g.sh, .slice Ab g.blks.length cb, .slice (some ⟨bo, off, none⟩) g.pts.length cp, .slice Ah g.hds.length ch] #[.slice none 0 0, .int .i64 0, .int .i64 0, .slice none 0 0, .int .i64 0, .slice none 0 0, .slice none 0 0, .slice none 0 0] #[.slice A1 g.ins.length C1, .int .i64 g.vars, .int .i64 g.keep, .slice A2 g.ars.length C2, .int .i64 g.sh, .slice A4 g.blks.length C4, .slice (some ⟨Q, 0, none⟩) g.pts.length C5, .slice A3 g.hds.length C3] (World.setCell u1 ⟨Q, k, none⟩ (.slice A7 nn C7))) from by
              have h1 := HD.out.1.below hb0.1
              refine ⟨?_, (HD.out.2.below hb0.1).other h1.prow (by omega) (by decide) (grown_cell _ _ _ _)⟩
              exact Cp2.put (u := wr.drew) (u' := u1) (HD.out.1.below (below_drewN _ wr 1)) hlt (by omega) (by rw [HE.out]; exact hown) hb0.2)
            clear HD HN2 hown hb0 r y f6' f6 HNn
            generalize hW : World.setCell u1 ⟨Q, k, none⟩ (.slice A7 nn C7) = W5 at HD3 ⊢
            clear hW u1
            go_wp2
            go_roundw
            case rel => exact ⟨k + 1, _, by omega, by first | rfl | go_num, HD3⟩
            case measure => simp [intOf]; omega
        · have hlt' : ¬ (k : Int) < g.pts.length := by omega
          obtain rfl : k = g.pts.length := by omega
          have HG := Lib.hid (HD.out.1.gm HI2.out.lo)
          have HX := Lib.hid HD.out.2
          clear HD
          have c0 := HX.out.fb.cell 0
          have z0 := HX.out.rb.cell 0
          have y0 := HX.out.rb.frozen 0
          have c1 := HX.out.fb.cell 1
          have z1 := HX.out.rb.cell 1
          have y1 := HX.out.rb.frozen 1
          have c2 := HX.out.fb.cell 2
          have z2 := HX.out.rb.cell 2
          have y2 := HX.out.rb.frozen 2
          have c3 := HX.out.fb.cell 3
          have z3 := HX.out.rb.cell 3
          have y3 := HX.out.rb.frozen 3
          have c4 := HX.out.fb.cell 4
          have z4 := HX.out.rb.cell 4
          have y4 := HX.out.rb.frozen 4
          have c5 := HX.out.fb.cell 5
          have z5 := HX.out.rb.cell 5
          have y5 := HX.out.rb.frozen 5
          have c6 := HX.out.fb.cell 6
          have z6 := HX.out.rb.cell 6
          have y6 := HX.out.rb.frozen 6
          have c7 := HX.out.fb.cell 7
          have z7 := HX.out.rb.cell 7
          have y7 := HX.out.rb.frozen 7
          have HF := Lib.hid (((((((((HX.out.res 0 (.slice A1 g.ins.length C1)).res 1 (.int .i64 g.vars)).res 2 (.int .i64 g.keep)).res 3 (.slice A2 g.ars.length C2)).res 4 (.int .i64 g.sh)).res 5 (.slice A4 g.blks.length C4)).res 6 (.slice A5 g.pts.length C5)).res 7 (.slice A3 g.hds.length C3)))
          have HF2 := Lib.hid (((((((((HG.out.far (p := ⟨w.heap.size + 1, 0, none⟩) (by show w.heap.size + 1 < w.heap.size + 1 + 1 + 1; omega) (.slice A1 g.ins.length C1)).far (p := ⟨w.heap.size + 1, 1, none⟩) (by show w.heap.size + 1 < w.heap.size + 1 + 1 + 1; omega) (.int .i64 g.vars)).far (p := ⟨w.heap.size + 1, 2, none⟩) (by show w.heap.size + 1 < w.heap.size + 1 + 1 + 1; omega) (.int .i64 g.keep)).far (p := ⟨w.heap.size + 1, 3, none⟩) (by show w.heap.size + 1 < w.heap.size + 1 + 1 + 1; omega) (.slice A2 g.ars.length C2)).far (p := ⟨w.heap.size + 1, 4, none⟩) (by show w.heap.size + 1 < w.heap.size + 1 + 1 + 1; omega) (.int .i64 g.sh)).far (p := ⟨w.heap.size + 1, 5, none⟩) (by show w.heap.size + 1 < w.heap.size + 1 + 1 + 1; omega) (.slice A4 g.blks.length C4)).far (p := ⟨w.heap.size + 1, 6, none⟩) (by show w.heap.size + 1 < w.heap.size + 1 + 1 + 1; omega) (.slice A5 g.pts.length C5)).far (p := ⟨w.heap.size + 1, 7, none⟩) (by show w.heap.size + 1 < w.heap.size + 1 + 1 + 1; omega) (.slice A3 g.hds.length C3)))
          clear HX HG
          go_wp2
          refine bodyPost_ret (v := .agg #[.slice A1 g.ins.length C1, .int .i64 g.vars, .int .i64 g.keep, .slice A2 g.ars.length C2, .int .i64 g.sh, .slice A4 g.blks.length C4, .slice A5 g.pts.length C5, .slice A3 g.hds.length C3]) (by simp [results, Try.results64, go_sem, z0, z1, z2, z3, z4, z5, z6, z7]) rfl ⟨_, _, _, _, _, us, ps, rfl, HF.out.low, HF2.out⟩
end Go.Proofs.Ytojnhdkclabkgaa
