/- Rows of numbers, each in a block of its own, told by their places. No condition. -/
import Derived.Test.YtojnhdkclabkgaaGrOwn
namespace Go.Proofs.Ytojnhdkclabkgaa
open Go.RowKit
set_option linter.unusedVariables false
set_option linter.unusedSimpArgs false
def nl : Value := .slice none 0 0
theorem rw_info : (Try.prog.info? 3).map (fun i => (i.zero, i.size, i.bytes)) = some (some (.int .i64 0), 1, 8) := by kernel_rfl
theorem grown_cell (u : World) (g i : Nat) (z : Value) : u.grownBy (u.setCell ⟨g, i, none⟩ z) (some g) :=
  ⟨rfl, rfl, rfl, by simp, fun k hk hne => Below.heap_setCell u ⟨g, i, none⟩ z k (fun e => hne (by rw [e]))⟩
/-- Rows of numbers that lie apart. -/
structure Rws (base : Nat) (u : World) (us : List Value) (ts : List (List Int)) : Prop where
  len : us.length = ts.length
  row : ∀ i, i < ts.length → u.ownsRow base 3 1 (us.getD i nl) (ts.getD i []).length ((ts.getD i []).map (.int .i64))
  ap : ∀ i j, i < ts.length → j < ts.length → i ≠ j → Ap (us.getD i nl) (us.getD j nl)
theorem gD_set {α : Type} {l : List α} {i k : Nat} {x d : α} (h : k < l.length) : (l.set i x).getD k d = if k = i then x else l.getD k d := by
  rw [List.getD_eq_getElem?_getD, List.getElem?_set, List.getD_eq_getElem?_getD]
  by_cases e : i = k
  · subst e
    rw [if_pos rfl, if_pos h, if_pos rfl]
    rfl
  · rw [if_neg e, if_neg (fun h => e h.symm)]
section
variable {u u' : World} {base : Nat} {us : List Value} {ts : List (List Int)}
theorem Rws.below (h : Rws base u us ts) (hb : Below u.heap.size u u') : Rws base u' us ts := ⟨h.len, fun i hi => own_below (h.row i hi) hb, h.ap⟩
theorem Rws.other {base' sz m : Nat} {e' : TypeId} {y : Value} {ys : List Value} (h : Rws base u us ts) (hy : u.ownsRow base' e' sz y m ys) (hne : 3 ≠ e') (hg : u.grownBy u' y.ownBlock) : Rws base u' us ts :=
  ⟨h.len, fun i hi => own_grown_t (h.row i hi) hy hne hg, h.ap⟩
theorem Rws.box {g i : Nat} {t : TypeId} {cs : Array Value} (h : Rws base u us ts) (hb : Bk u g t cs) (hne : 3 ≠ t) (z : Value) : Rws base (u.setCell ⟨g, i, none⟩ z) us ts :=
  ⟨h.len, fun i hi => own_store_b (h.row i hi) hb hne, h.ap⟩
theorem Rws.far (h : Rws base u us ts) {p : Addr} (hp : p.block < base) (z : Value) : Rws base (u.setCell p z) us ts :=
  ⟨h.len, fun i hi => ownsRow_setCell_below (h.row i hi) hp z, h.ap⟩
theorem Rws.mono {base' : Nat} (h : Rws base u us ts) (hb : base' ≤ base) : Rws base' u us ts := ⟨h.len, fun i hi => own_mono_b (h.row i hi) hb, h.ap⟩
/-- A row beside them changes. -/
theorem Rws.beside {x : Value} (h : Rws base u us ts) (hg : u.grownBy u' x.ownBlock) (ha : ∀ i, i < ts.length → Ap (us.getD i nl) x) : Rws base u' us ts :=
  ⟨h.len, fun i hi => own_ap (h.row i hi) hg (ha i hi), h.ap⟩
/-- Row k changes. -/
theorem Rws.change {k : Nat} {x' : Value} {q : List Int} (h : Rws base u us ts) (hk : k < ts.length) (hg : u.grownBy u' (us.getD k nl).ownBlock) (hown : u'.ownsRow base 3 1 x' q.length (q.map (.int .i64))) (hv : x'.ownBlock = (us.getD k nl).ownBlock ∨ x'.ownBlock = some u.heap.size) :
    Rws base u' (us.set k x') (ts.set k q) := by
  have hl := h.len
  have ha : ∀ i, i < ts.length → i ≠ k → Ap x' (us.getD i nl) := fun i hi hne => ap_new hv (h.ap k i hk hi (fun e => hne e.symm)) (fun j hj => own_block_lt (h.row i hi) hj)
  refine ⟨by simp [hl], fun i hi => ?_, fun i j hi hj hne => ?_⟩
  · rw [List.length_set] at hi
    rw [gD_set (by omega), gD_set hi]
    by_cases e : i = k
    · rw [if_pos e, if_pos e]; exact hown
    · rw [if_neg e, if_neg e]
      exact own_ap (h.row i hi) hg (h.ap i k hi hk e)
  · rw [List.length_set] at hi hj
    rw [gD_set (by omega), gD_set (by omega)]
    by_cases e1 : i = k
    · rw [if_pos e1, if_neg (fun e => hne (by rw [e1, e]))]
      exact ha j hj (fun e => hne (by rw [e1, e]))
    · rw [if_neg e1]
      by_cases e2 : j = k
      · rw [if_pos e2]; exact (ha i hi e1).symm
      · rw [if_neg e2]; exact h.ap i j hi hj hne
/-- Rows, and the row of them. -/
structure Lst (base : Nat) (u : World) (y : Value) (us : List Value) (ts : List (List Int)) : Prop where
  out : u.ownsRow base 32 1 y ts.length us
  rws : Rws base u us ts
variable {y : Value}
theorem Lst.below (h : Lst base u y us ts) (hb : Below u.heap.size u u') : Lst base u' y us ts := ⟨own_below h.out hb, h.rws.below hb⟩
theorem Lst.box {g i : Nat} {t : TypeId} {cs : Array Value} (h : Lst base u y us ts) (hb : Bk u g t cs) (h1 : 32 ≠ t) (h2 : 3 ≠ t) (z : Value) : Lst base (u.setCell ⟨g, i, none⟩ z) y us ts := ⟨own_store_b h.out hb h1, h.rws.box hb h2 z⟩
theorem Lst.far (h : Lst base u y us ts) {p : Addr} (hp : p.block < base) (z : Value) : Lst base (u.setCell p z) y us ts := ⟨ownsRow_setCell_below h.out hp z, h.rws.far hp z⟩
theorem Lst.mono {base' : Nat} (h : Lst base u y us ts) (hb : base' ≤ base) : Lst base' u y us ts := ⟨own_mono_b h.out hb, h.rws.mono hb⟩
theorem Lst.grown {base' sz m : Nat} {e' : TypeId} {x : Value} {xs : List Value} (h : Lst base u y us ts) (hx : u.ownsRow base' e' sz x m xs) (h1 : 32 ≠ e') (h2 : 3 ≠ e') (hg : u.grownBy u' x.ownBlock) : Lst base u' y us ts := ⟨own_grown_t h.out hx h1 hg, h.rws.other hx h2 hg⟩
theorem Lst.of_mps (h : Mps base u y us ts) : Lst base u y us ts := by
  have hl := h.len
  refine ⟨h.1, hl, fun i hi => ?_, fun i j hi hj hne => ?_⟩
  · exact h.2.1 i _ (getD_some nl (by omega))
  · have hi' : i < us.length := by omega
    have hj' : j < us.length := by omega
    rw [show us.getD i nl = us[i] by simp [List.getD, List.getElem?_eq_getElem hi'], show us.getD j nl = us[j] by simp [List.getD, List.getElem?_eq_getElem hj']]
    rcases Nat.lt_or_gt_of_ne hne with h1 | h1
    · exact List.pairwise_iff_getElem.1 h.2.2.1 i j hi' hj' h1
    · exact (List.pairwise_iff_getElem.1 h.2.2.1 j i hj' hi' h1).symm
/-- A list of lists, as it is read. -/
theorem Lst.lsts (h : Lst base u y us ts) : LstsIn u y ts := by
  have hl := h.rws.len
  rcases h.out.2 with ⟨rfl, h0⟩ | ⟨g, cap, cur, rfl, hB, hg, hcap, _⟩
  · exact ⟨none, 0, by rw [h0], fun i hi => by omega⟩
  · refine ⟨_, cap, rfl, fun i hi => ?_⟩
    have hx : us[i]? = some (us.getD i nl) := getD_some _ (by omega)
    have hc := h.out.cells (g := g) rfl i _ hx
    have hadd : (⟨g, 0, none⟩ : Addr).add i = ⟨g, 0 + i, none⟩ := by unfold Addr.add; split <;> simp_all
    rw [hadd] at hc
    exact ⟨g, 0, us.getD i nl, rfl, (h.out.lt g rfl).2, hc, RowIn.own (h.rws.row i hi)⟩
/-- Cell i of a row of one's own. -/
theorem own_at {e : TypeId} {v : Value} {n i : Nat} {xs : List Value} {d : Value} (h : u.ownsRow base e 1 v n xs) (hi : i < n) : ∃ g c, v = .slice (some ⟨g, 0, none⟩) n c ∧ base ≤ g ∧ g < u.heap.size ∧ u.cell? ⟨g, i, none⟩ = some (xs.getD i d) ∧ u.frozen? ⟨g, i, none⟩ = false := by
  have hl := h.1
  rcases h.2 with ⟨rfl, h0⟩ | ⟨g, cap, cur, rfl, hB, hg, hcap, _⟩
  · omega
  · have hx : xs[i]? = some (xs.getD i d) := getD_some _ (by omega)
    have hc := h.cells (g := g) rfl i _ hx
    have hadd : (⟨g, 0, none⟩ : Addr).add i = ⟨g, 0 + i, none⟩ := by unfold Addr.add; split <;> simp_all
    rw [hadd, Nat.zero_add] at hc
    exact ⟨g, cap, rfl, hB, (h.lt g rfl).2, hc, by simp [World.frozen?, hg]⟩
theorem own_num {v : Value} {i : Nat} {l : List Int} (h : u.ownsRow base 3 1 v l.length (l.map (.int .i64))) (hi : i < l.length) : ∃ g c, v = .slice (some ⟨g, 0, none⟩) l.length c ∧ base ≤ g ∧ g < u.heap.size ∧ u.cell? ⟨g, i, none⟩ = some (.int .i64 (l.getD i 0)) ∧ u.frozen? ⟨g, i, none⟩ = false := by
  obtain ⟨g, c, e, h1, h2, h3, h4⟩ := own_at (d := .int .i64 0) h hi
  refine ⟨g, c, e, h1, h2, ?_, h4⟩
  rw [h3]
  simp [List.getD, List.getElem?_eq_getElem hi]
theorem own_cell {e : TypeId} {gy cy n m i : Nat} {xs : List Value} (d : Value) (h : u.ownsRow base e 1 (.slice (some ⟨gy, 0, none⟩) n cy) m xs) (hi : i < m) : u.cell? ⟨gy, i, none⟩ = some (xs.getD i d) ∧ u.frozen? ⟨gy, i, none⟩ = false ∧ gy < u.heap.size ∧ base ≤ gy := by
  obtain ⟨g, c, e, h1, h2, h3, h4⟩ := own_at (d := d) h hi
  injection e with e _ _
  injection e with e
  injection e with e _ _
  subst e
  exact ⟨h3, h4, h2, h1⟩
theorem lit_num (w : World) (z : Int) (c g : Nat) (hg : g = w.heap.size) : RowIn 1 (w.alloc (.cells #[.int .i64 z] 3)) (.slice (some ⟨g, 0, none⟩) 1 c) 1 [.int .i64 z] := by
  subst hg
  refine ⟨_, c, rfl, rfl, .inr ⟨_, 0, rfl, by simp, fun j x hj => ?_⟩⟩
  have hb := heap_alloc_new w (.cells #[.int .i64 z] 3)
  rw [cell_of_row _ _ _ _ _ _ hb, Nat.zero_add]
  simpa using hj
theorem one_z {z : Int} : ∀ u ∈ [Value.int .i64 z], u.oneCell' = true := by
  intro u hu
  simp at hu
  subst hu
  rfl
/-- Element k of the row of rows is another row. -/
theorem Lst.put {k gy cy : Nat} {x' : Value} {q : List Int} {u1 : World} (h : Lst base u (.slice (some ⟨gy, 0, none⟩) ts.length cy) us ts) (hk : k < ts.length) (hg : u.grownBy u1 (us.getD k nl).ownBlock) (hown : u1.ownsRow base 3 1 x' q.length (q.map (.int .i64))) (hv : x'.ownBlock = (us.getD k nl).ownBlock ∨ x'.ownBlock = some u.heap.size) :
    Lst base (u1.setCell ⟨gy, k, none⟩ x') (.slice (some ⟨gy, 0, none⟩) ts.length cy) (us.set k x') (ts.set k q) := by
  have h1 := own_grown_t h.out (h.rws.row k hk) (by decide) hg
  have h2 := h.rws.change hk hg hown hv
  refine ⟨?_, h2.other h1 (by decide) (grown_cell _ _ _ _)⟩
  rw [List.length_set]
  exact own_set h1 hk
theorem lst_made (u : World) (n : Nat) (hb : base ≤ u.heap.size) (hn : n ≤ 1000) : Lst base (u.alloc (.cells (slRow n (fun _ => .slice none 0 0)) 32)) (.slice (some ⟨u.heap.size, 0, none⟩) n n) (List.replicate n nl) (List.replicate n []) := by
  have hs : (slRow n (fun _ => Value.slice none 0 0)).toList = List.replicate n nl := by
    unfold slRow nl
    apply List.ext_getElem
    · simp
    · intro i h1 h2; simp
  have hz : (slRow n (fun _ => Value.slice none 0 0)).size = n := by unfold slRow; simp
  refine ⟨⟨by simp, .inr ⟨u.heap.size, n, _, by rw [List.length_replicate], hb, heap_alloc_new u _, by simp, by unfold maxLen; omega, by rw [hz]; omega, by rw [hs]; simp⟩⟩, by simp, fun i hi => ?_, fun i j hi hj hne => ?_⟩
  · rw [List.length_replicate] at hi
    rw [show (List.replicate n nl).getD i nl = nl by simp [List.getD, hi], show (List.replicate n ([] : List Int)).getD i [] = [] by simp [List.getD, hi]]
    exact World.ownsRow_nil _ _ _ _
  · rw [List.length_replicate] at hi
    rw [show (List.replicate n nl).getD i nl = nl by simp [List.getD, hi]]
    exact Ap.nil _
end
end Go.Proofs.Ytojnhdkclabkgaa
