/- Rows of one's own, told apart by their elements' types; a graph's blocks in the making; append of any row. No condition. -/
import Derived.Test.YtojnhdkclabkgaaGrParts
import Derived.Test.YtojnhdkclabkgaaPlLsts
namespace Go.Proofs.Ytojnhdkclabkgaa
open Go.RowKit
set_option linter.unusedVariables false
set_option linter.unusedSimpArgs false
attribute [local go_sem] y_undef
theorem run_append_none_c {P : Program} {w : World} (base : Nat) (t ty e : TypeId) (i : TypeInfo) (size c : Nat) (ht : P.underlying t = some (.slice e)) (hi : P.info? e = some i)
    (v : Value) (n : Nat) (xs : List Value) (hown : w.ownsRow base e size v n xs) :
    (Builtin.append_ #[t, t] ty #[v, .slice none 0 c]).run P w = .ok v w := by
  rcases hown.2 with ⟨rfl, rfl⟩ | ⟨g, cap, cur, rfl, _, _, hnc, _⟩
  · simp [Builtin.append_, run_underlying ht, sizeOf, typeInfo, hi, Builtin.lenOf, Builtin.firstCells]
  · simp [Builtin.append_, run_underlying ht, sizeOf, typeInfo, hi, Builtin.lenOf, Builtin.firstCells, hnc, storeCells]
/-- append of any row onto a row of the call's own. -/
theorem wpList_append_row {P : Program} {w : World} {ops : Array Oper} {rest : List Oper} {o : Oper} {a : Act} {Q : Exit → Act → World → Prop} (hgd : o.guard = none) (s x : Operand) (t : TypeId)
    (ho : o.op = .call { callee := .builtin .append, args := #[s, x], argTypes := #[t, t] })
    (base : Nat) (e : TypeId) (i : TypeInfo) (z : Value) (size bytes : Nat) (ht : P.underlying t = some (.slice e)) (hi : P.info? e = some i) (hz : i.zero = some z)
    (hsize : i.size = size) (hby : i.bytes = bytes) (hzs : z.cells.size = size) (hsz : 0 < size)
    (v : Value) (n : Nat) (xs : List Value) (hs : a.eval s = v) (hown : w.ownsRow base e size v n xs)
    (vx : Value) (m : Nat) (news : List Value) (hx : a.eval x = vx) (hr : RowIn size w vx m news) (h1 : ∀ u ∈ news, u.oneCell' = true)
    (h63 : n + m ≤ maxLen) (hbytes : (n + m) * bytes ≤ 140737488355328) (hbase : base ≤ w.heap.size)
    (h : ∀ v' w', w'.ownsRow base e size v' (n + m) (xs ++ news) → w.grownBy w' v.ownBlock → (v'.ownBlock = v.ownBlock ∨ v'.ownBlock = some w.heap.size) → wpList P ops Q rest (a.put o.dst v') w') : wpList P ops Q (o :: rest) a w := by
  obtain ⟨A, c, rfl, hl, hcs⟩ := hr
  cases A with
  | none =>
    have h0 : m = 0 := by
      rcases hcs with h | ⟨b, off, e, _⟩
      · exact h
      · exact absurd e (by simp)
    subst h0
    have hn : news = [] := List.eq_nil_of_length_eq_zero (by rw [hl, Nat.zero_mul])
    subst hn
    refine wpList_plain hgd fun K hK => ?_
    have hrun := run_append_none_c (P := P) (w := w) base t o.type e i size c ht hi v n xs hown
    unfold Oper.wp
    simp [execOp, ho, resolve, invoke, builtin, hs, hx, hrun, Result.andThen]
    exact hK _ _ (h v w (by simpa using hown) (World.grownBy.refl w _) (.inl rfl))
  | some ad =>
    refine wpList_append_own_at _ hgd s x t ho base e i z size bytes ht hi hz hsize hby hzs hsz v n xs hs hown ad m c news hx hl (fun j u hj => ?_) h1 h63 hbytes hbase fun v' w' h2 h3 _ h4 => h v' w' h2 h3 h4
    rcases hcs with h0 | ⟨b, off, e, hlt, hc⟩
    · subst h0
      have hn : news = [] := List.eq_nil_of_length_eq_zero (by rw [hl, Nat.zero_mul])
      subst hn
      simp at hj
    · injection e with e
      subst e
      have := hc j u hj
      rw [show (⟨b, off, none⟩ : Addr).add j = ⟨b, off + j, none⟩ from by unfold Addr.add; split <;> simp_all]
      exact this
section
variable {u u' : World} {base base' sz sz' n m : Nat} {e e' : TypeId} {v y : Value} {xs ys : List Value}
/-- A row stays when a row of another type grows. -/
theorem own_grown_t (h : u.ownsRow base e sz v n xs) (hy : u.ownsRow base' e' sz' y m ys) (hne : e ≠ e') (hg : u.grownBy u' y.ownBlock) : u'.ownsRow base e sz v n xs := by
  refine h.kept hg ?_
  rcases h.2 with ⟨rfl, _⟩ | ⟨g, cap, cur, rfl, _, hgg, _⟩
  · exact .inl rfl
  · refine .inr (fun e1 => ?_)
    rcases hy.2 with ⟨rfl, _⟩ | ⟨g', cap', cur', rfl, _, hgg', _⟩
    · simp [Value.ownBlock] at e1
    · have e2 : g = g' := by simpa [Value.ownBlock] using e1
      subst e2
      rw [hgg] at hgg'
      injection hgg' with h
      injection h with _ h _
      exact hne h
theorem own_ap (h : u.ownsRow base e sz v n xs) (hg : u.grownBy u' y.ownBlock) (ha : Ap v y) : u'.ownsRow base e sz v n xs := by
  refine h.kept hg ?_
  cases hv : v.ownBlock with
  | none => exact .inl rfl
  | some k => exact .inr (fun e1 => ha k hv e1.symm)
theorem bk_grown_t {g : Nat} {t : TypeId} {cs : Array Value} (h : Bk u g t cs) (hy : u.ownsRow base' e' sz' y m ys) (hne : t ≠ e') (hg : u.grownBy u' y.ownBlock) : Bk u' g t cs := by
  refine (hg.block g h.lt (fun e1 => ?_)).trans h
  rcases hy.2 with ⟨rfl, _⟩ | ⟨g', cap', cur', rfl, _, hgg', _⟩
  · simp [Value.ownBlock] at e1
  · have e2 : g = g' := by simpa [Value.ownBlock] using e1
    subst e2
    unfold Bk at h
    rw [h] at hgg'
    injection hgg' with h
    injection h with _ h _
    exact hne h
/-- A box below a row's base stays when the row grows. -/
theorem bk_grown_b {g : Nat} {t : TypeId} {cs : Array Value} (h : Bk u g t cs) (hy : u.ownsRow base' e' sz' y m ys) (hl : g < base') (hg : u.grownBy u' y.ownBlock) : Bk u' g t cs :=
  (hg.block g h.lt (fun e1 => by have := (hy.lt g e1.symm).1; omega)).trans h
/-- Rows made at different times lie apart. -/
theorem ap_late (h : u.ownsRow base e sz v n xs) (hy : u'.ownsRow u.heap.size e' sz' y m ys) : Ap v y := fun k hk e1 => by
  have := (h.lt k hk).2
  have := (hy.lt k e1).1
  omega
theorem ap_type (h : u.ownsRow base e sz v n xs) (hy : u.ownsRow base' e' sz' y m ys) (hne : e ≠ e') : Ap v y := fun k hk e1 => by
  rcases h.2 with ⟨rfl, _⟩ | ⟨g, cap, cur, rfl, _, hgg, _⟩
  · simp [Value.ownBlock] at hk
  · rcases hy.2 with ⟨rfl, _⟩ | ⟨g', cap', cur', rfl, _, hgg', _⟩
    · simp [Value.ownBlock] at e1
    · have e2 : g = k := by simpa [Value.ownBlock] using hk
      have e3 : g' = k := by simpa [Value.ownBlock] using e1
      subst e2
      subst e3
      rw [hgg] at hgg'
      injection hgg' with h
      injection h with _ h _
      exact hne h
end
theorem own_mono_b {u : World} {base base' sz n : Nat} {e : TypeId} {v : Value} {xs : List Value} (h : u.ownsRow base e sz v n xs) (hb : base' ≤ base) : u.ownsRow base' e sz v n xs :=
  ⟨h.1, h.2.imp id (fun ⟨g, cap, cur, h1, h2, rest⟩ => ⟨g, cap, cur, h1, Nat.le_trans hb h2, rest⟩)⟩
/-- A store into a block of another type. -/
theorem own_store_b {u : World} {base g i : Nat} {e t : TypeId} {sz n : Nat} {v z : Value} {xs : List Value} {cs : Array Value} (h : u.ownsRow base e sz v n xs) (hb : Bk u g t cs) (hne : e ≠ t) : (u.setCell ⟨g, i, none⟩ z).ownsRow base e sz v n xs := by
  rcases h.2 with hn | ⟨g', cap, cur, rfl, h1, h2, rest⟩
  · exact ⟨h.1, .inl hn⟩
  · refine own_store h (fun e' => ?_)
    have e2 : g' = g := by simpa [Value.ownBlock] using e'
    subst e2
    have h3 : u.heap[g']? = some (.cells cs t (0, 0)) := hb
    rw [h2] at h3
    injection h3 with h3
    injection h3 with _ h4 _
    exact hne h4
/-- A block's cells and its rows. -/
structure Bq (base : Nat) (u : World) (x : Value × Int × Value) (b : Gr.Blk) : Prop where
  cnd : x.2.1 = b.cond
  ops : u.ownsRow base 27 5 x.1 b.ops.length (b.ops.flatMap opCells)
  nxt : u.ownsRow base 3 1 x.2.2 b.next.length (b.next.map (.int .i64))
/-- Blocks of one's own: the row of them, and theirs. -/
structure Bks (base : Nat) (u : World) (y : Value) (us : List (Value × Int × Value)) (l : List Gr.Blk) : Prop where
  row : u.ownsRow base 34 3 y l.length (us.flatMap bkC)
  len : us.length = l.length
  el : ∀ i, i < l.length → Bq base u (us.getD i bkz) (l.getD i Gr.blk0)
  ap : ∀ i j, i < l.length → j < l.length → i ≠ j → Ap (us.getD i bkz).1 (us.getD j bkz).1
section
variable {u u' : World} {base : Nat} {y y' : Value} {us : List (Value × Int × Value)} {l : List Gr.Blk} {x : Value × Int × Value} {b : Gr.Blk}
theorem Bq.below (h : Bq base u x b) (hb : Below u.heap.size u u') : Bq base u' x b := ⟨h.cnd, own_below h.ops hb, own_below h.nxt hb⟩
theorem Bks.below (h : Bks base u y us l) (hb : Below u.heap.size u u') : Bks base u' y us l := ⟨own_below h.row hb, h.len, fun i hi => (h.el i hi).below hb, h.ap⟩
theorem Bks.nil (base : Nat) (u : World) : Bks base u (.slice none 0 0) [] [] := ⟨World.ownsRow_nil _ _ _ _, rfl, fun i hi => absurd hi (Nat.not_lt_zero _), fun i j hi => absurd hi (Nat.not_lt_zero _)⟩
theorem getD_left {α : Type} {l : List α} {x d : α} {i : Nat} (hi : i < l.length) : (l ++ [x]).getD i d = l.getD i d := by simp [List.getD, List.getElem?_append_left hi]
theorem getD_last {α : Type} {l : List α} {x d : α} {i : Nat} (hi : i = l.length) : (l ++ [x]).getD i d = x := by subst hi; simp [List.getD]
/-- One more block. -/
theorem Bks.push (h : Bks base u y us l) (hx : Bq base u x b) (hap : ∀ i, i < l.length → Ap (us.getD i bkz).1 x.1) (hown : u'.ownsRow base 34 3 y' (l.length + 1) (us.flatMap bkC ++ bkC x)) (hg : u.grownBy u' y.ownBlock) : Bks base u' y' (us ++ [x]) (l ++ [b]) := by
  have hl := h.len
  have hk : ∀ {x b}, Bq base u x b → Bq base u' x b := fun h' => ⟨h'.cnd, own_grown_t h'.ops h.row (by decide) hg, own_grown_t h'.nxt h.row (by decide) hg⟩
  have hsp : ∀ i, i < l.length + 1 → i < l.length ∨ i = l.length := fun i hi => by omega
  refine ⟨by simpa using hown, by simp [hl], fun i hi => ?_, fun i j hi hj hne => ?_⟩
  · rw [List.length_append, List.length_singleton] at hi
    rcases hsp i hi with hi | hi
    · rw [getD_left hi, getD_left (by omega)]; exact hk (h.el i hi)
    · rw [getD_last hi, getD_last (by omega)]; exact hk hx
  · rw [List.length_append, List.length_singleton] at hi hj
    rcases hsp i hi with hi | hi <;> rcases hsp j hj with hj | hj
    · rw [getD_left (by omega), getD_left (by omega)]; exact h.ap i j hi hj hne
    · rw [getD_left (by omega), getD_last (by omega)]; exact hap i hi
    · rw [getD_last (by omega), getD_left (by omega)]; exact (hap j hj).symm
    · omega
/-- As a graph's blocks are read. -/
theorem own_eta {e : TypeId} {sz n : Nat} {v : Value} {xs : List Value} (h : u.ownsRow base e sz v n xs) : ∃ A c, v = .slice A n c := by
  rcases h.2 with ⟨rfl, rfl⟩ | ⟨g, cap, cur, rfl, _⟩
  · exact ⟨_, _, rfl⟩
  · exact ⟨_, _, rfl⟩
def slA' : Value → Option Addr | .slice A _ _ => A | _ => none
def slC' : Value → Nat | .slice _ _ c => c | _ => 0
theorem row_eta' {size n : Nat} {v : Value} {xs : List Value} (h : RowIn size u v n xs) : v = .slice (slA' v) n (slC' v) := by
  obtain ⟨A, c, rfl, _⟩ := h
  rfl
theorem Bks.cells (h : Bks base u y us l) {i : Nat} (hi : i < l.length) : ∃ g c, y = .slice (some ⟨g, 0, none⟩) l.length c ∧ base ≤ g ∧ g < u.heap.size ∧ u.cell? ⟨g, i * 3, none⟩ = some (us.getD i bkz).1 ∧ u.cell? ⟨g, i * 3 + 1, none⟩ = some (.int .i64 (us.getD i bkz).2.1) ∧ u.cell? ⟨g, i * 3 + 2, none⟩ = some (us.getD i bkz).2.2 := by
  have hl := h.len
  have hx : us[i]? = some (us.getD i bkz) := getD_some _ (by omega)
  rcases h.row.2 with ⟨rfl, h0⟩ | ⟨g, cap, cur, rfl, hb, hgg, _⟩
  · omega
  · have hc : ∀ k v, (bkC (us.getD i bkz))[k]? = some v → u.cell? ⟨g, i * 3 + k, none⟩ = some v := fun k v hv => by
      have hf := flat_cell bkC 3 (fun _ => rfl) us i k _ _ hx hv
      have hlt : i * 3 + k < l.length * 3 := by
        have := (List.getElem?_eq_some_iff.1 hv).1
        simp [bkC] at this
        omega
      rw [h.row.cellAt _ hlt, hf]
    exact ⟨g, cap, rfl, hb, (h.row.lt g rfl).2, hc 0 _ rfl, hc 1 _ rfl, hc 2 _ rfl⟩
theorem Bks.blks (h : Bks base u y us l) : BlksIn u y l := by
  obtain ⟨A, c, rfl⟩ := own_eta h.row
  refine ⟨A, c, fun i => slA' (us.getD i bkz).1, fun i => slA' (us.getD i bkz).2.2, fun i => slC' (us.getD i bkz).1, fun i => slC' (us.getD i bkz).2.2, rfl, fun i hi => ?_⟩
  obtain ⟨g, c', e, hb, hlt, h0, h1, h2⟩ := h.cells hi
  have hq := h.el i hi
  have ho := RowIn.own hq.ops
  have hn := RowIn.own hq.nxt
  injection e with e _ _
  refine ⟨g, 0, e, hlt, ?_, ?_, ?_, ?_, ?_⟩
  · rw [Nat.zero_add, h0, ← row_eta' ho]
  · rw [Nat.zero_add, h1, hq.cnd]
  · rw [Nat.zero_add, h2, ← row_eta' hn]
  · rw [← row_eta' ho]; exact ho
  · rw [← row_eta' hn]; exact hn
end
end Go.Proofs.Ytojnhdkclabkgaa
