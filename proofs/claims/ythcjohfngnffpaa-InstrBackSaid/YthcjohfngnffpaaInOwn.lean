/- Rows of one's own, told apart by their elements' types; append of any row. No condition. -/
import Derived.Test.YthcjohfngnffpaaPlLsts
import Derived.Test.YthcjohfngnffpaaInMath
import Derived.Lib.OwnBridge
namespace Go.Proofs.Ythcjohfngnffpaa
open Go.RowKit
set_option linter.unusedVariables false
set_option linter.unusedSimpArgs false
attribute [local go_sem] y_undef
theorem run_append_none_c {P : Program} {w : World} (base : Nat) (t ty e : TypeId) (i : TypeInfo) (size c : Nat) (ht : P.underlying t = some (.slice e)) (hi : P.info? e = some i)
    (v : Value) (n : Nat) (xs : List Value) (hown : w.ownsRow base e size v n xs) :
    (Builtin.append_ #[t, t] ty #[v, .slice none 0 c]).run P w = .ok v w := by
  rcases hown.2 with ⟨rfl, rfl⟩ | ⟨g, cap, cur, rfl, _, _, hnc, _⟩
  · simp [Builtin.append_, run_underlying ht, sizeOf, typeInfo, hi, Builtin.lenOf, Builtin.firstCells]
  · simp [Builtin.append_, run_underlying ht, sizeOf, typeInfo, hi, Builtin.lenOf, Builtin.firstCells, hnc, storeCells]
/-- append of any row onto a row of the call's own. -/
theorem wpList_append_row {P : Program} {w : World} {ops : Array Oper} {rest : List Oper} {o : Oper} {a : Act} {Q : Exit → Act → World → Prop} (hgd : o.guard = none) (s x : Operand) (t : TypeId)
    (ho : o.op = .call { callee := .builtin .append, args := #[s, x], argTypes := #[t, t] })
    (base : Nat) (e : TypeId) (i : TypeInfo) (z : Value) (size bytes : Nat) (ht : P.underlying t = some (.slice e)) (hi : P.info? e = some i) (hz : i.zero = some z)
    (hsize : i.size = size) (hby : i.bytes = bytes) (hzs : z.cells.size = size) (hsz : 0 < size)
    (v : Value) (n : Nat) (xs : List Value) (hs : a.eval s = v) (hown : w.ownsRow base e size v n xs)
    (vx : Value) (m : Nat) (news : List Value) (hx : a.eval x = vx) (hr : RowIn size w vx m news) (h1 : ∀ u ∈ news, u.oneCell' = true)
    (h63 : n + m ≤ maxLen) (hbytes : (n + m) * bytes ≤ 140737488355328) (hbase : base ≤ w.heap.size)
    (h : ∀ v' w', w'.ownsRow base e size v' (n + m) (xs ++ news) → w.grownBy w' v.ownBlock → (v'.ownBlock = v.ownBlock ∨ v'.ownBlock = some w.heap.size) → wpList P ops Q rest (a.put o.dst v') w') : wpList P ops Q (o :: rest) a w := by
  obtain ⟨A, c, rfl, hl, hcs⟩ := hr
  cases A with
  | none =>
    have h0 : m = 0 := by
      rcases hcs with h | ⟨b, off, e, _⟩
      · exact h
      · exact absurd e (by simp)
    subst h0
    have hn : news = [] := List.eq_nil_of_length_eq_zero (by rw [hl, Nat.zero_mul])
    subst hn
    refine wpList_plain hgd fun K hK => ?_
    have hrun := run_append_none_c (P := P) (w := w) base t o.type e i size c ht hi v n xs hown
    unfold Oper.wp
    simp [execOp, ho, resolve, invoke, builtin, hs, hx, hrun, Result.andThen]
    exact hK _ _ (h v w (by simpa using hown) (World.grownBy.refl w _) (.inl rfl))
  | some ad =>
    refine wpList_append_own_at _ hgd s x t ho base e i z size bytes ht hi hz hsize hby hzs hsz v n xs hs hown ad m c news hx hl (fun j u hj => ?_) h1 h63 hbytes hbase fun v' w' h2 h3 _ h4 => h v' w' h2 h3 h4
    rcases hcs with h0 | ⟨b, off, e, hlt, hc⟩
    · subst h0
      have hn : news = [] := List.eq_nil_of_length_eq_zero (by rw [hl, Nat.zero_mul])
      subst hn
      simp at hj
    · injection e with e
      subst e
      have := hc j u hj
      rw [show (⟨b, off, none⟩ : Addr).add j = ⟨b, off + j, none⟩ from by unfold Addr.add; split <;> simp_all]
      exact this
section
variable {u u' : World} {base base' sz sz' n m : Nat} {e e' : TypeId} {v y : Value} {xs ys : List Value}
/-- A row stays when a row of another type grows. -/
theorem own_grown_t (h : u.ownsRow base e sz v n xs) (hy : u.ownsRow base' e' sz' y m ys) (hne : e ≠ e') (hg : u.grownBy u' y.ownBlock) : u'.ownsRow base e sz v n xs := by
  refine h.kept hg ?_
  rcases h.2 with ⟨rfl, _⟩ | ⟨g, cap, cur, rfl, _, hgg, _⟩
  · exact .inl rfl
  · refine .inr (fun e1 => ?_)
    rcases hy.2 with ⟨rfl, _⟩ | ⟨g', cap', cur', rfl, _, hgg', _⟩
    · simp [Value.ownBlock] at e1
    · have e2 : g = g' := by simpa [Value.ownBlock] using e1
      subst e2
      rw [hgg] at hgg'
      injection hgg' with h
      injection h with _ h _
      exact hne h
theorem own_ap (h : u.ownsRow base e sz v n xs) (hg : u.grownBy u' y.ownBlock) (ha : Ap v y) : u'.ownsRow base e sz v n xs := by
  refine h.kept hg ?_
  cases hv : v.ownBlock with
  | none => exact .inl rfl
  | some k => exact .inr (fun e1 => ha k hv e1.symm)
theorem bk_grown_t {g : Nat} {t : TypeId} {cs : Array Value} (h : Bk u g t cs) (hy : u.ownsRow base' e' sz' y m ys) (hne : t ≠ e') (hg : u.grownBy u' y.ownBlock) : Bk u' g t cs := by
  refine (hg.block g h.lt (fun e1 => ?_)).trans h
  rcases hy.2 with ⟨rfl, _⟩ | ⟨g', cap', cur', rfl, _, hgg', _⟩
  · simp [Value.ownBlock] at e1
  · have e2 : g = g' := by simpa [Value.ownBlock] using e1
    subst e2
    unfold Bk at h
    rw [h] at hgg'
    injection hgg' with h
    injection h with _ h _
    exact hne h
/-- A box below a row's base stays when the row grows. -/
theorem bk_grown_b {g : Nat} {t : TypeId} {cs : Array Value} (h : Bk u g t cs) (hy : u.ownsRow base' e' sz' y m ys) (hl : g < base') (hg : u.grownBy u' y.ownBlock) : Bk u' g t cs :=
  (hg.block g h.lt (fun e1 => by have := (hy.lt g e1.symm).1; omega)).trans h
/-- Rows made at different times lie apart. -/
theorem ap_late (h : u.ownsRow base e sz v n xs) (hy : u'.ownsRow u.heap.size e' sz' y m ys) : Ap v y := fun k hk e1 => by
  have := (h.lt k hk).2
  have := (hy.lt k e1).1
  omega
theorem ap_type (h : u.ownsRow base e sz v n xs) (hy : u.ownsRow base' e' sz' y m ys) (hne : e ≠ e') : Ap v y := fun k hk e1 => by
  rcases h.2 with ⟨rfl, _⟩ | ⟨g, cap, cur, rfl, _, hgg, _⟩
  · simp [Value.ownBlock] at hk
  · rcases hy.2 with ⟨rfl, _⟩ | ⟨g', cap', cur', rfl, _, hgg', _⟩
    · simp [Value.ownBlock] at e1
    · have e2 : g = k := by simpa [Value.ownBlock] using hk
      have e3 : g' = k := by simpa [Value.ownBlock] using e1
      subst e2
      subst e3
      rw [hgg] at hgg'
      injection hgg' with h
      injection h with _ h _
      exact hne h
end
theorem own_mono_b {u : World} {base base' sz n : Nat} {e : TypeId} {v : Value} {xs : List Value} (h : u.ownsRow base e sz v n xs) (hb : base' ≤ base) : u.ownsRow base' e sz v n xs :=
  ⟨h.1, h.2.imp id (fun ⟨g, cap, cur, h1, h2, rest⟩ => ⟨g, cap, cur, h1, Nat.le_trans hb h2, rest⟩)⟩
/-- A store into a block of another type. -/
theorem own_store_b {u : World} {base g i : Nat} {e t : TypeId} {sz n : Nat} {v z : Value} {xs : List Value} {cs : Array Value} (h : u.ownsRow base e sz v n xs) (hb : Bk u g t cs) (hne : e ≠ t) : (u.setCell ⟨g, i, none⟩ z).ownsRow base e sz v n xs := by
  rcases h.2 with hn | ⟨g', cap, cur, rfl, h1, h2, rest⟩
  · exact ⟨h.1, .inl hn⟩
  · refine own_store h (fun e' => ?_)
    have e2 : g' = g := by simpa [Value.ownBlock] using e'
    subst e2
    have h3 : u.heap[g']? = some (.cells cs t (0, 0)) := hb
    rw [h2] at h3
    injection h3 with h3
    injection h3 with _ h4 _
    exact hne h4
section
variable {u : World} {base : Nat}
theorem own_eta {e : TypeId} {sz n : Nat} {v : Value} {xs : List Value} (h : u.ownsRow base e sz v n xs) : ∃ A c, v = .slice A n c := by
  rcases h.2 with ⟨rfl, rfl⟩ | ⟨g, cap, cur, rfl, _⟩
  · exact ⟨_, _, rfl⟩
  · exact ⟨_, _, rfl⟩
def slA' : Value → Option Addr | .slice A _ _ => A | _ => none
def slC' : Value → Nat | .slice _ _ c => c | _ => 0
theorem row_eta' {size n : Nat} {v : Value} {xs : List Value} (h : RowIn size u v n xs) : v = .slice (slA' v) n (slC' v) := by
  obtain ⟨A, c, rfl, _⟩ := h
  rfl
end
theorem lit_num (w : World) (z : Int) (c g : Nat) (hg : g = w.heap.size) : RowIn 1 (w.alloc (.cells #[.int .i64 z] 3)) (.slice (some ⟨g, 0, none⟩) 1 c) 1 [.int .i64 z] := by
  subst hg
  refine ⟨_, c, rfl, rfl, .inr ⟨_, 0, rfl, by simp, fun j x hj => ?_⟩⟩
  have hb := heap_alloc_new w (.cells #[.int .i64 z] 3)
  rw [cell_of_row _ _ _ _ _ _ hb, Nat.zero_add]
  simpa using hj
theorem one_z {z : Int} : ∀ u ∈ [Value.int .i64 z], u.oneCell' = true := by
  intro u hu
  simp at hu
  subst hu
  rfl
theorem minfo_boo : (Try.prog.info? 4).map (fun i => (i.zero, i.size, i.bytes)) = some (some (.bool false), 1, 1) := by kernel_rfl
theorem minfo_int : (Try.prog.info? 3).map (fun i => (i.zero, i.size, i.bytes)) = some (some (.int .i64 0), 1, 8) := by kernel_rfl
theorem minfo_u8 : (Try.prog.info? 5).map (fun i => (i.zero, i.size, i.bytes)) = some (some (.int .u8 0), 1, 1) := by kernel_rfl
theorem minfo_in : (Try.prog.info? 26).map (fun i => (i.zero, i.size, i.bytes)) = some (some (.agg #[.int .i64 0, .int .i64 0, .int .i64 0, .int .i64 0, .int .i64 0, .int .i64 0]), 6, 48) := by kernel_rfl
theorem mk_8 (u : World) : (Instr.makeSlice 46 (.int .i64 8) (.int .i64 8)).run Try.prog u = .ok (.slice (some ⟨u.heap.size, 0, none⟩) 8 8) (u.alloc (.cells #[.bool false, .bool false, .bool false, .bool false, .bool false, .bool false, .bool false, .bool false] 4)) := by
  obtain ⟨i, hi, hz, hs, hby⟩ := info_parts minfo_boo
  have h := run_make (P := Try.prog) u 46 4 i _ Try.underlying46 hi hz .i64 .i64 8 8 (by omega) (by omega) (by rw [hby]; omega) (by omega)
  rw [h, hs, show madeCells (Value.bool false).cells (Int.toNat 8 * 1) = #[.bool false, .bool false, .bool false, .bool false, .bool false, .bool false, .bool false, .bool false] from by kernel_rfl]
  rfl
/-- A row of n elements of so many cells each, at capacity c, made empty. -/
theorem mk_none (t e : TypeId) (i : TypeInfo) (z : Value) (size bytes : Nat) (ht : Try.prog.underlying t = some (.slice e)) (hi : Try.prog.info? e = some i) (hz : i.zero = some z) (hs : i.size = size) (hby : i.bytes = bytes) (c : Nat) (hc : c * bytes ≤ 140737488355328) (hc2 : c ≤ 4611686018427387904) (u : World) :
    (Instr.makeSlice t (.int .i64 0) (.int .i64 (c : Int))).run Try.prog u = .ok (.slice (some ⟨u.heap.size, 0, none⟩) 0 c) (u.alloc (.cells (madeCells z.cells (c * size)) e)) := by
  have h := run_make (P := Try.prog) u t e i z ht hi hz .i64 .i64 0 c (by omega) (by omega) (by rw [hby, Int.mul_comm]; omega) (by omega)
  rw [h, hs]
  simp
end Go.Proofs.Ythcjohfngnffpaa
