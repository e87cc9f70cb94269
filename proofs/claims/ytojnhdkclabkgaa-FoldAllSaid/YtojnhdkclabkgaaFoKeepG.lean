/- Folding keeps what operations do, and folding once more changes nothing. No condition. Folding keeps blocks' runs and a graph's run; the graph of the laws. No condition. -/
import Derived.Test.YtojnhdkclabkgaaFoMath
import Derived.Test.YtojnhdkclabkgaaTrPath
namespace Go.Proofs.Ytojnhdkclabkgaa
open Go.RowKit (wrap32 wrap64)
set_option linter.unusedVariables false
set_option linter.unusedSimpArgs false
namespace Fo
/-- What a variable is a copy of is a copy of nothing. -/
def Flat (s : S) : Prop := ∀ v u, s.cp v = some u → s.cp u = none
theorem flat0 : Flat s0 := fun v u h => by cases h
theorem use_none {s : S} (h : Flat s) (v : Int) : s.cp (use s v) = none := by
  unfold use
  cases hc : s.cp v with
  | none => simpa using hc
  | some u => simpa using h v u hc
theorem use_use {s : S} (h : Flat s) (v : Int) : use s (use s v) = use s v := by
  show (s.cp (use s v)).getD (use s v) = use s v
  rw [use_none h v]; rfl
theorem direct_dst (s : S) (o : Gr.Op) : (direct s o).dst = o.dst := by
  unfold direct; split
  · rfl
  · split <;> rfl
theorem direct_kind (s : S) (o : Gr.Op) : (direct s o).kind = o.kind := by
  unfold direct; split
  · rfl
  · split <;> rfl
theorem direct_imm (s : S) (o : Gr.Op) : (direct s o).imm = o.imm := by
  unfold direct; split
  · rfl
  · split <;> rfl
theorem direct_direct {s : S} (h : Flat s) (o : Gr.Op) : direct s (direct s o) = direct s o := by
  by_cases h1 : o.kind = 3 ∨ o.kind = 5
  · have e : direct s o = { o with a := use s o.a, b := use s o.b } := by unfold direct; rw [if_pos h1]
    rw [e]; unfold direct; rw [if_pos h1]; simp [use_use h]
  · by_cases h2 : o.kind = 2 ∨ o.kind = 4
    · have e : direct s o = { o with a := use s o.a } := by unfold direct; rw [if_neg h1, if_pos h2]
      rw [e]; unfold direct; rw [if_neg h1, if_pos h2]; simp [use_use h]
    · have e : direct s o = o := by unfold direct; rw [if_neg h1, if_neg h2]
      rw [e, e]
theorem step_or (s : S) (o : Gr.Op) : (step s o = direct s o ∧ result s (direct s o) = none) ∨ ∃ n, result s (direct s o) = some n ∧ step s o = ⟨1, o.dst, 0, 0, n⟩ := by
  unfold step const
  cases hr : result s (direct s o) with
  | none => exact .inl ⟨rfl, rfl⟩
  | some n => exact .inr ⟨n, rfl, by simp [direct_dst]⟩
theorem step_step {s : S} (h : Flat s) (o : Gr.Op) : step s (step s o) = step s o := by
  rcases step_or s o with ⟨e, hr⟩ | ⟨n, hr, e⟩
  · rw [e]; unfold step const; rw [direct_direct h, hr]
  · rw [e]; simp [step, const, direct, result]
theorem Flat.learn {s : S} (h : Flat s) {o : Gr.Op} (ha : o.kind = 2 → s.cp o.a = none) : Flat (Fo.learn s o) := by
  unfold Fo.learn
  split
  · exact h
  have hc : Flat ⟨s.wd, cut s.cp o.dst⟩ := fun v u hv => by
    simp only [cut] at hv ⊢
    split at hv
    · cases hv
    · rename_i hn
      split
      · rfl
      · exact h v u hv
  intro v u hv
  simp only at hv ⊢
  split at hv
  · rename_i h2
    rw [if_pos h2]
    unfold upd at hv ⊢
    split at hv
    · injection hv with hv
      subst hv
      rw [if_neg h2.2]
      simp only [cut]
      split
      · rfl
      · exact ha h2.1
    · rename_i hd
      have hu := hc v u hv
      have hne : u ≠ o.dst := fun e => by
        subst e
        simp only [cut] at hv
        split at hv
        · cases hv
        · rename_i hn; exact hn (.inr hv)
      rw [if_neg hne]
      exact hu
  · rename_i h2
    rw [if_neg h2]
    exact hc v u hv
theorem step_a {s : S} (h : Flat s) (o : Gr.Op) (hk : (step s o).kind = 2) : s.cp (step s o).a = none := by
  rcases step_or s o with ⟨e, hr⟩ | ⟨n, hr, e⟩
  · rw [e] at hk ⊢
    rw [direct_kind] at hk
    have e2 : (direct s o).a = use s o.a := by unfold direct; rw [if_neg (by omega), if_pos (by omega)]
    rw [e2]; exact use_none h _
  · rw [e] at hk; simp at hk
theorem runs_flat (l : List Gr.Op) : ∀ k, Flat (runs l k)
  | 0 => flat0
  | k + 1 => (runs_flat l k).learn (step_a (runs_flat l k) _)
theorem ops_len (l : List Gr.Op) : (ops l).length = l.length := by unfold ops; simp
theorem ops_at (l : List Gr.Op) {k : Nat} (hk : k < l.length) : (ops l).getD k Gr.op0 = opAt l k := by
  unfold ops
  rw [List.getD_eq_getElem?_getD]
  simp [hk]
theorem runs_ops (l : List Gr.Op) : ∀ k, k ≤ l.length → runs (ops l) k = runs l k
  | 0, _ => rfl
  | k + 1, h => by
    have ih := runs_ops l k (by omega)
    show Fo.learn (runs (ops l) k) (step (runs (ops l) k) ((ops l).getD k Gr.op0)) = Fo.learn (runs l k) (step (runs l k) (l.getD k Gr.op0))
    rw [ih, ops_at l (by omega)]
    unfold opAt
    rw [step_step (runs_flat l k)]
theorem ops_ops (l : List Gr.Op) : ops (ops l) = ops l := by
  have h : ∀ k ∈ List.range l.length, opAt (ops l) k = opAt l k := fun k hk => by
    have hk2 : k < l.length := by simpa using hk
    show step (runs (ops l) k) ((ops l).getD k Gr.op0) = _
    rw [runs_ops l k (by omega), ops_at l hk2]
    unfold opAt
    exact step_step (runs_flat l k) _
  show (List.range (ops l).length).map (opAt (ops l)) = (List.range l.length).map (opAt l)
  rw [ops_len]
  exact List.map_congr_left h
theorem blk_blk (b : Gr.Blk) : blk (blk b) = blk b := by
  by_cases h2 : b.next.length = 2
  · cases hw : (runs b.ops b.ops.length).wd (use (runs b.ops b.ops.length) b.cond) with
    | some n =>
      have e : blk b = ⟨ops b.ops, 0, [if n = 0 then b.next.getD 1 0 else b.next.getD 0 0]⟩ := by unfold blk; simp only [if_pos h2, hw]
      rw [e]; unfold blk; simp [ops_ops]
    | none =>
      have e : blk b = ⟨ops b.ops, use (runs b.ops b.ops.length) b.cond, b.next⟩ := by unfold blk; simp only [if_pos h2, hw]
      rw [e]
      unfold blk
      simp only [if_pos h2, ops_ops, ops_len, runs_ops b.ops _ (Nat.le_refl _), use_use (runs_flat b.ops _), hw]
  · have e : blk b = ⟨ops b.ops, b.cond, b.next⟩ := by unfold blk; simp only [if_neg h2]
    rw [e]; unfold blk; simp only [if_neg h2, ops_ops]
theorem gr_gr (g : Gr.G) : gr (gr g) = gr g := by
  unfold gr
  simp [blk_blk]
/-- What is known is so. -/
structure Sees (V : Nat) (s : S) (t : Tr.St) : Prop where
  wd : ∀ (v n : Int), 0 ≤ v → v < V → s.wd v = some n → Tr.at_ t v = n
  cp : ∀ (v u : Int), 0 ≤ v → v < V → s.cp v = some u → 0 ≤ u ∧ u < V ∧ Tr.at_ t u = Tr.at_ t v
theorem sees0 (V : Nat) (t : Tr.St) : Sees V s0 t := ⟨fun v n _ _ h => (by cases h), fun v u _ _ h => (by cases h)⟩
theorem Sees.use {V : Nat} {s : S} {t : Tr.St} (h : Sees V s t) {v : Int} (h0 : 0 ≤ v) (hv : v < V) : 0 ≤ Fo.use s v ∧ Fo.use s v < V ∧ Tr.at_ t (Fo.use s v) = Tr.at_ t v := by
  unfold Fo.use
  cases hc : s.cp v with
  | none => exact ⟨h0, hv, rfl⟩
  | some u => exact h.cp v u h0 hv hc
theorem ok_direct {V A : Nat} {s : S} {t : Tr.St} (h : Sees V s t) {o : Gr.Op} (ho : Tr.Ok V A o) : Tr.Ok V A (direct s o) := by
  have hk := ho.kind
  refine ⟨by rw [direct_kind]; exact hk, fun hk => by rw [direct_kind] at hk; rw [direct_dst]; exact ho.dst hk, fun hk => ?_, fun hk => ?_, fun hk => by rw [direct_kind] at hk; rw [direct_imm]; exact ho.imm hk, fun hk => by rw [direct_kind] at hk; rw [direct_imm]; exact ho.arr hk⟩
  · rw [direct_kind] at hk
    have ha := ho.a hk
    have hu := h.use ha.1 ha.2
    unfold direct
    split
    · exact ⟨hu.1, hu.2.1⟩
    · split
      · exact ⟨hu.1, hu.2.1⟩
      · exact ha
  · rw [direct_kind] at hk
    have hb := ho.b hk
    have hu := h.use hb.1 hb.2
    unfold direct
    rw [if_pos hk]
    exact ⟨hu.1, hu.2.1⟩
theorem act_direct {V A : Nat} {s : S} {t : Tr.St} (h : Sees V s t) {o : Gr.Op} (ho : Tr.Ok V A o) : Tr.act t (direct s o) = Tr.act t o := by
  have hk := ho.kind
  unfold direct
  split
  · rename_i h35
    have ha := h.use (ho.a (by omega)).1 (ho.a (by omega)).2
    have hb := h.use (ho.b h35).1 (ho.b h35).2
    unfold Tr.act Tr.ix
    simp only [ha.2.2, hb.2.2]
  · split
    · rename_i h24
      have ha := h.use (ho.a (by omega)).1 (ho.a (by omega)).2
      have hn : ¬o.kind = 3 ∧ ¬o.kind = 5 := by omega
      unfold Tr.act Tr.ix
      simp only [ha.2.2, hn.1, hn.2, if_false]
    · rfl
theorem act_const {V A : Nat} {s : S} {t : Tr.St} (h : Sees V s t) {o : Gr.Op} (ho : Tr.Ok V A o) : Tr.act t (const s o) = Tr.act t o := by
  unfold const
  cases hr : result s o with
  | none => rfl
  | some n =>
    unfold result at hr
    split at hr
    · rename_i h2
      have ha := h.wd _ _ (ho.a (by omega)).1 (ho.a (by omega)).2 hr
      simp [Tr.act, h2, ha]
    · split at hr
      · rename_i h3
        cases hx : s.wd o.a with
        | none => rw [hx] at hr; cases hr
        | some x =>
          cases hy : s.wd o.b with
          | none => rw [hx, hy] at hr; cases hr
          | some y =>
            rw [hx, hy] at hr
            have e : val o.imm x y = n := by simpa using hr
            have ha := h.wd _ _ (ho.a (by omega)).1 (ho.a (by omega)).2 hx
            have hb := h.wd _ _ (ho.b (.inl h3)).1 (ho.b (.inl h3)).2 hy
            simp [Tr.act, h3, ha, hb, e]
      · cases hr
theorem act_step {V A : Nat} {s : S} {t : Tr.St} (h : Sees V s t) {o : Gr.Op} (ho : Tr.Ok V A o) : Tr.act t (step s o) = Tr.act t o :=
  (act_const h (ok_direct h ho)).trans (act_direct h ho)
theorem at_set {V : Nat} {t : Tr.St} (hl : t.vs.length = V) {d v : Int} (x : Int) (hd : 0 ≤ d) (hdV : d < V) (hv : 0 ≤ v) : Tr.at_ { t with vs := t.vs.set d.toNat x } v = if v = d then x else Tr.at_ t v := by
  unfold Tr.at_
  rw [List.getD_eq_getElem?_getD, List.getD_eq_getElem?_getD, List.getElem?_set]
  by_cases e : v = d
  · subst e
    rw [if_pos rfl, if_pos (by omega), if_pos rfl]; rfl
  · rw [if_neg (by omega), if_neg e]
/-- What is learned behind an operation whose operands are drawn from what is known. -/
theorem Sees.learn {V A : Nat} {s : S} {t : Tr.St} (h : Sees V s t) {o : Gr.Op} (ho : Tr.Ok V A o) (hl : t.vs.length = V) : Sees V (Fo.learn s o) (Tr.act t o) := by
  have hk := ho.kind
  unfold Fo.learn
  by_cases h5 : o.kind = 5
  · rw [if_pos (.inl h5)]
    have e : ∀ v, Tr.at_ (Tr.act t o) v = Tr.at_ t v := fun v => by simp [Tr.act, h5, Tr.at_]
    exact ⟨fun v n h0 hv hw => by rw [e]; exact h.wd v n h0 hv hw, fun v u h0 hv hc => by rw [e, e]; exact h.cp v u h0 hv hc⟩
  rw [if_neg (by omega)]
  have hd := ho.dst (by omega)
  obtain ⟨x, hx, h1, h2⟩ : ∃ x, Tr.act t o = { t with vs := t.vs.set o.dst.toNat x } ∧ (o.kind = 1 → x = o.imm) ∧ (o.kind = 2 → x = Tr.at_ t o.a) := by
    have hc : o.kind = 1 ∨ o.kind = 2 ∨ o.kind = 3 ∨ o.kind = 4 := by omega
    rcases hc with e | e | e | e
    · exact ⟨_, by simp [Tr.act, e], fun _ => rfl, fun c => by omega⟩
    · exact ⟨_, by simp [Tr.act, e], fun c => by omega, fun _ => rfl⟩
    · exact ⟨val o.imm (Tr.at_ t o.a) (Tr.at_ t o.b), by simp [Tr.act, e], fun c => by omega, fun c => by omega⟩
    · exact ⟨(Tr.arr t o.imm).getD (Tr.ix t o) 0, by simp [Tr.act, e], fun c => by omega, fun c => by omega⟩
  rw [hx]
  have hat : ∀ (v : Int), 0 ≤ v → Tr.at_ { t with vs := t.vs.set o.dst.toNat x } v = if v = o.dst then x else Tr.at_ t v := fun v hv => at_set hl x hd.1 hd.2 hv
  have hcut : ∀ (v u : Int), 0 ≤ v → v < V → cut s.cp o.dst v = some u → v ≠ o.dst ∧ u ≠ o.dst ∧ 0 ≤ u ∧ u < V ∧ Tr.at_ t u = Tr.at_ t v := fun v u h0 hv hc => by
    unfold cut at hc
    split at hc
    · cases hc
    · rename_i hn
      have := h.cp v u h0 hv hc
      exact ⟨fun e => hn (.inl e), fun e => hn (.inr (e ▸ hc)), this⟩
  have hold : ∀ (v u : Int), 0 ≤ v → v < V → cut s.cp o.dst v = some u → 0 ≤ u ∧ u < V ∧ Tr.at_ { t with vs := t.vs.set o.dst.toNat x } u = Tr.at_ { t with vs := t.vs.set o.dst.toNat x } v := fun v u h0 hv hc => by
    obtain ⟨a, b, c, d, e⟩ := hcut v u h0 hv hc
    exact ⟨c, d, by rw [hat u c, hat v h0, if_neg a, if_neg b, e]⟩
  refine ⟨fun v n h0 hv hw => ?_, fun v u h0 hv hc => ?_⟩
  · simp only [upd] at hw
    rw [hat v h0]
    split at hw
    · rename_i e
      rw [if_pos e]
      split at hw
      · rename_i e1
        injection hw with hw
        rw [h1 e1, hw]
      · cases hw
    · rename_i e
      rw [if_neg e]
      exact h.wd v n h0 hv hw
  · simp only at hc
    split at hc
    · rename_i h2a
      unfold upd at hc
      split at hc
      · rename_i e
        injection hc with hc
        subst hc
        have ha := ho.a (by omega)
        exact ⟨ha.1, ha.2, by rw [hat _ ha.1, hat v h0, if_neg h2a.2, if_pos e, h2 h2a.1]⟩
      · exact hold v u h0 hv hc
    · exact hold v u h0 hv hc
end Fo
end Go.Proofs.Ytojnhdkclabkgaa
namespace Go.Proofs.Ytojnhdkclabkgaa
open Go.RowKit (wrap32 wrap64)
set_option linter.unusedVariables false
set_option linter.unusedSimpArgs false
namespace Fo
theorem ok_step {V A : Nat} {s : S} {t : Tr.St} (h : Sees V s t) (hw : Tr.Wf V A t) {o : Gr.Op} (ho : Tr.Ok V A o) : Tr.Ok V A (step s o) := by
  have hd := ok_direct h ho
  rcases step_or s o with ⟨e, hr⟩ | ⟨n, hr, e⟩
  · rw [e]; exact hd
  · have hk : o.kind = 2 ∨ o.kind = 3 := by
      unfold result at hr
      rw [direct_kind] at hr
      split at hr
      · omega
      · split at hr
        · omega
        · cases hr
    have hn : Tr.isWd n := by
      unfold result at hr
      split at hr
      · rename_i h2
        have ha := hd.a (by omega)
        rw [← h.wd _ _ ha.1 ha.2 hr]
        exact hw.at ha.1 ha.2
      · split at hr
        · rename_i h3
          cases hx : s.wd (direct s o).a with
          | none => rw [hx] at hr; cases hr
          | some x =>
            cases hy : s.wd (direct s o).b with
            | none => rw [hx, hy] at hr; cases hr
            | some y =>
              rw [hx, hy] at hr
              have e : val (direct s o).imm x y = n := by simpa using hr
              rw [← e]; exact val_bounds _ _ _
        · cases hr
    rw [e]
    have hdst := ho.dst (by omega)
    exact ⟨by simp, fun _ => hdst, fun c => by simp at c, fun c => by simp at c, fun _ => hn, fun c => by simp at c⟩
theorem acts_ops {V A : Nat} {t : Tr.St} (hw : Tr.Wf V A t) {l : List Gr.Op} (hl : ∀ k, k < l.length → Tr.Ok V A (l.getD k Gr.op0)) : ∀ k, k ≤ l.length → Tr.acts t (ops l) k = Tr.acts t l k ∧ Sees V (runs l k) (Tr.acts t l k)
  | 0, _ => ⟨rfl, sees0 V t⟩
  | k + 1, hk => by
    obtain ⟨ih, hs⟩ := acts_ops hw hl k (by omega)
    have ho := hl k (by omega)
    have hwk := hw.acts hl k (by omega)
    have hos := ok_step hs hwk ho
    have e : Tr.act (Tr.acts t l k) (opAt l k) = Tr.act (Tr.acts t l k) (l.getD k Gr.op0) := act_step hs ho
    refine ⟨?_, ?_⟩
    · show Tr.act (Tr.acts t (ops l) k) ((ops l).getD k Gr.op0) = Tr.act (Tr.acts t l k) (l.getD k Gr.op0)
      rw [ih, ops_at l (by omega), e]
    · show Sees V (Fo.learn (runs l k) (opAt l k)) (Tr.act (Tr.acts t l k) (l.getD k Gr.op0))
      rw [← e]
      exact hs.learn hos hwk.vl
/-- What is learned of operations of a block in any state is right: so are the folded operations. -/
theorem ok_ops {V A : Nat} {t : Tr.St} (hw : Tr.Wf V A t) {l : List Gr.Op} (hl : ∀ k, k < l.length → Tr.Ok V A (l.getD k Gr.op0)) {k : Nat} (hk : k < (ops l).length) : Tr.Ok V A ((ops l).getD k Gr.op0) := by
  rw [ops_len] at hk
  rw [ops_at l hk]
  exact ok_step (acts_ops hw hl k (by omega)).2 (hw.acts hl k (by omega)) (hl k hk)
theorem blk_ops (b : Gr.Blk) : (blk b).ops = ops b.ops := by
  unfold blk
  simp only
  split
  · split <;> rfl
  · rfl
theorem gr_blk (g : Gr.G) {k : Nat} (hk : k < g.blks.length) : Tr.blk (gr g) k = blk (Tr.blk g k) := by
  unfold Tr.blk gr
  rw [List.getD_eq_getElem?_getD, List.getD_eq_getElem?_getD]
  simp [hk]
theorem gr_len (g : Gr.G) : (gr g).blks.length = g.blks.length := by unfold gr; simp
/-- One block of a run, folded. -/
theorem stp_gr {g : Gr.G} {V A : Nat} {c : Tr.Cf} (hat : c.at_ < g.blks.length) (hw : Tr.Wf V A c.s) (hops : ∀ j, j < (Tr.blk g c.at_).ops.length → Tr.Ok V A ((Tr.blk g c.at_).ops.getD j Gr.op0)) (hc : (Tr.blk g c.at_).next.length = 2 → 0 ≤ (Tr.blk g c.at_).cond ∧ (Tr.blk g c.at_).cond < V) (hn : (Tr.blk g c.at_).next.length = 1 ∨ (Tr.blk g c.at_).next.length = 2) :
    Tr.pass (gr g) c = Tr.pass g c ∧ Tr.stp (gr g) c = Tr.stp g c := by
  have hb := gr_blk g hat
  obtain ⟨h1, h2⟩ := acts_ops hw hops _ (Nat.le_refl _)
  have hp : Tr.pass (gr g) c = Tr.pass g c := by
    unfold Tr.pass
    rw [hb, blk_ops, ops_len, h1]
  refine ⟨hp, ?_⟩
  have hx : Tr.nxt (gr g) (Tr.pass g c) = Tr.nxt g (Tr.pass g c) := by
    unfold Tr.nxt
    show (if (Tr.blk (gr g) c.at_).next.length = 1 ∨ Tr.at_ (Tr.pass g c).s (Tr.blk (gr g) c.at_).cond ≠ 0 then ((Tr.blk (gr g) c.at_).next.getD 0 0).toNat else ((Tr.blk (gr g) c.at_).next.getD 1 0).toNat) = (if (Tr.blk g c.at_).next.length = 1 ∨ Tr.at_ (Tr.pass g c).s (Tr.blk g c.at_).cond ≠ 0 then ((Tr.blk g c.at_).next.getD 0 0).toNat else ((Tr.blk g c.at_).next.getD 1 0).toNat)
    rw [hb]
    have h3 : Sees V (runs (Tr.blk g c.at_).ops (Tr.blk g c.at_).ops.length) (Tr.pass g c).s := h2
    clear h1 h2 hp hb hops
    revert h3
    generalize (Tr.pass g c).s = T
    revert hc hn
    generalize Tr.blk g c.at_ = b
    intro hc hn h2
    rcases hn with hn | hn
    · have e : blk b = ⟨ops b.ops, b.cond, b.next⟩ := by unfold blk; simp only [hn]; rfl
      rw [e]
    · have hcv := hc hn
      have hu := h2.use hcv.1 hcv.2
      cases hd : (runs b.ops b.ops.length).wd (use (runs b.ops b.ops.length) b.cond) with
      | some n =>
        have e : blk b = ⟨ops b.ops, 0, [if n = 0 then b.next.getD 1 0 else b.next.getD 0 0]⟩ := by unfold blk; simp only [if_pos hn, hd]
        have hv := h2.wd _ _ hu.1 hu.2.1 hd
        rw [e, ← hu.2.2, hv]
        by_cases h0 : n = 0
        · simp [h0, hn]
        · simp [h0]
      | none =>
        have e : blk b = ⟨ops b.ops, use (runs b.ops b.ops.length) b.cond, b.next⟩ := by unfold blk; simp only [if_pos hn, hd]
        rw [e, hu.2.2]
  unfold Tr.stp
  rw [hp, hx]
/-- A run of the folded graph goes the same way, with the same counts and steps. -/
theorem its_gr {g : Gr.G} {V A : Nat} {c : Tr.Cf} (hw : Tr.Wf V A c.s) (hops : ∀ k, k < g.blks.length → ∀ j, j < (Tr.blk g k).ops.length → Tr.Ok V A ((Tr.blk g k).ops.getD j Gr.op0)) (hc : ∀ k, k < g.blks.length → (Tr.blk g k).next.length = 2 → 0 ≤ (Tr.blk g k).cond ∧ (Tr.blk g k).cond < V) {N : Nat} (hg : Tr.Goes g c N) : ∀ n, n ≤ N → Tr.its (gr g) c n = Tr.its g c n
  | 0, _ => rfl
  | n + 1, hn => by
    have ih := its_gr hw hops hc hg n (by omega)
    have ha := hg.at_ n (by omega)
    have h := stp_gr ha (Tr.its_wf hw hops hg n (by omega)) (hops _ ha) (hc _ ha) (hg.more n (by omega))
    show Tr.stp (gr g) (Tr.its (gr g) c n) = Tr.stp g (Tr.its g c n)
    rw [ih, h.2]
theorem goes_gr {g : Gr.G} {V A : Nat} {c : Tr.Cf} (hw : Tr.Wf V A c.s) (hops : ∀ k, k < g.blks.length → ∀ j, j < (Tr.blk g k).ops.length → Tr.Ok V A ((Tr.blk g k).ops.getD j Gr.op0)) (hc : ∀ k, k < g.blks.length → (Tr.blk g k).next.length = 2 → 0 ≤ (Tr.blk g k).cond ∧ (Tr.blk g k).cond < V) {N : Nat} (hg : Tr.Goes g c N) :
    Tr.Goes (gr g) c N ∧ Tr.pass (gr g) (Tr.its (gr g) c N) = Tr.pass g (Tr.its g c N) := by
  have hi := its_gr hw hops hc hg
  refine ⟨⟨fun n hn => by rw [hi n hn, gr_len]; exact hg.at_ n hn, fun n hn => ?_, fun n hn => ?_, ?_⟩, ?_⟩
  · rw [hi n hn, gr_blk g (hg.at_ n hn), blk_ops, ops_len]; exact hg.left n hn
  · rw [hi n (by omega), gr_blk g (hg.at_ n (by omega))]
    have h := hg.more n hn
    generalize Tr.blk g (Tr.its g c n).at_ = b at h ⊢
    unfold blk
    simp only
    split
    · split
      · exact .inl rfl
      · exact h
    · exact h
  · rw [hi N (Nat.le_refl _), gr_blk g (hg.at_ N (Nat.le_refl _))]
    have h := hg.done
    generalize Tr.blk g (Tr.its g c N).at_ = b at h ⊢
    unfold blk
    simp only
    rw [if_neg (by omega)]
    exact h
  · rw [hi N (Nat.le_refl _)]
    have ha := hg.at_ N (Nat.le_refl _)
    have h1 := (acts_ops (Tr.its_wf hw hops hg N (Nat.le_refl _)) (hops _ ha) _ (Nat.le_refl _)).1
    unfold Tr.pass
    rw [gr_blk g ha, blk_ops, ops_len, h1]
end Fo
end Go.Proofs.Ytojnhdkclabkgaa
