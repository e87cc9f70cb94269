/- The graph of the laws of operations: right, folded too, and how a run goes through it. No condition. -/
import Derived.Test.YtojnhdkclabkgaaFoKeepG
import Derived.Test.YtojnhdkclabkgaaFoOps
namespace Go.Proofs.Ytojnhdkclabkgaa
open Go.RowKit (wrap32 wrap64)
set_option linter.unusedVariables false
set_option linter.unusedSimpArgs false
namespace Fo
def op77 : Gr.Op := ⟨1, 4, 0, 0, 77⟩
/-- Three blocks over five variables and one array. -/
def lawG (nx ny na : ByteArray) (l : List Gr.Op) (c : Int) : Gr.G :=
  ⟨[(nx, -2147483648, 2147483647), (ny, -2147483648, 2147483647)], 5, 5, [(na, 4)], 0, [⟨l, c, [1, 2]⟩, ⟨[op77], 0, [2]⟩, ⟨[], 0, []⟩], [], []⟩
/-- An operation that is right and no lock. -/
def Nice (V A : Nat) (o : Gr.Op) : Prop := Gr.opOk V A o = true ∧ o.kind ≤ 5
theorem isW_is {n : Int} : Gr.isW n = true ↔ Tr.isWd n := by
  unfold Gr.isW Tr.isWd
  rw [decide_eq_true_eq]
  constructor
  · intro h; rw [← h]; exact wrap32_bounds n
  · exact wrap32_same
theorem inn_is {k n : Int} : Gr.inn k n = true ↔ 0 ≤ k ∧ k < n := by unfold Gr.inn; simp
theorem zer_is {n : Int} : Gr.zer n = true ↔ n = 0 := by unfold Gr.zer; simp
theorem Nice.kind {V A : Nat} {o : Gr.Op} (h : Nice V A o) : 1 ≤ o.kind ∧ o.kind ≤ 5 := by
  refine ⟨?_, h.2⟩
  have := h.1
  unfold Gr.opOk at this
  repeat' split at this
  all_goals first | omega | cases this
theorem Nice.ok {V A : Nat} {o : Gr.Op} (h : Nice V A o) : Tr.Ok V A o := by
  have hk := h.kind
  have h1 := h.1
  have hc : o.kind = 1 ∨ o.kind = 2 ∨ o.kind = 3 ∨ o.kind = 4 ∨ o.kind = 5 := by omega
  rcases hc with e | e | e | e | e <;> simp [Gr.opOk, e, inn_is, isW_is, zer_is] at h1 <;> refine ⟨hk, fun _ => ?_, fun _ => ?_, fun _ => ?_, fun _ => ?_, fun _ => ?_⟩ <;> first | omega | exact h1.1.1.2
theorem Nice.step {V A : Nat} {s : S} {t : Tr.St} (h : Sees V s t) (hw : Tr.Wf V A t) {o : Gr.Op} (ho : Nice V A o) : Nice V A (Fo.step s o) := by
  have hok := ok_step h hw ho.ok
  refine ⟨?_, hok.kind.2⟩
  have hd := ok_direct h ho.ok
  have hk := ho.kind
  have h1 := ho.1
  rcases step_or s o with ⟨e, hr⟩ | ⟨n, hr, e⟩
  · rw [e]
    have hc : o.kind = 1 ∨ o.kind = 2 ∨ o.kind = 3 ∨ o.kind = 4 ∨ o.kind = 5 := by omega
    rcases hc with c | c | c | c | c
    · have e2 : direct s o = o := by unfold direct; rw [if_neg (by omega), if_neg (by omega)]
      rw [e2]; exact h1
    · have e2 : direct s o = { o with a := use s o.a } := by unfold direct; rw [if_neg (by omega), if_pos (by omega)]
      have hu := h.use (ho.ok.a (by omega)).1 (ho.ok.a (by omega)).2
      rw [e2]
      simp [Gr.opOk, c, inn_is, isW_is, zer_is] at h1 ⊢
      omega
    · have e2 : direct s o = { o with a := use s o.a, b := use s o.b } := by unfold direct; rw [if_pos (by omega)]
      have hu := h.use (ho.ok.a (by omega)).1 (ho.ok.a (by omega)).2
      have hv := h.use (ho.ok.b (by omega)).1 (ho.ok.b (by omega)).2
      rw [e2]
      simp [Gr.opOk, c, inn_is, isW_is, zer_is] at h1 ⊢
      exact ⟨⟨⟨h1.1.1.1, hu.1, hu.2.1⟩, hv.1, hv.2.1⟩, h1.2⟩
    · have e2 : direct s o = { o with a := use s o.a } := by unfold direct; rw [if_neg (by omega), if_pos (by omega)]
      have hu := h.use (ho.ok.a (by omega)).1 (ho.ok.a (by omega)).2
      rw [e2]
      simp [Gr.opOk, c, inn_is, isW_is, zer_is] at h1 ⊢
      omega
    · have e2 : direct s o = { o with a := use s o.a, b := use s o.b } := by unfold direct; rw [if_pos (by omega)]
      have hu := h.use (ho.ok.a (by omega)).1 (ho.ok.a (by omega)).2
      have hv := h.use (ho.ok.b (by omega)).1 (ho.ok.b (by omega)).2
      rw [e2]
      simp [Gr.opOk, c, inn_is, isW_is, zer_is] at h1 ⊢
      omega
  · rw [e] at hok ⊢
    have hi := hok.imm rfl
    have hdst := hok.dst (by simp)
    simp [Gr.opOk, inn_is, isW_is, zer_is]
    exact ⟨hdst, hi⟩
theorem nice_of {x y z : Int} (hx : 0 ≤ x ∧ x ≤ 255) (hy : 0 ≤ y ∧ y ≤ 255) (hz : 0 ≤ z ∧ z ≤ 255) : Nice 5 1 (opOf x y z) := by
  unfold opOf Nice
  repeat' split
  all_goals simp [Gr.opOk, inn_is, isW_is, zer_is, Tr.isWd, Gr.knw]
  all_goals omega
theorem nice_ops {V A : Nat} {t : Tr.St} (hw : Tr.Wf V A t) {l : List Gr.Op} (hl : ∀ k, k < l.length → Nice V A (l.getD k Gr.op0)) {k : Nat} (hk : k < (ops l).length) : Nice V A ((ops l).getD k Gr.op0) := by
  rw [ops_len] at hk
  rw [ops_at l hk]
  exact Nice.step (acts_ops hw (fun j hj => (hl j hj).ok) k (by omega)).2 (hw.acts (fun j hj => (hl j hj).ok) k (by omega)) (hl k hk)
theorem opsOk_nice {V A : Nat} {l : List Gr.Op} (hl : ∀ k, k < l.length → Nice V A (l.getD k Gr.op0)) : Gr.opsOk V A l = true := by
  refine all_true fun k hk => ?_
  have h := hl k hk
  unfold Gr.opAt
  have h5 := h.2
  rw [h.1, decide_eq_false (by omega : ¬(l.getD k Gr.op0).kind = 6), decide_eq_false (by omega : ¬(l.getD k Gr.op0).kind = 7)]
  rfl
theorem h77 : Gr.opsOk 5 1 [op77] = true := opsOk_nice (V := 5) (A := 1) fun k hk => by
  have h0 : k = 0 := by simp at hk; omega
  subst h0
  show Nice 5 1 op77
  unfold Nice op77
  simp [Gr.opOk, inn_is, isW_is, zer_is, Tr.isWd]
theorem h00 : Gr.opsOk 5 1 [] = true := rfl
/-- A state to fold in. -/
def some0 : Tr.St := ⟨List.replicate 5 0, [List.replicate 4 0]⟩
theorem some0_wf : Tr.Wf 5 1 some0 := ⟨rfl, fun x hx => by simp [some0] at hx; subst hx; unfold Tr.isWd; omega, rfl, fun a ha => by simp [some0] at ha; subst ha; simp, fun a ha x hx => by simp [some0] at ha; subst ha; simp at hx; subst hx; unfold Tr.isWd; omega⟩
/-- Its first block, folded. -/
theorem lawG_chk (nx ny na : ByteArray) {l : List Gr.Op} {c : Int} (hl : ∀ k, k < l.length → Nice 5 1 (l.getD k Gr.op0)) (hn : l.length ≤ 30) (hc : 0 ≤ c ∧ c < 5) : Gr.chk (lawG nx ny na l c) = 0 := by
  have ho : Gr.opsOk 5 1 l = true := opsOk_nice hl
  have h1 : Gr.big (lawG nx ny na l c) = false := by simp [Gr.big, Gr.manyB, lawG, Gr.opsN]; omega
  have h2 : Gr.right (lawG nx ny na l c) = true := by
    simp only [Gr.right, lawG, Gr.datOk, Gr.blksOk, Gr.blkOk, Gr.nxOk, Gr.ends, Gr.ptsOk, Gr.hdsOk, Gr.insOk, Gr.arsOk, List.length_cons, List.length_nil, List.range_succ, List.range_zero, List.nil_append, List.cons_append, List.all_cons, List.all_nil, Nat.zero_add, Nat.reduceAdd, List.getD_cons_zero, List.getD_cons_succ, Bool.and_true]
    simp [ho, Gr.inn, Gr.inOk, Gr.arOk, Gr.isW, wrap32, Gr.nxAt, hc.1, hc.2, Gr.zer, Gr.in0, Gr.ar0, h77, h00]
  unfold Gr.chk
  rw [if_neg (by rw [h1]; decide), if_pos h2]
theorem gr_lawG (nx ny na : ByteArray) (l : List Gr.Op) (c : Int) : gr (lawG nx ny na l c) = { lawG nx ny na l c with blks := [blk ⟨l, c, [1, 2]⟩, ⟨[op77], 0, [2]⟩, ⟨[], 0, []⟩] } := by
  unfold gr lawG
  simp only [List.map_cons, List.map_nil]
  rfl
theorem gr_lawG_chk (nx ny na : ByteArray) {l : List Gr.Op} {c : Int} (hl : ∀ k, k < l.length → Nice 5 1 (l.getD k Gr.op0)) (hn : l.length ≤ 30) (hc : 0 ≤ c ∧ c < 5) : Gr.chk (gr (lawG nx ny na l c)) = 0 := by
  have ho : Gr.opsOk 5 1 (ops l) = true := opsOk_nice fun k hk => nice_ops some0_wf hl hk
  have hlen := ops_len l
  have hs := (acts_ops some0_wf (fun j hj => (hl j hj).ok) l.length (Nat.le_refl _)).2
  have hu := hs.use hc.1 hc.2
  rw [gr_lawG]
  obtain ⟨c2, q, hb, hq⟩ : ∃ c2 q, blk ⟨l, c, [1, 2]⟩ = ⟨ops l, c2, q⟩ ∧ ((q = [1, 2] ∧ 0 ≤ c2 ∧ c2 < 5) ∨ (c2 = 0 ∧ (q = [1] ∨ q = [2]))) := by
    unfold blk
    simp only [List.length_cons, List.length_nil, Nat.zero_add, Nat.reduceAdd, if_true]
    split
    · rename_i n _
      refine ⟨0, _, rfl, .inr ⟨rfl, ?_⟩⟩
      by_cases h0 : n = 0
      · right; rw [if_pos h0]; rfl
      · left; rw [if_neg h0]; rfl
    · exact ⟨_, _, rfl, .inl ⟨rfl, hu.1, hu.2.1⟩⟩
  rw [hb]
  have h1 : Gr.big { lawG nx ny na l c with blks := [⟨ops l, c2, q⟩, ⟨[op77], 0, [2]⟩, ⟨[], 0, []⟩] } = false := by simp [Gr.big, Gr.manyB, lawG, Gr.opsN, hlen]; omega
  have h2 : Gr.right { lawG nx ny na l c with blks := [⟨ops l, c2, q⟩, ⟨[op77], 0, [2]⟩, ⟨[], 0, []⟩] } = true := by
    rcases hq with ⟨rfl, hq⟩ | ⟨rfl, rfl | rfl⟩ <;>
    · simp only [Gr.right, lawG, Gr.datOk, Gr.blksOk, Gr.blkOk, Gr.nxOk, Gr.ends, Gr.ptsOk, Gr.hdsOk, Gr.insOk, Gr.arsOk, List.length_cons, List.length_nil, List.range_succ, List.range_zero, List.nil_append, List.cons_append, List.all_cons, List.all_nil, Nat.zero_add, Nat.reduceAdd, List.getD_cons_zero, List.getD_cons_succ, Bool.and_true]
      simp [ho, Gr.inn, Gr.inOk, Gr.arOk, Gr.isW, wrap32, Gr.nxAt, Gr.zer, Gr.in0, Gr.ar0, h77, h00] <;> try omega
  unfold Gr.chk
  rw [if_neg (by rw [h1]; decide), if_pos h2]
end Fo
end Go.Proofs.Ytojnhdkclabkgaa
