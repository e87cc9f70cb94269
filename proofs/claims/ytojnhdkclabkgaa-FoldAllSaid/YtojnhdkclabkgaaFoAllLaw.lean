/- Where all variables are known, folding makes constants of all but stores. No condition. How a run goes through the graph of the laws of operations. No condition. The graph of FoldAll: right, what folding makes of it, and which way a run goes. No condition. FoldAll's graph in memory, and what the law calls on it. No condition. FoldAll's walk. No condition. -/
import Derived.Test.YtojnhdkclabkgaaFoLawG
import Derived.Test.YtojnhdkclabkgaaFoEnd
import Derived.Test.YtojnhdkclabkgaaTrRun
import Derived.Test.YtojnhdkclabkgaaFoAwake
import Derived.LoopTactic
import Derived.BigQuiet
import Derived.Deep.DeepCutAuto
import Derived.Deep.CutBlock
import Derived.StillTailTactics
namespace Go.Proofs.Ytojnhdkclabkgaa
open Go.RowKit (wrap32 wrap64)
set_option linter.unusedVariables false
set_option linter.unusedSimpArgs false
namespace Fo
/-- The first m variables are known. -/
def Known (m : Nat) (s : S) : Prop := ∀ v : Int, 0 ≤ v → v < m → ∃ n, s.wd v = some n
theorem known_const {m : Nat} {s : S} (h : Known m s) (d n : Int) : Known m (Fo.learn s ⟨1, d, 0, 0, n⟩) := by
  intro v h0 hv
  unfold Fo.learn
  simp only [upd]
  by_cases e : v = d
  · exact ⟨n, by simp [upd, e]⟩
  · obtain ⟨x, hx⟩ := h v h0 hv
    exact ⟨x, by simp [upd, e, hx]⟩
theorem known_more {m : Nat} {s : S} (h : Known m s) (n : Int) : Known (m + 1) (Fo.learn s ⟨1, (m : Int), 0, 0, n⟩) := by
  intro v h0 hv
  unfold Fo.learn
  simp only [upd]
  by_cases e : v = (m : Int)
  · exact ⟨n, by simp [upd, e]⟩
  · obtain ⟨x, hx⟩ := h v h0 (by omega)
    exact ⟨x, by simp [upd, e, hx]⟩
/-- An operation that is no load, where all is known. -/
theorem known_step {V A : Nat} {s : S} {t : Tr.St} (hs : Sees V s t) (hk : Known V s) {o : Gr.Op} (ho : Tr.Ok V A o) (h4 : o.kind ≠ 4) :
    ((o.kind = 5 → (step s o).kind = 5) ∧ (o.kind ≠ 5 → (step s o).kind = 1)) ∧ Known V (Fo.learn s (step s o)) := by
  have hd := ok_direct hs ho
  have hkd := ho.kind
  by_cases h5 : o.kind = 5
  · have e : step s o = direct s o := by
      unfold step const result
      rw [direct_kind, if_neg (by omega), if_neg (by omega)]
    refine ⟨⟨fun _ => by rw [e, direct_kind]; exact h5, fun h => absurd h5 h⟩, ?_⟩
    rw [e]
    unfold Fo.learn
    rw [direct_kind, if_pos (.inl h5)]
    exact hk
  · have hc : ∃ d n, step s o = ⟨1, d, 0, 0, n⟩ ∨ (step s o = o ∧ o.kind = 1) := by
      rcases (show o.kind = 1 ∨ o.kind = 2 ∨ o.kind = 3 by omega) with e | e | e
      · refine ⟨0, 0, .inr ⟨?_, e⟩⟩
        have e2 : direct s o = o := by unfold direct; rw [if_neg (by omega), if_neg (by omega)]
        unfold step const result
        rw [e2, if_neg (by omega), if_neg (by omega)]
      · obtain ⟨n, hn⟩ := hk _ (hd.a (by rw [direct_kind]; omega)).1 (hd.a (by rw [direct_kind]; omega)).2
        refine ⟨o.dst, n, .inl ?_⟩
        rcases step_or s o with ⟨-, hr⟩ | ⟨m, hr, he⟩
        · unfold result at hr
          rw [direct_kind, if_pos e, hn] at hr
          cases hr
        · unfold result at hr
          rw [direct_kind, if_pos e, hn] at hr
          injection hr with hr
          rw [he, hr]
      · obtain ⟨x, hx⟩ := hk _ (hd.a (by rw [direct_kind]; omega)).1 (hd.a (by rw [direct_kind]; omega)).2
        obtain ⟨y, hy⟩ := hk _ (hd.b (by rw [direct_kind]; omega)).1 (hd.b (by rw [direct_kind]; omega)).2
        rcases step_or s o with ⟨-, hr⟩ | ⟨m, hr, he⟩
        · unfold result at hr
          rw [direct_kind, if_neg (by omega), if_pos e, hx, hy] at hr
          cases hr
        · exact ⟨_, _, .inl he⟩
    obtain ⟨d, n, he | ⟨he, h1⟩⟩ := hc
    · rw [he]
      exact ⟨⟨fun h => absurd h h5, fun _ => rfl⟩, known_const hk d n⟩
    · rw [he]
      refine ⟨⟨fun h => absurd h h5, fun _ => h1⟩, ?_⟩
      intro v h0 hv
      unfold Fo.learn
      rw [if_neg (by omega)]
      simp only [upd, h1]
      by_cases e : v = o.dst
      · exact ⟨o.imm, by simp [upd, e]⟩
      · obtain ⟨x, hx⟩ := hk v h0 hv
        exact ⟨x, by simp [upd, e, hx]⟩
/-- From where all is known on, it stays so. -/
theorem known_runs {V A : Nat} {t : Tr.St} (hw : Tr.Wf V A t) {l : List Gr.Op} (hl : ∀ k, k < l.length → Tr.Ok V A (l.getD k Gr.op0)) {m : Nat} (h4 : ∀ k, m ≤ k → k < l.length → (l.getD k Gr.op0).kind ≠ 4) (h0 : Known V (runs l m)) : ∀ k, m ≤ k → k ≤ l.length → Known V (runs l k)
  | 0, hk, _ => by
    obtain rfl : m = 0 := by omega
    exact h0
  | k + 1, hk, hkl => by
    by_cases e : m = k + 1
    · subst e; exact h0
    · have ih := known_runs hw hl h4 h0 k (by omega) (by omega)
      exact (known_step (acts_ops hw hl k (by omega)).2 ih (hl k (by omega)) (h4 k (by omega) (by omega))).2
theorem opAt_kind {V A : Nat} {t : Tr.St} (hw : Tr.Wf V A t) {l : List Gr.Op} (hl : ∀ k, k < l.length → Tr.Ok V A (l.getD k Gr.op0)) {m : Nat} (h4 : ∀ k, m ≤ k → k < l.length → (l.getD k Gr.op0).kind ≠ 4) (h0 : Known V (runs l m)) {k : Nat} (hm : m ≤ k) (hk : k < l.length) :
    ((l.getD k Gr.op0).kind = 5 → (opAt l k).kind = 5) ∧ ((l.getD k Gr.op0).kind ≠ 5 → (opAt l k).kind = 1) :=
  (known_step (acts_ops hw hl k (by omega)).2 (known_runs hw hl h4 h0 k hm (by omega)) (hl k hk) (h4 k hm hk)).1
end Fo
end Go.Proofs.Ytojnhdkclabkgaa
namespace Go.Proofs.Ytojnhdkclabkgaa
open Go.RowKit (wrap32 wrap64)
set_option linter.unusedVariables false
set_option linter.unusedSimpArgs false
namespace Fo
theorem lawG_goes (nx ny na : ByteArray) (l : List Gr.Op) (c : Int) (xs : List Int) (hn : l.length ≤ 30) : ∃ N, Tr.Goes (lawG nx ny na l c) (Tr.start (lawG nx ny na l c) 5 xs 1000) N := by
  obtain ⟨g, hg⟩ : ∃ g, lawG nx ny na l c = g := ⟨_, rfl⟩
  have b0 : Tr.blk g 0 = ⟨l, c, [1, 2]⟩ := by rw [← hg]; rfl
  have b1 : Tr.blk g 1 = ⟨[op77], 0, [2]⟩ := by rw [← hg]; rfl
  have b2 : Tr.blk g 2 = ⟨[], 0, []⟩ := by rw [← hg]; rfl
  have bl : g.blks.length = 3 := by rw [← hg]; rfl
  rw [hg]
  clear hg
  obtain ⟨c0, hc0⟩ : ∃ c0, Tr.start g 5 xs 1000 = c0 := ⟨_, rfl⟩
  have a0 : c0.at_ = 0 := by rw [← hc0]; rfl
  have l0 : c0.left = 1000 := by rw [← hc0]; rfl
  rw [hc0]
  clear hc0
  have i0 : (Tr.its g c0 0) = c0 := rfl
  have l1 : (Tr.its g c0 1).left = 1000 - 1 - l.length := by
    show c0.left - 1 - ((Tr.blk g c0.at_).ops.length : Int) = _
    rw [a0, b0, l0]
  have a1 : (Tr.its g c0 1).at_ = 1 ∨ (Tr.its g c0 1).at_ = 2 := by
    show Tr.nxt g (Tr.pass g c0) = 1 ∨ Tr.nxt g (Tr.pass g c0) = 2
    unfold Tr.nxt
    rw [show (Tr.pass g c0).at_ = 0 from a0, b0]
    split
    · left; rfl
    · right; rfl
  rcases a1 with a1 | a1
  · have l2 : (Tr.its g c0 2).left = 1000 - 1 - l.length - 1 - 1 := by
      show (Tr.its g c0 1).left - 1 - ((Tr.blk g (Tr.its g c0 1).at_).ops.length : Int) = _
      rw [a1, b1, l1]; rfl
    have a2 : (Tr.its g c0 2).at_ = 2 := by
      show Tr.nxt g (Tr.pass g (Tr.its g c0 1)) = 2
      unfold Tr.nxt
      rw [show (Tr.pass g (Tr.its g c0 1)).at_ = 1 from a1, b1]
      rfl
    refine ⟨2, fun n hn => ?_, fun n hn => ?_, fun n hn => ?_, by rw [a2, b2]; rfl⟩
    · rw [bl]
      rcases (show n = 0 ∨ n = 1 ∨ n = 2 by omega) with rfl | rfl | rfl
      · rw [i0, a0]; omega
      · rw [a1]; omega
      · rw [a2]; omega
    · rcases (show n = 0 ∨ n = 1 ∨ n = 2 by omega) with rfl | rfl | rfl
      · rw [i0, a0, b0, l0]; simp only; omega
      · rw [a1, b1, l1]; simp only [List.length_cons, List.length_nil]; omega
      · rw [a2, b2, l2]; simp only [List.length_nil]; omega
    · rcases (show n = 0 ∨ n = 1 by omega) with rfl | rfl
      · rw [i0, a0, b0]; exact .inr rfl
      · rw [a1, b1]; exact .inl rfl
  · refine ⟨1, fun n hn => ?_, fun n hn => ?_, fun n hn => ?_, by rw [a1, b2]; rfl⟩
    · rw [bl]
      rcases (show n = 0 ∨ n = 1 by omega) with rfl | rfl
      · rw [i0, a0]; omega
      · rw [a1]; omega
    · rcases (show n = 0 ∨ n = 1 by omega) with rfl | rfl
      · rw [i0, a0, b0, l0]; simp only; omega
      · rw [a1, b2, l1]; simp only [List.length_nil]; omega
    · have h0 : n = 0 := by omega
      subst h0
      rw [i0, a0, b0]; exact .inr rfl
theorem lawG_wf (nx ny na : ByteArray) (l : List Gr.Op) (c : Int) {xs : List Int} (hx : xs.length ≤ 5) (hw : ∀ x ∈ xs, Tr.isWd x) : Tr.Wf 5 1 (Tr.start (lawG nx ny na l c) 5 xs 1000).s := by
  refine ⟨?_, ?_, rfl, ?_, ?_⟩
  · show (xs ++ List.replicate (5 - xs.length) 0).length = 5
    simp; omega
  · intro x hx
    have h : x ∈ xs ++ List.replicate (5 - xs.length) 0 := hx
    rcases List.mem_append.1 h with h | h
    · exact hw x h
    · rw [List.eq_of_mem_replicate h]; unfold Tr.isWd; omega
  · intro a ha
    have h : a ∈ [List.replicate 4 (0 : Int)] := ha
    simp at h; subst h; simp
  · intro a ha x hx
    have h : a ∈ [List.replicate 4 (0 : Int)] := ha
    simp at h; subst h
    simp at hx; subst hx; unfold Tr.isWd; omega
end Fo
end Go.Proofs.Ytojnhdkclabkgaa
namespace Go.Proofs.Ytojnhdkclabkgaa
open Go.RowKit (wrap32 wrap64)
set_option linter.unusedVariables false
set_option linter.unusedSimpArgs false
namespace Fo
/-- Operations that begin with five constants, none a load. -/
structure AllO (O : List Gr.Op) : Prop where
  nice : ∀ k, k < O.length → Nice 5 1 (O.getD k Gr.op0)
  len : 5 ≤ O.length ∧ O.length ≤ 35
  first : ∀ k, k < 5 → ∃ n, O.getD k Gr.op0 = ⟨1, (k : Int), 0, 0, n⟩
  load : ∀ k, k < O.length → (O.getD k Gr.op0).kind ≠ 4
theorem step_k1 (s : S) (d n : Int) : step s ⟨1, d, 0, 0, n⟩ = ⟨1, d, 0, 0, n⟩ := by
  have e2 : direct s ⟨1, d, 0, 0, n⟩ = ⟨1, d, 0, 0, n⟩ := by unfold direct; simp
  unfold step const result
  rw [e2]
  simp
theorem AllO.known5 {O : List Gr.Op} (h : AllO O) : ∀ m, m ≤ 5 → Known m (runs O m)
  | 0, _ => fun v h0 h1 => by omega
  | m + 1, hm => by
    obtain ⟨n, hn⟩ := h.first m (by omega)
    show Known (m + 1) (Fo.learn (runs O m) (step (runs O m) (O.getD m Gr.op0)))
    rw [hn, step_k1]
    exact known_more (AllO.known5 h m (by omega)) n
theorem AllO.known {O : List Gr.Op} (h : AllO O) : Known 5 (runs O O.length) :=
  known_runs some0_wf (fun k hk => (h.nice k hk).ok) (m := 5) (fun k _ hk => h.load k hk) (h.known5 5 (Nat.le_refl _)) O.length h.len.1 (Nat.le_refl _)
theorem AllO.kind {O : List Gr.Op} (h : AllO O) {k : Nat} (hk : k < O.length) : ((O.getD k Gr.op0).kind = 5 → ((ops O).getD k Gr.op0).kind = 5) ∧ ((O.getD k Gr.op0).kind ≠ 5 → ((ops O).getD k Gr.op0).kind = 1) := by
  rw [ops_at O hk]
  by_cases h5 : k < 5
  · obtain ⟨n, hn⟩ := h.first k h5
    unfold opAt
    rw [hn, step_k1]
    exact ⟨fun e => by simp at e, fun _ => rfl⟩
  · exact opAt_kind some0_wf (fun k hk => (h.nice k hk).ok) (m := 5) (fun k _ hk => h.load k hk) (h.known5 5 (Nat.le_refl _)) (by omega) hk
/-- Three blocks over five variables and one array, no inputs. -/
def allG (na : ByteArray) (O : List Gr.Op) : Gr.G := ⟨[], 5, 5, [(na, 4)], 0, [⟨O, 3, [1, 2]⟩, ⟨[], 0, [2]⟩, ⟨[], 0, []⟩], [], []⟩
theorem AllO.chk {O : List Gr.Op} (h : AllO O) (na : ByteArray) : Gr.chk (allG na O) = 0 := by
  have ho : Gr.opsOk 5 1 O = true := opsOk_nice h.nice
  have hn := h.len
  have h1 : Gr.big (allG na O) = false := by simp [Gr.big, Gr.manyB, allG, Gr.opsN]; omega
  have h2 : Gr.right (allG na O) = true := by
    simp only [Gr.right, allG, Gr.datOk, Gr.blksOk, Gr.blkOk, Gr.nxOk, Gr.ends, Gr.ptsOk, Gr.hdsOk, Gr.insOk, Gr.arsOk, List.length_cons, List.length_nil, List.range_succ, List.range_zero, List.nil_append, List.cons_append, List.all_cons, List.all_nil, Nat.zero_add, Nat.reduceAdd, List.getD_cons_zero, List.getD_cons_succ, Bool.and_true]
    simp [ho, Gr.inn, Gr.inOk, Gr.arOk, Gr.isW, wrap32, Gr.nxAt, Gr.zer, Gr.in0, Gr.ar0, h00]
  unfold Gr.chk
  rw [if_neg (by rw [h1]; decide), if_pos h2]
/-- Which block is next. -/
def allN (O : List Gr.Op) : Int := match (runs O O.length).wd (use (runs O O.length) 3) with
  | some n => if n = 0 then 2 else 1
  | none => 0
theorem AllO.blk {O : List Gr.Op} (h : AllO O) : Fo.blk ⟨O, 3, [1, 2]⟩ = ⟨ops O, 0, [allN O]⟩ ∧ (allN O = 1 ∨ allN O = 2) := by
  have hs := (acts_ops some0_wf (fun k hk => (h.nice k hk).ok) O.length (Nat.le_refl _)).2
  have hu := hs.use (v := 3) (by omega) (by show (3 : Int) < (5 : Nat); omega)
  obtain ⟨n, hn⟩ := h.known _ hu.1 hu.2.1
  have e : allN O = if n = 0 then 2 else 1 := by unfold allN; rw [hn]
  refine ⟨?_, ?_⟩
  · unfold Fo.blk
    simp only [List.length_cons, List.length_nil, Nat.zero_add, Nat.reduceAdd, if_true]
    rw [hn, e]
    rfl
  · rw [e]
    by_cases h0 : n = 0
    · right; rw [if_pos h0]
    · left; rw [if_neg h0]
theorem AllO.gr {O : List Gr.Op} (h : AllO O) (na : ByteArray) : Fo.gr (allG na O) = { allG na O with blks := [⟨ops O, 0, [allN O]⟩, ⟨[], 0, [2]⟩, ⟨[], 0, []⟩] } := by
  unfold Fo.gr allG
  simp only [List.map_cons, List.map_nil]
  rw [h.blk.1]
  rfl
/-- How a run goes, and how often it comes to block 1. -/
theorem AllO.goes {O : List Gr.Op} (h : AllO O) (na : ByteArray) : ∃ N, Tr.Goes (allG na O) (Tr.start (allG na O) 5 [] 1000) N ∧
    (Tr.pass (allG na O) (Tr.its (allG na O) (Tr.start (allG na O) 5 [] 1000) N)).cnt.length = 3 ∧ (Tr.pass (allG na O) (Tr.its (allG na O) (Tr.start (allG na O) 5 [] 1000) N)).cnt.getD 1 0 = (if allN O = 1 then 1 else 0) := by
  have hwf : Tr.Wf 5 1 (Tr.start (allG na O) 5 [] 1000).s := by
    refine ⟨rfl, ?_, rfl, ?_, ?_⟩
    · intro x hx
      have h : x ∈ List.replicate 5 (0 : Int) := hx
      rw [List.eq_of_mem_replicate h]; unfold Tr.isWd; omega
    · intro a ha
      have h : a ∈ [List.replicate 4 (0 : Int)] := ha
      simp at h; subst h; simp
    · intro a ha x hx
      have h : a ∈ [List.replicate 4 (0 : Int)] := ha
      simp at h; subst h
      simp at hx; subst hx; unfold Tr.isWd; omega
  have hs := (acts_ops hwf (fun k hk => (h.nice k hk).ok) O.length (Nat.le_refl _)).2
  have hu := hs.use (v := 3) (by omega) (by show (3 : Int) < (5 : Nat); omega)
  obtain ⟨n0, hn0⟩ := h.known _ hu.1 hu.2.1
  have e : allN O = if n0 = 0 then 2 else 1 := by unfold allN; rw [hn0]
  have hv := hs.wd _ n0 hu.1 hu.2.1 hn0
  rw [hu.2.2] at hv
  have hn := h.len
  obtain ⟨g, hg⟩ : ∃ g, allG na O = g := ⟨_, rfl⟩
  have b0 : Tr.blk g 0 = ⟨O, 3, [1, 2]⟩ := by rw [← hg]; rfl
  have b1 : Tr.blk g 1 = ⟨[], 0, [2]⟩ := by rw [← hg]; rfl
  have b2 : Tr.blk g 2 = ⟨[], 0, []⟩ := by rw [← hg]; rfl
  have bl : g.blks.length = 3 := by rw [← hg]; rfl
  rw [hg] at hv ⊢
  obtain ⟨c0, hc0⟩ : ∃ c0, Tr.start g 5 [] 1000 = c0 := ⟨_, rfl⟩
  have a0 : c0.at_ = 0 := by rw [← hc0]; rfl
  have l0 : c0.left = 1000 := by rw [← hc0]; rfl
  have t0 : c0.cnt = [0, 0, 0] := by rw [← hc0, ← hg]; rfl
  rw [hc0] at hv ⊢
  clear hc0 hg
  have i0 : (Tr.its g c0 0) = c0 := rfl
  have l1 : (Tr.its g c0 1).left = 1000 - 1 - O.length := by
    show c0.left - 1 - ((Tr.blk g c0.at_).ops.length : Int) = _
    rw [a0, b0, l0]
  have t1 : (Tr.its g c0 1).cnt = [1, 0, 0] := by
    show c0.cnt.set c0.at_ (c0.cnt.getD c0.at_ 0 + 1) = _
    rw [t0, a0]; rfl
  have a1 : (Tr.its g c0 1).at_ = if n0 = 0 then 2 else 1 := by
    show Tr.nxt g (Tr.pass g c0) = _
    unfold Tr.nxt
    rw [show (Tr.pass g c0).at_ = 0 from a0, b0]
    have hp : (Tr.pass g c0).s = Tr.acts c0.s O O.length := by
      show Tr.acts c0.s (Tr.blk g c0.at_).ops (Tr.blk g c0.at_).ops.length = _
      rw [a0, b0]
    rw [hp]
    simp only [List.length_cons, List.length_nil, Nat.zero_add, Nat.reduceAdd]
    rw [hv]
    by_cases h0 : n0 = 0
    · rw [if_pos h0, if_neg (by omega)]; rfl
    · rw [if_neg h0, if_pos (.inr h0)]; rfl
  by_cases h0 : n0 = 0
  · rw [if_pos h0] at a1 e
    refine ⟨1, ⟨fun n hn => ?_, fun n hn => ?_, fun n hn => ?_, by rw [a1, b2]; rfl⟩, ?_, ?_⟩
    · rw [bl]
      rcases (show n = 0 ∨ n = 1 by omega) with rfl | rfl
      · rw [i0, a0]; omega
      · rw [a1]; omega
    · rcases (show n = 0 ∨ n = 1 by omega) with rfl | rfl
      · rw [i0, a0, b0, l0]; simp only; omega
      · rw [a1, b2, l1]; simp only [List.length_nil]; omega
    · have h0 : n = 0 := by omega
      subst h0
      rw [i0, a0, b0]; exact .inr rfl
    · show ((Tr.its g c0 1).cnt.set _ _).length = 3
      rw [t1]; simp
    · show ((Tr.its g c0 1).cnt.set (Tr.its g c0 1).at_ ((Tr.its g c0 1).cnt.getD (Tr.its g c0 1).at_ 0 + 1)).getD 1 0 = _
      rw [t1, a1, e]; rfl
  · rw [if_neg h0] at a1 e
    have l2 : (Tr.its g c0 2).left = 1000 - 1 - O.length - 1 := by
      show (Tr.its g c0 1).left - 1 - ((Tr.blk g (Tr.its g c0 1).at_).ops.length : Int) = _
      rw [a1, b1, l1]; simp
    have a2 : (Tr.its g c0 2).at_ = 2 := by
      show Tr.nxt g (Tr.pass g (Tr.its g c0 1)) = 2
      unfold Tr.nxt
      rw [show (Tr.pass g (Tr.its g c0 1)).at_ = 1 from a1, b1]
      rfl
    have t2 : (Tr.its g c0 2).cnt = [1, 1, 0] := by
      show (Tr.its g c0 1).cnt.set (Tr.its g c0 1).at_ ((Tr.its g c0 1).cnt.getD (Tr.its g c0 1).at_ 0 + 1) = _
      rw [t1, a1]; rfl
    refine ⟨2, ⟨fun n hn => ?_, fun n hn => ?_, fun n hn => ?_, by rw [a2, b2]; rfl⟩, ?_, ?_⟩
    · rw [bl]
      rcases (show n = 0 ∨ n = 1 ∨ n = 2 by omega) with rfl | rfl | rfl
      · rw [i0, a0]; omega
      · rw [a1]; omega
      · rw [a2]; omega
    · rcases (show n = 0 ∨ n = 1 ∨ n = 2 by omega) with rfl | rfl | rfl
      · rw [i0, a0, b0, l0]; simp only; omega
      · rw [a1, b1, l1]; simp only [List.length_nil]; omega
      · rw [a2, b2, l2]; simp only [List.length_nil]; omega
    · rcases (show n = 0 ∨ n = 1 by omega) with rfl | rfl
      · rw [i0, a0, b0]; exact .inr rfl
      · rw [a1, b1]; exact .inl rfl
    · show ((Tr.its g c0 2).cnt.set _ _).length = 3
      rw [t2]; simp
    · show ((Tr.its g c0 2).cnt.set (Tr.its g c0 2).at_ ((Tr.its g c0 2).cnt.getD (Tr.its g c0 2).at_ 0 + 1)).getD 1 0 = _
      rw [t2, a2, e]; rfl
end Fo
end Go.Proofs.Ytojnhdkclabkgaa
namespace Go.Proofs.Ytojnhdkclabkgaa
open Go.RowKit (wrap32 wrap64)
open Go.RowKit
set_option linter.unusedVariables false
set_option linter.unusedSimpArgs false
namespace Fo
/-- The constants that the operations begin with. -/
def all5 (X : Nat → Int) (k : Nat) : List Gr.Op := (List.range k).map fun (i : Nat) => ⟨1, (i : Int), 0, 0, X i⟩
theorem all5_len (X : Nat → Int) (k : Nat) : (all5 X k).length = k := by unfold all5; simp
theorem all5_succ (X : Nat → Int) (k : Nat) : all5 X (k + 1) = all5 X k ++ [⟨1, (k : Int), 0, 0, X k⟩] := by
  unfold all5
  rw [List.range_succ, List.map_append]
  rfl
/-- No load. -/
def nl4 (o : Gr.Op) : Bool := decide (o.kind ≠ 4)
/-- All operations, when the first k of M have been looked at. -/
def allTo (X : Nat → Int) (M : List Gr.Op) (k : Nat) : List Gr.Op := all5 X 5 ++ (M.take k).filter nl4
theorem take_one {M : List Gr.Op} {k : Nat} (hk : k < M.length) : M.take (k + 1) = M.take k ++ [M.getD k Gr.op0] := by
  rw [List.take_add_one, List.getElem?_eq_getElem hk]
  simp [List.getD, List.getElem?_eq_getElem hk]
theorem allTo_yes {X : Nat → Int} {M : List Gr.Op} {k : Nat} (hk : k < M.length) (h : (M.getD k Gr.op0).kind ≠ 4) : allTo X M (k + 1) = allTo X M k ++ [M.getD k Gr.op0] := by
  unfold allTo
  have e : [M.getD k Gr.op0].filter nl4 = [M.getD k Gr.op0] := by
    rw [List.filter_cons_of_pos (by unfold nl4; exact decide_eq_true h)]; rfl
  rw [take_one hk, List.filter_append, e, List.append_assoc]
theorem allTo_no {X : Nat → Int} {M : List Gr.Op} {k : Nat} (hk : k < M.length) (h : (M.getD k Gr.op0).kind = 4) : allTo X M (k + 1) = allTo X M k := by
  unfold allTo
  have e : [M.getD k Gr.op0].filter nl4 = [] := by
    rw [List.filter_cons_of_neg (by unfold nl4; simpa using h)]; rfl
  rw [take_one hk, List.filter_append, e, List.append_nil]
theorem allTo_len (X : Nat → Int) (M : List Gr.Op) (k : Nat) : (allTo X M k).length ≤ 5 + k := by
  unfold allTo
  rw [List.length_append, all5_len]
  have h1 := List.length_filter_le nl4 (M.take k)
  have h2 := List.length_take_le k M
  omega
theorem mem_getD {l : List Gr.Op} {k : Nat} (hk : k < l.length) : l.getD k Gr.op0 ∈ l := by
  simp [List.getD, List.getElem?_eq_getElem hk]
theorem allO_of {X : Nat → Int} (hX : ∀ i, Tr.isWd (X i)) {M : List Gr.Op} (hM : ∀ o ∈ M, Nice 5 1 o) (hl : M.length ≤ 30) : AllO (allTo X M M.length) := by
  have hlen := allTo_len X M M.length
  have h5 : (all5 X 5).length = 5 := all5_len X 5
  have hmem : ∀ o ∈ allTo X M M.length, Nice 5 1 o ∧ o.kind ≠ 4 := fun o ho => by
    unfold allTo at ho
    rcases List.mem_append.1 ho with ho | ho
    · unfold all5 at ho
      obtain ⟨i, hi, rfl⟩ := List.mem_map.1 ho
      have hi5 : i < 5 := List.mem_range.1 hi
      refine ⟨?_, by simp⟩
      unfold Nice
      have := hX i
      simp [Gr.opOk, inn_is, isW_is, zer_is]
      exact ⟨by omega, this⟩
    · rw [List.mem_filter] at ho
      exact ⟨hM o (List.mem_of_mem_take ho.1), by simpa [nl4] using ho.2⟩
  refine ⟨fun k hk => (hmem _ (mem_getD hk)).1, ⟨?_, by omega⟩, fun k hk => ?_, fun k hk => (hmem _ (mem_getD hk)).2⟩
  · unfold allTo
    rw [List.length_append, h5]
    omega
  · refine ⟨X k, ?_⟩
    unfold allTo
    rw [List.getD_eq_getElem?_getD, List.getElem?_append_left (by rw [h5]; exact hk)]
    unfold all5
    rw [List.getElem?_map, List.getElem?_range hk]
    rfl
end Fo
theorem row_bkA {sz : Nat} {u : World} {g n c : Nat} {t : TypeId} {cs : Array Value} {xs : List Value} (h : Bk u g t cs) (hx : cs = xs.toArray) (hn : xs.length = n * sz) : RowIn sz u (.slice (some ⟨g, 0, none⟩) n c) n xs :=
  ⟨_, _, rfl, hn, .inr ⟨g, 0, rfl, h.lt, fun j u hu => by rw [Nat.zero_add, h.cell, hx]; simpa using hu⟩⟩
def faA : ByteArray := ⟨#[97]⟩
theorem allg_in {u : World} {O : List Gr.Op} {A : Option Addr} {C ga gB gC gE : Nat} {t2 t3 t4 t5 : TypeId}
    (h2 : Bk u ga t2 #[.string ⟨#[97]⟩, .int .i64 4]) (h3 : OpsIn u (.slice A O.length C) O) (h4 : Bk u gB t3 #[.int .i64 1, .int .i64 2]) (h6 : Bk u gC t4 #[.int .i64 2])
    (h7 : Bk u gE t5 #[.slice A O.length C, .int .i64 3, .slice (some ⟨gB, 0, none⟩) 2 2, .slice none 0 0, .int .i64 0, .slice (some ⟨gC, 0, none⟩) 1 1, .slice none 0 0, .int .i64 0, .slice none 0 0]) :
    GrIn u (Fo.allG faA O) (.slice none 0 0) (.slice (some ⟨ga, 0, none⟩) 1 1) (.slice (some ⟨gE, 0, none⟩) 3 3) (.slice none 0 0) (.slice none 0 0) := by
  refine ⟨RowIn.nil _ _, row_bkA h2 rfl rfl, ?_, ⟨none, 0, rfl, fun i hi => absurd hi (Nat.not_lt_zero _)⟩, RowIn.nil _ _⟩
  refine ⟨_, 3, fun i => if i = 0 then A else none, fun i => if i = 0 then some ⟨gB, 0, none⟩ else if i = 1 then some ⟨gC, 0, none⟩ else none, fun i => if i = 0 then C else 0, fun i => if i = 0 then 2 else if i = 1 then 1 else 0, rfl, fun i hi => ?_⟩
  have hi3 : i = 0 ∨ i = 1 ∨ i = 2 := by have : i < 3 := hi; omega
  rcases hi3 with rfl | rfl | rfl
  · exact ⟨gE, 0, rfl, h7.lt, h7.cell 0, h7.cell 1, h7.cell 2, h3, row_bkA h4 rfl rfl⟩
  · exact ⟨gE, 0, rfl, h7.lt, h7.cell 3, h7.cell 4, h7.cell 5, RowIn.nil _ _, row_bkA h6 rfl rfl⟩
  · exact ⟨gE, 0, rfl, h7.lt, h7.cell 6, h7.cell 7, h7.cell 8, RowIn.nil _ _, RowIn.nil _ _⟩
theorem fit_all {O : List Gr.Op} (h : Fo.AllO O) : Gr.Fit (Fo.allG faA O) := by
  have hn := h.len
  refine ⟨by show ([] : List (ByteArray × Int × Int)).length ≤ _; simp, by show [(faA, (4 : Int))].length ≤ _; simp, by show 3 ≤ _; omega, by show ([] : List (List Int)).length ≤ _; simp, by show ([] : List (Int × Int)).length ≤ _; simp, fun b hb => ?_, fun q hq => (by cases hq), by show (-9223372036854775808 : Int) ≤ 5; omega⟩
  have hb' : b ∈ [(⟨O, 3, [1, 2]⟩ : Gr.Blk), ⟨[], 0, [2]⟩, ⟨[], 0, []⟩] := hb
  simp at hb'
  rcases hb' with rfl | rfl | rfl <;> simp <;> omega
/-- What folding it gives: three blocks, the first one with as many operations and one successor. -/
def FoldedA (O : List Gr.Op) (w : World) (v : Value) : Prop :=
  ∃ (b off : Nat) (c : Nat) (A1 A2 : Option Addr) (c1 c2 : Nat), v = .slice (some ⟨b, off, none⟩) 3 c ∧ b < w.heap.size ∧ w.cell? ⟨b, off, none⟩ = some (.slice A1 O.length c1) ∧ w.cell? ⟨b, off + 2, none⟩ = some (.slice A2 1 c2) ∧
    OpsIn w (.slice A1 O.length c1) (Fo.ops O) ∧ ∃ b2 o2, A2 = some ⟨b2, o2, none⟩ ∧ b2 < w.heap.size ∧ w.cell? ⟨b2, o2, none⟩ = some (.int .i64 (Fo.allN O))
theorem FoldedA.below {O : List Gr.Op} {w w' : World} {v : Value} (h : FoldedA O w v) (hb : Below w.heap.size w w') : FoldedA O w' v := by
  obtain ⟨b, off, c, A1, A2, c1, c2, e, hlt, h0, h2, ho, b2, o2, e2, hl2, h3⟩ := h
  exact ⟨b, off, c, A1, A2, c1, c2, e, Nat.lt_of_lt_of_le hlt hb.size, (hb.cell (p := ⟨b, off, none⟩) hlt).trans h0, (hb.cell (p := ⟨b, off + 2, none⟩) hlt).trans h2, ho.below hb, b2, o2, e2, Nat.lt_of_lt_of_le hl2 hb.size, (hb.cell (p := ⟨b2, o2, none⟩) hl2).trans h3⟩
theorem foldA {O : List Gr.Op} (h : Fo.AllO O) (va vb : Value) (w : World) (hi : GrIn w (Fo.allG faA O) (.slice none 0 0) va vb (.slice none 0 0) (.slice none 0 0)) :
    Calls Try.prog 8 #[.agg #[.slice none 0 0, .int .i64 5, .int .i64 5, va, .int .i64 0, vb, .slice none 0 0, .slice none 0 0]] w fun e w' => Below w.heap.size w w' ∧ ∃ A1 n1 c1 A2 n2 c2 A3 n3 c3 A4 n4 c4 A5 n5 c5 A6 n6 c6, e = .returned (.tuple #[.agg #[.slice A1 n1 c1, .int .i64 5, .int .i64 5, .slice A2 n2 c2, .int .i64 0, .slice A3 n3 c3, .slice A4 n4 c4, .slice A5 n5 c5], .slice A6 n6 c6, .int .i64 0]) ∧ FoldedA O w' (.slice A3 n3 c3) := by
  have H := foldg_ans (Fo.allG faA O) _ va vb _ _ w hi (fit_all h)
  refine H.mono fun e w' hp => ?_
  obtain ⟨hb, ⟨h0, -⟩ | ⟨-, vi', va', vb', vp', vh', vs, he, hg, hl⟩⟩ := hp
  · exact absurd (h.chk faA) h0
  · obtain ⟨A1, c1, rfl, -⟩ := hg.ins.opened
    obtain ⟨A2, c2, rfl, -⟩ := hg.ars.opened
    obtain ⟨A4, c4, rfl, -⟩ := id hg.pts
    obtain ⟨A5, c5, rfl, -⟩ := hg.hds.opened
    obtain ⟨A6, c6, rfl, -⟩ := hl
    have hk := hg.blks
    rw [h.gr faA] at hk
    obtain ⟨A3, c3, a1, a2, k1, k2, rfl, ho⟩ := hk
    obtain ⟨b, off, rfl, hlt, q0, q1, q2, q3, q4⟩ := ho 0 (by show 0 < 3; omega)
    refine ⟨hb, _, _, _, _, _, _, _, _, _, _, _, _, _, _, _, _, _, _, he, ?_⟩
    have hO : (Fo.ops O).length = O.length := Fo.ops_len O
    have q0' : w'.cell? ⟨b, off + 0 * 3, none⟩ = some (.slice (a1 0) (Fo.ops O).length (k1 0)) := q0
    have q3' : OpsIn w' (.slice (a1 0) (Fo.ops O).length (k1 0)) (Fo.ops O) := q3
    have q2' : w'.cell? ⟨b, off + 0 * 3 + 2, none⟩ = some (.slice (a2 0) 1 (k2 0)) := q2
    have q4' : NumsIn w' (.slice (a2 0) 1 (k2 0)) [Fo.allN O] := q4
    rw [hO] at q0' q3'
    rw [Nat.zero_mul, Nat.add_zero] at q0' q2'
    obtain ⟨A9, c9, e9, h9⟩ := q4'.opened
    obtain ⟨b2, o2, e2, hl2, hc2⟩ := h9 0 (by simp)
    injection e9 with e9
    refine ⟨b, off, c3, a1 0, a2 0, k1 0, k2 0, rfl, hlt, q0', q2', q3', b2, o2, ?_, hl2, ?_⟩
    · rw [e9, e2]
    · simpa using hc2
theorem runA {O : List Gr.Op} (h : Fo.AllO O) (va vb : Value) (w : World) (hi : GrIn w (Fo.allG faA O) (.slice none 0 0) va vb (.slice none 0 0) (.slice none 0 0)) :
    Calls Try.prog 9 #[.agg #[.slice none 0 0, .int .i64 5, .int .i64 5, va, .int .i64 0, vb, .slice none 0 0, .slice none 0 0], .slice none 0 0, .slice none 0 0, .int .i64 1000] w fun e w' => Below w.heap.size w w' ∧ ∃ A1 n1 c1 A2 n2 c2 A3 n3 c3 b4 o4 c4 st, e = .returned (.tuple #[.agg #[.slice A1 n1 c1, .slice A2 n2 c2, .slice A3 n3 c3, .slice (some ⟨b4, o4, none⟩) 3 c4, .int .i64 st], .int .i64 0]) ∧ b4 < w'.heap.size ∧ w'.cell? ⟨b4, o4 + 1, none⟩ = some (.int .i64 (if Fo.allN O = 1 then 1 else 0)) := by
  obtain ⟨N, hg, hc3, hc⟩ := h.goes faA
  have hn := h.len
  have b0 : Tr.blk (Fo.allG faA O) 0 = ⟨O, 3, [1, 2]⟩ := rfl
  have b1 : Tr.blk (Fo.allG faA O) 1 = ⟨[], 0, [2]⟩ := rfl
  have b2 : Tr.blk (Fo.allG faA O) 2 = ⟨[], 0, []⟩ := rfl
  have H := rrun_any (Fo.allG faA O) 5 5 _ va vb _ _ (.slice none 0 0) [] 1000 N w hi ⟨none, 0, fun _ => none, fun _ => 0, rfl, fun i hi => absurd hi (Nat.not_lt_zero _)⟩ (fit_all h) (h.chk faA) rfl (by omega) rfl (by omega) rfl (by show 1 ≤ 1; omega) (by show 1 ≤ 8; omega)
    (fun k hk => by have hk1 : k < 1 := hk; obtain rfl : k = 0 := (by omega); show (1 : Int) ≤ 4 ∧ (4 : Int) ≤ 16; omega) (by show 3 ≤ 64; omega)
    (fun k hk => by
      have hk3 : k = 0 ∨ k = 1 ∨ k = 2 := by have : k < 3 := hk; omega
      rcases hk3 with rfl | rfl | rfl
      · rw [b0]; exact ⟨by show O.length ≤ 1000; omega, fun j hj => (h.nice j hj).ok⟩
      · rw [b1]; exact ⟨Nat.zero_le _, fun j hj => absurd hj (Nat.not_lt_zero _)⟩
      · rw [b2]; exact ⟨Nat.zero_le _, fun j hj => absurd hj (Nat.not_lt_zero _)⟩)
    (fun k hk => by
      have hk3 : k = 0 ∨ k = 1 ∨ k = 2 := by have : k < 3 := hk; omega
      rcases hk3 with rfl | rfl | rfl
      · rw [b0]
        refine ⟨fun _ => by show (0 : Int) ≤ 3 ∧ (3 : Int) < (5 : Nat); omega, fun j hj => ?_⟩
        have hj2 : j = 0 ∨ j = 1 := by have : j < 2 := hj; omega
        rcases hj2 with rfl | rfl
        · show (0 : Int) ≤ 1; omega
        · show (0 : Int) ≤ 2; omega
      · rw [b1]
        refine ⟨fun h => absurd (show (1 : Nat) = 2 from h) (by decide), fun j hj => ?_⟩
        have hj0 : j = 0 := by have : j < 1 := hj; omega
        subst hj0
        show (0 : Int) ≤ 2; omega
      · rw [b2]; exact ⟨fun h => absurd (show (0 : Nat) = 2 from h) (by decide), fun j hj => absurd hj (Nat.not_lt_zero _)⟩)
    (RowIn.nil _ _) rfl (by simp) (fun i hi => absurd (show i < 0 from hi) (Nat.not_lt_zero _)) (fun x hx => by cases hx) (by omega) hg
  refine H.mono fun e w' hp => ?_
  obtain ⟨v1, v2, v3, v4, he, hb, h1, h2, h3, h4⟩ := hp
  obtain ⟨A1, c1, rfl, -⟩ := h1.opened
  obtain ⟨A2, c2, rfl, -⟩ := id h2
  obtain ⟨A3, c3, rfl, -⟩ := id h3
  obtain ⟨A4, c4, rfl, h9⟩ := h4.opened
  obtain ⟨b4, o4, rfl, hl4, hc4⟩ := h9 1 (by have := hc3; show 1 < (Tr.pass (Fo.allG faA O) (Tr.its (Fo.allG faA O) (Tr.start (Fo.allG faA O) 5 [] 1000) N)).cnt.length; omega)
  replace hc4 := hc4.trans (congrArg (fun z => some (Value.int .i64 z)) hc)
  have hc3' : (Tr.pass (Fo.allG faA O) (Tr.its (Fo.allG faA O) (Tr.start (Fo.allG faA O) 5 [] ((1000 : Nat) : Int)) N)).cnt.length = 3 := hc3
  rw [hc3'] at he
  exact ⟨hb, _, _, _, _, _, _, _, _, _, b4, o4, c4, _, he, hl4, hc4⟩
end Go.Proofs.Ytojnhdkclabkgaa
namespace Go.Proofs.Ytojnhdkclabkgaa
open Go.RowKit
set_option linter.unusedVariables false
set_option linter.unusedSimpArgs false
attribute [local go_sem] y_undef
theorem nice_toA {l : List Int} (hb : ∀ z ∈ l, 0 ≤ z ∧ z ≤ 255) : ∀ o ∈ Fo.opsTo l (Fo.opsN l), Fo.Nice 5 1 o := by
  have hbd : ∀ i, 0 ≤ l.getD i 0 ∧ l.getD i 0 ≤ 255 := fun i => by
    rcases Nat.lt_or_ge i l.length with h | h
    · exact hb _ (by rw [List.getD_eq_getElem?_getD, List.getElem?_eq_getElem h]; exact List.getElem_mem h)
    · rw [List.getD_eq_getElem?_getD, List.getElem?_eq_none h]; simp
  intro o ho
  unfold Fo.opsTo at ho
  obtain ⟨i, -, rfl⟩ := List.mem_map.1 ho
  exact Fo.nice_of (hbd _) (hbd _) (hbd _)
/-- The array that came in. -/
def arr5 (a0 a1 a2 a3 a4 : Int) : Array Value := #[.int .i16 a0, .int .i16 a1, .int .i16 a2, .int .i16 a3, .int .i16 a4]
def ix5 (a0 a1 a2 a3 a4 : Int) : Nat → Int := fun i => [a0, a1, a2, a3, a4].getD i 0
theorem arr5_at (a0 a1 a2 a3 a4 : Int) {k : Nat} (hk : k < 5) : (arr5 a0 a1 a2 a3 a4)[k]? = some (.int .i16 (ix5 a0 a1 a2 a3 a4 k)) := by
  rcases (show k = 0 ∨ k = 1 ∨ k = 2 ∨ k = 3 ∨ k = 4 by omega) with rfl | rfl | rfl | rfl | rfl <;> rfl
theorem ix5_in {a0 a1 a2 a3 a4 : Int} (b0 : -32768 ≤ a0 ∧ a0 ≤ 32767) (b1 : -32768 ≤ a1 ∧ a1 ≤ 32767) (b2 : -32768 ≤ a2 ∧ a2 ≤ 32767) (b3 : -32768 ≤ a3 ∧ a3 ≤ 32767) (b4 : -32768 ≤ a4 ∧ a4 ≤ 32767) (k : Nat) : -32768 ≤ ix5 a0 a1 a2 a3 a4 k ∧ ix5 a0 a1 a2 a3 a4 k ≤ 32767 := by
  unfold ix5
  match k with
  | 0 => exact b0
  | 1 => exact b1
  | 2 => exact b2
  | 3 => exact b3
  | 4 => exact b4
  | k + 5 => simp
/-- Operations in the making beside those of a list. -/
structure Oo (w : World) (y v7 : Value) (l M : List Gr.Op) (u : World) : Prop where
  om : Om w y l u
  mo : u.ownsRow w.heap.size 27 5 v7 M.length (M.flatMap opCells)
  ap : Ap v7 y
theorem Oo.below {w u u' : World} {y v7 : Value} {l M : List Gr.Op} (h : Oo w y v7 l M u) (hb : Below u.heap.size u u') : Oo w y v7 l M u' := ⟨h.om.below hb, own_below h.mo hb, h.ap⟩
theorem Oo.app {w u u' : World} {y y' v7 : Value} {l M : List Gr.Op} {o : Gr.Op} (h : Oo w y v7 l M u) (hown : u'.ownsRow w.heap.size 27 5 y' (l.length + 1) (l.flatMap opCells ++ opCells o)) (hg : u.grownBy u' y.ownBlock) (hy : y'.ownBlock = y.ownBlock ∨ y'.ownBlock = some u.heap.size) : Oo w y' v7 (l ++ [o]) M u' :=
  ⟨h.om.app hown hg, own_ap h.mo hg h.ap, fun k hk e => by
    rcases hy with e1 | e1
    · rw [e1] at e; exact h.ap k hk e
    · rw [e1] at e; injection e with e; have := (h.mo.lt k hk).2; omega⟩
set_option maxHeartbeats 40000000 in
set_option maxRecDepth 100000 in
theorem all_law (l : List Int) (v : Value) (a0 a1 a2 a3 a4 : Int) (w : World) (hv : IntsIn .u8 w v l) (hb : ∀ z ∈ l, 0 ≤ z ∧ z ≤ 255) (hl : l.length ≤ maxLen) (b0 : -32768 ≤ a0 ∧ a0 ≤ 32767) (b1 : -32768 ≤ a1 ∧ a1 ≤ 32767) (b2 : -32768 ≤ a2 ∧ a2 ≤ 32767) (b3 : -32768 ≤ a3 ∧ a3 ≤ 32767) (b4 : -32768 ≤ a4 ∧ a4 ≤ 32767) :
    Calls Try.prog 3 #[v, .agg #[.int .i16 a0, .int .i16 a1, .int .i16 a2, .int .i16 a3, .int .i16 a4]] w fun e w' => e = .returned (.bool true) ∧ Below w.heap.size w w' := by
  obtain ⟨X, hX⟩ : ∃ X, ix5 a0 a1 a2 a3 a4 = X := ⟨_, rfl⟩
  have hXb := ix5_in b0 b1 b2 b3 b4
  rw [hX] at hXb
  have HX := Lib.hid hXb
  have HXA := Lib.hid (show ∀ k, k < 5 → (arr5 a0 a1 a2 a3 a4)[k]? = some (.int .i16 (X k)) from fun k hk => by rw [← hX]; exact arr5_at a0 a1 a2 a3 a4 hk)
  clear hX b0 b1 b2 b3 b4
  have HOps := Lib.hid fun (W : World) (hW : Below w.heap.size w W) => ops_any l v W (hv.below hW) hb hl
  have hni := nice_toA hb
  have hnl : (Fo.opsTo l (Fo.opsN l)).length ≤ 30 := by rw [Fo.opsTo_len]; unfold Fo.opsN; omega
  obtain ⟨M, hM⟩ : ∃ M, Fo.opsTo l (Fo.opsN l) = M := ⟨_, rfl⟩
  rw [hM] at HOps hni hnl
  have HAll := Lib.hid (Fo.allO_of (X := X) (fun i => by have := hXb i; unfold Tr.isWd; omega) hni hnl)
  obtain ⟨m, hm⟩ : ∃ m, M.length = m := ⟨_, rfl⟩
  have HM := Lib.hid hm
  rw [hm] at hnl
  obtain ⟨Ai, ci, rfl⟩ : ∃ A c, v = .slice A l.length c := by
    rcases hv with ⟨rfl, A, c, rfl⟩ | ⟨b, off, c, h0, rfl, hlt, hc⟩
    · exact ⟨A, c, rfl⟩
    · exact ⟨_, c, rfl⟩
  clear hm hM hni hXb hv hb hl
  obtain ⟨iTO, hi0, hz0, hz1, hz2⟩ := info_parts info_op
  have HTO := Lib.hid (And.intro hi0 (And.intro hz0 (And.intro hz1 hz2)))
  clear hi0 hz0 hz1 hz2
  go_enter Try.func3, Try.ntmps3
  go_upto_block 0 with fail
  have HZ0 := Lib.hid (show Om w (.slice none 0 0) (Fo.all5 X 0) (w.alloc (.cells #[.int .i16 a0, .int .i16 a1, .int .i16 a2, .int .i16 a3, .int .i16 a4] 24)) ∧ Bk (w.alloc (.cells #[.int .i16 a0, .int .i16 a1, .int .i16 a2, .int .i16 a3, .int .i16 a4] 24)) w.heap.size 24 (arr5 a0 a1 a2 a3 a4) from ⟨⟨bla (Below.refl _ _) _, World.ownsRow_nil _ _ _ _⟩, Bk.new _ _ _⟩)
  generalize (w.alloc (.cells #[.int .i16 a0, .int .i16 a1, .int .i16 a2, .int .i16 a3, .int .i16 a4] 24)) = W0 at HZ0 ⊢
  go_cut [5, 6] from 17 to 29 (fun y _ wc => ∃ (A5 : Option Addr) (C5 : Nat), y = .slice A5 5 C5 ∧ Hid (Om w (.slice A5 5 C5) (Fo.all5 X 5) wc ∧ Bk wc w.heap.size 24 (arr5 a0 a1 a2 a3 a4)))
  case first =>
    go_wp2
    go_loopw [5, 6] (fun v i wr => ∃ (k : Nat) (y : Value), k ≤ 5 ∧ i = .int .i64 (k : Nat) ∧ y = v ∧ Hid (Om w y (Fo.all5 X k) wr ∧ Bk wr w.heap.size 24 (arr5 a0 a1 a2 a3 a4))) (fun _ i _ => 5 - (intOf i).toNat)
    case atStart => exact ⟨0, _, by omega, rfl, rfl, HZ0⟩
    case round =>
      clear HZ0
      obtain ⟨k, y, hk, rfl, rfl, HZ⟩ := hrel
      by_cases hlt : (k : Int) < 5
      · have x0 : wr.cell? ⟨w.heap.size, k, none⟩ = some (.int .i16 (X k)) := by rw [HZ.out.2.cell]; exact HXA.out k (by omega)
        have hx := HX.out k
        have hrow := HZ.out.1.2
        rw [Fo.all5_len] at hrow
        have hbk : Below wr.heap.size wr (wr.alloc (.cells #[.int .i64 1, .int .i64 (k : Nat), .int .i64 0, .int .i64 0, .int .i64 (X k)] 27)) := bla (Below.refl _ _) _
        have HRow := Lib.hid (own_below hrow hbk)
        have HLit := Lib.hid (show RowIn 5 (wr.alloc (.cells #[.int .i64 1, .int .i64 (k : Nat), .int .i64 0, .int .i64 0, .int .i64 (X k)] 27)) (.slice (some ⟨wr.heap.size, 0, none⟩) 1 1) 1 (opCells ⟨1, (k : Nat), 0, 0, X k⟩) from lit_op wr (⟨1, (k : Nat), 0, 0, X k⟩ : Gr.Op) _ rfl)
        have hsz := HZ.out.1.1.size
        have hBx := HZ.out.2.lt
        clear hrow
        go_wp2_with (at_builtin; refine wpList_append_row rfl _ _ 25 rfl w.heap.size 27 iTO _ 5 40 Try.underlying25 HTO.out.1 HTO.out.2.1 HTO.out.2.2.1 HTO.out.2.2.2 rfl (by decide) _ _ _ rfl (HRow.out) _ _ _ rfl (HLit.out) ?qc3 ?qc4 ?qc5 ?qc6 ?_)
        case qc3 => exact one_op1
        case qc4 => unfold maxLen; omega
        case qc5 => omega
        case qc6 => rw [size_alloc]; omega
        intro v2 w3 hown hg hv2
        have HN := Lib.hid (show Om w v2 (Fo.all5 X (k + 1)) w3 ∧ Bk w3 w.heap.size 24 (arr5 a0 a1 a2 a3 a4) from ⟨by rw [Fo.all5_succ]; exact (HZ.out.1.below hbk).app (by rw [Fo.all5_len]; exact hown) hg, bk_grown_t (HZ.out.2.below hbk) HRow.out (by decide) hg⟩)
        clear hown hg hv2 HRow HLit HZ x0 hbk
        go_wp2
        exact ⟨⟨k + 1, _, by omega, by first | rfl | go_num, rfl, HN⟩, by simp [intOf]; omega⟩
      · have h5 : k = 5 := by omega
        subst h5
        have ho := HZ.out.1.2
        rw [Fo.all5_len] at ho
        obtain ⟨A5, C5, rfl⟩ := own_eta ho
        clear ho
        go_wp2
        go_meet
        case rel => exact ⟨A5, C5, rfl, HZ⟩
  case rest =>
    obtain ⟨A5, C5, rfl, H5⟩ := hcut
    clear HZ0 HX HXA
    go_wp2_with fail
    refine (HOps.out wc H5.out.1.1).mono ?_
    rintro e w7 ⟨y7, rfl, hom⟩
    have ho := hom.2
    rw [HM.out] at ho
    obtain ⟨A7, C7, rfl⟩ := own_eta ho
    clear ho
    have H7 := Lib.hid (show Oo w (.slice A5 5 C5) (.slice A7 m C7) (Fo.allTo X M 0) M w7 from by
      have e0 : Fo.allTo X M 0 = Fo.all5 X 5 := by simp [Fo.allTo]
      rw [e0]
      exact ⟨H5.out.1.below hom.1, own_mono_b hom.2 H5.out.1.1.size, (ap_late H5.out.1.2 hom.2).symm⟩)
    clear hom H5 HOps
    obtain ⟨O, hO⟩ : ∃ O, Fo.allTo X M M.length = O := ⟨_, rfl⟩
    obtain ⟨N, hN⟩ : ∃ N, O.length = N := ⟨_, rfl⟩
    have HO := Lib.hid (And.intro hO hN)
    clear hO hN
    rw [HO.out.1] at HAll
    have hN35 : N ≤ 35 := by have := HAll.out.len.2; rw [HO.out.2] at this; exact this
    go_upto_block 2 with fail
    go_cut [5, 8] from 32 to 50 (fun y _ wc => ∃ (A5 : Option Addr) (C5 : Nat), y = .slice A5 N C5 ∧ Hid (Om w (.slice A5 N C5) O wc))
    case first =>
      go_wp2
      go_loopw [5, 8] (fun v i wr => ∃ (k : Nat) (y : Value), k ≤ m ∧ i = .int .i64 (k : Nat) ∧ y = v ∧ Hid (Oo w y (.slice A7 m C7) (Fo.allTo X M k) M wr)) (fun _ i _ => m - (intOf i).toNat)
      case atStart => exact ⟨0, _, Nat.zero_le _, rfl, rfl, H7⟩
      case round =>
        clear H7
        obtain ⟨k, y, hk, rfl, rfl, HZ⟩ := hrel
        obtain ⟨q, hq⟩ : ∃ q, (Fo.allTo X M k).length = q := ⟨_, rfl⟩
        have hq2 : q ≤ 5 + k := hq ▸ Fo.allTo_len X M k
        have HQ := Lib.hid hq
        have hrow := HZ.out.om.2
        rw [hq] at hrow
        obtain ⟨A5x, C5x, rfl⟩ := own_eta hrow
        have HR0 := Lib.hid hrow
        clear hq hrow
        by_cases hlt : (k : Int) < (m : Int)
        · obtain ⟨A, c, e, hc⟩ := OpsIn.opened (show OpsIn wr (.slice A7 m C7) M from RowIn.own HZ.out.mo)
          injection e with e1 e2 e3
          subst e1
          obtain ⟨b, off, rfl, hbb, o0, o1, o2, o3, o4⟩ := hc k (by rw [HM.out]; omega)
          clear hc e2 e3
          obtain ⟨o, ho⟩ : ∃ o, M.getD k Gr.op0 = o := ⟨_, rfl⟩
          rw [ho] at o0 o1 o2 o3 o4
          have HOk := Lib.hid ho
          clear ho
          obtain ⟨kd, ds, oa, ob, im⟩ := o
          dsimp only at o0 o1 o2 o3 o4
          by_cases h4 : kd = 4
          · have HN := Lib.hid (show Oo w (.slice A5x q C5x) (.slice (some ⟨b, off, none⟩) m C7) (Fo.allTo X M (k + 1)) M wr from by rw [Fo.allTo_no (by rw [HM.out]; omega) (by rw [HOk.out]; exact h4)]; exact HZ.out)
            subst h4
            go_wp2
            exact ⟨⟨k + 1, _, by omega, by first | rfl | go_num, rfl, HN⟩, by simp [intOf]; omega⟩
          · have hbk : Below wr.heap.size wr (wr.alloc (.cells #[.int .i64 kd, .int .i64 ds, .int .i64 oa, .int .i64 ob, .int .i64 im] 27)) := bla (Below.refl _ _) _
            have HRow := Lib.hid (own_below HR0.out hbk)
            have HLit := Lib.hid (show RowIn 5 (wr.alloc (.cells #[.int .i64 kd, .int .i64 ds, .int .i64 oa, .int .i64 ob, .int .i64 im] 27)) (.slice (some ⟨wr.heap.size, 0, none⟩) 1 1) 1 (opCells ⟨kd, ds, oa, ob, im⟩) from lit_op wr (⟨kd, ds, oa, ob, im⟩ : Gr.Op) _ rfl)
            have hsz := HZ.out.om.1.size
            go_wp2_with (at_builtin; refine wpList_append_row rfl _ _ 25 rfl w.heap.size 27 iTO _ 5 40 Try.underlying25 HTO.out.1 HTO.out.2.1 HTO.out.2.2.1 HTO.out.2.2.2 rfl (by decide) _ _ _ rfl (HRow.out) _ _ _ rfl (HLit.out) ?qc3 ?qc4 ?qc5 ?qc6 ?_)
            case qc3 => exact one_op1
            case qc4 => unfold maxLen; omega
            case qc5 => omega
            case qc6 => rw [size_alloc]; omega
            intro v2 w3 hown hg hv2
            have HN := Lib.hid (show Oo w v2 (.slice (some ⟨b, off, none⟩) m C7) (Fo.allTo X M (k + 1)) M w3 from by rw [Fo.allTo_yes (by rw [HM.out]; omega) (by rw [HOk.out]; exact h4), HOk.out]; exact (HZ.out.below hbk).app (by rw [HQ.out]; exact hown) hg (by rw [size_alloc]; exact hv2))
            clear hown hg hv2 HRow HLit HZ hbk HR0 o0 o1 o2 o3 o4
            go_wp2
            exact ⟨⟨k + 1, _, by omega, by first | rfl | go_num, rfl, HN⟩, by simp [intOf]; omega⟩
        · have hkm : k = m := by omega
          subst hkm
          have hOm : Om w (.slice A5x q C5x) O wr := by rw [← HO.out.1, HM.out]; exact HZ.out.om
          have hqN : q = N := by rw [← HQ.out, ← HO.out.2, ← HO.out.1, HM.out]
          subst hqN
          have HP := Lib.hid hOm
          clear hOm
          go_wp2
          go_meet
          case rel => exact ⟨A5x, C5x, rfl, HP⟩
    case rest =>
      obtain ⟨A5x, C5x, rfl, HP⟩ := hcut
      clear H7
      go_upto_region 12 with fail
      have hb1 : Below wc.heap.size wc (((((wc.alloc (.cells #[.string ⟨#[97]⟩, .int .i64 4] 30)).alloc (.cells #[.int .i64 1, .int .i64 2] 3)).alloc (.cells #[.int .i64 2] 3)).alloc (.cells #[.slice A5x N C5x, .int .i64 3, .slice (some ⟨wc.heap.size + 1, 0, none⟩) 2 2, .slice none 0 0, .int .i64 0, .slice (some ⟨wc.heap.size + 1 + 1, 0, none⟩) 1 1, .slice none 0 0, .int .i64 0, .slice none 0 0] 34)).alloc (.cells #[.slice none 0 0, .int .i64 5, .int .i64 5, .slice (some ⟨wc.heap.size, 0, none⟩) 1 1, .int .i64 0, .slice (some ⟨wc.heap.size + 1 + 1 + 1, 0, none⟩) 3 3, .slice none 0 0, .slice none 0 0] 40)) := bla (bla (bla (bla (bla (Below.refl _ _) _) _) _) _) _
      have HB := Lib.hid (show Below w.heap.size w (((((wc.alloc (.cells #[.string ⟨#[97]⟩, .int .i64 4] 30)).alloc (.cells #[.int .i64 1, .int .i64 2] 3)).alloc (.cells #[.int .i64 2] 3)).alloc (.cells #[.slice A5x N C5x, .int .i64 3, .slice (some ⟨wc.heap.size + 1, 0, none⟩) 2 2, .slice none 0 0, .int .i64 0, .slice (some ⟨wc.heap.size + 1 + 1, 0, none⟩) 1 1, .slice none 0 0, .int .i64 0, .slice none 0 0] 34)).alloc (.cells #[.slice none 0 0, .int .i64 5, .int .i64 5, .slice (some ⟨wc.heap.size, 0, none⟩) 1 1, .int .i64 0, .slice (some ⟨wc.heap.size + 1 + 1 + 1, 0, none⟩) 3 3, .slice none 0 0, .slice none 0 0] 40)) from blt HP.out.1 hb1)
      have HX0 := Lib.hid (show Bk (((((wc.alloc (.cells #[.string ⟨#[97]⟩, .int .i64 4] 30)).alloc (.cells #[.int .i64 1, .int .i64 2] 3)).alloc (.cells #[.int .i64 2] 3)).alloc (.cells #[.slice A5x N C5x, .int .i64 3, .slice (some ⟨wc.heap.size + 1, 0, none⟩) 2 2, .slice none 0 0, .int .i64 0, .slice (some ⟨wc.heap.size + 1 + 1, 0, none⟩) 1 1, .slice none 0 0, .int .i64 0, .slice none 0 0] 34)).alloc (.cells #[.slice none 0 0, .int .i64 5, .int .i64 5, .slice (some ⟨wc.heap.size, 0, none⟩) 1 1, .int .i64 0, .slice (some ⟨wc.heap.size + 1 + 1 + 1, 0, none⟩) 3 3, .slice none 0 0, .slice none 0 0] 40)) (wc.heap.size + 1 + 1 + 1 + 1) 40 #[.slice none 0 0, .int .i64 5, .int .i64 5, .slice (some ⟨wc.heap.size, 0, none⟩) 1 1, .int .i64 0, .slice (some ⟨wc.heap.size + 1 + 1 + 1, 0, none⟩) 3 3, .slice none 0 0, .slice none 0 0] from bk_nw (by simp only [size_alloc]))
      have HOp := Lib.hid (show OpsIn (((((wc.alloc (.cells #[.string ⟨#[97]⟩, .int .i64 4] 30)).alloc (.cells #[.int .i64 1, .int .i64 2] 3)).alloc (.cells #[.int .i64 2] 3)).alloc (.cells #[.slice A5x N C5x, .int .i64 3, .slice (some ⟨wc.heap.size + 1, 0, none⟩) 2 2, .slice none 0 0, .int .i64 0, .slice (some ⟨wc.heap.size + 1 + 1, 0, none⟩) 1 1, .slice none 0 0, .int .i64 0, .slice none 0 0] 34)).alloc (.cells #[.slice none 0 0, .int .i64 5, .int .i64 5, .slice (some ⟨wc.heap.size, 0, none⟩) 1 1, .int .i64 0, .slice (some ⟨wc.heap.size + 1 + 1 + 1, 0, none⟩) 3 3, .slice none 0 0, .slice none 0 0] 40)) (.slice A5x N C5x) O from by have h := RowIn.own (own_below HP.out.2 hb1); rw [HO.out.2] at h; exact (show RowIn 5 _ _ O.length _ from by rw [HO.out.2]; exact h))
      have HG0 := Lib.hid (show GrIn (((((wc.alloc (.cells #[.string ⟨#[97]⟩, .int .i64 4] 30)).alloc (.cells #[.int .i64 1, .int .i64 2] 3)).alloc (.cells #[.int .i64 2] 3)).alloc (.cells #[.slice A5x N C5x, .int .i64 3, .slice (some ⟨wc.heap.size + 1, 0, none⟩) 2 2, .slice none 0 0, .int .i64 0, .slice (some ⟨wc.heap.size + 1 + 1, 0, none⟩) 1 1, .slice none 0 0, .int .i64 0, .slice none 0 0] 34)).alloc (.cells #[.slice none 0 0, .int .i64 5, .int .i64 5, .slice (some ⟨wc.heap.size, 0, none⟩) 1 1, .int .i64 0, .slice (some ⟨wc.heap.size + 1 + 1 + 1, 0, none⟩) 3 3, .slice none 0 0, .slice none 0 0] 40)) (Fo.allG faA O) (.slice none 0 0) (.slice (some ⟨wc.heap.size, 0, none⟩) 1 1) (.slice (some ⟨wc.heap.size + 1 + 1 + 1, 0, none⟩) 3 3) (.slice none 0 0) (.slice none 0 0) from by
        have e := HO.out.2
        have h3 := HOp.out
        clear HX0 HB HO
        subst e
        exact allg_in (ga := wc.heap.size) (gB := wc.heap.size + 1) (gC := wc.heap.size + 1 + 1) (gE := wc.heap.size + 1 + 1 + 1) (bk_al (bk_al (bk_al (bk_al (bk_nw rfl) _) _) _) _) h3 (bk_al (bk_al (bk_al (bk_nw (by simp only [size_alloc])) _) _) _) (bk_al (bk_al (bk_nw (by simp only [size_alloc])) _) _) (bk_al (bk_nw (by simp only [size_alloc])) _))
      clear HP hb1
      go_upto_region 13 with fail
      generalize wc.heap.size + 1 + 1 + 1 + 1 = b0 at HX0 ⊢
      generalize (((((wc.alloc (.cells #[.string ⟨#[97]⟩, .int .i64 4] 30)).alloc (.cells #[.int .i64 1, .int .i64 2] 3)).alloc (.cells #[.int .i64 2] 3)).alloc (.cells #[.slice A5x N C5x, .int .i64 3, .slice (some ⟨wc.heap.size + 1, 0, none⟩) 2 2, .slice none 0 0, .int .i64 0, .slice (some ⟨wc.heap.size + 1 + 1, 0, none⟩) 1 1, .slice none 0 0, .int .i64 0, .slice none 0 0] 34)).alloc (.cells #[.slice none 0 0, .int .i64 5, .int .i64 5, .slice (some ⟨wc.heap.size, 0, none⟩) 1 1, .int .i64 0, .slice (some ⟨wc.heap.size + 1 + 1 + 1, 0, none⟩) 3 3, .slice none 0 0, .slice none 0 0] 40)) = W2 at HB HX0 HOp HG0 ⊢
      skip
      have g0 := HX0.out.cell 0
      have g1 := HX0.out.cell 1
      have g2 := HX0.out.cell 2
      have g3 := HX0.out.cell 3
      have g4 := HX0.out.cell 4
      have g5 := HX0.out.cell 5
      have g6 := HX0.out.cell 6
      have g7 := HX0.out.cell 7
      go_wp2_with fail
      refine (foldA HAll.out _ _ W2 HG0.out).mono ?_
      rintro e w3 ⟨hb, A1, n1, c1, A2, n2, c2, A3, n3, c3, A4, n4, c4, A6, n6, c6, A8, n8, c8, rfl, hf⟩
      clear g0 g1 g2 g3 g4 g5 g6 g7
      obtain ⟨bf, of, cf, F1, F2, f1, f2, ef, hf0, hf1, hf2, hf3, bg, og, rfl, hf4, hf5⟩ := hf
      injection ef with e1 e2 e3
      subst e1 e2 e3
      have hbk : Below w3.heap.size w3 (w3.alloc (.cells #[.slice A1 n1 c1, .int .i64 5, .int .i64 5, .slice A2 n2 c2, .int .i64 0, .slice (some ⟨bf, of, none⟩) 3 c3, .slice A4 n4 c4, .slice A6 n6 c6] 40)) := bla (Below.refl _ _) _
      have hbk2 : Below W2.heap.size W2 (w3.alloc (.cells #[.slice A1 n1 c1, .int .i64 5, .int .i64 5, .slice A2 n2 c2, .int .i64 0, .slice (some ⟨bf, of, none⟩) 3 c3, .slice A4 n4 c4, .slice A6 n6 c6] 40)) := blt hb hbk
      replace HB := Lib.hid (blt HB.out hbk2)
      replace HX0 := Lib.hid (HX0.out.below hbk2)
      replace HOp := Lib.hid (HOp.out.below hbk2)
      replace HG0 := Lib.hid (HG0.out.below hbk2)
      have HX1 := Lib.hid (show Bk (w3.alloc (.cells #[.slice A1 n1 c1, .int .i64 5, .int .i64 5, .slice A2 n2 c2, .int .i64 0, .slice (some ⟨bf, of, none⟩) 3 c3, .slice A4 n4 c4, .slice A6 n6 c6] 40)) w3.heap.size 40 #[.slice A1 n1 c1, .int .i64 5, .int .i64 5, .slice A2 n2 c2, .int .i64 0, .slice (some ⟨bf, of, none⟩) 3 c3, .slice A4 n4 c4, .slice A6 n6 c6] from Bk.new _ _ _)
      have HF := Lib.hid (show FoldedA O (w3.alloc (.cells #[.slice A1 n1 c1, .int .i64 5, .int .i64 5, .slice A2 n2 c2, .int .i64 0, .slice (some ⟨bf, of, none⟩) 3 c3, .slice A4 n4 c4, .slice A6 n6 c6] 40)) (.slice (some ⟨bf, of, none⟩) 3 c3) from (show FoldedA O w3 (.slice (some ⟨bf, of, none⟩) 3 c3) from ⟨bf, of, c3, F1, _, f1, f2, rfl, hf0, hf1, hf2, hf3, bg, og, rfl, hf4, hf5⟩).below hbk)
      clear hb hbk hbk2 hf0 hf1 hf2 hf3 hf4 hf5
      go_upto_region 14 with fail
      generalize w3.heap.size = b1 at HX1 ⊢
      generalize (w3.alloc (.cells #[.slice A1 n1 c1, .int .i64 5, .int .i64 5, .slice A2 n2 c2, .int .i64 0, .slice (some ⟨bf, of, none⟩) 3 c3, .slice A4 n4 c4, .slice A6 n6 c6] 40)) = W3 at HB HX0 HX1 HOp HG0 HF ⊢
      have g0 := HX0.out.cell 0
      have g1 := HX0.out.cell 1
      have g2 := HX0.out.cell 2
      have g3 := HX0.out.cell 3
      have g4 := HX0.out.cell 4
      have g5 := HX0.out.cell 5
      have g6 := HX0.out.cell 6
      have g7 := HX0.out.cell 7
      go_wp2_with fail
      refine (runA HAll.out _ _ W3 HG0.out).mono ?_
      rintro e w4 ⟨hb, P1, m1, d1, P2, m2, d2, P3, m3, d3, b4, o4, c4_, st, rfl, hr1, hr2⟩
      clear g0 g1 g2 g3 g4 g5 g6 g7
      have hbk : Below w4.heap.size w4 (w4.alloc (.cells #[.slice P1 m1 d1, .slice P2 m2 d2, .slice P3 m3 d3, .slice (some ⟨b4, o4, none⟩) 3 c4_, .int .i64 st] 45)) := bla (Below.refl _ _) _
      have hbk2 : Below W3.heap.size W3 (w4.alloc (.cells #[.slice P1 m1 d1, .slice P2 m2 d2, .slice P3 m3 d3, .slice (some ⟨b4, o4, none⟩) 3 c4_, .int .i64 st] 45)) := blt hb hbk
      replace HB := Lib.hid (blt HB.out hbk2)
      replace HX1 := Lib.hid (HX1.out.below hbk2)
      replace HOp := Lib.hid (HOp.out.below hbk2)
      replace HF := Lib.hid (HF.out.below hbk2)
      have HR := Lib.hid (show Bk (w4.alloc (.cells #[.slice P1 m1 d1, .slice P2 m2 d2, .slice P3 m3 d3, .slice (some ⟨b4, o4, none⟩) 3 c4_, .int .i64 st] 45)) w4.heap.size 45 #[.slice P1 m1 d1, .slice P2 m2 d2, .slice P3 m3 d3, .slice (some ⟨b4, o4, none⟩) 3 c4_, .int .i64 st] from Bk.new _ _ _)
      have HC := Lib.hid (show b4 < (w4.alloc (.cells #[.slice P1 m1 d1, .slice P2 m2 d2, .slice P3 m3 d3, .slice (some ⟨b4, o4, none⟩) 3 c4_, .int .i64 st] 45)).heap.size ∧ (w4.alloc (.cells #[.slice P1 m1 d1, .slice P2 m2 d2, .slice P3 m3 d3, .slice (some ⟨b4, o4, none⟩) 3 c4_, .int .i64 st] 45)).cell? ⟨b4, o4 + 1, none⟩ = some (.int .i64 (if Fo.allN O = 1 then 1 else 0)) from ⟨Nat.lt_of_lt_of_le hr1 hbk.size, (hbk.cell (p := ⟨b4, o4 + 1, none⟩) hr1).trans hr2⟩)
      clear hb hbk hbk2 hr1 hr2 HX0 HG0
      go_upto_region 15 with fail
      generalize w4.heap.size = b5 at HR ⊢
      generalize (w4.alloc (.cells #[.slice P1 m1 d1, .slice P2 m2 d2, .slice P3 m3 d3, .slice (some ⟨b4, o4, none⟩) 3 c4_, .int .i64 st] 45)) = W4 at HB HX1 HOp HF HR HC ⊢
      obtain ⟨bf2, of2, cf2, F3, F4, f3, f4, ef, hf0, hf1, hf2, hf3, bg2, og2, rfl, hf4, hf5⟩ := HF.out
      injection ef with e1 e2 e3
      injection e1 with e1
      injection e1 with e4 e5 e6
      subst e4 e5
      clear e2 e3 e6 HF
      have x5 := HX1.out.cell 5
      rw [HO.out.2] at hf1
      go_upto_region 17 with fail
      go_cut [15] from 17 (fun x wx => x = .int .i64 0 ∧ Hid (wx = W4))
      case first =>
        go_wp2
        go_meet
        case rel => exact ⟨rfl, Lib.hid rfl⟩
      case rest =>
      obtain ⟨rfl, hwx⟩ := hcut
      replace hwx := hwx.out
      subst hwx
      have HK := Lib.hid (And.intro hf0 (And.intro hf2 (And.intro hf4 hf5)))
      clear hf2 hf4 hf5 x5
      go_wp2
      go_loopw [15, 16] (fun i _ wr => ∃ k : Nat, k ≤ N ∧ i = .int .i64 (k : Nat) ∧ Hid (wr = wc)) (fun i _ _ => N - (intOf i).toNat)
      case atStart => exact ⟨0, Nat.zero_le _, rfl, Lib.hid rfl⟩
      case round =>
        obtain ⟨k, hk, rfl, hwr⟩ := hrel
        replace hwr := hwr.out
        subst hwr
        by_cases hlt : (k : Int) < (N : Int)
        · obtain ⟨A, c, e, hc⟩ := OpsIn.opened HOp.out
          injection e with e1 e2 e3
          subst e1
          obtain ⟨b, off, rfl, hbb, o0, -⟩ := hc k (by rw [HO.out.2]; omega)
          clear hc e2 e3
          obtain ⟨A, c, e, hc⟩ := OpsIn.opened hf3
          injection e with e1 e2 e3
          subst e1
          obtain ⟨b9, off9, rfl, hb9, p0, -⟩ := hc k (by rw [Fo.ops_len, HO.out.2]; omega)
          clear hc e2 e3
          have hkind := HAll.out.kind (k := k) (by rw [HO.out.2]; omega)
          have x5 := HX1.out.cell 5
          obtain ⟨kd, hkd⟩ : ∃ z, (O.getD k Gr.op0).kind = z := ⟨_, rfl⟩
          obtain ⟨ke, hke⟩ : ∃ z, ((Fo.ops O).getD k Gr.op0).kind = z := ⟨_, rfl⟩
          rw [hkd] at o0 hkind
          rw [hke] at p0 hkind
          clear hkd hke
          obtain ⟨hk5, hk1⟩ := hkind
          by_cases h5 : kd = 5
          · have e5 := hk5 h5
            subst h5 e5
            clear hk5 hk1
            go_wp2
            exact ⟨⟨k + 1, by omega, by first | rfl | go_num, by first | exact Lib.hid rfl | exact Lib.hid trivial⟩, by simp [intOf]; omega⟩
          · have e1 := hk1 h5
            subst e1
            clear hk5 hk1
            go_wp2
            exact ⟨⟨k + 1, by omega, by first | rfl | go_num, by first | exact Lib.hid rfl | exact Lib.hid trivial⟩, by simp [intOf]; omega⟩
        · go_upto_region 23 with fail
          have hz12 := HAll.out.blk.2
          have hr1 := HC.out.1
          have hC4 := HC.out.2
          have HQ := Lib.hid (And.intro HK.out.1 (And.intro HK.out.2.1 (And.intro HK.out.2.2.1 HK.out.2.2.2)))
          obtain ⟨z, hz⟩ : ∃ z, Fo.allN O = z := ⟨_, rfl⟩
          rw [hz] at hz12 HQ hC4
          clear hz HC HK
          rcases hz12 with rfl | rfl
          · rw [if_pos rfl] at hC4
            refine wp_region_held_drew (S := (fun u : World => Below wr.heap.size wr u)) (by kernel_rfl) (below_drewN _ _ 1) (fun hHeld => ?_)
            refine' wpAnyH_take (i := 0) (v := _) ?_ ?_ ?_ ?_ ?_ ?_ ?_ ?_
            rotate_left 2
            focus (simp only [List.getElem?_toArray, List.getElem?_cons_succ, List.getElem?_cons_zero]; rfl)
            focus kernel_rfl
            focus kernel_rfl
            focus kernel_rfl
            focus exact (fun _ _ _ h => h)
            refine Or.inl ⟨?_, ?_⟩
            focus (go_simp; done)
            focus (intro w hSw; have x5 := (HX1.out.below hSw).cell 5; have y2 := (hSw.cell (p := ⟨bf, of + 2, none⟩) HQ.out.1).trans HQ.out.2.1; have y3 := (hSw.cell (p := ⟨bg2, og2, none⟩) HQ.out.2.2.1).trans HQ.out.2.2.2; have z3 := (HR.out.below hSw).cell 3; have z4 := (hSw.cell (p := ⟨b4, o4 + 1, none⟩) hr1).trans hC4; (first | (go_simp; done) | (go_simp; with_reducible rfl)))
            focus assumption
            (try simp only [Act.put, List.setIfInBounds_toArray, List.set_cons_zero, List.set_cons_succ])
            refine' wpAnyH_take (i := 1) (v := _) ?_ ?_ ?_ ?_ ?_ ?_ ?_ ?_
            rotate_left 2
            focus (simp only [List.getElem?_toArray, List.getElem?_cons_succ, List.getElem?_cons_zero]; rfl)
            focus kernel_rfl
            focus kernel_rfl
            focus kernel_rfl
            focus exact (fun _ _ _ h => h)
            refine Or.inl ⟨?_, ?_⟩
            focus (go_simp; done)
            focus (intro w hSw; have x5 := (HX1.out.below hSw).cell 5; have y2 := (hSw.cell (p := ⟨bf, of + 2, none⟩) HQ.out.1).trans HQ.out.2.1; have y3 := (hSw.cell (p := ⟨bg2, og2, none⟩) HQ.out.2.2.1).trans HQ.out.2.2.2; have z3 := (HR.out.below hSw).cell 3; have z4 := (hSw.cell (p := ⟨b4, o4 + 1, none⟩) hr1).trans hC4; (first | (go_simp; done) | (go_simp; with_reducible rfl)))
            focus assumption
            (try simp only [Act.put, List.setIfInBounds_toArray, List.set_cons_zero, List.set_cons_succ])
            refine' wpAnyH_take (i := 2) (v := _) ?_ ?_ ?_ ?_ ?_ ?_ ?_ ?_
            rotate_left 2
            focus (simp only [List.getElem?_toArray, List.getElem?_cons_succ, List.getElem?_cons_zero]; rfl)
            focus kernel_rfl
            focus kernel_rfl
            focus kernel_rfl
            focus exact (fun _ _ _ h => h)
            refine Or.inl ⟨?_, ?_⟩
            focus (go_simp; done)
            focus (intro w hSw; have x5 := (HX1.out.below hSw).cell 5; have y2 := (hSw.cell (p := ⟨bf, of + 2, none⟩) HQ.out.1).trans HQ.out.2.1; have y3 := (hSw.cell (p := ⟨bg2, og2, none⟩) HQ.out.2.2.1).trans HQ.out.2.2.2; have z3 := (HR.out.below hSw).cell 3; have z4 := (hSw.cell (p := ⟨b4, o4 + 1, none⟩) hr1).trans hC4; (first | (go_simp; done) | (go_simp; with_reducible rfl)))
            focus assumption
            (try simp only [Act.put, List.setIfInBounds_toArray, List.set_cons_zero, List.set_cons_succ])
            refine' wpAnyH_take (i := 3) (v := _) ?_ ?_ ?_ ?_ ?_ ?_ ?_ ?_
            rotate_left 2
            focus (simp only [List.getElem?_toArray, List.getElem?_cons_succ, List.getElem?_cons_zero]; rfl)
            focus kernel_rfl
            focus kernel_rfl
            focus kernel_rfl
            focus exact (fun _ _ _ h => h)
            refine Or.inl ⟨?_, ?_⟩
            focus (go_simp; done)
            focus (intro w hSw; have x5 := (HX1.out.below hSw).cell 5; have y2 := (hSw.cell (p := ⟨bf, of + 2, none⟩) HQ.out.1).trans HQ.out.2.1; have y3 := (hSw.cell (p := ⟨bg2, og2, none⟩) HQ.out.2.2.1).trans HQ.out.2.2.2; have z3 := (HR.out.below hSw).cell 3; have z4 := (hSw.cell (p := ⟨b4, o4 + 1, none⟩) hr1).trans hC4; (first | (go_simp; done) | (go_simp; with_reducible rfl)))
            focus assumption
            (try simp only [Act.put, List.setIfInBounds_toArray, List.set_cons_zero, List.set_cons_succ])
            refine' wpAnyH_take (i := 4) (v := _) ?_ ?_ ?_ ?_ ?_ ?_ ?_ ?_
            rotate_left 2
            focus (simp only [List.getElem?_toArray, List.getElem?_cons_succ, List.getElem?_cons_zero]; rfl)
            focus kernel_rfl
            focus kernel_rfl
            focus kernel_rfl
            focus exact (fun _ _ _ h => h)
            refine Or.inl ⟨?_, ?_⟩
            focus (go_simp; done)
            focus (intro w hSw; have x5 := (HX1.out.below hSw).cell 5; have y2 := (hSw.cell (p := ⟨bf, of + 2, none⟩) HQ.out.1).trans HQ.out.2.1; have y3 := (hSw.cell (p := ⟨bg2, og2, none⟩) HQ.out.2.2.1).trans HQ.out.2.2.2; have z3 := (HR.out.below hSw).cell 3; have z4 := (hSw.cell (p := ⟨b4, o4 + 1, none⟩) hr1).trans hC4; (first | (go_simp; done) | (go_simp; with_reducible rfl)))
            focus assumption
            (try simp only [Act.put, List.setIfInBounds_toArray, List.set_cons_zero, List.set_cons_succ])
            refine' wpAnyH_take (i := 5) (v := _) ?_ ?_ ?_ ?_ ?_ ?_ ?_ ?_
            rotate_left 2
            focus (simp only [List.getElem?_toArray, List.getElem?_cons_succ, List.getElem?_cons_zero]; rfl)
            focus kernel_rfl
            focus kernel_rfl
            focus kernel_rfl
            focus exact (fun _ _ _ h => h)
            refine Or.inl ⟨?_, ?_⟩
            focus (go_simp; done)
            focus (intro w hSw; have x5 := (HX1.out.below hSw).cell 5; have y2 := (hSw.cell (p := ⟨bf, of + 2, none⟩) HQ.out.1).trans HQ.out.2.1; have y3 := (hSw.cell (p := ⟨bg2, og2, none⟩) HQ.out.2.2.1).trans HQ.out.2.2.2; have z3 := (HR.out.below hSw).cell 3; have z4 := (hSw.cell (p := ⟨b4, o4 + 1, none⟩) hr1).trans hC4; (first | (go_simp; done) | (go_simp; with_reducible rfl)))
            focus assumption
            (try simp only [Act.put, List.setIfInBounds_toArray, List.set_cons_zero, List.set_cons_succ])
            refine' wpAnyH_take (i := 6) (v := _) ?_ ?_ ?_ ?_ ?_ ?_ ?_ ?_
            rotate_left 2
            focus (simp only [List.getElem?_toArray, List.getElem?_cons_succ, List.getElem?_cons_zero]; rfl)
            focus kernel_rfl
            focus kernel_rfl
            focus kernel_rfl
            focus exact (fun _ _ _ h => h)
            refine Or.inl ⟨?_, ?_⟩
            focus (go_simp; done)
            focus (intro w hSw; have x5 := (HX1.out.below hSw).cell 5; have y2 := (hSw.cell (p := ⟨bf, of + 2, none⟩) HQ.out.1).trans HQ.out.2.1; have y3 := (hSw.cell (p := ⟨bg2, og2, none⟩) HQ.out.2.2.1).trans HQ.out.2.2.2; have z3 := (HR.out.below hSw).cell 3; have z4 := (hSw.cell (p := ⟨b4, o4 + 1, none⟩) hr1).trans hC4; (first | (go_simp; done) | (go_simp; with_reducible rfl)))
            focus assumption
            (try simp only [Act.put, List.setIfInBounds_toArray, List.set_cons_zero, List.set_cons_succ])
            refine' wpAnyH_take (i := 7) (v := _) ?_ ?_ ?_ ?_ ?_ ?_ ?_ ?_
            rotate_left 2
            focus (simp only [List.getElem?_toArray, List.getElem?_cons_succ, List.getElem?_cons_zero]; rfl)
            focus kernel_rfl
            focus kernel_rfl
            focus kernel_rfl
            focus exact (fun _ _ _ h => h)
            refine Or.inl ⟨?_, ?_⟩
            focus (go_simp; done)
            focus (intro w hSw; have x5 := (HX1.out.below hSw).cell 5; have y2 := (hSw.cell (p := ⟨bf, of + 2, none⟩) HQ.out.1).trans HQ.out.2.1; have y3 := (hSw.cell (p := ⟨bg2, og2, none⟩) HQ.out.2.2.1).trans HQ.out.2.2.2; have z3 := (HR.out.below hSw).cell 3; have z4 := (hSw.cell (p := ⟨b4, o4 + 1, none⟩) hr1).trans hC4; (first | (go_simp; done) | (go_simp; with_reducible rfl)))
            focus assumption
            (try simp only [Act.put, List.setIfInBounds_toArray, List.set_cons_zero, List.set_cons_succ])
            refine' wpAnyH_take (i := 8) (v := _) ?_ ?_ ?_ ?_ ?_ ?_ ?_ ?_
            rotate_left 2
            focus (simp only [List.getElem?_toArray, List.getElem?_cons_succ, List.getElem?_cons_zero]; rfl)
            focus kernel_rfl
            focus kernel_rfl
            focus kernel_rfl
            focus exact (fun _ _ _ h => h)
            refine Or.inl ⟨?_, ?_⟩
            focus (go_simp; done)
            focus (intro w hSw; have x5 := (HX1.out.below hSw).cell 5; have y2 := (hSw.cell (p := ⟨bf, of + 2, none⟩) HQ.out.1).trans HQ.out.2.1; have y3 := (hSw.cell (p := ⟨bg2, og2, none⟩) HQ.out.2.2.1).trans HQ.out.2.2.2; have z3 := (HR.out.below hSw).cell 3; have z4 := (hSw.cell (p := ⟨b4, o4 + 1, none⟩) hr1).trans hC4; (first | (go_simp; done) | (go_simp; with_reducible rfl)))
            focus assumption
            (try simp only [Act.put, List.setIfInBounds_toArray, List.set_cons_zero, List.set_cons_succ])
            refine' wpAnyH_take (i := 9) (v := _) ?_ ?_ ?_ ?_ ?_ ?_ ?_ ?_
            rotate_left 2
            focus (simp only [List.getElem?_toArray, List.getElem?_cons_succ, List.getElem?_cons_zero]; rfl)
            focus kernel_rfl
            focus kernel_rfl
            focus kernel_rfl
            focus exact (fun _ _ _ h => h)
            refine Or.inl ⟨?_, ?_⟩
            focus (go_simp; done)
            focus (intro w hSw; have x5 := (HX1.out.below hSw).cell 5; have y2 := (hSw.cell (p := ⟨bf, of + 2, none⟩) HQ.out.1).trans HQ.out.2.1; have y3 := (hSw.cell (p := ⟨bg2, og2, none⟩) HQ.out.2.2.1).trans HQ.out.2.2.2; have z3 := (HR.out.below hSw).cell 3; have z4 := (hSw.cell (p := ⟨b4, o4 + 1, none⟩) hr1).trans hC4; (first | (go_simp; done) | (go_simp; with_reducible rfl)))
            focus assumption
            (try simp only [Act.put, List.setIfInBounds_toArray, List.set_cons_zero, List.set_cons_succ])
            refine' wpAnyH_take (i := 10) (v := _) ?_ ?_ ?_ ?_ ?_ ?_ ?_ ?_
            rotate_left 2
            focus (simp only [List.getElem?_toArray, List.getElem?_cons_succ, List.getElem?_cons_zero]; rfl)
            focus kernel_rfl
            focus kernel_rfl
            focus kernel_rfl
            focus exact (fun _ _ _ h => h)
            refine Or.inl ⟨?_, ?_⟩
            focus (go_simp; done)
            focus (intro w hSw; have x5 := (HX1.out.below hSw).cell 5; have y2 := (hSw.cell (p := ⟨bf, of + 2, none⟩) HQ.out.1).trans HQ.out.2.1; have y3 := (hSw.cell (p := ⟨bg2, og2, none⟩) HQ.out.2.2.1).trans HQ.out.2.2.2; have z3 := (HR.out.below hSw).cell 3; have z4 := (hSw.cell (p := ⟨b4, o4 + 1, none⟩) hr1).trans hC4; (first | (go_simp; done) | (go_simp; with_reducible rfl)))
            focus assumption
            (try simp only [Act.put, List.setIfInBounds_toArray, List.set_cons_zero, List.set_cons_succ])
            refine' wpAnyH_take (i := 11) (v := _) ?_ ?_ ?_ ?_ ?_ ?_ ?_ ?_
            rotate_left 2
            focus (simp only [List.getElem?_toArray, List.getElem?_cons_succ, List.getElem?_cons_zero]; rfl)
            focus kernel_rfl
            focus kernel_rfl
            focus kernel_rfl
            focus exact (fun _ _ _ h => h)
            refine Or.inl ⟨?_, ?_⟩
            focus (go_simp; done)
            focus (intro w hSw; have x5 := (HX1.out.below hSw).cell 5; have y2 := (hSw.cell (p := ⟨bf, of + 2, none⟩) HQ.out.1).trans HQ.out.2.1; have y3 := (hSw.cell (p := ⟨bg2, og2, none⟩) HQ.out.2.2.1).trans HQ.out.2.2.2; have z3 := (HR.out.below hSw).cell 3; have z4 := (hSw.cell (p := ⟨b4, o4 + 1, none⟩) hr1).trans hC4; (first | (go_simp; done) | (go_simp; with_reducible rfl)))
            focus assumption
            (try simp only [Act.put, List.setIfInBounds_toArray, List.set_cons_zero, List.set_cons_succ])
            refine' wpAnyH_take (i := 12) (v := _) ?_ ?_ ?_ ?_ ?_ ?_ ?_ ?_
            rotate_left 2
            focus (simp only [List.getElem?_toArray, List.getElem?_cons_succ, List.getElem?_cons_zero]; rfl)
            focus kernel_rfl
            focus kernel_rfl
            focus kernel_rfl
            focus exact (fun _ _ _ h => h)
            refine Or.inl ⟨?_, ?_⟩
            focus (go_simp; done)
            focus (intro w hSw; have x5 := (HX1.out.below hSw).cell 5; have y2 := (hSw.cell (p := ⟨bf, of + 2, none⟩) HQ.out.1).trans HQ.out.2.1; have y3 := (hSw.cell (p := ⟨bg2, og2, none⟩) HQ.out.2.2.1).trans HQ.out.2.2.2; have z3 := (HR.out.below hSw).cell 3; have z4 := (hSw.cell (p := ⟨b4, o4 + 1, none⟩) hr1).trans hC4; (first | (go_simp; done) | (go_simp; with_reducible rfl)))
            focus assumption
            (try simp only [Act.put, List.setIfInBounds_toArray, List.set_cons_zero, List.set_cons_succ])
            refine' wpAnyH_take (i := 13) (v := _) ?_ ?_ ?_ ?_ ?_ ?_ ?_ ?_
            rotate_left 2
            focus (simp only [List.getElem?_toArray, List.getElem?_cons_succ, List.getElem?_cons_zero]; rfl)
            focus kernel_rfl
            focus kernel_rfl
            focus kernel_rfl
            focus exact (fun _ _ _ h => h)
            refine Or.inl ⟨?_, ?_⟩
            focus (go_simp; done)
            focus (intro w hSw; have x5 := (HX1.out.below hSw).cell 5; have y2 := (hSw.cell (p := ⟨bf, of + 2, none⟩) HQ.out.1).trans HQ.out.2.1; have y3 := (hSw.cell (p := ⟨bg2, og2, none⟩) HQ.out.2.2.1).trans HQ.out.2.2.2; have z3 := (HR.out.below hSw).cell 3; have z4 := (hSw.cell (p := ⟨b4, o4 + 1, none⟩) hr1).trans hC4; (first | (go_simp; done) | (go_simp; with_reducible rfl)))
            focus assumption
            (try simp only [Act.put, List.setIfInBounds_toArray, List.set_cons_zero, List.set_cons_succ])
            refine' wpAnyH_take (i := 14) (v := _) ?_ ?_ ?_ ?_ ?_ ?_ ?_ ?_
            rotate_left 2
            focus (simp only [List.getElem?_toArray, List.getElem?_cons_succ, List.getElem?_cons_zero]; rfl)
            focus kernel_rfl
            focus kernel_rfl
            focus kernel_rfl
            focus exact (fun _ _ _ h => h)
            refine Or.inl ⟨?_, ?_⟩
            focus (go_simp; done)
            focus (intro w hSw; have x5 := (HX1.out.below hSw).cell 5; have y2 := (hSw.cell (p := ⟨bf, of + 2, none⟩) HQ.out.1).trans HQ.out.2.1; have y3 := (hSw.cell (p := ⟨bg2, og2, none⟩) HQ.out.2.2.1).trans HQ.out.2.2.2; have z3 := (HR.out.below hSw).cell 3; have z4 := (hSw.cell (p := ⟨b4, o4 + 1, none⟩) hr1).trans hC4; (first | (go_simp; done) | (go_simp; with_reducible rfl)))
            focus assumption
            (try simp only [Act.put, List.setIfInBounds_toArray, List.set_cons_zero, List.set_cons_succ])
            refine wpAnyH_ready (rs := [15]) (by kernel_rfl) (by simp) ?_
            refine' AllReadyH.cons ?_ (fun K hK => ?_) AllReadyH.nil
            rotate_left
            focus (simp only [List.getElem?_toArray, List.getElem?_cons_succ, List.getElem?_cons_zero]; rfl)
            go_simp
            (go_at_call 10; refine (awake_any _).mono ?_; rintro e u1 ⟨rfl, hb⟩)
            refine hK.out _ _ (blt hHeld hb) (fun hHeld => ?_)
            clear hK K
            (try simp only [Act.put, List.setIfInBounds_toArray, List.set_cons_zero, List.set_cons_succ])
            clear hb
            refine' wpAnyH_take (i := 16) (v := _) ?_ ?_ ?_ ?_ ?_ ?_ ?_ ?_
            rotate_left 2
            focus (simp only [List.getElem?_toArray, List.getElem?_cons_succ, List.getElem?_cons_zero]; rfl)
            focus kernel_rfl
            focus kernel_rfl
            focus kernel_rfl
            focus exact (fun _ _ _ h => h)
            refine Or.inl ⟨?_, ?_⟩
            focus (go_simp; done)
            focus (intro w hSw; have x5 := (HX1.out.below hSw).cell 5; have y2 := (hSw.cell (p := ⟨bf, of + 2, none⟩) HQ.out.1).trans HQ.out.2.1; have y3 := (hSw.cell (p := ⟨bg2, og2, none⟩) HQ.out.2.2.1).trans HQ.out.2.2.2; have z3 := (HR.out.below hSw).cell 3; have z4 := (hSw.cell (p := ⟨b4, o4 + 1, none⟩) hr1).trans hC4; (first | (go_simp; done) | (go_simp; with_reducible rfl)))
            focus assumption
            (try simp only [Act.put, List.setIfInBounds_toArray, List.set_cons_zero, List.set_cons_succ])
            refine' wpAnyH_take (i := 17) (v := _) ?_ ?_ ?_ ?_ ?_ ?_ ?_ ?_
            rotate_left 2
            focus (simp only [List.getElem?_toArray, List.getElem?_cons_succ, List.getElem?_cons_zero]; rfl)
            focus kernel_rfl
            focus kernel_rfl
            focus kernel_rfl
            focus exact (fun _ _ _ h => h)
            refine Or.inl ⟨?_, ?_⟩
            focus (go_simp; done)
            focus (intro w hSw; have x5 := (HX1.out.below hSw).cell 5; have y2 := (hSw.cell (p := ⟨bf, of + 2, none⟩) HQ.out.1).trans HQ.out.2.1; have y3 := (hSw.cell (p := ⟨bg2, og2, none⟩) HQ.out.2.2.1).trans HQ.out.2.2.2; have z3 := (HR.out.below hSw).cell 3; have z4 := (hSw.cell (p := ⟨b4, o4 + 1, none⟩) hr1).trans hC4; (first | (go_simp; done) | (go_simp; with_reducible rfl)))
            focus assumption
            (try simp only [Act.put, List.setIfInBounds_toArray, List.set_cons_zero, List.set_cons_succ])
            refine wpAnyH_done (by kernel_rfl) ?_ _
            have HE := Lib.hid (blt HB.out hHeld)
            clear hHeld
            go_wp2
            go_ret
            exact ⟨rfl, HE.out⟩
          · rw [if_neg (by decide)] at hC4
            refine wp_region_held_drew (S := (fun u : World => Below wr.heap.size wr u)) (by kernel_rfl) (below_drewN _ _ 1) (fun hHeld => ?_)
            refine' wpAnyH_take (i := 0) (v := _) ?_ ?_ ?_ ?_ ?_ ?_ ?_ ?_
            rotate_left 2
            focus (simp only [List.getElem?_toArray, List.getElem?_cons_succ, List.getElem?_cons_zero]; rfl)
            focus kernel_rfl
            focus kernel_rfl
            focus kernel_rfl
            focus exact (fun _ _ _ h => h)
            refine Or.inl ⟨?_, ?_⟩
            focus (go_simp; done)
            focus (intro w hSw; have x5 := (HX1.out.below hSw).cell 5; have y2 := (hSw.cell (p := ⟨bf, of + 2, none⟩) HQ.out.1).trans HQ.out.2.1; have y3 := (hSw.cell (p := ⟨bg2, og2, none⟩) HQ.out.2.2.1).trans HQ.out.2.2.2; have z3 := (HR.out.below hSw).cell 3; have z4 := (hSw.cell (p := ⟨b4, o4 + 1, none⟩) hr1).trans hC4; (first | (go_simp; done) | (go_simp; with_reducible rfl)))
            focus assumption
            (try simp only [Act.put, List.setIfInBounds_toArray, List.set_cons_zero, List.set_cons_succ])
            refine' wpAnyH_take (i := 1) (v := _) ?_ ?_ ?_ ?_ ?_ ?_ ?_ ?_
            rotate_left 2
            focus (simp only [List.getElem?_toArray, List.getElem?_cons_succ, List.getElem?_cons_zero]; rfl)
            focus kernel_rfl
            focus kernel_rfl
            focus kernel_rfl
            focus exact (fun _ _ _ h => h)
            refine Or.inl ⟨?_, ?_⟩
            focus (go_simp; done)
            focus (intro w hSw; have x5 := (HX1.out.below hSw).cell 5; have y2 := (hSw.cell (p := ⟨bf, of + 2, none⟩) HQ.out.1).trans HQ.out.2.1; have y3 := (hSw.cell (p := ⟨bg2, og2, none⟩) HQ.out.2.2.1).trans HQ.out.2.2.2; have z3 := (HR.out.below hSw).cell 3; have z4 := (hSw.cell (p := ⟨b4, o4 + 1, none⟩) hr1).trans hC4; (first | (go_simp; done) | (go_simp; with_reducible rfl)))
            focus assumption
            (try simp only [Act.put, List.setIfInBounds_toArray, List.set_cons_zero, List.set_cons_succ])
            refine' wpAnyH_take (i := 2) (v := _) ?_ ?_ ?_ ?_ ?_ ?_ ?_ ?_
            rotate_left 2
            focus (simp only [List.getElem?_toArray, List.getElem?_cons_succ, List.getElem?_cons_zero]; rfl)
            focus kernel_rfl
            focus kernel_rfl
            focus kernel_rfl
            focus exact (fun _ _ _ h => h)
            refine Or.inl ⟨?_, ?_⟩
            focus (go_simp; done)
            focus (intro w hSw; have x5 := (HX1.out.below hSw).cell 5; have y2 := (hSw.cell (p := ⟨bf, of + 2, none⟩) HQ.out.1).trans HQ.out.2.1; have y3 := (hSw.cell (p := ⟨bg2, og2, none⟩) HQ.out.2.2.1).trans HQ.out.2.2.2; have z3 := (HR.out.below hSw).cell 3; have z4 := (hSw.cell (p := ⟨b4, o4 + 1, none⟩) hr1).trans hC4; (first | (go_simp; done) | (go_simp; with_reducible rfl)))
            focus assumption
            (try simp only [Act.put, List.setIfInBounds_toArray, List.set_cons_zero, List.set_cons_succ])
            refine' wpAnyH_take (i := 3) (v := _) ?_ ?_ ?_ ?_ ?_ ?_ ?_ ?_
            rotate_left 2
            focus (simp only [List.getElem?_toArray, List.getElem?_cons_succ, List.getElem?_cons_zero]; rfl)
            focus kernel_rfl
            focus kernel_rfl
            focus kernel_rfl
            focus exact (fun _ _ _ h => h)
            refine Or.inl ⟨?_, ?_⟩
            focus (go_simp; done)
            focus (intro w hSw; have x5 := (HX1.out.below hSw).cell 5; have y2 := (hSw.cell (p := ⟨bf, of + 2, none⟩) HQ.out.1).trans HQ.out.2.1; have y3 := (hSw.cell (p := ⟨bg2, og2, none⟩) HQ.out.2.2.1).trans HQ.out.2.2.2; have z3 := (HR.out.below hSw).cell 3; have z4 := (hSw.cell (p := ⟨b4, o4 + 1, none⟩) hr1).trans hC4; (first | (go_simp; done) | (go_simp; with_reducible rfl)))
            focus assumption
            (try simp only [Act.put, List.setIfInBounds_toArray, List.set_cons_zero, List.set_cons_succ])
            refine' wpAnyH_take (i := 4) (v := _) ?_ ?_ ?_ ?_ ?_ ?_ ?_ ?_
            rotate_left 2
            focus (simp only [List.getElem?_toArray, List.getElem?_cons_succ, List.getElem?_cons_zero]; rfl)
            focus kernel_rfl
            focus kernel_rfl
            focus kernel_rfl
            focus exact (fun _ _ _ h => h)
            refine Or.inl ⟨?_, ?_⟩
            focus (go_simp; done)
            focus (intro w hSw; have x5 := (HX1.out.below hSw).cell 5; have y2 := (hSw.cell (p := ⟨bf, of + 2, none⟩) HQ.out.1).trans HQ.out.2.1; have y3 := (hSw.cell (p := ⟨bg2, og2, none⟩) HQ.out.2.2.1).trans HQ.out.2.2.2; have z3 := (HR.out.below hSw).cell 3; have z4 := (hSw.cell (p := ⟨b4, o4 + 1, none⟩) hr1).trans hC4; (first | (go_simp; done) | (go_simp; with_reducible rfl)))
            focus assumption
            (try simp only [Act.put, List.setIfInBounds_toArray, List.set_cons_zero, List.set_cons_succ])
            refine' wpAnyH_take (i := 5) (v := _) ?_ ?_ ?_ ?_ ?_ ?_ ?_ ?_
            rotate_left 2
            focus (simp only [List.getElem?_toArray, List.getElem?_cons_succ, List.getElem?_cons_zero]; rfl)
            focus kernel_rfl
            focus kernel_rfl
            focus kernel_rfl
            focus exact (fun _ _ _ h => h)
            refine Or.inl ⟨?_, ?_⟩
            focus (go_simp; done)
            focus (intro w hSw; have x5 := (HX1.out.below hSw).cell 5; have y2 := (hSw.cell (p := ⟨bf, of + 2, none⟩) HQ.out.1).trans HQ.out.2.1; have y3 := (hSw.cell (p := ⟨bg2, og2, none⟩) HQ.out.2.2.1).trans HQ.out.2.2.2; have z3 := (HR.out.below hSw).cell 3; have z4 := (hSw.cell (p := ⟨b4, o4 + 1, none⟩) hr1).trans hC4; (first | (go_simp; done) | (go_simp; with_reducible rfl)))
            focus assumption
            (try simp only [Act.put, List.setIfInBounds_toArray, List.set_cons_zero, List.set_cons_succ])
            refine' wpAnyH_take (i := 6) (v := _) ?_ ?_ ?_ ?_ ?_ ?_ ?_ ?_
            rotate_left 2
            focus (simp only [List.getElem?_toArray, List.getElem?_cons_succ, List.getElem?_cons_zero]; rfl)
            focus kernel_rfl
            focus kernel_rfl
            focus kernel_rfl
            focus exact (fun _ _ _ h => h)
            refine Or.inl ⟨?_, ?_⟩
            focus (go_simp; done)
            focus (intro w hSw; have x5 := (HX1.out.below hSw).cell 5; have y2 := (hSw.cell (p := ⟨bf, of + 2, none⟩) HQ.out.1).trans HQ.out.2.1; have y3 := (hSw.cell (p := ⟨bg2, og2, none⟩) HQ.out.2.2.1).trans HQ.out.2.2.2; have z3 := (HR.out.below hSw).cell 3; have z4 := (hSw.cell (p := ⟨b4, o4 + 1, none⟩) hr1).trans hC4; (first | (go_simp; done) | (go_simp; with_reducible rfl)))
            focus assumption
            (try simp only [Act.put, List.setIfInBounds_toArray, List.set_cons_zero, List.set_cons_succ])
            refine' wpAnyH_take (i := 7) (v := _) ?_ ?_ ?_ ?_ ?_ ?_ ?_ ?_
            rotate_left 2
            focus (simp only [List.getElem?_toArray, List.getElem?_cons_succ, List.getElem?_cons_zero]; rfl)
            focus kernel_rfl
            focus kernel_rfl
            focus kernel_rfl
            focus exact (fun _ _ _ h => h)
            refine Or.inl ⟨?_, ?_⟩
            focus (go_simp; done)
            focus (intro w hSw; have x5 := (HX1.out.below hSw).cell 5; have y2 := (hSw.cell (p := ⟨bf, of + 2, none⟩) HQ.out.1).trans HQ.out.2.1; have y3 := (hSw.cell (p := ⟨bg2, og2, none⟩) HQ.out.2.2.1).trans HQ.out.2.2.2; have z3 := (HR.out.below hSw).cell 3; have z4 := (hSw.cell (p := ⟨b4, o4 + 1, none⟩) hr1).trans hC4; (first | (go_simp; done) | (go_simp; with_reducible rfl)))
            focus assumption
            (try simp only [Act.put, List.setIfInBounds_toArray, List.set_cons_zero, List.set_cons_succ])
            refine' wpAnyH_take (i := 8) (v := _) ?_ ?_ ?_ ?_ ?_ ?_ ?_ ?_
            rotate_left 2
            focus (simp only [List.getElem?_toArray, List.getElem?_cons_succ, List.getElem?_cons_zero]; rfl)
            focus kernel_rfl
            focus kernel_rfl
            focus kernel_rfl
            focus exact (fun _ _ _ h => h)
            refine Or.inl ⟨?_, ?_⟩
            focus (go_simp; done)
            focus (intro w hSw; have x5 := (HX1.out.below hSw).cell 5; have y2 := (hSw.cell (p := ⟨bf, of + 2, none⟩) HQ.out.1).trans HQ.out.2.1; have y3 := (hSw.cell (p := ⟨bg2, og2, none⟩) HQ.out.2.2.1).trans HQ.out.2.2.2; have z3 := (HR.out.below hSw).cell 3; have z4 := (hSw.cell (p := ⟨b4, o4 + 1, none⟩) hr1).trans hC4; (first | (go_simp; done) | (go_simp; with_reducible rfl)))
            focus assumption
            (try simp only [Act.put, List.setIfInBounds_toArray, List.set_cons_zero, List.set_cons_succ])
            refine' wpAnyH_take (i := 9) (v := _) ?_ ?_ ?_ ?_ ?_ ?_ ?_ ?_
            rotate_left 2
            focus (simp only [List.getElem?_toArray, List.getElem?_cons_succ, List.getElem?_cons_zero]; rfl)
            focus kernel_rfl
            focus kernel_rfl
            focus kernel_rfl
            focus exact (fun _ _ _ h => h)
            refine Or.inl ⟨?_, ?_⟩
            focus (go_simp; done)
            focus (intro w hSw; have x5 := (HX1.out.below hSw).cell 5; have y2 := (hSw.cell (p := ⟨bf, of + 2, none⟩) HQ.out.1).trans HQ.out.2.1; have y3 := (hSw.cell (p := ⟨bg2, og2, none⟩) HQ.out.2.2.1).trans HQ.out.2.2.2; have z3 := (HR.out.below hSw).cell 3; have z4 := (hSw.cell (p := ⟨b4, o4 + 1, none⟩) hr1).trans hC4; (first | (go_simp; done) | (go_simp; with_reducible rfl)))
            focus assumption
            (try simp only [Act.put, List.setIfInBounds_toArray, List.set_cons_zero, List.set_cons_succ])
            refine' wpAnyH_take (i := 10) (v := _) ?_ ?_ ?_ ?_ ?_ ?_ ?_ ?_
            rotate_left 2
            focus (simp only [List.getElem?_toArray, List.getElem?_cons_succ, List.getElem?_cons_zero]; rfl)
            focus kernel_rfl
            focus kernel_rfl
            focus kernel_rfl
            focus exact (fun _ _ _ h => h)
            refine Or.inl ⟨?_, ?_⟩
            focus (go_simp; done)
            focus (intro w hSw; have x5 := (HX1.out.below hSw).cell 5; have y2 := (hSw.cell (p := ⟨bf, of + 2, none⟩) HQ.out.1).trans HQ.out.2.1; have y3 := (hSw.cell (p := ⟨bg2, og2, none⟩) HQ.out.2.2.1).trans HQ.out.2.2.2; have z3 := (HR.out.below hSw).cell 3; have z4 := (hSw.cell (p := ⟨b4, o4 + 1, none⟩) hr1).trans hC4; (first | (go_simp; done) | (go_simp; with_reducible rfl)))
            focus assumption
            (try simp only [Act.put, List.setIfInBounds_toArray, List.set_cons_zero, List.set_cons_succ])
            refine' wpAnyH_take (i := 11) (v := _) ?_ ?_ ?_ ?_ ?_ ?_ ?_ ?_
            rotate_left 2
            focus (simp only [List.getElem?_toArray, List.getElem?_cons_succ, List.getElem?_cons_zero]; rfl)
            focus kernel_rfl
            focus kernel_rfl
            focus kernel_rfl
            focus exact (fun _ _ _ h => h)
            refine Or.inl ⟨?_, ?_⟩
            focus (go_simp; done)
            focus (intro w hSw; have x5 := (HX1.out.below hSw).cell 5; have y2 := (hSw.cell (p := ⟨bf, of + 2, none⟩) HQ.out.1).trans HQ.out.2.1; have y3 := (hSw.cell (p := ⟨bg2, og2, none⟩) HQ.out.2.2.1).trans HQ.out.2.2.2; have z3 := (HR.out.below hSw).cell 3; have z4 := (hSw.cell (p := ⟨b4, o4 + 1, none⟩) hr1).trans hC4; (first | (go_simp; done) | (go_simp; with_reducible rfl)))
            focus assumption
            (try simp only [Act.put, List.setIfInBounds_toArray, List.set_cons_zero, List.set_cons_succ])
            refine' wpAnyH_take (i := 12) (v := _) ?_ ?_ ?_ ?_ ?_ ?_ ?_ ?_
            rotate_left 2
            focus (simp only [List.getElem?_toArray, List.getElem?_cons_succ, List.getElem?_cons_zero]; rfl)
            focus kernel_rfl
            focus kernel_rfl
            focus kernel_rfl
            focus exact (fun _ _ _ h => h)
            refine Or.inl ⟨?_, ?_⟩
            focus (go_simp; done)
            focus (intro w hSw; have x5 := (HX1.out.below hSw).cell 5; have y2 := (hSw.cell (p := ⟨bf, of + 2, none⟩) HQ.out.1).trans HQ.out.2.1; have y3 := (hSw.cell (p := ⟨bg2, og2, none⟩) HQ.out.2.2.1).trans HQ.out.2.2.2; have z3 := (HR.out.below hSw).cell 3; have z4 := (hSw.cell (p := ⟨b4, o4 + 1, none⟩) hr1).trans hC4; (first | (go_simp; done) | (go_simp; with_reducible rfl)))
            focus assumption
            (try simp only [Act.put, List.setIfInBounds_toArray, List.set_cons_zero, List.set_cons_succ])
            refine' wpAnyH_take (i := 13) (v := _) ?_ ?_ ?_ ?_ ?_ ?_ ?_ ?_
            rotate_left 2
            focus (simp only [List.getElem?_toArray, List.getElem?_cons_succ, List.getElem?_cons_zero]; rfl)
            focus kernel_rfl
            focus kernel_rfl
            focus kernel_rfl
            focus exact (fun _ _ _ h => h)
            refine Or.inl ⟨?_, ?_⟩
            focus (go_simp; done)
            focus (intro w hSw; have x5 := (HX1.out.below hSw).cell 5; have y2 := (hSw.cell (p := ⟨bf, of + 2, none⟩) HQ.out.1).trans HQ.out.2.1; have y3 := (hSw.cell (p := ⟨bg2, og2, none⟩) HQ.out.2.2.1).trans HQ.out.2.2.2; have z3 := (HR.out.below hSw).cell 3; have z4 := (hSw.cell (p := ⟨b4, o4 + 1, none⟩) hr1).trans hC4; (first | (go_simp; done) | (go_simp; with_reducible rfl)))
            focus assumption
            (try simp only [Act.put, List.setIfInBounds_toArray, List.set_cons_zero, List.set_cons_succ])
            refine' wpAnyH_take (i := 14) (v := _) ?_ ?_ ?_ ?_ ?_ ?_ ?_ ?_
            rotate_left 2
            focus (simp only [List.getElem?_toArray, List.getElem?_cons_succ, List.getElem?_cons_zero]; rfl)
            focus kernel_rfl
            focus kernel_rfl
            focus kernel_rfl
            focus exact (fun _ _ _ h => h)
            refine Or.inl ⟨?_, ?_⟩
            focus (go_simp; done)
            focus (intro w hSw; have x5 := (HX1.out.below hSw).cell 5; have y2 := (hSw.cell (p := ⟨bf, of + 2, none⟩) HQ.out.1).trans HQ.out.2.1; have y3 := (hSw.cell (p := ⟨bg2, og2, none⟩) HQ.out.2.2.1).trans HQ.out.2.2.2; have z3 := (HR.out.below hSw).cell 3; have z4 := (hSw.cell (p := ⟨b4, o4 + 1, none⟩) hr1).trans hC4; (first | (go_simp; done) | (go_simp; with_reducible rfl)))
            focus assumption
            (try simp only [Act.put, List.setIfInBounds_toArray, List.set_cons_zero, List.set_cons_succ])
            refine wpAnyH_ready (rs := [15]) (by kernel_rfl) (by simp) ?_
            refine' AllReadyH.cons ?_ (fun K hK => ?_) AllReadyH.nil
            rotate_left
            focus (simp only [List.getElem?_toArray, List.getElem?_cons_succ, List.getElem?_cons_zero]; rfl)
            go_simp
            (go_at_call 10; refine (awake_any _).mono ?_; rintro e u1 ⟨rfl, hb⟩)
            refine hK.out _ _ (blt hHeld hb) (fun hHeld => ?_)
            clear hK K
            (try simp only [Act.put, List.setIfInBounds_toArray, List.set_cons_zero, List.set_cons_succ])
            clear hb
            refine' wpAnyH_take (i := 16) (v := _) ?_ ?_ ?_ ?_ ?_ ?_ ?_ ?_
            rotate_left 2
            focus (simp only [List.getElem?_toArray, List.getElem?_cons_succ, List.getElem?_cons_zero]; rfl)
            focus kernel_rfl
            focus kernel_rfl
            focus kernel_rfl
            focus exact (fun _ _ _ h => h)
            refine Or.inl ⟨?_, ?_⟩
            focus (go_simp; done)
            focus (intro w hSw; have x5 := (HX1.out.below hSw).cell 5; have y2 := (hSw.cell (p := ⟨bf, of + 2, none⟩) HQ.out.1).trans HQ.out.2.1; have y3 := (hSw.cell (p := ⟨bg2, og2, none⟩) HQ.out.2.2.1).trans HQ.out.2.2.2; have z3 := (HR.out.below hSw).cell 3; have z4 := (hSw.cell (p := ⟨b4, o4 + 1, none⟩) hr1).trans hC4; (first | (go_simp; done) | (go_simp; with_reducible rfl)))
            focus assumption
            (try simp only [Act.put, List.setIfInBounds_toArray, List.set_cons_zero, List.set_cons_succ])
            refine' wpAnyH_take (i := 17) (v := _) ?_ ?_ ?_ ?_ ?_ ?_ ?_ ?_
            rotate_left 2
            focus (simp only [List.getElem?_toArray, List.getElem?_cons_succ, List.getElem?_cons_zero]; rfl)
            focus kernel_rfl
            focus kernel_rfl
            focus kernel_rfl
            focus exact (fun _ _ _ h => h)
            refine Or.inl ⟨?_, ?_⟩
            focus (go_simp; done)
            focus (intro w hSw; have x5 := (HX1.out.below hSw).cell 5; have y2 := (hSw.cell (p := ⟨bf, of + 2, none⟩) HQ.out.1).trans HQ.out.2.1; have y3 := (hSw.cell (p := ⟨bg2, og2, none⟩) HQ.out.2.2.1).trans HQ.out.2.2.2; have z3 := (HR.out.below hSw).cell 3; have z4 := (hSw.cell (p := ⟨b4, o4 + 1, none⟩) hr1).trans hC4; (first | (go_simp; done) | (go_simp; with_reducible rfl)))
            focus assumption
            (try simp only [Act.put, List.setIfInBounds_toArray, List.set_cons_zero, List.set_cons_succ])
            refine wpAnyH_done (by kernel_rfl) ?_ _
            have HE := Lib.hid (blt HB.out hHeld)
            clear hHeld
            go_wp2
            go_ret
            exact ⟨rfl, HE.out⟩
end Go.Proofs.Ytojnhdkclabkgaa
