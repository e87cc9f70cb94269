/- The code of layer 14: fold. No condition. -/
import Derived.Test.YtojnhdkclabkgaaFoRow
import Derived.Test.YtojnhdkclabkgaaStLast
namespace Go.Proofs.Ytojnhdkclabkgaa
open Go.RowKit Go.Maps
set_option linter.unusedVariables false
set_option linter.unusedSimpArgs false
attribute [local go_sem] y_undef
theorem Bg.wf {b : Gr.Blk} (h : Bg b) {k : Nat} (hk : k < b.ops.length) :
    let o := b.ops.getD k Gr.op0
    let d := Fo.direct (Fo.runs b.ops k) o
    (Wf o.a ∧ Wf o.b) ∧ (1 ≤ o.kind ∧ o.kind ≤ 7) ∧ (Wf d.a ∧ Wf d.b) ∧ (1 ≤ (Fo.opAt b.ops k).kind ∧ (Fo.opAt b.ops k).kind ≤ 7) ∧ (Wf (Fo.opAt b.ops k).dst ∧ Wf (Fo.opAt b.ops k).a ∧ Wf (Fo.opAt b.ops k).imm) := by
  intro o d
  obtain ⟨V, h0, hV, hg⟩ := h.good
  have h1 := hg k hk
  have hok := Fo.runs_ok h0 hg k (by omega)
  have h2 := h1.direct hok
  have h3 := Fo.opAt_good h0 hg hk
  exact ⟨⟨(h1.wf hV).2.1, (h1.wf hV).2.2.1⟩, h1.kind, ⟨(h2.wf hV).2.1, (h2.wf hV).2.2.1⟩, h3.kind, (h3.wf hV).1, (h3.wf hV).2.1, (h3.wf hV).2.2.2⟩
theorem Bg.usewf {b : Gr.Blk} (h : Bg b) (n : Nat) (hn : b.ops.length = n) : Wf (Fo.use (Fo.runs b.ops n) b.cond) := by
  obtain ⟨V, h0, hV, hg⟩ := h.good
  have hok := Fo.runs_ok h0 hg n (by omega)
  have hc := h.cond
  unfold Fo.use
  cases hx : (Fo.runs b.ops n).cp b.cond with
  | none => simp only [Option.getD_none]; unfold Wf; omega
  | some u => have := hok.cp _ _ hx; simp only [Option.getD_some]; unfold Wf; omega
/-- An operation row does not lie in the result's box. -/
theorem OpsIn.far1 {w u : World} {C n : Nat} {l : List Gr.Op} (h : OpsIn u (.slice (some ⟨w.heap.size + 1 + 1 + 1 + 1 + 1, 0, none⟩) n C) l) (i : Nat) (x : Value) : OpsIn (u.setCell ⟨w.heap.size + 1, i, none⟩ x) (.slice (some ⟨w.heap.size + 1 + 1 + 1 + 1 + 1, 0, none⟩) n C) l := by
  obtain ⟨A, c, e, _⟩ := id h
  injection e with e1 e2 e3
  subst e2
  exact rowin_far h (fun g o f e => by
    injection e with e
    injection e with e1 e2 e3
    show g ≠ w.heap.size + 1
    omega) x
/-- What fold answers. -/
def FoldPost (b : Gr.Blk) (w : World) (e : Ending) (w' : World) : Prop :=
  ∃ (A A' : Option Addr) (C C' : Nat), e = .returned (.agg #[.slice A (Fo.blk b).ops.length C, .int .i64 (Fo.blk b).cond, .slice A' (Fo.blk b).next.length C']) ∧ OpsIn w' (.slice A (Fo.blk b).ops.length C) (Fo.blk b).ops ∧ NumsIn w' (.slice A' (Fo.blk b).next.length C') (Fo.blk b).next ∧
    (∀ g o f, A = some ⟨g, o, f⟩ → w.heap.size ≤ g) ∧ (∀ g o f, A' = some ⟨g, o, f⟩ → w.heap.size ≤ g) ∧ Below w.heap.size w w'
set_option maxHeartbeats 8000000 in
theorem fold_any (b : Gr.Blk) (a1 a2 : Option Addr) (c1 c2 : Nat) (w : World) (hg : Bg b) (ho : OpsIn w (.slice a1 b.ops.length c1) b.ops) (hx : NumsIn w (.slice a2 b.next.length c2) b.next) :
    Calls Try.prog 23 #[.agg #[.slice a1 b.ops.length c1, .int .i64 b.cond, .slice a2 b.next.length c2]] w (FoldPost b w) := by
  obtain ⟨A, c, e, hO⟩ := ho.opened
  injection e with e1 e2 e3
  subst e1 e3
  have HO := Lib.hid hO
  have HX := Lib.hid hx
  have HG := Lib.hid hg
  obtain ⟨n, hn⟩ : ∃ n, b.ops.length = n := ⟨_, rfl⟩
  rw [hn] at HO ⊢
  have HN := Lib.hid hn
  have hn1 : n ≤ 1000 := by have := hg.len; omega
  have hmm := @run_makeMap Try.prog
  have hmk := make_ops n hn1
  clear ho hx hO e2 hg hn
  go_enter Try.func23, Try.ntmps23
  go_wp2
  go_loopw [17, 5, 6] (fun i _ _ wr => ∃ k : Nat, k ≤ n ∧ i = .int .i64 k ∧ Hid (Fs w #[.slice a1 n c1, .int .i64 b.cond, .slice a2 b.next.length c2] b.ops n k k wr)) (fun i _ _ _ => n - (intOf i).toNat)
  case atStart => exact ⟨0, Nat.zero_le _, rfl, Lib.hid (fs_new _ _ _ _)⟩
  case round =>
    obtain ⟨k, hk, rfl, HF⟩ := hrel
    by_cases hlt : k < n
    · have hlt' : (k : Int) < n := by omega
      have hlt0 : (0 : Int) ≤ (k : Int) := by omega
      obtain ⟨bo, off, rfl, hbo, x0, x1, x2, x3, x4⟩ := HO.out k hlt
      replace x0 := (HF.out.low.cell (p := ⟨bo, off + k * 5, none⟩) hbo).trans x0
      replace x1 := (HF.out.low.cell (p := ⟨bo, off + k * 5 + 1, none⟩) hbo).trans x1
      replace x2 := (HF.out.low.cell (p := ⟨bo, off + k * 5 + 2, none⟩) hbo).trans x2
      replace x3 := (HF.out.low.cell (p := ⟨bo, off + k * 5 + 3, none⟩) hbo).trans x3
      replace x4 := (HF.out.low.cell (p := ⟨bo, off + k * 5 + 4, none⟩) hbo).trans x4
      have hbw : bo < wr.heap.size := Nat.lt_of_lt_of_le hbo HF.out.low.size
      obtain ⟨⟨ga, gb⟩, gk, ⟨gda, gdb⟩, gok, god, goa, goi⟩ := HG.out.wf (k := k) (by rw [HN.out]; exact hlt)
      obtain ⟨o, hoo⟩ : ∃ o, b.ops.getD k Gr.op0 = o := ⟨_, rfl⟩
      have HOo := Lib.hid hoo
      rw [hoo] at x0 x1 x2 x3 x4 ga gb gk gda gdb
      obtain ⟨o1, ho1⟩ : ∃ o1, Fo.direct (Fo.runs b.ops k) o = o1 := ⟨_, rfl⟩
      obtain ⟨o2, ho2⟩ : ∃ o2, Fo.opAt b.ops k = o2 := ⟨_, rfl⟩
      have HO2 := Lib.hid ho2
      rw [ho1] at gda gdb
      rw [ho2] at gok god goa goi
      have e12 : Fo.const (Fo.runs b.ops k) o1 = o2 := by rw [← ho1, ← ho2, ← hoo]; rfl
      have HD := Lib.hid fun (u : World) (h : Kn u (w.heap.size + 1 + 1) (w.heap.size + 1 + 1 + 1) k (Fo.runs b.ops k)) => direct_any (Fo.runs b.ops k) _ _ k o.kind o.dst o.a o.b o.imm u gk h ga gb
      have HC := Lib.hid fun (u : World) (h : Kn u (w.heap.size + 1 + 1) (w.heap.size + 1 + 1 + 1) k (Fo.runs b.ops k)) => constant_any (Fo.runs b.ops k) _ _ k o1.kind o1.dst o1.a o1.b o1.imm u h gda gdb
      have HL := Lib.hid fun (u : World) (h : Kn u (w.heap.size + 1 + 1) (w.heap.size + 1 + 1 + 1) k (Fo.runs b.ops k)) => learn_any (Fo.runs b.ops k) _ _ k o2.kind o2.dst o2.a o2.b o2.imm u gok h god goa goi (by omega) (by omega)
      rw [show (⟨o.kind, o.dst, o.a, o.b, o.imm⟩ : Gr.Op) = o from rfl, ho1] at HD
      rw [show (⟨o1.kind, o1.dst, o1.a, o1.b, o1.imm⟩ : Gr.Op) = o1 from rfl, e12] at HC
      rw [show (⟨o2.kind, o2.dst, o2.a, o2.b, o2.imm⟩ : Gr.Op) = o2 from rfl, show Fo.learn (Fo.runs b.ops k) o2 = Fo.runs b.ops (k + 1) by rw [← ho2]; rfl] at HL
      unfold opV at HD HC
      clear hoo ho1 ho2 e12 ga gb gk gda gdb gok god goa goi
      have HF1 := Lib.hid (show Fs w #[.slice (some ⟨bo, off, none⟩) n c1, .int .i64 b.cond, .slice a2 b.next.length c2] b.ops n k k (wr.alloc (.cells #[.int .i64 o.kind, .int .i64 o.dst, .int .i64 o.a, .int .i64 o.b, .int .i64 o.imm] 27)) ∧ Bk (wr.alloc (.cells #[.int .i64 o.kind, .int .i64 o.dst, .int .i64 o.a, .int .i64 o.b, .int .i64 o.imm] 27)) wr.heap.size 27 #[.int .i64 o.kind, .int .i64 o.dst, .int .i64 o.a, .int .i64 o.b, .int .i64 o.imm] from ⟨HF.out.below (bla (Below.refl _ _) _), Bk.new _ _ _⟩)
      obtain ⟨g, hgg⟩ : ∃ g, wr.heap.size = g := ⟨_, rfl⟩
      go_upto_region 6 with fail
      clear x0 x1 x2 x3 x4
      rw [hgg] at HF1
      clear hgg
      refine wp_region_last (S := (fun u : World => Fs w #[.slice (some ⟨bo, off, none⟩) n c1, .int .i64 b.cond, .slice a2 b.next.length c2] b.ops n k k u ∧ Bk u g 27 #[.int .i64 o.kind, .int .i64 o.dst, .int .i64 o.a, .int .i64 o.b, .int .i64 o.imm])) 8 (by kernel_rfl) ?_ (fun hHeld => ?_)
      · exact ⟨HF1.out.1.below (below_drewN _ _ 1), HF1.out.2.below (below_drewN _ _ 1)⟩
      refine' wpAnyL_take (i := 0) (v := _) ?_ ?_ ?_ ?_ ?_ ?_ ?_ ?_ ?_
      rotate_left 2
      focus (simp only [List.getElem?_toArray, List.getElem?_cons_succ, List.getElem?_cons_zero]; rfl)
      focus kernel_rfl
      focus kernel_rfl
      focus kernel_rfl
      focus kernel_rfl
      focus exact (fun _ _ _ h => h)
      refine Or.inl ⟨?_, ?_⟩
      focus (go_simp; done)
      focus (intro w hSw; obtain ⟨hF, hOb⟩ := hSw; have m0 := hF.kb.cell 0; have m1 := hF.kb.cell 1; have c0 := hOb.cell 0; have c1 := hOb.cell 1; have c2 := hOb.cell 2; have c3 := hOb.cell 3; have c4 := hOb.cell 4; (first | (go_simp; done) | (go_simp; with_reducible rfl)))
      focus assumption
      (try simp only [Act.put, List.setIfInBounds_toArray, List.set_cons_zero, List.set_cons_succ])
      refine' wpAnyL_take (i := 1) (v := _) ?_ ?_ ?_ ?_ ?_ ?_ ?_ ?_ ?_
      rotate_left 2
      focus (simp only [List.getElem?_toArray, List.getElem?_cons_succ, List.getElem?_cons_zero]; rfl)
      focus kernel_rfl
      focus kernel_rfl
      focus kernel_rfl
      focus kernel_rfl
      focus exact (fun _ _ _ h => h)
      refine Or.inl ⟨?_, ?_⟩
      focus (go_simp; done)
      focus (intro w hSw; obtain ⟨hF, hOb⟩ := hSw; have m0 := hF.kb.cell 0; have m1 := hF.kb.cell 1; have c0 := hOb.cell 0; have c1 := hOb.cell 1; have c2 := hOb.cell 2; have c3 := hOb.cell 3; have c4 := hOb.cell 4; (first | (go_simp; done) | (go_simp; with_reducible rfl)))
      focus assumption
      (try simp only [Act.put, List.setIfInBounds_toArray, List.set_cons_zero, List.set_cons_succ])
      refine' wpAnyL_take (i := 2) (v := _) ?_ ?_ ?_ ?_ ?_ ?_ ?_ ?_ ?_
      rotate_left 2
      focus (simp only [List.getElem?_toArray, List.getElem?_cons_succ, List.getElem?_cons_zero]; rfl)
      focus kernel_rfl
      focus kernel_rfl
      focus kernel_rfl
      focus kernel_rfl
      focus exact (fun _ _ _ h => h)
      refine Or.inl ⟨?_, ?_⟩
      focus (go_simp; done)
      focus (intro w hSw; obtain ⟨hF, hOb⟩ := hSw; have m0 := hF.kb.cell 0; have m1 := hF.kb.cell 1; have c0 := hOb.cell 0; have c1 := hOb.cell 1; have c2 := hOb.cell 2; have c3 := hOb.cell 3; have c4 := hOb.cell 4; (first | (go_simp; done) | (go_simp; with_reducible rfl)))
      focus assumption
      (try simp only [Act.put, List.setIfInBounds_toArray, List.set_cons_zero, List.set_cons_succ])
      refine' wpAnyL_take (i := 3) (v := _) ?_ ?_ ?_ ?_ ?_ ?_ ?_ ?_ ?_
      rotate_left 2
      focus (simp only [List.getElem?_toArray, List.getElem?_cons_succ, List.getElem?_cons_zero]; rfl)
      focus kernel_rfl
      focus kernel_rfl
      focus kernel_rfl
      focus kernel_rfl
      focus exact (fun _ _ _ h => h)
      refine Or.inl ⟨?_, ?_⟩
      focus (go_simp; done)
      focus (intro w hSw; obtain ⟨hF, hOb⟩ := hSw; have m0 := hF.kb.cell 0; have m1 := hF.kb.cell 1; have c0 := hOb.cell 0; have c1 := hOb.cell 1; have c2 := hOb.cell 2; have c3 := hOb.cell 3; have c4 := hOb.cell 4; (first | (go_simp; done) | (go_simp; with_reducible rfl)))
      focus assumption
      (try simp only [Act.put, List.setIfInBounds_toArray, List.set_cons_zero, List.set_cons_succ])
      refine' wpAnyL_take (i := 4) (v := _) ?_ ?_ ?_ ?_ ?_ ?_ ?_ ?_ ?_
      rotate_left 2
      focus (simp only [List.getElem?_toArray, List.getElem?_cons_succ, List.getElem?_cons_zero]; rfl)
      focus kernel_rfl
      focus kernel_rfl
      focus kernel_rfl
      focus kernel_rfl
      focus exact (fun _ _ _ h => h)
      refine Or.inl ⟨?_, ?_⟩
      focus (go_simp; done)
      focus (intro w hSw; obtain ⟨hF, hOb⟩ := hSw; have m0 := hF.kb.cell 0; have m1 := hF.kb.cell 1; have c0 := hOb.cell 0; have c1 := hOb.cell 1; have c2 := hOb.cell 2; have c3 := hOb.cell 3; have c4 := hOb.cell 4; (first | (go_simp; done) | (go_simp; with_reducible rfl)))
      focus assumption
      (try simp only [Act.put, List.setIfInBounds_toArray, List.set_cons_zero, List.set_cons_succ])
      refine' wpAnyL_one (i := 5) ?_ ?_ ?_ (fun K hK => ?_)
      rotate_left
      focus kernel_rfl
      focus kernel_rfl
      focus (simp only [List.getElem?_toArray, List.getElem?_cons_succ, List.getElem?_cons_zero]; rfl)
      go_simp
      (go_at_call 43; refine (HD.out _ hHeld.1.kn).mono ?_; rintro e u1 ⟨rfl, hb⟩)
      refine hK.out _ _ (⟨hHeld.1.below hb, hHeld.2.below hb⟩) (fun hHeld => ?_)
      clear hK K
      (try simp only [Act.put, List.setIfInBounds_toArray, List.set_cons_zero, List.set_cons_succ])
      clear hb
      refine' wpAnyL_one (i := 6) ?_ ?_ ?_ (fun K hK => ?_)
      rotate_left
      focus kernel_rfl
      focus kernel_rfl
      focus (simp only [List.getElem?_toArray, List.getElem?_cons_succ, List.getElem?_cons_zero]; rfl)
      go_simp
      (go_at_call 42; refine (HC.out _ hHeld.1.kn).mono ?_; rintro e u1 ⟨rfl, hb⟩)
      refine hK.out _ _ (⟨hHeld.1.below hb, hHeld.2.below hb⟩) (fun hHeld => ?_)
      clear hK K
      (try simp only [Act.put, List.setIfInBounds_toArray, List.set_cons_zero, List.set_cons_succ])
      clear hb
      refine' wpAnyL_take (i := 7) (v := _) ?_ ?_ ?_ ?_ ?_ ?_ ?_ ?_ ?_
      rotate_left 2
      focus (simp only [List.getElem?_toArray, List.getElem?_cons_succ, List.getElem?_cons_zero]; rfl)
      focus kernel_rfl
      focus kernel_rfl
      focus kernel_rfl
      focus kernel_rfl
      focus exact (fun _ _ _ h => h)
      refine Or.inl ⟨?_, ?_⟩
      focus (go_simp; done)
      focus (intro w hSw; obtain ⟨hF, hOb⟩ := hSw; have m0 := hF.kb.cell 0; have m1 := hF.kb.cell 1; have c0 := hOb.cell 0; have c1 := hOb.cell 1; have c2 := hOb.cell 2; have c3 := hOb.cell 3; have c4 := hOb.cell 4; (first | (go_simp; done) | (go_simp; with_reducible rfl)))
      focus assumption
      (try simp only [Act.put, List.setIfInBounds_toArray, List.set_cons_zero, List.set_cons_succ])
      refine' wpAnyL_last ?_ ?_ (fun K hK => ?_)
      rotate_left
      focus kernel_rfl
      focus (simp only [List.getElem?_toArray, List.getElem?_cons_succ, List.getElem?_cons_zero]; rfl)
      have hR := hHeld.1.row
      have hq := opRow_cell n (fun i => if i < k then Fo.opAt b.ops i else Gr.op0) hlt
      have r0 := (hR.cell (k * 5)).trans hq.1
      have r1 := (hR.cell (k * 5 + 1)).trans hq.2.1
      have r2 := (hR.cell (k * 5 + 2)).trans hq.2.2.1
      have r3 := (hR.cell (k * 5 + 3)).trans hq.2.2.2.1
      have r4 := (hR.cell (k * 5 + 4)).trans hq.2.2.2.2
      clear hq
      have f0 := hR.frozen (k * 5)
      have f1 := hR.frozen (k * 5 + 1)
      have f2 := hR.frozen (k * 5 + 2)
      have f3 := hR.frozen (k * 5 + 3)
      have f4 := hR.frozen (k * 5 + 4)
      have hlo := hR.lt
      go_simp
      refine hK.out _ _ ?_
      clear hK K
      (try simp only [Act.put, List.setIfInBounds_toArray, List.set_cons_zero, List.set_cons_succ])
      refine wpAny_done (by kernel_rfl) ?_ _
      have HF2 := Lib.hid (hHeld.1.set hlt o2 HO2.out)
      clear hHeld hR r0 r1 r2 r3 r4 f0 f1 f2 f3 f4 hlo
      go_upto_region 7 with fail
      have HF2d := Lib.hid (HF2.out.below (below_drewN _ _ 1))
      clear HF HF1 HD HC
      refine wp_region_held_drew (S := (fun u : World => Bk u (w.heap.size + 1 + 1 + 1 + 1) 77 #[.map (some (w.heap.size + 1 + 1)), .map (some (w.heap.size + 1 + 1 + 1))] ∧ Bk u (w.heap.size + 1 + 1 + 1 + 1 + 1) 27 (opRow n fun i => if i < k + 1 then Fo.opAt b.ops i else Gr.op0))) (by kernel_rfl) (⟨HF2d.out.kb, HF2d.out.row⟩) (fun hHeld => ?_)
      refine' wpAnyH_take (i := 0) (v := _) ?_ ?_ ?_ ?_ ?_ ?_ ?_ ?_
      rotate_left 2
      focus (simp only [List.getElem?_toArray, List.getElem?_cons_succ, List.getElem?_cons_zero]; rfl)
      focus kernel_rfl
      focus kernel_rfl
      focus kernel_rfl
      focus exact (fun _ _ _ h => h)
      refine Or.inl ⟨?_, ?_⟩
      focus (go_simp; done)
      focus (intro w hSw; have m0 := hSw.1.cell 0; have m1 := hSw.1.cell 1; have hq := opRow_cell n (fun i => if i < k + 1 then Fo.opAt b.ops i else Gr.op0) hlt; simp only [if_pos (Nat.lt_succ_self k), HO2.out] at hq; have c0 := (hSw.2.cell (k * 5)).trans hq.1; have c1 := (hSw.2.cell (k * 5 + 1)).trans hq.2.1; have c2 := (hSw.2.cell (k * 5 + 2)).trans hq.2.2.1; have c3 := (hSw.2.cell (k * 5 + 3)).trans hq.2.2.2.1; have c4 := (hSw.2.cell (k * 5 + 4)).trans hq.2.2.2.2; (first | (go_simp; done) | (go_simp; with_reducible rfl)))
      focus assumption
      (try simp only [Act.put, List.setIfInBounds_toArray, List.set_cons_zero, List.set_cons_succ])
      refine' wpAnyH_take (i := 1) (v := _) ?_ ?_ ?_ ?_ ?_ ?_ ?_ ?_
      rotate_left 2
      focus (simp only [List.getElem?_toArray, List.getElem?_cons_succ, List.getElem?_cons_zero]; rfl)
      focus kernel_rfl
      focus kernel_rfl
      focus kernel_rfl
      focus exact (fun _ _ _ h => h)
      refine Or.inl ⟨?_, ?_⟩
      focus (go_simp; done)
      focus (intro w hSw; have m0 := hSw.1.cell 0; have m1 := hSw.1.cell 1; have hq := opRow_cell n (fun i => if i < k + 1 then Fo.opAt b.ops i else Gr.op0) hlt; simp only [if_pos (Nat.lt_succ_self k), HO2.out] at hq; have c0 := (hSw.2.cell (k * 5)).trans hq.1; have c1 := (hSw.2.cell (k * 5 + 1)).trans hq.2.1; have c2 := (hSw.2.cell (k * 5 + 2)).trans hq.2.2.1; have c3 := (hSw.2.cell (k * 5 + 3)).trans hq.2.2.2.1; have c4 := (hSw.2.cell (k * 5 + 4)).trans hq.2.2.2.2; (first | (go_simp; done) | (go_simp; with_reducible rfl)))
      focus assumption
      (try simp only [Act.put, List.setIfInBounds_toArray, List.set_cons_zero, List.set_cons_succ])
      refine' wpAnyH_take (i := 2) (v := _) ?_ ?_ ?_ ?_ ?_ ?_ ?_ ?_
      rotate_left 2
      focus (simp only [List.getElem?_toArray, List.getElem?_cons_succ, List.getElem?_cons_zero]; rfl)
      focus kernel_rfl
      focus kernel_rfl
      focus kernel_rfl
      focus exact (fun _ _ _ h => h)
      refine Or.inl ⟨?_, ?_⟩
      focus (go_simp; done)
      focus (intro w hSw; have m0 := hSw.1.cell 0; have m1 := hSw.1.cell 1; have hq := opRow_cell n (fun i => if i < k + 1 then Fo.opAt b.ops i else Gr.op0) hlt; simp only [if_pos (Nat.lt_succ_self k), HO2.out] at hq; have c0 := (hSw.2.cell (k * 5)).trans hq.1; have c1 := (hSw.2.cell (k * 5 + 1)).trans hq.2.1; have c2 := (hSw.2.cell (k * 5 + 2)).trans hq.2.2.1; have c3 := (hSw.2.cell (k * 5 + 3)).trans hq.2.2.2.1; have c4 := (hSw.2.cell (k * 5 + 4)).trans hq.2.2.2.2; (first | (go_simp; done) | (go_simp; with_reducible rfl)))
      focus assumption
      (try simp only [Act.put, List.setIfInBounds_toArray, List.set_cons_zero, List.set_cons_succ])
      refine' wpAnyH_take (i := 3) (v := _) ?_ ?_ ?_ ?_ ?_ ?_ ?_ ?_
      rotate_left 2
      focus (simp only [List.getElem?_toArray, List.getElem?_cons_succ, List.getElem?_cons_zero]; rfl)
      focus kernel_rfl
      focus kernel_rfl
      focus kernel_rfl
      focus exact (fun _ _ _ h => h)
      refine Or.inl ⟨?_, ?_⟩
      focus (go_simp; done)
      focus (intro w hSw; have m0 := hSw.1.cell 0; have m1 := hSw.1.cell 1; have hq := opRow_cell n (fun i => if i < k + 1 then Fo.opAt b.ops i else Gr.op0) hlt; simp only [if_pos (Nat.lt_succ_self k), HO2.out] at hq; have c0 := (hSw.2.cell (k * 5)).trans hq.1; have c1 := (hSw.2.cell (k * 5 + 1)).trans hq.2.1; have c2 := (hSw.2.cell (k * 5 + 2)).trans hq.2.2.1; have c3 := (hSw.2.cell (k * 5 + 3)).trans hq.2.2.2.1; have c4 := (hSw.2.cell (k * 5 + 4)).trans hq.2.2.2.2; (first | (go_simp; done) | (go_simp; with_reducible rfl)))
      focus assumption
      (try simp only [Act.put, List.setIfInBounds_toArray, List.set_cons_zero, List.set_cons_succ])
      refine' wpAnyH_take (i := 4) (v := _) ?_ ?_ ?_ ?_ ?_ ?_ ?_ ?_
      rotate_left 2
      focus (simp only [List.getElem?_toArray, List.getElem?_cons_succ, List.getElem?_cons_zero]; rfl)
      focus kernel_rfl
      focus kernel_rfl
      focus kernel_rfl
      focus exact (fun _ _ _ h => h)
      refine Or.inl ⟨?_, ?_⟩
      focus (go_simp; done)
      focus (intro w hSw; have m0 := hSw.1.cell 0; have m1 := hSw.1.cell 1; have hq := opRow_cell n (fun i => if i < k + 1 then Fo.opAt b.ops i else Gr.op0) hlt; simp only [if_pos (Nat.lt_succ_self k), HO2.out] at hq; have c0 := (hSw.2.cell (k * 5)).trans hq.1; have c1 := (hSw.2.cell (k * 5 + 1)).trans hq.2.1; have c2 := (hSw.2.cell (k * 5 + 2)).trans hq.2.2.1; have c3 := (hSw.2.cell (k * 5 + 3)).trans hq.2.2.2.1; have c4 := (hSw.2.cell (k * 5 + 4)).trans hq.2.2.2.2; (first | (go_simp; done) | (go_simp; with_reducible rfl)))
      focus assumption
      (try simp only [Act.put, List.setIfInBounds_toArray, List.set_cons_zero, List.set_cons_succ])
      refine wpAnyH_ready (rs := [5]) (by kernel_rfl) (by simp) ?_
      refine' AllReadyH.cons ?_ (fun K hK => ?_) AllReadyH.nil
      rotate_left
      focus (simp only [List.getElem?_toArray, List.getElem?_cons_succ, List.getElem?_cons_zero]; rfl)
      go_simp
      (go_at_call 44; refine (HL.out _ HF2d.out.kn).mono ?_; rintro e u1 ⟨rfl, hkn, hb⟩)
      have HF3 := Lib.hid (HF2d.out.learn hb hkn)
      refine hK.out _ _ (⟨hb.bk hHeld.1 (by omega) (by omega), hb.bk hHeld.2 (by omega) (by omega)⟩) (fun hHeld => ?_)
      clear hK K
      (try simp only [Act.put, List.setIfInBounds_toArray, List.set_cons_zero, List.set_cons_succ])
      clear hb
      refine wpAnyH_done (by kernel_rfl) ?_ _
      clear hHeld hkn HF2 HF2d HL
      go_wp2
      go_roundw
      case rel => exact ⟨k + 1, by omega, by first | rfl | go_num, HF3⟩
      case measure => simp [intOf]; omega
    · have hlt' : ¬ (k : Int) < n := by omega
      obtain rfl : n = k := by omega
      have g0 := HF.out.ob.cell 0
      have g1 := HF.out.ob.cell 1
      have g2 := HF.out.ob.cell 2
      have y0 := HF.out.ob.frozen 0
      have y1 := HF.out.ob.frozen 1
      have y2 := HF.out.ob.frozen 2
      go_wp2_with fail
      refine (clone_nums b.next.length (b.next.map (.int .i64)) (.slice a2 b.next.length c2) wr (HX.out.below HF.out.low) (fun u hu => by obtain ⟨z, _, rfl⟩ := List.mem_map.1 hu; rfl) (by have := HG.out.nx; omega)).mono ?_
      rintro e w1 ⟨v', rfl, hown, hb⟩
      obtain ⟨hin, A', C', rfl, hcap, hcm, hA⟩ := own_in hown
      have HF1 := Lib.hid ((HF.out.below hb).box 0 (.slice (some ⟨w.heap.size + 1 + 1 + 1 + 1 + 1, 0, none⟩) n n) _ rfl)
      have HF2 := Lib.hid (HF1.out.box 2 (.slice A' b.next.length C') _ rfl)
      have HIn := Lib.hid (show NumsIn _ (.slice A' b.next.length C') b.next from hin)
      have HFr := Lib.hid (show ∀ g o f, A' = some ⟨g, o, f⟩ → wr.heap.size ≤ g by
        intro g o f e
        subst e
        exact (hown.lt g (by simp [Value.ownBlock])).1)
      have HA := Lib.hid hA
      have hsz : w.heap.size + 1 + 1 + 1 + 1 + 1 < wr.heap.size := HF.out.row.lt
      have HHX := Lib.hid (show ∀ (p : Addr) (x : Value) (u : World), p.block < wr.heap.size → NumsIn u (.slice A' b.next.length C') b.next → NumsIn (u.setCell p x) (.slice A' b.next.length C') b.next from
        fun p x u hp hu => rowin_far hu (fun g o f e => by have := HFr.out g o f e; omega) x)
      have HI2 := Lib.hid (HHX.out ⟨w.heap.size, 2, none⟩ (.slice A' b.next.length C') _ (by show w.heap.size < _; omega) (HHX.out ⟨w.heap.size, 0, none⟩ (.slice (some ⟨w.heap.size + 1 + 1 + 1 + 1 + 1, 0, none⟩) n n) _ (by show w.heap.size < _; omega) HIn.out))
      replace g0 := (HF.out.below hb).ob.cell 0
      replace g1 := (HF.out.below hb).ob.cell 1
      replace g2 := (HF.out.below hb).ob.cell 2
      replace y0 := (HF.out.below hb).ob.frozen 0
      replace y1 := (HF.out.below hb).ob.frozen 1
      replace y2 := (HF.out.below hb).ob.frozen 2
      clear hown hin hb hA HF HF1 HIn
      go_upto_region 10 with fail
      generalize hW2 : World.setCell _ ⟨w.heap.size, 2, none⟩ (Value.slice A' b.next.length C') = W2 at HF2 HI2 ⊢
      clear hW2 g0 g1 g2 y0 y1 y2
      have g0 := HF2.out.ob.cell 0
      have g1 := HF2.out.ob.cell 1
      have g2 := HF2.out.ob.cell 2
      have y0 := HF2.out.ob.frozen 0
      have y1 := HF2.out.ob.frozen 1
      have y2 := HF2.out.ob.frozen 2
      have m0 := HF2.out.kb.cell 0
      have m1 := HF2.out.kb.cell 1
      have z0 := HF2.out.rb.cell 0
      have z1 := HF2.out.rb.cell 1
      have z2 := HF2.out.rb.cell 2
      have x0 := HF2.out.rb.frozen 0
      have x1 := HF2.out.rb.frozen 1
      have x2 := HF2.out.rb.frozen 2
      by_cases h2 : b.next.length = 2
      · have h2' : (b.next.length : Int) = 2 := by omega
        obtain ⟨g, rfl⟩ := HA.out (by omega)
        obtain ⟨cd, off', m, cp, nx, hbr, hbl, hnl, hnum⟩ := br_parts (n := n) HN.out h2 (g := g) (c := C')
        have HBl := Lib.hid hbl
        have HNum := Lib.hid hnum
        have HNl := Lib.hid hnl
        have HBr := Lib.hid fun (u : World) (h : Kn u (w.heap.size + 1 + 1) (w.heap.size + 1 + 1 + 1) n (Fo.runs b.ops n)) => branch_any (Fo.runs b.ops n) _ _ n b.cond g 0 C' (by omega) hcm u h (by have := HG.out.cond; unfold Wf; omega) (HG.out.usewf n HN.out)
        rw [hbr] at HBr
        rw [h2] at HF2 HI2 g2 HHX ⊢
        clear hbr hbl hnum hnl
        go_wp2_with fail
        refine (HBr.out _ HF2.out.kn).mono ?_
        rintro e w2 ⟨rfl, hb2⟩
        have HF4 := Lib.hid ((HF2.out.below hb2).box 1 (.int .i64 cd) _ rfl)
        have HF3 := Lib.hid (HF4.out.box 2 (.slice (some ⟨g, off', none⟩) m cp) _ rfl)
        have HI3 := Lib.hid (HI2.out.below hb2)
        replace g0 := (HF2.out.below hb2).ob.cell 0
        replace g1 := (HF2.out.below hb2).ob.cell 1
        replace g2 := (HF2.out.below hb2).ob.cell 2
        replace y0 := (HF2.out.below hb2).ob.frozen 0
        replace y1 := (HF2.out.below hb2).ob.frozen 1
        replace y2 := (HF2.out.below hb2).ob.frozen 2
        clear m0 m1 z0 z1 z2 x0 x1 x2
        have z0 := (HF2.out.below hb2).rb.cell 0
        have z1 := (HF2.out.below hb2).rb.cell 1
        have z2 := (HF2.out.below hb2).rb.cell 2
        have x0 := (HF2.out.below hb2).rb.frozen 0
        have x1 := (HF2.out.below hb2).rb.frozen 1
        have x2 := (HF2.out.below hb2).rb.frozen 2
        have HNn := Lib.hid (show ∀ i : Nat, ∀ x : Value, ∀ j : Nat, ∀ y : Value, NumsIn ((w2.setCell ⟨w.heap.size, i, none⟩ x).setCell ⟨w.heap.size, j, none⟩ y) (.slice (some ⟨g, off', none⟩) m cp) nx from fun i x j y => HNum.out _ (HHX.out _ _ _ (by show w.heap.size < _; omega) (HHX.out _ _ _ (by show w.heap.size < _; omega) HI3.out)))
        clear hb2 HF2 HI2 HI3
        go_wp2
        refine bodyPost_ret (v := .agg #[.slice (some ⟨w.heap.size + 1 + 1 + 1 + 1 + 1, 0, none⟩) n n, .int .i64 cd, .slice (some ⟨g, off', none⟩) m cp]) (by simp [results, Try.results23, go_sem, z0, z1, z2]) rfl ?_
        obtain rfl := HNl.out
        have HFg := Lib.hid (show ∀ g' o f, some (⟨g, off', none⟩ : Addr) = some ⟨g', o, f⟩ → wr.heap.size ≤ g' by
          intro g' o f e
          injection e with e
          injection e with e1 e2 e3
          rw [← e1]
          exact HFr.out g 0 none rfl)
        have hol : (Fo.ops b.ops).length = n := by unfold Fo.ops; rw [List.length_map, List.length_range]; exact HN.out
        have ho := fs_ops (HF3.out) HN.out n
        unfold FoldPost
        rw [HBl.out]
        refine ⟨_, _, n, cp, by rw [hol], ?_, ?_, ?_, ?_, ?_⟩
        · exact (((ho.far1 0 _).far1 1 _).far1 2 _)
        · exact rowin_far (rowin_far (rowin_far (HNn.out 1 _ 2 _) (fun g o f e => by have := HFg.out _ _ _ e; show _ ≠ w.heap.size + 1; omega) _) (fun g o f e => by have := HFg.out _ _ _ e; show _ ≠ w.heap.size + 1; omega) _) (fun g o f e => by have := HFg.out _ _ _ e; show _ ≠ w.heap.size + 1; omega) _
        · intro g o f e
          injection e with e
          injection e with e1 e2 e3
          omega
        · exact fun g o f e => by have := HFg.out _ _ _ e; omega
        · exact ((HF3.out.low.setCell (p := ⟨w.heap.size + 1, 0, none⟩) (Nat.le_succ _) _).setCell (p := ⟨w.heap.size + 1, 1, none⟩) (Nat.le_succ _) _).setCell (p := ⟨w.heap.size + 1, 2, none⟩) (Nat.le_succ _) _
      · have h2' : ¬ (b.next.length : Int) = 2 := by omega
        have HBl := Lib.hid (blk_not2 h2)
        go_wp2
        have HF3 := Lib.hid HF2.out
        refine bodyPost_ret (v := .agg #[.slice (some ⟨w.heap.size + 1 + 1 + 1 + 1 + 1, 0, none⟩) n n, .int .i64 b.cond, .slice A' b.next.length C']) (by simp [results, Try.results23, go_sem, z0, z1, z2]) rfl ?_
        have hol : (Fo.ops b.ops).length = n := by unfold Fo.ops; rw [List.length_map, List.length_range]; exact HN.out
        have ho := fs_ops (HF3.out) HN.out n
        unfold FoldPost
        rw [HBl.out]
        refine ⟨_, _, n, C', by rw [hol], ?_, ?_, ?_, ?_, ?_⟩
        · exact (((ho.far1 0 _).far1 1 _).far1 2 _)
        · exact HHX.out _ _ _ (by show w.heap.size + 1 < _; omega) (HHX.out _ _ _ (by show w.heap.size + 1 < _; omega) (HHX.out _ _ _ (by show w.heap.size + 1 < _; omega) HI2.out))
        · intro g o f e
          injection e with e
          injection e with e1 e2 e3
          omega
        · exact fun g o f e => by have := HFr.out _ _ _ e; omega
        · exact ((HF3.out.low.setCell (p := ⟨w.heap.size + 1, 0, none⟩) (Nat.le_succ _) _).setCell (p := ⟨w.heap.size + 1, 1, none⟩) (Nat.le_succ _) _).setCell (p := ⟨w.heap.size + 1, 2, none⟩) (Nat.le_succ _) _

end Go.Proofs.Ytojnhdkclabkgaa
