/- The specification of layer 14: an operation, folded. No condition. -/
import Derived.Test.YtojflhkmonicoaaGreatFoRA
import Derived.BigQuiet
namespace Go.Proofs.YtojflhkmonicoaaGreat
open Go.RowKit
set_option linter.unusedVariables false
set_option linter.unusedSimpArgs false
attribute [local go_sem] y_undef
/-- Of what was there nothing has turned but three blocks. -/
structure Mt (b1 b2 b3 : Nat) (w w' : World) : Prop where
  os : w'.os = w.os
  tape : w'.tape = w.tape
  output : w'.output = w.output
  size : w.heap.size ≤ w'.heap.size
  block : ∀ j, j < w.heap.size → j ≠ b1 → j ≠ b2 → j ≠ b3 → w'.heap[j]? = w.heap[j]?
theorem Mt.of_below {b1 b2 b3 : Nat} {w w' : World} (h : Below w.heap.size w w') : Mt b1 b2 b3 w w' := ⟨h.os, h.tape, h.output, h.size, fun j hj _ _ _ => h.block j hj⟩
theorem Mt.of_mu {b1 b2 b3 : Nat} {w w' : World} (h : Mu b1 b3 w w') : Mt b1 b2 b3 w w' := ⟨h.os, h.tape, h.output, h.size, fun j hj h1 _ h3 => h.block j hj h1 h3⟩
theorem Mt.trans {b1 b2 b3 : Nat} {w a c : World} (h : Mt b1 b2 b3 w a) (k : Mt b1 b2 b3 a c) : Mt b1 b2 b3 w c :=
  ⟨k.os.trans h.os, k.tape.trans h.tape, k.output.trans h.output, Nat.le_trans h.size k.size, fun j hj h1 h2 h3 => (k.block j (Nat.lt_of_lt_of_le hj h.size) h1 h2 h3).trans (h.block j hj h1 h2 h3)⟩
theorem Mt.bk {b1 b2 b3 g : Nat} {t : TypeId} {cs : Array Value} {w w' : World} (h : Mt b1 b2 b3 w w') (hb : Bk w g t cs) (h1 : g ≠ b1) (h2 : g ≠ b2) (h3 : g ≠ b3) : Bk w' g t cs := (h.block g hb.lt h1 h2 h3).trans hb
theorem below_eq {w u : World} (h : u = w) : Below w.heap.size w u := by subst h; exact Below.refl _ _
theorem Rf.lt {V Bf K W O : Nat} {s : Fo.S} {fw : Nat → Int} {u : World} (h : Rf V Bf K W O s fw u) : Bf < u.heap.size ∧ K < u.heap.size ∧ W < u.heap.size ∧ O < u.heap.size := ⟨h.fb.lt, h.kn.lt, h.wd.lt, h.cp.lt⟩
theorem o2_new (w : World) (oc : Array Value) : Below w.heap.size w ((w.alloc (.cells oc 42)).alloc (.cells #[.int .i64 0, .int .i64 0, .int .i64 0, .int .i64 0, .int .i64 0] 42)) ∧ Bk ((w.alloc (.cells oc 42)).alloc (.cells #[.int .i64 0, .int .i64 0, .int .i64 0, .int .i64 0, .int .i64 0] 42)) w.heap.size 42 oc ∧ Bk ((w.alloc (.cells oc 42)).alloc (.cells #[.int .i64 0, .int .i64 0, .int .i64 0, .int .i64 0, .int .i64 0] 42)) (w.heap.size + 1) 42 #[.int .i64 0, .int .i64 0, .int .i64 0, .int .i64 0, .int .i64 0] := by
  refine ⟨bla (bla (Below.refl _ _) _) _, (Bk.new w _ _).below (bla (Below.refl _ _) _), ?_⟩
  have := Bk.new (w.alloc (.cells oc 42)) 42 #[.int .i64 0, .int .i64 0, .int .i64 0, .int .i64 0, .int .i64 0]
  rw [size_alloc] at this
  exact this
theorem Rf.box {V Bf K W O : Nat} {s : Fo.S} {fw : Nat → Int} {u : World} (h : Rf V Bf K W O s fw u) {p : Addr} (h1 : Bf ≠ p.block) (h2 : K ≠ p.block) (h3 : W ≠ p.block) (h4 : O ≠ p.block) (x : Value) : Rf V Bf K W O s fw (u.setCell p x) := ⟨h.fb.far h1 x, h.kn.far h2 x, h.wd.far h3 x, h.cp.far h4 x, h.wv, h.ap⟩
theorem Mt.box {b1 b2 b3 : Nat} {w u : World} (h : Mt b1 b2 b3 w u) {p : Addr} (hp : w.heap.size ≤ p.block) (x : Value) : Mt b1 b2 b3 w (u.setCell p x) := by
  have hB : Below 0 u _ := (Below.refl 0 u).setCell (p := p) (Nat.zero_le _) x
  exact ⟨hB.os.trans h.os, hB.tape.trans h.tape, hB.output.trans h.output, by rw [World.size_setCell]; exact h.size, fun j hj h1 h2 h3 => (Below.heap_setCell _ _ _ j (by omega)).trans (h.block j hj h1 h2 h3)⟩
/-- The result's box takes an operation. -/
theorem rf_fin {V Bf K W O : Nat} {s : Fo.S} {fw : Nat → Int} {w u : World} (hl : Bf < w.heap.size ∧ K < w.heap.size ∧ W < w.heap.size ∧ O < w.heap.size) (h : Rf V Bf K W O s fw u) (hm : Mt K W O w u) (x0 x1 x2 x3 x4 : Value) :
    (∃ fw', Rf V Bf K W O s fw' (((((u.setCell ⟨w.heap.size + 1, 0, none⟩ x0).setCell ⟨w.heap.size + 1, 1, none⟩ x1).setCell ⟨w.heap.size + 1, 2, none⟩ x2).setCell ⟨w.heap.size + 1, 3, none⟩ x3).setCell ⟨w.heap.size + 1, 4, none⟩ x4)) ∧
    Mt K W O w (((((u.setCell ⟨w.heap.size + 1, 0, none⟩ x0).setCell ⟨w.heap.size + 1, 1, none⟩ x1).setCell ⟨w.heap.size + 1, 2, none⟩ x2).setCell ⟨w.heap.size + 1, 3, none⟩ x3).setCell ⟨w.heap.size + 1, 4, none⟩ x4) := by
  obtain ⟨l1, l2, l3, l4⟩ := hl
  have hg : ∀ b, b < w.heap.size → ∀ i, b ≠ (⟨w.heap.size + 1, i, none⟩ : Addr).block := fun b hb i => by show b ≠ w.heap.size + 1; omega
  have hq : ∀ i, w.heap.size ≤ (⟨w.heap.size + 1, i, none⟩ : Addr).block := fun i => Nat.le_succ _
  exact ⟨⟨fw, ((((h.box (hg _ l1 0) (hg _ l2 0) (hg _ l3 0) (hg _ l4 0) x0).box (hg _ l1 1) (hg _ l2 1) (hg _ l3 1) (hg _ l4 1) x1).box (hg _ l1 2) (hg _ l2 2) (hg _ l3 2) (hg _ l4 2) x2).box (hg _ l1 3) (hg _ l2 3) (hg _ l3 3) (hg _ l4 3) x3).box (hg _ l1 4) (hg _ l2 4) (hg _ l3 4) (hg _ l4 4) x4⟩,
    ((((hm.box (hq 0) x0).box (hq 1) x1).box (hq 2) x2).box (hq 3) x3).box (hq 4) x4⟩
/-- What fold of an operation answers. -/
def RfPost (V Bf K W O : Nat) (s : Fo.S) (o : Gr.Op) (w : World) (e : Ending) (w' : World) : Prop :=
  e = .returned (opV (Fo.step s o)) ∧ (∃ fw', Rf V Bf K W O (Fo.learn s (Fo.step s o)) fw' w') ∧ Mt K W O w w'
set_option maxHeartbeats 4000000 in
set_option maxRecDepth 100000 in
theorem rfold_6 (V Bf Kb Wb Ob : Nat) (s : Fo.S) (fw : Nat → Int) (d a b i : Int) (w : World) (h : Rf V Bf Kb Wb Ob s fw w) :
    Calls Tryz.prog 46 #[.pointer (some ⟨Bf, 0, none⟩), .agg #[.int .i64 6, .int .i64 d, .int .i64 a, .int .i64 b, .int .i64 i]] w (RfPost V Bf Kb Wb Ob s ⟨6, d, a, b, i⟩ w) := by
  have HB := Lib.hid (o2_new w #[.int .i64 6, .int .i64 d, .int .i64 a, .int .i64 b, .int .i64 i])
  have HR := Lib.hid (h.below HB.out.1)
  have HL := Lib.hid h.lt
  clear h
  go_enter Tryz.func46, Tryz.ntmps46
  go_wp2
  go_quiet (fail)
  go_wp2
  go_quiet (fail)
  go_wp2
  refine bodyPost_ret (v := .agg #[.int .i64 6, .int .i64 d, .int .i64 a, .int .i64 b, .int .i64 i]) ?_ rfl ⟨?_, ?_⟩
  · have z0 := HB.out.2.2.cell 0
    have z1 := HB.out.2.2.cell 1
    have z2 := HB.out.2.2.cell 2
    have z3 := HB.out.2.2.cell 3
    have z4 := HB.out.2.2.cell 4
    simp [results, Tryz.results46, go_sem, z0, z1, z2, z3, z4]
  · have e : Fo.step s ⟨6, d, a, b, i⟩ = ⟨6, d, a, b, i⟩ := by simp [Fo.step, Fo.direct, Fo.const, Fo.result]
    rw [e]; rfl
  · have e : Fo.learn s (Fo.step s ⟨6, d, a, b, i⟩) = s := by simp [Fo.step, Fo.direct, Fo.const, Fo.result, Fo.learn]
    rw [e]
    exact rf_fin HL.out (HR.out.below (below_drewN _ _ _)) ((Mt.of_below HB.out.1).trans (Mt.of_below (below_drewN _ _ _))) _ _ _ _ _
set_option maxHeartbeats 4000000 in
set_option maxRecDepth 100000 in
theorem rfold_7 (V Bf Kb Wb Ob : Nat) (s : Fo.S) (fw : Nat → Int) (d a b i : Int) (w : World) (h : Rf V Bf Kb Wb Ob s fw w) :
    Calls Tryz.prog 46 #[.pointer (some ⟨Bf, 0, none⟩), .agg #[.int .i64 7, .int .i64 d, .int .i64 a, .int .i64 b, .int .i64 i]] w (RfPost V Bf Kb Wb Ob s ⟨7, d, a, b, i⟩ w) := by
  have HB := Lib.hid (o2_new w #[.int .i64 7, .int .i64 d, .int .i64 a, .int .i64 b, .int .i64 i])
  have HR := Lib.hid (h.below HB.out.1)
  have HL := Lib.hid h.lt
  clear h
  go_enter Tryz.func46, Tryz.ntmps46
  go_wp2
  go_quiet (fail)
  go_wp2
  go_quiet (fail)
  go_wp2
  refine bodyPost_ret (v := .agg #[.int .i64 7, .int .i64 d, .int .i64 a, .int .i64 b, .int .i64 i]) ?_ rfl ⟨?_, ?_⟩
  · have z0 := HB.out.2.2.cell 0
    have z1 := HB.out.2.2.cell 1
    have z2 := HB.out.2.2.cell 2
    have z3 := HB.out.2.2.cell 3
    have z4 := HB.out.2.2.cell 4
    simp [results, Tryz.results46, go_sem, z0, z1, z2, z3, z4]
  · have e : Fo.step s ⟨7, d, a, b, i⟩ = ⟨7, d, a, b, i⟩ := by simp [Fo.step, Fo.direct, Fo.const, Fo.result]
    rw [e]; rfl
  · have e : Fo.learn s (Fo.step s ⟨7, d, a, b, i⟩) = s := by simp [Fo.step, Fo.direct, Fo.const, Fo.result, Fo.learn]
    rw [e]
    exact rf_fin HL.out (HR.out.below (below_drewN _ _ _)) ((Mt.of_below HB.out.1).trans (Mt.of_below (below_drewN _ _ _))) _ _ _ _ _
theorem Rf.known {V Bf K W O : Nat} {s : Fo.S} {fw : Nat → Int} {u : World} {d : Nat} (h : Rf V Bf K W O ⟨Fo.upd s.wd (d : Int) none, Fo.cut s.cp (d : Int)⟩ fw u) (hd : d < V) (m : Int) :
    Rf V Bf K W O ⟨Fo.upd s.wd (d : Int) (some m), Fo.cut s.cp (d : Int)⟩ (fun v => if v = d then m else fw v) ((u.setCell ⟨K, d, none⟩ (.bool true)).setCell ⟨W, d, none⟩ (.int .i64 m)) := by
  obtain ⟨a1, a2, a3, a4, a5, a6⟩ := h.ap
  refine ⟨(h.fb.far (p := ⟨K, d, none⟩) a1 _).far (p := ⟨W, d, none⟩) a2 _, ?_, ?_, (h.cp.far (p := ⟨K, d, none⟩) (fun e => a5 e.symm) _).far (p := ⟨W, d, none⟩) (fun e => a6 e.symm) _, fun v n hv hn => ?_, h.ap⟩
  · have := (h.kn.set d (.bool true)).far (p := ⟨W, d, none⟩) (by exact a4) (.int .i64 m)
    rw [slRow_set V _ (fun v => .bool ((Fo.upd s.wd (d : Int) (some m)) (v : Int)).isSome) d (.bool true) (fun j hj => by
      unfold Fo.upd
      by_cases e : j = d
      · subst e; simp
      · have : ¬ (j : Int) = (d : Int) := by omega
        simp [e, this])] at this
    exact this
  · have := (h.wd.far (p := ⟨K, d, none⟩) (fun e => a4 e.symm) (.bool true)).set d (.int .i64 m)
    rw [slRow_set V _ (fun v => .int .i64 (if v = d then m else fw v)) d (.int .i64 m) (fun j hj => by by_cases e : j = d <;> simp [e])] at this
    exact this
  · simp only [Fo.upd] at hn
    by_cases e : v = d
    · subst e
      rw [if_pos rfl] at hn ⊢
      injection hn
    · have hne : ¬ (v : Int) = (d : Int) := by omega
      rw [if_neg hne] at hn
      rw [if_neg e]
      exact h.wv v n hv (by simp only [Fo.upd]; rw [if_neg hne]; exact hn)
theorem Mt.known {K W O : Nat} {w u : World} (h : Mt K W O w u) (d : Nat) (x y : Value) : Mt K W O w ((u.setCell ⟨K, d, none⟩ x).setCell ⟨W, d, none⟩ y) := by
  have hB : Below 0 u _ := ((Below.refl 0 u).setCell (p := ⟨K, d, none⟩) (Nat.zero_le _) x).setCell (p := ⟨W, d, none⟩) (Nat.zero_le _) y
  exact ⟨hB.os.trans h.os, hB.tape.trans h.tape, hB.output.trans h.output, by rw [World.size_setCell, World.size_setCell]; exact h.size, fun j hj h1 h2 h3 => ((Below.heap_setCell _ _ _ j (by exact h2)).trans (Below.heap_setCell _ _ _ j (by exact h1))).trans (h.block j hj h1 h2 h3)⟩
set_option maxHeartbeats 4000000 in
set_option maxRecDepth 100000 in
theorem rfold_1 (V Bf Kb Wb Ob : Nat) (s : Fo.S) (fw : Nat → Int) (d : Nat) (a b i : Int) (hd : d < V) (hV : V ≤ 1000) (hok : Fo.Ok V s) (w : World) (h : Rf V Bf Kb Wb Ob s fw w) :
    Calls Tryz.prog 46 #[.pointer (some ⟨Bf, 0, none⟩), .agg #[.int .i64 1, .int .i64 (d : Int), .int .i64 a, .int .i64 b, .int .i64 i]] w (RfPost V Bf Kb Wb Ob s ⟨1, (d : Int), a, b, i⟩ w) := by
  have HB := Lib.hid (o2_new w #[.int .i64 1, .int .i64 (d : Int), .int .i64 a, .int .i64 b, .int .i64 i])
  have HR := Lib.hid (h.below HB.out.1)
  have HL := Lib.hid h.lt
  obtain ⟨l1, l2, l3, l4⟩ := h.lt
  obtain ⟨a1, a2, a3, a4, a5, a6⟩ := h.ap
  have hlt : (d : Int) < V := by omega
  have hlt0 : (0 : Int) ≤ (d : Int) := by omega
  clear h
  go_enter Tryz.func46, Tryz.ntmps46
  go_wp2
  go_quiet (fail)
  go_wp2
  go_quiet (fail)
  go_upto_region 15 with fail
  have HW := Lib.hid fun (n : Nat) => (⟨HR.out.below (below_drewN _ _ n), HB.out.2.1.below (below_drewN _ _ n), HB.out.2.2.below (below_drewN _ _ n), (Mt.of_below (b1 := Kb) (b2 := Wb) (b3 := Ob) HB.out.1).trans (Mt.of_below (below_drewN _ _ n))⟩ : _ ∧ _ ∧ _ ∧ _)
  go_wp2_with fail
  refine (rforget_any V Bf Kb Wb Ob s fw d hd hV hok _ (HW.out _).1).mono ?_
  rintro e w1 ⟨rfl, hRf, hmu⟩
  have HF := Lib.hid hRf
  have HO := Lib.hid (hmu.bk (HW.out _).2.1 (by omega) (by omega))
  have HZ := Lib.hid (hmu.bk (HW.out _).2.2.1 (by omega) (by omega))
  have HM := Lib.hid ((HW.out _).2.2.2.trans (Mt.of_mu hmu))
  clear hRf hmu HW
  have hO1 := HO.out.cell 1
  go_upto_region 16 with fail
  clear hO1
  refine wp_region_last (S := fun u : World => Bk u Bf 89 #[.slice (some ⟨Kb, 0, none⟩) V V, .slice (some ⟨Wb, 0, none⟩) V V, .slice (some ⟨Ob, 0, none⟩) V V] ∧ Bk u w.heap.size 42 #[.int .i64 1, .int .i64 (d : Int), .int .i64 a, .int .i64 b, .int .i64 i]) 17 (by kernel_rfl) ?_ (fun hHeld => ?_)
  · exact ⟨HF.out.fb.below (below_drewN _ _ 1), HO.out.below (below_drewN _ _ 1)⟩
  have HFd := Lib.hid (show Rf V Bf Kb Wb Ob (⟨Fo.upd s.wd (d : Int) none, Fo.cut s.cp (d : Int)⟩ : Fo.S) fw w1.drew from HF.out.below (below_drewN _ w1 1))
  refine' wpAnyL_take (i := 0) (v := _) ?_ ?_ ?_ ?_ ?_ ?_ ?_ ?_ ?_
  rotate_left 2; (simp only [gA, gB, gC]; rfl); kernel_rfl; kernel_rfl; kernel_rfl; kernel_rfl; exact fun _ _ _ h => h; refine Or.inl ⟨?_, ?_⟩; focus (go_simp; done)
  focus (intro w hSw; have b0 := hSw.1.cell 0; have b1 := hSw.1.cell 1; have o1 := hSw.2.cell 1; have o4 := hSw.2.cell 4; (go_simp <;> with_reducible rfl))
  assumption; (try simp only [Act.put, gD, gE, gF])
  refine' wpAnyL_take (i := 1) (v := _) ?_ ?_ ?_ ?_ ?_ ?_ ?_ ?_ ?_
  rotate_left 2; (simp only [gA, gB, gC]; rfl); kernel_rfl; kernel_rfl; kernel_rfl; kernel_rfl; exact fun _ _ _ h => h; refine Or.inl ⟨?_, ?_⟩; focus (go_simp; done)
  focus (intro w hSw; have b0 := hSw.1.cell 0; have b1 := hSw.1.cell 1; have o1 := hSw.2.cell 1; have o4 := hSw.2.cell 4; (go_simp <;> with_reducible rfl))
  assumption; (try simp only [Act.put, gD, gE, gF])
  refine' wpAnyL_take (i := 2) (v := _) ?_ ?_ ?_ ?_ ?_ ?_ ?_ ?_ ?_
  rotate_left 2; (simp only [gA, gB, gC]; rfl); kernel_rfl; kernel_rfl; kernel_rfl; kernel_rfl; exact fun _ _ _ h => h; refine Or.inl ⟨?_, ?_⟩; focus (go_simp; done)
  focus (intro w hSw; have b0 := hSw.1.cell 0; have b1 := hSw.1.cell 1; have o1 := hSw.2.cell 1; have o4 := hSw.2.cell 4; (go_simp <;> with_reducible rfl))
  assumption; (try simp only [Act.put, gD, gE, gF])
  refine' wpAnyL_take (i := 3) (v := _) ?_ ?_ ?_ ?_ ?_ ?_ ?_ ?_ ?_
  rotate_left 2; (simp only [gA, gB, gC]; rfl); kernel_rfl; kernel_rfl; kernel_rfl; kernel_rfl; exact fun _ _ _ h => h; refine Or.inl ⟨?_, ?_⟩; focus (go_simp; done)
  focus (intro w hSw; have b0 := hSw.1.cell 0; have b1 := hSw.1.cell 1; have o1 := hSw.2.cell 1; have o4 := hSw.2.cell 4; (go_simp <;> with_reducible rfl))
  assumption; (try simp only [Act.put, gD, gE, gF])
  refine' wpAnyL_take (i := 4) (v := _) ?_ ?_ ?_ ?_ ?_ ?_ ?_ ?_ ?_
  rotate_left 2; (simp only [gA, gB, gC]; rfl); kernel_rfl; kernel_rfl; kernel_rfl; kernel_rfl; exact fun _ _ _ h => h; refine Or.inl ⟨?_, ?_⟩; focus (go_simp; done)
  focus (intro w hSw; have b0 := hSw.1.cell 0; have b1 := hSw.1.cell 1; have o1 := hSw.2.cell 1; have o4 := hSw.2.cell 4; (go_simp <;> with_reducible rfl))
  assumption; (try simp only [Act.put, gD, gE, gF])
  refine' wpAnyL_take (i := 5) (v := _) ?_ ?_ ?_ ?_ ?_ ?_ ?_ ?_ ?_
  rotate_left 2; (simp only [gA, gB, gC]; rfl); kernel_rfl; kernel_rfl; kernel_rfl; kernel_rfl; exact fun _ _ _ h => h; refine Or.inl ⟨?_, ?_⟩; focus (go_simp; done)
  focus (intro w hSw; have b0 := hSw.1.cell 0; have b1 := hSw.1.cell 1; have o1 := hSw.2.cell 1; have o4 := hSw.2.cell 4; (go_simp <;> with_reducible rfl))
  assumption; (try simp only [Act.put, gD, gE, gF])
  refine' wpAnyL_take (i := 6) (v := _) ?_ ?_ ?_ ?_ ?_ ?_ ?_ ?_ ?_
  rotate_left 2; (simp only [gA, gB, gC]; rfl); kernel_rfl; kernel_rfl; kernel_rfl; kernel_rfl; exact fun _ _ _ h => h; refine Or.inl ⟨?_, ?_⟩; focus (go_simp; done)
  focus (intro w hSw; have b0 := hSw.1.cell 0; have b1 := hSw.1.cell 1; have o1 := hSw.2.cell 1; have o4 := hSw.2.cell 4; (go_simp <;> with_reducible rfl))
  assumption; (try simp only [Act.put, gD, gE, gF])
  refine' wpAnyL_take (i := 7) (v := _) ?_ ?_ ?_ ?_ ?_ ?_ ?_ ?_ ?_
  rotate_left 2; (simp only [gA, gB, gC]; rfl); kernel_rfl; kernel_rfl; kernel_rfl; kernel_rfl; exact fun _ _ _ h => h; refine Or.inl ⟨?_, ?_⟩; focus (go_simp; done)
  focus (intro w hSw; have b0 := hSw.1.cell 0; have b1 := hSw.1.cell 1; have o1 := hSw.2.cell 1; have o4 := hSw.2.cell 4; (go_simp <;> with_reducible rfl))
  assumption; (try simp only [Act.put, gD, gE, gF])
  refine' wpAnyL_take (i := 8) (v := _) ?_ ?_ ?_ ?_ ?_ ?_ ?_ ?_ ?_
  rotate_left 2; (simp only [gA, gB, gC]; rfl); kernel_rfl; kernel_rfl; kernel_rfl; kernel_rfl; exact fun _ _ _ h => h; refine Or.inl ⟨?_, ?_⟩; focus (go_simp; done)
  focus (intro w hSw; have b0 := hSw.1.cell 0; have b1 := hSw.1.cell 1; have o1 := hSw.2.cell 1; have o4 := hSw.2.cell 4; (go_simp <;> with_reducible rfl))
  assumption; (try simp only [Act.put, gD, gE, gF])
  refine' wpAnyL_take (i := 9) (v := _) ?_ ?_ ?_ ?_ ?_ ?_ ?_ ?_ ?_
  rotate_left 2; (simp only [gA, gB, gC]; rfl); kernel_rfl; kernel_rfl; kernel_rfl; kernel_rfl; exact fun _ _ _ h => h; refine Or.inl ⟨?_, ?_⟩; focus (go_simp; done)
  focus (intro w hSw; have b0 := hSw.1.cell 0; have b1 := hSw.1.cell 1; have o1 := hSw.2.cell 1; have o4 := hSw.2.cell 4; (go_simp <;> with_reducible rfl))
  assumption; (try simp only [Act.put, gD, gE, gF])
  refine' wpAnyL_take (i := 10) (v := _) ?_ ?_ ?_ ?_ ?_ ?_ ?_ ?_ ?_
  rotate_left 2; (simp only [gA, gB, gC]; rfl); kernel_rfl; kernel_rfl; kernel_rfl; kernel_rfl; exact fun _ _ _ h => h; refine Or.inl ⟨?_, ?_⟩; focus (go_simp; done)
  focus (intro w hSw; have b0 := hSw.1.cell 0; have b1 := hSw.1.cell 1; have o1 := hSw.2.cell 1; have o4 := hSw.2.cell 4; (go_simp <;> with_reducible rfl))
  assumption; (try simp only [Act.put, gD, gE, gF])
  refine' wpAnyL_take (i := 11) (v := _) ?_ ?_ ?_ ?_ ?_ ?_ ?_ ?_ ?_
  rotate_left 2; (simp only [gA, gB, gC]; rfl); kernel_rfl; kernel_rfl; kernel_rfl; kernel_rfl; exact fun _ _ _ h => h; refine Or.inl ⟨?_, ?_⟩; focus (go_simp; done)
  focus (intro w hSw; have b0 := hSw.1.cell 0; have b1 := hSw.1.cell 1; have o1 := hSw.2.cell 1; have o4 := hSw.2.cell 4; (go_simp <;> with_reducible rfl))
  assumption; (try simp only [Act.put, gD, gE, gF])
  refine' wpAnyL_take (i := 12) (v := _) ?_ ?_ ?_ ?_ ?_ ?_ ?_ ?_ ?_
  rotate_left 2; (simp only [gA, gB, gC]; rfl); kernel_rfl; kernel_rfl; kernel_rfl; kernel_rfl; exact fun _ _ _ h => h; refine Or.inl ⟨?_, ?_⟩; focus (go_simp; done)
  focus (intro w hSw; have b0 := hSw.1.cell 0; have b1 := hSw.1.cell 1; have o1 := hSw.2.cell 1; have o4 := hSw.2.cell 4; (go_simp <;> with_reducible rfl))
  assumption; (try simp only [Act.put, gD, gE, gF])
  refine' wpAnyL_take (i := 13) (v := _) ?_ ?_ ?_ ?_ ?_ ?_ ?_ ?_ ?_
  rotate_left 2; (simp only [gA, gB, gC]; rfl); kernel_rfl; kernel_rfl; kernel_rfl; kernel_rfl; exact fun _ _ _ h => h; refine Or.inl ⟨?_, ?_⟩; focus (go_simp; done)
  focus (intro w hSw; have b0 := hSw.1.cell 0; have b1 := hSw.1.cell 1; have o1 := hSw.2.cell 1; have o4 := hSw.2.cell 4; (go_simp <;> with_reducible rfl))
  assumption; (try simp only [Act.put, gD, gE, gF])
  refine' wpAnyL_take (i := 14) (v := _) ?_ ?_ ?_ ?_ ?_ ?_ ?_ ?_ ?_
  rotate_left 2; (simp only [gA, gB, gC]; rfl); kernel_rfl; kernel_rfl; kernel_rfl; kernel_rfl; exact fun _ _ _ h => h; refine Or.inl ⟨?_, ?_⟩; focus (go_simp; done)
  focus (intro w hSw; have b0 := hSw.1.cell 0; have b1 := hSw.1.cell 1; have o1 := hSw.2.cell 1; have o4 := hSw.2.cell 4; (go_simp <;> with_reducible rfl))
  assumption; (try simp only [Act.put, gD, gE, gF])
  refine' wpAnyL_one (i := 15) ?_ ?_ ?_ (fun K hK => ?_)
  rotate_left
  focus kernel_rfl
  focus kernel_rfl
  focus (simp only [gA, gB, gC]; rfl)
  have k0 := (HFd.out.kn.cell d).trans (slRow_cell _ _ hd)
  have kf := HFd.out.kn.frozen d
  have klo := HFd.out.kn.lt
  go_simp
  refine hK.out _ _ (⟨hHeld.1.far (p := ⟨Kb, d, none⟩) a1 _, hHeld.2.far (p := ⟨Kb, d, none⟩) (by show w.heap.size ≠ Kb; omega) _⟩) (fun hHeld => ?_)
  clear hK K
  (try simp only [Act.put, gD, gE, gF])
  clear k0 kf klo
  refine' wpAnyL_take (i := 16) (v := _) ?_ ?_ ?_ ?_ ?_ ?_ ?_ ?_ ?_
  rotate_left 2; (simp only [gA, gB, gC]; rfl); kernel_rfl; kernel_rfl; kernel_rfl; kernel_rfl; exact fun _ _ _ h => h; refine Or.inl ⟨?_, ?_⟩; focus (go_simp; done)
  focus (intro w hSw; have b0 := hSw.1.cell 0; have b1 := hSw.1.cell 1; have o1 := hSw.2.cell 1; have o4 := hSw.2.cell 4; (go_simp <;> with_reducible rfl))
  assumption; (try simp only [Act.put, gD, gE, gF])
  refine' wpAnyL_last ?_ ?_ (fun K hK => ?_)
  rotate_left
  focus kernel_rfl
  focus (simp only [gA, gB, gC]; rfl)
  have hwd := (show Bk (w1.setCell ⟨Kb, d, none⟩ (.bool true)).drew Wb _ _ from (HF.out.wd.far (p := ⟨Kb, d, none⟩) (fun e => a4 e.symm) (.bool true)).below (below_drewN _ _ 1))
  have c0 := (hwd.cell d).trans (slRow_cell _ _ hd)
  have cf := hwd.frozen d
  have clo := hwd.lt
  clear hwd
  go_simp
  refine hK.out _ _ ?_
  clear hK K
  (try simp only [Act.put, gD, gE, gF])
  refine wpAny_done (by kernel_rfl) ?_ _
  clear c0 cf clo
  have HE := Lib.hid (show Rf V Bf Kb Wb Ob ⟨Fo.upd s.wd (d : Int) (some i), Fo.cut s.cp (d : Int)⟩ _ (((w1.setCell ⟨Kb, d, none⟩ (.bool true)).setCell ⟨Wb, d, none⟩ (.int .i64 i)).drew) from (HF.out.known hd i).below (below_drewN _ _ 1))
  have HMe := Lib.hid (show Mt Kb Wb Ob w (((w1.setCell ⟨Kb, d, none⟩ (.bool true)).setCell ⟨Wb, d, none⟩ (.int .i64 i)).drew) from (HM.out.known d _ _).trans (Mt.of_below (below_drewN _ _ 1)))
  have HOe := Lib.hid (show Bk (((w1.setCell ⟨Kb, d, none⟩ (.bool true)).setCell ⟨Wb, d, none⟩ (.int .i64 i)).drew) w.heap.size _ _ from ((HO.out.far (p := ⟨Kb, d, none⟩) (by show w.heap.size ≠ Kb; omega) _).far (p := ⟨Wb, d, none⟩) (by show w.heap.size ≠ Wb; omega) _).below (below_drewN _ _ 1))
  have HZe := Lib.hid (show Bk (((w1.setCell ⟨Kb, d, none⟩ (.bool true)).setCell ⟨Wb, d, none⟩ (.int .i64 i)).drew) (w.heap.size + 1) _ _ from ((HZ.out.far (p := ⟨Kb, d, none⟩) (by show w.heap.size + 1 ≠ Kb; omega) _).far (p := ⟨Wb, d, none⟩) (by show w.heap.size + 1 ≠ Wb; omega) _).below (below_drewN _ _ 1))
  clear hHeld HFd HF HO HZ HM
  generalize hX : (World.setCell _ ⟨Wb, d, none⟩ (Value.int .i64 i)).drew = X at HE HMe HOe HZe ⊢
  clear hX
  have o0 := HOe.out.cell 0
  have o1 := HOe.out.cell 1
  have o2 := HOe.out.cell 2
  have o3 := HOe.out.cell 3
  have o4 := HOe.out.cell 4
  have z0 := HZe.out.cell 0
  have y0 := HZe.out.frozen 0
  have z1 := HZe.out.cell 1
  have y1 := HZe.out.frozen 1
  have z2 := HZe.out.cell 2
  have y2 := HZe.out.frozen 2
  have z3 := HZe.out.cell 3
  have y3 := HZe.out.frozen 3
  have z4 := HZe.out.cell 4
  have y4 := HZe.out.frozen 4
  go_wp2
  refine bodyPost_ret (v := .agg #[.int .i64 1, .int .i64 (d : Int), .int .i64 a, .int .i64 b, .int .i64 i]) ?_ rfl ⟨?_, ?_⟩
  · simp [results, Tryz.results46, go_sem, z0, z1, z2, z3, z4]
  · rw [show Fo.step s ⟨1, (d : Int), a, b, i⟩ = ⟨1, (d : Int), a, b, i⟩ by simp [Fo.step, Fo.direct, Fo.const, Fo.result]]; rfl
  · rw [show Fo.learn s (Fo.step s ⟨1, (d : Int), a, b, i⟩) = ⟨Fo.upd s.wd (d : Int) (some i), Fo.cut s.cp (d : Int)⟩ by simp [Fo.step, Fo.direct, Fo.const, Fo.result, Fo.learn]]
    exact rf_fin HL.out HE.out HMe.out _ _ _ _ _
set_option maxHeartbeats 4000000 in
set_option maxRecDepth 100000 in
theorem rfold_4 (V Bf Kb Wb Ob : Nat) (s : Fo.S) (fw : Nat → Int) (d a : Nat) (b i : Int) (hd : d < V) (ha : a < V) (hV : V ≤ 1000) (hok : Fo.Ok V s) (w : World) (h : Rf V Bf Kb Wb Ob s fw w) :
    Calls Tryz.prog 46 #[.pointer (some ⟨Bf, 0, none⟩), .agg #[.int .i64 4, .int .i64 (d : Int), .int .i64 (a : Int), .int .i64 b, .int .i64 i]] w (RfPost V Bf Kb Wb Ob s ⟨4, (d : Int), (a : Int), b, i⟩ w) := by
  have HH := Lib.hid h
  have HB := Lib.hid (o2_new w #[.int .i64 4, .int .i64 (d : Int), .int .i64 (a : Int), .int .i64 b, .int .i64 i])
  have HR := Lib.hid (h.below HB.out.1)
  have HL := Lib.hid h.lt
  obtain ⟨l1, l2, l3, l4⟩ := h.lt
  obtain ⟨a1, a2, a3, a4, a5, a6⟩ := h.ap
  have hltd : (d : Int) < V := by omega
  have hlt0d : (0 : Int) ≤ (d : Int) := by omega
  have hlta : (a : Int) < V := by omega
  have hlt0a : (0 : Int) ≤ (a : Int) := by omega
  clear h
  go_enter Tryz.func46, Tryz.ntmps46
  go_wp2_with fail
  refine (ruse_any V Bf Kb Wb Ob s fw a ha hV hok _ HR.out).mono ?_
  rintro e w1 ⟨rfl, rfl⟩
  have HB2 := Lib.hid (o2_new w #[.int .i64 4, .int .i64 (d : Int), .int .i64 (Fo.use s (a : Int)), .int .i64 b, .int .i64 i])
  have HR2 := Lib.hid (HH.out.below HB2.out.1)
  have HW := Lib.hid fun (n : Nat) => (⟨HR2.out.below (below_drewN _ _ n), HB2.out.2.1.below (below_drewN _ _ n), HB2.out.2.2.below (below_drewN _ _ n), (Mt.of_below (b1 := Kb) (b2 := Wb) (b3 := Ob) HB2.out.1).trans (Mt.of_below (below_drewN _ _ n))⟩ : _ ∧ _ ∧ _ ∧ _)
  obtain ⟨ua, hua⟩ : ∃ x, Fo.use s (a : Int) = x := ⟨_, rfl⟩
  have HU := Lib.hid hua
  rw [hua] at HB2 HW ⊢
  clear hua HR2 HR HB
  go_wp2
  go_quiet (fail)
  go_wp2
  go_quiet (fail)
  go_upto_region 23 with fail
  go_wp2_with fail
  refine (rforget_any V Bf Kb Wb Ob s fw d hd hV hok _ (HW.out _).1).mono ?_
  rintro e w1 ⟨rfl, hRf, hmu⟩
  have HE := Lib.hid hRf
  have HOe := Lib.hid (hmu.bk (HW.out _).2.1 (by omega) (by omega))
  have HZe := Lib.hid (hmu.bk (HW.out _).2.2.1 (by omega) (by omega))
  have HMe := Lib.hid ((HW.out _).2.2.2.trans (Mt.of_mu hmu))
  clear hRf hmu HW
  have o0 := HOe.out.cell 0
  have o1 := HOe.out.cell 1
  have o2 := HOe.out.cell 2
  have o3 := HOe.out.cell 3
  have o4 := HOe.out.cell 4
  have z0 := HZe.out.cell 0
  have y0 := HZe.out.frozen 0
  have z1 := HZe.out.cell 1
  have y1 := HZe.out.frozen 1
  have z2 := HZe.out.cell 2
  have y2 := HZe.out.frozen 2
  have z3 := HZe.out.cell 3
  have y3 := HZe.out.frozen 3
  have z4 := HZe.out.cell 4
  have y4 := HZe.out.frozen 4
  go_wp2
  refine bodyPost_ret (v := .agg #[.int .i64 4, .int .i64 (d : Int), .int .i64 ua, .int .i64 b, .int .i64 i]) ?_ rfl ⟨?_, ?_⟩
  · simp [results, Tryz.results46, go_sem, z0, z1, z2, z3, z4]
  · rw [show Fo.step s ⟨4, (d : Int), (a : Int), b, i⟩ = ⟨4, (d : Int), ua, b, i⟩ by rw [← HU.out]; simp [Fo.step, Fo.direct, Fo.const, Fo.result]]; rfl
  · rw [show Fo.learn s (Fo.step s ⟨4, (d : Int), (a : Int), b, i⟩) = ⟨Fo.upd s.wd (d : Int) none, Fo.cut s.cp (d : Int)⟩ by simp [Fo.step, Fo.direct, Fo.const, Fo.result, Fo.learn]]
    exact rf_fin HL.out HE.out HMe.out _ _ _ _ _
set_option maxHeartbeats 4000000 in
set_option maxRecDepth 100000 in
theorem rfold_5 (V Bf Kb Wb Ob : Nat) (s : Fo.S) (fw : Nat → Int) (a b : Nat) (d i : Int) (ha : a < V) (hb : b < V) (hV : V ≤ 1000) (hok : Fo.Ok V s) (w : World) (h : Rf V Bf Kb Wb Ob s fw w) :
    Calls Tryz.prog 46 #[.pointer (some ⟨Bf, 0, none⟩), .agg #[.int .i64 5, .int .i64 d, .int .i64 (a : Int), .int .i64 (b : Int), .int .i64 i]] w (RfPost V Bf Kb Wb Ob s ⟨5, d, (a : Int), (b : Int), i⟩ w) := by
  have HH := Lib.hid h
  have HB := Lib.hid (o2_new w #[.int .i64 5, .int .i64 d, .int .i64 (a : Int), .int .i64 (b : Int), .int .i64 i])
  have HR := Lib.hid (h.below HB.out.1)
  have HL := Lib.hid h.lt
  obtain ⟨l1, l2, l3, l4⟩ := h.lt
  obtain ⟨a1, a2, a3, a4, a5, a6⟩ := h.ap
  have hlta : (a : Int) < V := by omega
  have hlt0a : (0 : Int) ≤ (a : Int) := by omega
  have hltb : (b : Int) < V := by omega
  have hlt0b : (0 : Int) ≤ (b : Int) := by omega
  clear h
  go_enter Tryz.func46, Tryz.ntmps46
  go_upto_region 7 with fail
  refine wp_region_last (S := (fun u : World => (Below w.heap.size w u ∧ Rf V Bf Kb Wb Ob s fw u) ∧ (∃ x, Bk u w.heap.size 42 #[.int .i64 5, .int .i64 d, x, .int .i64 (b : Int), .int .i64 i]) ∧ Bk u (w.heap.size + 1) 42 #[.int .i64 0, .int .i64 0, .int .i64 0, .int .i64 0, .int .i64 0])) 11 (by kernel_rfl) ?_ (fun hHeld => ?_)
  · exact ⟨⟨blt HB.out.1 (below_drewN _ _ 1), HR.out.below (below_drewN _ _ 1)⟩, ⟨_, HB.out.2.1.below (below_drewN _ _ 1)⟩, HB.out.2.2.below (below_drewN _ _ 1)⟩
  have hOa := HB.out.2.1.below (below_drewN _ _ 1)
  refine' wpAnyL_take (i := 0) (v := _) ?_ ?_ ?_ ?_ ?_ ?_ ?_ ?_ ?_
  rotate_left 2; (simp only [gA, gB, gC]; rfl); kernel_rfl; kernel_rfl; kernel_rfl; kernel_rfl; exact fun _ _ _ h => h; refine Or.inl ⟨?_, ?_⟩; focus (go_simp; done)
  focus (intro w hSw; obtain ⟨_, ⟨_, hOb⟩, _⟩ := hSw; have c3 := hOb.cell 3; (go_simp <;> with_reducible rfl))
  assumption; (try simp only [Act.put, gD, gE, gF])
  refine' wpAnyL_take (i := 1) (v := _) ?_ ?_ ?_ ?_ ?_ ?_ ?_ ?_ ?_
  rotate_left 2; (simp only [gA, gB, gC]; rfl); kernel_rfl; kernel_rfl; kernel_rfl; kernel_rfl; exact fun _ _ _ h => h; refine Or.inl ⟨?_, ?_⟩; focus (go_simp; done)
  focus (intro w hSw; obtain ⟨_, ⟨_, hOb⟩, _⟩ := hSw; have c3 := hOb.cell 3; (go_simp <;> with_reducible rfl))
  assumption; (try simp only [Act.put, gD, gE, gF])
  refine' wpAnyL_take (i := 4) (v := _) ?_ ?_ ?_ ?_ ?_ ?_ ?_ ?_ ?_
  rotate_left 2; (simp only [gA, gB, gC]; rfl); kernel_rfl; kernel_rfl; kernel_rfl; kernel_rfl; exact fun _ _ _ h => h; refine Or.inl ⟨?_, ?_⟩; focus (go_simp; done)
  focus (intro w hSw; obtain ⟨_, ⟨_, hOb⟩, _⟩ := hSw; have c3 := hOb.cell 3; (go_simp <;> with_reducible rfl))
  assumption; (try simp only [Act.put, gD, gE, gF])
  refine' wpAnyL_take (i := 5) (v := _) ?_ ?_ ?_ ?_ ?_ ?_ ?_ ?_ ?_
  rotate_left 2; (simp only [gA, gB, gC]; rfl); kernel_rfl; kernel_rfl; kernel_rfl; kernel_rfl; exact fun _ _ _ h => h; refine Or.inl ⟨?_, ?_⟩; focus (go_simp; done)
  focus (intro w hSw; obtain ⟨_, ⟨_, hOb⟩, _⟩ := hSw; have c3 := hOb.cell 3; (go_simp <;> with_reducible rfl))
  assumption; (try simp only [Act.put, gD, gE, gF])
  refine' wpAnyL_take (i := 6) (v := _) ?_ ?_ ?_ ?_ ?_ ?_ ?_ ?_ ?_
  rotate_left 2; (simp only [gA, gB, gC]; rfl); kernel_rfl; kernel_rfl; kernel_rfl; kernel_rfl; exact fun _ _ _ h => h; refine Or.inl ⟨?_, ?_⟩; focus (go_simp; done)
  focus (intro w hSw; obtain ⟨_, ⟨_, hOb⟩, _⟩ := hSw; have c3 := hOb.cell 3; (go_simp <;> with_reducible rfl))
  assumption; (try simp only [Act.put, gD, gE, gF])
  refine' wpAnyL_one (i := 2) ?_ ?_ ?_ (fun K hK => ?_)
  rotate_left
  focus kernel_rfl
  focus kernel_rfl
  focus (simp only [gA, gB, gC]; rfl)
  have c2 := hOa.cell 2
  go_simp
  refine hK.out _ _ (hHeld) (fun hHeld => ?_)
  clear hK K
  (try simp only [Act.put, gD, gE, gF])
  clear c2
  refine' wpAnyL_one (i := 3) ?_ ?_ ?_ (fun K hK => ?_)
  rotate_left
  focus kernel_rfl
  focus kernel_rfl
  focus (simp only [gA, gB, gC]; rfl)
  go_simp
  (go_at_call 47; refine (ruse_any V Bf Kb Wb Ob s fw a ha hV hok _ hHeld.1.2).mono ?_; rintro e u1 ⟨rfl, hw1⟩)
  have hb := below_eq hw1
  clear hw1
  refine hK.out _ _ (⟨⟨blt hHeld.1.1 hb, hHeld.1.2.below hb⟩, ⟨_, hHeld.2.1.choose_spec.below hb⟩, hHeld.2.2.below hb⟩) (fun hHeld => ?_)
  clear hK K
  (try simp only [Act.put, gD, gE, gF])
  replace hOa := hOa.below hb
  clear hb
  refine' wpAnyL_take (i := 8) (v := _) ?_ ?_ ?_ ?_ ?_ ?_ ?_ ?_ ?_
  rotate_left 2; (simp only [gA, gB, gC]; rfl); kernel_rfl; kernel_rfl; kernel_rfl; kernel_rfl; exact fun _ _ _ h => h; refine Or.inl ⟨?_, ?_⟩; focus (go_simp; done)
  focus (intro w hSw; obtain ⟨_, ⟨_, hOb⟩, _⟩ := hSw; have c3 := hOb.cell 3; (go_simp <;> with_reducible rfl))
  assumption; (try simp only [Act.put, gD, gE, gF])
  refine' wpAnyL_one (i := 7) ?_ ?_ ?_ (fun K hK => ?_)
  rotate_left
  focus kernel_rfl
  focus kernel_rfl
  focus (simp only [gA, gB, gC]; rfl)
  go_simp
  (go_at_call 47; refine (ruse_any V Bf Kb Wb Ob s fw b hb hV hok _ hHeld.1.2).mono ?_; rintro e u1 ⟨rfl, hw1⟩)
  have hb := below_eq hw1
  clear hw1
  refine hK.out _ _ (⟨⟨blt hHeld.1.1 hb, hHeld.1.2.below hb⟩, ⟨_, hHeld.2.1.choose_spec.below hb⟩, hHeld.2.2.below hb⟩) (fun hHeld => ?_)
  clear hK K
  (try simp only [Act.put, gD, gE, gF])
  replace hOa := hOa.below hb
  clear hb
  refine' wpAnyL_one (i := 9) ?_ ?_ ?_ (fun K hK => ?_)
  rotate_left
  focus kernel_rfl
  focus kernel_rfl
  focus (simp only [gA, gB, gC]; rfl)
  have c2 := hOa.cell 2
  have f2 := hOa.frozen 2
  have hlo := hOa.lt
  go_simp
  refine hK.out _ _ (⟨⟨hHeld.1.1.setCell (p := ⟨w.heap.size, 2, none⟩) (Nat.le_refl _) _, hHeld.1.2.box (p := ⟨w.heap.size, 2, none⟩) (by show Bf ≠ w.heap.size; omega) (by show Kb ≠ w.heap.size; omega) (by show Wb ≠ w.heap.size; omega) (by show Ob ≠ w.heap.size; omega) _⟩, ⟨_, hOa.set 2 _⟩, hHeld.2.2.far (p := ⟨w.heap.size, 2, none⟩) (by show w.heap.size + 1 ≠ w.heap.size; omega) _⟩) (fun hHeld => ?_)
  clear hK K
  (try simp only [Act.put, gD, gE, gF])
  replace hOa := hOa.set 2 (.int .i64 (Fo.use s (a : Int)))
  clear c2 f2 hlo
  refine' wpAnyL_take (i := 10) (v := _) ?_ ?_ ?_ ?_ ?_ ?_ ?_ ?_ ?_
  rotate_left 2; (simp only [gA, gB, gC]; rfl); kernel_rfl; kernel_rfl; kernel_rfl; kernel_rfl; exact fun _ _ _ h => h; refine Or.inl ⟨?_, ?_⟩; focus (go_simp; done)
  focus (intro w hSw; obtain ⟨_, ⟨_, hOb⟩, _⟩ := hSw; have c3 := hOb.cell 3; (go_simp <;> with_reducible rfl))
  assumption; (try simp only [Act.put, gD, gE, gF])
  refine' wpAnyL_last ?_ ?_ (fun K hK => ?_)
  rotate_left
  focus kernel_rfl
  focus (simp only [gA, gB, gC]; rfl)
  have c3 := hOa.cell 3
  have f3 := hOa.frozen 3
  have hlo := hOa.lt
  go_simp
  refine hK.out _ _ ?_
  clear hK K
  (try simp only [Act.put, gD, gE, gF])
  refine wpAny_done (by kernel_rfl) ?_ _
  have HO := Lib.hid (hOa.set 3 (.int .i64 (Fo.use s (b : Int))))
  have HZ := Lib.hid (hHeld.2.2.far (p := ⟨w.heap.size, 3, none⟩) (by show w.heap.size + 1 ≠ w.heap.size; omega) (.int .i64 (Fo.use s (b : Int))))
  have HBl := Lib.hid (show Below w.heap.size w _ from Below.setCell hHeld.1.1 (p := ⟨w.heap.size, 3, none⟩) (Nat.le_refl _) (.int .i64 (Fo.use s (b : Int))))
  have HRr := Lib.hid (hHeld.1.2.box (p := ⟨w.heap.size, 3, none⟩) (by show Bf ≠ w.heap.size; omega) (by show Kb ≠ w.heap.size; omega) (by show Wb ≠ w.heap.size; omega) (by show Ob ≠ w.heap.size; omega) (.int .i64 (Fo.use s (b : Int))))
  generalize hW2 : World.setCell _ ⟨w.heap.size, 3, none⟩ (Value.int .i64 (Fo.use s (b : Int))) = W2 at HO HZ HBl HRr ⊢
  clear hW2 hOa hHeld c3 f3 hlo HB HR
  have HW := Lib.hid fun (n : Nat) => (⟨HRr.out.below (below_drewN _ _ n), HO.out.below (below_drewN _ _ n), HZ.out.below (below_drewN _ _ n), (Mt.of_below (b1 := Kb) (b2 := Wb) (b3 := Ob) HBl.out).trans (Mt.of_below (below_drewN _ _ n))⟩ : _ ∧ _ ∧ _ ∧ _)
  obtain ⟨ua, hua⟩ : ∃ x, Fo.use s (a : Int) = x := ⟨_, rfl⟩
  obtain ⟨ub, hub⟩ : ∃ x, Fo.use s (b : Int) = x := ⟨_, rfl⟩
  have HU := Lib.hid (And.intro hua hub)
  rw [hua, hub] at HO HW
  try rw [hua]
  try rw [hub]
  clear hua hub
  have o0 := HO.out.cell 0
  have o1 := HO.out.cell 1
  have o2 := HO.out.cell 2
  have o3 := HO.out.cell 3
  have o4 := HO.out.cell 4
  have z0 := HZ.out.cell 0
  have y0 := HZ.out.frozen 0
  have z1 := HZ.out.cell 1
  have y1 := HZ.out.frozen 1
  have z2 := HZ.out.cell 2
  have y2 := HZ.out.frozen 2
  have z3 := HZ.out.cell 3
  have y3 := HZ.out.frozen 3
  have z4 := HZ.out.cell 4
  have y4 := HZ.out.frozen 4
  go_wp2
  go_quiet (fail)
  go_wp2
  go_quiet (fail)
  go_wp2
  refine bodyPost_ret (v := .agg #[.int .i64 5, .int .i64 d, .int .i64 ua, .int .i64 ub, .int .i64 i]) ?_ rfl ⟨?_, ?_⟩
  · simp [results, Tryz.results46, go_sem, z0, z1, z2, z3, z4]
  · rw [show Fo.step s ⟨5, d, (a : Int), (b : Int), i⟩ = ⟨5, d, ua, ub, i⟩ by rw [← HU.out.1, ← HU.out.2]; simp [Fo.step, Fo.direct, Fo.const, Fo.result]]; rfl
  · rw [show Fo.learn s (Fo.step s ⟨5, d, (a : Int), (b : Int), i⟩) = s by simp [Fo.step, Fo.direct, Fo.const, Fo.result, Fo.learn]]
    exact rf_fin HL.out (HW.out _).1 (HW.out _).2.2.2 _ _ _ _ _
end Go.Proofs.YtojflhkmonicoaaGreat
