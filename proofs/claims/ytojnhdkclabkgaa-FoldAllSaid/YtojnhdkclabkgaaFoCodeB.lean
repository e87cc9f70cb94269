/- The code of layer 14: an operation with its operands' sources, and as a constant. No condition. -/
import Derived.Test.YtojnhdkclabkgaaFoCodeA
import Derived.Test.YtojnhdkclabkgaaStLast
import Derived.Deep.DeepCutAuto
import Derived.Deep.CutBlock
namespace Go.Proofs.Ytojnhdkclabkgaa
open Go.RowKit Go.Maps
set_option linter.unusedVariables false
set_option linter.unusedSimpArgs false
attribute [local go_sem] y_undef
/-- An operation as a value. -/
def opV (o : Gr.Op) : Value := .agg #[.int .i64 o.kind, .int .i64 o.dst, .int .i64 o.a, .int .i64 o.b, .int .i64 o.imm]
/-- The boxes of a knowledge, an operation and a result. -/
def B3 (w : World) (kc oc zc : Array Value) (u : World) : Prop := Below w.heap.size w u ∧ Bk u w.heap.size 77 kc ∧ Bk u (w.heap.size + 1) 27 oc ∧ Bk u (w.heap.size + 1 + 1) 27 zc
theorem B3.below {w u u' : World} {kc oc zc : Array Value} (h : B3 w kc oc zc u) (hb : Below u.heap.size u u') : B3 w kc oc zc u' := ⟨blt h.1 hb, h.2.1.below hb, h.2.2.1.below hb, h.2.2.2.below hb⟩
theorem b3_new (w : World) (kc oc zc : Array Value) : B3 w kc oc zc (((w.alloc (.cells kc 77)).alloc (.cells oc 27)).alloc (.cells zc 27)) := by
  refine ⟨bla (bla (bla (Below.refl _ _) _) _) _, (Bk.new w _ _).below (bla (bla (Below.refl _ _) _) _), ?_, ?_⟩
  · have := (Bk.new (w.alloc (.cells kc 77)) 27 oc).below (bla (Below.refl _ _) (.cells zc 27))
    rw [size_alloc] at this
    exact this
  · have := Bk.new ((w.alloc (.cells kc 77)).alloc (.cells oc 27)) 27 zc
    rw [size_alloc, size_alloc] at this
    exact this
set_option maxHeartbeats 4000000 in
theorem constant_any (s : Fo.S) (B1 B2 n : Nat) (kd d a b i : Int) (w : World) (hk : Kn w B1 B2 n s) (ha : Wf a) (hb : Wf b) :
    Calls Try.prog 42 #[.agg #[.map (some B1), .map (some B2)], .agg #[.int .i64 kd, .int .i64 d, .int .i64 a, .int .i64 b, .int .i64 i]] w fun e w' => e = .returned (opV (Fo.const s ⟨kd, d, a, b, i⟩)) ∧ Below w.heap.size w w' := by
  have HB := Lib.hid (b3_new w #[.map (some B1), .map (some B2)] #[.int .i64 kd, .int .i64 d, .int .i64 a, .int .i64 b, .int .i64 i] #[.int .i64 0, .int .i64 0, .int .i64 0, .int .i64 0, .int .i64 0])
  have HR := Lib.hid (result_any s B1 B2 n kd d a b i _ (hk.below HB.out.1) ha hb)
  clear hk ha hb
  go_enter Try.func42, Try.ntmps42
  go_wp2_with fail
  refine HR.out.mono ?_
  rintro e w1 ⟨m, k, rfl, hkk, hm, hb1⟩
  have HB1 := Lib.hid (HB.out.below hb1)
  have HKK := Lib.hid hkk
  have HM := Lib.hid hm
  have o0 := HB1.out.2.2.1.cell 0
  have o1 := HB1.out.2.2.1.cell 1
  have o2 := HB1.out.2.2.1.cell 2
  have o3 := HB1.out.2.2.1.cell 3
  have o4 := HB1.out.2.2.1.cell 4
  have z0 := HB1.out.2.2.2.cell 0
  have z1 := HB1.out.2.2.2.cell 1
  have z2 := HB1.out.2.2.2.cell 2
  have z3 := HB1.out.2.2.2.cell 3
  have z4 := HB1.out.2.2.2.cell 4
  have y0 := HB1.out.2.2.2.frozen 0
  have y1 := HB1.out.2.2.2.frozen 1
  have y2 := HB1.out.2.2.2.frozen 2
  have y3 := HB1.out.2.2.2.frozen 3
  have y4 := HB1.out.2.2.2.frozen 4
  have hbe : w.heap.size ≤ w.heap.size + 1 + 1 := by omega
  clear hb1 hkk hm
  cases k with
  | true =>
    have HC := Lib.hid (show Fo.const s ⟨kd, d, a, b, i⟩ = ⟨1, d, 0, 0, m⟩ by
      obtain ⟨x, hx⟩ := Option.isSome_iff_exists.1 HKK.out.symm
      unfold Fo.const
      rw [hx, HM.out x hx])
    go_wp2
    refine bodyPost_ret (v := .agg #[.int .i64 1, .int .i64 d, .int .i64 0, .int .i64 0, .int .i64 m]) ?_ rfl ⟨by rw [HC.out]; rfl, ?_⟩
    · simp [results, Try.results42, go_sem, z0, z1, z2, z3, z4]
    · exact ((((HB1.out.1.setCell hbe _).setCell hbe _).setCell hbe _).setCell hbe _).setCell hbe _
  | false =>
    have HC := Lib.hid (show Fo.const s ⟨kd, d, a, b, i⟩ = ⟨kd, d, a, b, i⟩ by
      have hn : Fo.result s ⟨kd, d, a, b, i⟩ = none := by
        cases hx : Fo.result s ⟨kd, d, a, b, i⟩ with
        | none => rfl
        | some x => have := HKK.out; rw [hx] at this; cases this
      unfold Fo.const
      rw [hn])
    go_wp2
    refine bodyPost_ret (v := .agg #[.int .i64 kd, .int .i64 d, .int .i64 a, .int .i64 b, .int .i64 i]) ?_ rfl ⟨by rw [HC.out]; rfl, ?_⟩
    · simp [results, Try.results42, go_sem, z0, z1, z2, z3, z4]
    · exact ((((HB1.out.1.setCell hbe _).setCell hbe _).setCell hbe _).setCell hbe _).setCell hbe _
theorem kn_set {u : World} {B1 B2 n g o : Nat} {s : Fo.S} (h : Kn u B1 B2 n s) (hg : B1 < g ∧ B2 < g) (v : Value) : Kn (u.setCell ⟨g, o, none⟩ v) B1 B2 n s :=
  ⟨h.1.kept (Below.heap_setCell u ⟨g, o, none⟩ v B1 (by show B1 ≠ g; omega)), h.2.kept (Below.heap_setCell u ⟨g, o, none⟩ v B2 (by show B2 ≠ g; omega))⟩
set_option maxHeartbeats 8000000 in
theorem direct_3 (s : Fo.S) (B1 B2 n : Nat) (d a b i : Int) (w : World) (hk : Kn w B1 B2 n s) (ha : Wf a) (hb : Wf b) :
    Calls Try.prog 43 #[.agg #[.map (some B1), .map (some B2)], .agg #[.int .i64 3, .int .i64 d, .int .i64 a, .int .i64 b, .int .i64 i]] w fun e w' => e = .returned (opV (Fo.direct s ⟨3, d, a, b, i⟩)) ∧ Below w.heap.size w w' := by
  have HB := Lib.hid (b3_new w #[.map (some B1), .map (some B2)] #[.int .i64 3, .int .i64 d, .int .i64 a, .int .i64 b, .int .i64 i] #[.int .i64 0, .int .i64 0, .int .i64 0, .int .i64 0, .int .i64 0])
  have HKn := Lib.hid (hk.below HB.out.1)
  have hOlt : B1 < w.heap.size + 1 ∧ B2 < w.heap.size + 1 := ⟨Nat.lt_succ_of_lt hk.1.lt, Nat.lt_succ_of_lt hk.2.lt⟩
  have HVa := Lib.hid ha
  have HVb := Lib.hid hb
  clear hk ha hb
  go_enter Try.func43, Try.ntmps43
  go_upto_region 4 with fail
  refine wp_region_last (S := (fun u : World => (Below w.heap.size w u ∧ Kn u B1 B2 n s) ∧ Bk u w.heap.size 77 #[.map (some B1), .map (some B2)] ∧ (∃ x, Bk u (w.heap.size + 1) 27 #[.int .i64 3, .int .i64 d, x, .int .i64 b, .int .i64 i]) ∧ Bk u (w.heap.size + 1 + 1) 27 #[.int .i64 0, .int .i64 0, .int .i64 0, .int .i64 0, .int .i64 0])) 11 (by kernel_rfl) ?_ (fun hHeld => ?_)
  · exact ⟨⟨blt HB.out.1 (below_drewN _ _ 1), HKn.out.below (below_drewN _ _ 1)⟩, HB.out.2.1.below (below_drewN _ _ 1), ⟨_, HB.out.2.2.1.below (below_drewN _ _ 1)⟩, HB.out.2.2.2.below (below_drewN _ _ 1)⟩
  have hOa := HB.out.2.2.1.below (below_drewN _ _ 1)
  refine' wpAnyL_take (i := 0) (v := _) ?_ ?_ ?_ ?_ ?_ ?_ ?_ ?_ ?_
  rotate_left 2
  focus (simp only [List.getElem?_toArray, List.getElem?_cons_succ, List.getElem?_cons_zero]; rfl)
  focus kernel_rfl
  focus kernel_rfl
  focus kernel_rfl
  focus kernel_rfl
  focus exact (fun _ _ _ h => h)
  refine Or.inl ⟨?_, ?_⟩
  focus (go_simp; done)
  focus (intro w hSw; obtain ⟨_, hKb, ⟨_, hOb⟩, _⟩ := hSw; have m0 := hKb.cell 0; have m1 := hKb.cell 1; have c3 := hOb.cell 3; (first | (go_simp; done) | (go_simp; with_reducible rfl)))
  focus assumption
  (try simp only [Act.put, List.setIfInBounds_toArray, List.set_cons_zero, List.set_cons_succ])
  refine' wpAnyL_take (i := 1) (v := _) ?_ ?_ ?_ ?_ ?_ ?_ ?_ ?_ ?_
  rotate_left 2
  focus (simp only [List.getElem?_toArray, List.getElem?_cons_succ, List.getElem?_cons_zero]; rfl)
  focus kernel_rfl
  focus kernel_rfl
  focus kernel_rfl
  focus kernel_rfl
  focus exact (fun _ _ _ h => h)
  refine Or.inl ⟨?_, ?_⟩
  focus (go_simp; done)
  focus (intro w hSw; obtain ⟨_, hKb, ⟨_, hOb⟩, _⟩ := hSw; have m0 := hKb.cell 0; have m1 := hKb.cell 1; have c3 := hOb.cell 3; (first | (go_simp; done) | (go_simp; with_reducible rfl)))
  focus assumption
  (try simp only [Act.put, List.setIfInBounds_toArray, List.set_cons_zero, List.set_cons_succ])
  refine' wpAnyL_take (i := 4) (v := _) ?_ ?_ ?_ ?_ ?_ ?_ ?_ ?_ ?_
  rotate_left 2
  focus (simp only [List.getElem?_toArray, List.getElem?_cons_succ, List.getElem?_cons_zero]; rfl)
  focus kernel_rfl
  focus kernel_rfl
  focus kernel_rfl
  focus kernel_rfl
  focus exact (fun _ _ _ h => h)
  refine Or.inl ⟨?_, ?_⟩
  focus (go_simp; done)
  focus (intro w hSw; obtain ⟨_, hKb, ⟨_, hOb⟩, _⟩ := hSw; have m0 := hKb.cell 0; have m1 := hKb.cell 1; have c3 := hOb.cell 3; (first | (go_simp; done) | (go_simp; with_reducible rfl)))
  focus assumption
  (try simp only [Act.put, List.setIfInBounds_toArray, List.set_cons_zero, List.set_cons_succ])
  refine' wpAnyL_take (i := 5) (v := _) ?_ ?_ ?_ ?_ ?_ ?_ ?_ ?_ ?_
  rotate_left 2
  focus (simp only [List.getElem?_toArray, List.getElem?_cons_succ, List.getElem?_cons_zero]; rfl)
  focus kernel_rfl
  focus kernel_rfl
  focus kernel_rfl
  focus kernel_rfl
  focus exact (fun _ _ _ h => h)
  refine Or.inl ⟨?_, ?_⟩
  focus (go_simp; done)
  focus (intro w hSw; obtain ⟨_, hKb, ⟨_, hOb⟩, _⟩ := hSw; have m0 := hKb.cell 0; have m1 := hKb.cell 1; have c3 := hOb.cell 3; (first | (go_simp; done) | (go_simp; with_reducible rfl)))
  focus assumption
  (try simp only [Act.put, List.setIfInBounds_toArray, List.set_cons_zero, List.set_cons_succ])
  refine' wpAnyL_take (i := 6) (v := _) ?_ ?_ ?_ ?_ ?_ ?_ ?_ ?_ ?_
  rotate_left 2
  focus (simp only [List.getElem?_toArray, List.getElem?_cons_succ, List.getElem?_cons_zero]; rfl)
  focus kernel_rfl
  focus kernel_rfl
  focus kernel_rfl
  focus kernel_rfl
  focus exact (fun _ _ _ h => h)
  refine Or.inl ⟨?_, ?_⟩
  focus (go_simp; done)
  focus (intro w hSw; obtain ⟨_, hKb, ⟨_, hOb⟩, _⟩ := hSw; have m0 := hKb.cell 0; have m1 := hKb.cell 1; have c3 := hOb.cell 3; (first | (go_simp; done) | (go_simp; with_reducible rfl)))
  focus assumption
  (try simp only [Act.put, List.setIfInBounds_toArray, List.set_cons_zero, List.set_cons_succ])
  refine' wpAnyL_one (i := 2) ?_ ?_ ?_ (fun K hK => ?_)
  rotate_left
  focus kernel_rfl
  focus kernel_rfl
  focus (simp only [List.getElem?_toArray, List.getElem?_cons_succ, List.getElem?_cons_zero]; rfl)
  have c2 := hOa.cell 2
  go_simp
  refine hK.out _ _ (hHeld) (fun hHeld => ?_)
  clear hK K
  (try simp only [Act.put, List.setIfInBounds_toArray, List.set_cons_zero, List.set_cons_succ])
  clear c2
  refine' wpAnyL_one (i := 3) ?_ ?_ ?_ (fun K hK => ?_)
  rotate_left
  focus kernel_rfl
  focus kernel_rfl
  focus (simp only [List.getElem?_toArray, List.getElem?_cons_succ, List.getElem?_cons_zero]; rfl)
  go_simp
  (go_at_call 89; refine (source_any s B1 B2 n a _ rfl _ hHeld.1.2 HVa.out).mono ?_; rintro e u1 ⟨rfl, hb⟩)
  refine hK.out _ _ (⟨⟨blt hHeld.1.1 hb, hHeld.1.2.below hb⟩, hHeld.2.1.below hb, ⟨_, hHeld.2.2.1.choose_spec.below hb⟩, hHeld.2.2.2.below hb⟩) (fun hHeld => ?_)
  clear hK K
  (try simp only [Act.put, List.setIfInBounds_toArray, List.set_cons_zero, List.set_cons_succ])
  replace hOa := hOa.below hb
  clear hb
  refine' wpAnyL_take (i := 8) (v := _) ?_ ?_ ?_ ?_ ?_ ?_ ?_ ?_ ?_
  rotate_left 2
  focus (simp only [List.getElem?_toArray, List.getElem?_cons_succ, List.getElem?_cons_zero]; rfl)
  focus kernel_rfl
  focus kernel_rfl
  focus kernel_rfl
  focus kernel_rfl
  focus exact (fun _ _ _ h => h)
  refine Or.inl ⟨?_, ?_⟩
  focus (go_simp; done)
  focus (intro w hSw; obtain ⟨_, hKb, ⟨_, hOb⟩, _⟩ := hSw; have m0 := hKb.cell 0; have m1 := hKb.cell 1; have c3 := hOb.cell 3; (first | (go_simp; done) | (go_simp; with_reducible rfl)))
  focus assumption
  (try simp only [Act.put, List.setIfInBounds_toArray, List.set_cons_zero, List.set_cons_succ])
  refine' wpAnyL_one (i := 7) ?_ ?_ ?_ (fun K hK => ?_)
  rotate_left
  focus kernel_rfl
  focus kernel_rfl
  focus (simp only [List.getElem?_toArray, List.getElem?_cons_succ, List.getElem?_cons_zero]; rfl)
  go_simp
  (go_at_call 89; refine (source_any s B1 B2 n b _ rfl _ hHeld.1.2 HVb.out).mono ?_; rintro e u1 ⟨rfl, hb⟩)
  refine hK.out _ _ (⟨⟨blt hHeld.1.1 hb, hHeld.1.2.below hb⟩, hHeld.2.1.below hb, ⟨_, hHeld.2.2.1.choose_spec.below hb⟩, hHeld.2.2.2.below hb⟩) (fun hHeld => ?_)
  clear hK K
  (try simp only [Act.put, List.setIfInBounds_toArray, List.set_cons_zero, List.set_cons_succ])
  replace hOa := hOa.below hb
  clear hb
  refine' wpAnyL_one (i := 9) ?_ ?_ ?_ (fun K hK => ?_)
  rotate_left
  focus kernel_rfl
  focus kernel_rfl
  focus (simp only [List.getElem?_toArray, List.getElem?_cons_succ, List.getElem?_cons_zero]; rfl)
  have c2 := hOa.cell 2
  have f2 := hOa.frozen 2
  have hlo := hOa.lt
  go_simp
  refine hK.out _ _ (⟨⟨hHeld.1.1.setCell (by show w.heap.size ≤ w.heap.size + 1; omega) _, kn_set hHeld.1.2 hOlt _⟩, hHeld.2.1.far (by show w.heap.size ≠ w.heap.size + 1; omega) _, ⟨_, hOa.set 2 _⟩, hHeld.2.2.2.far (by show w.heap.size + 1 + 1 ≠ w.heap.size + 1; omega) _⟩) (fun hHeld => ?_)
  clear hK K
  (try simp only [Act.put, List.setIfInBounds_toArray, List.set_cons_zero, List.set_cons_succ])
  replace hOa := hOa.set 2 (.int .i64 (Fo.use s a))
  clear c2 f2 hlo
  refine' wpAnyL_take (i := 10) (v := _) ?_ ?_ ?_ ?_ ?_ ?_ ?_ ?_ ?_
  rotate_left 2
  focus (simp only [List.getElem?_toArray, List.getElem?_cons_succ, List.getElem?_cons_zero]; rfl)
  focus kernel_rfl
  focus kernel_rfl
  focus kernel_rfl
  focus kernel_rfl
  focus exact (fun _ _ _ h => h)
  refine Or.inl ⟨?_, ?_⟩
  focus (go_simp; done)
  focus (intro w hSw; obtain ⟨_, hKb, ⟨_, hOb⟩, _⟩ := hSw; have m0 := hKb.cell 0; have m1 := hKb.cell 1; have c3 := hOb.cell 3; (first | (go_simp; done) | (go_simp; with_reducible rfl)))
  focus assumption
  (try simp only [Act.put, List.setIfInBounds_toArray, List.set_cons_zero, List.set_cons_succ])
  refine' wpAnyL_last ?_ ?_ (fun K hK => ?_)
  rotate_left
  focus kernel_rfl
  focus (simp only [List.getElem?_toArray, List.getElem?_cons_succ, List.getElem?_cons_zero]; rfl)
  have c3 := hOa.cell 3
  have f3 := hOa.frozen 3
  have hlo := hOa.lt
  go_simp
  refine hK.out _ _ ?_
  clear hK K
  (try simp only [Act.put, List.setIfInBounds_toArray, List.set_cons_zero, List.set_cons_succ])
  refine wpAny_done (by kernel_rfl) ?_ _
  have hOf := hOa.set 3 (.int .i64 (Fo.use s b))
  have hZf := hHeld.2.2.2.far (p := ⟨w.heap.size + 1, 3, none⟩) (by show w.heap.size + 1 + 1 ≠ w.heap.size + 1; omega) (.int .i64 (Fo.use s b))
  have hBf : Below w.heap.size w _ := Below.setCell hHeld.1.1 (p := ⟨w.heap.size + 1, 3, none⟩) (by show w.heap.size ≤ w.heap.size + 1; omega) (.int .i64 (Fo.use s b))
  generalize hW2 : World.setCell _ ⟨w.heap.size + 1, 3, none⟩ (Value.int .i64 (Fo.use s b)) = W2 at hOf hZf hBf ⊢
  clear hW2 hOa hHeld c3 f3 hlo
  have HBf := Lib.hid hBf
  have o0 := hOf.cell 0
  have o1 := hOf.cell 1
  have o2 := hOf.cell 2
  have o3 := hOf.cell 3
  have o4 := hOf.cell 4
  have z0 := hZf.cell 0
  have z1 := hZf.cell 1
  have z2 := hZf.cell 2
  have z3 := hZf.cell 3
  have z4 := hZf.cell 4
  have y0 := hZf.frozen 0
  have y1 := hZf.frozen 1
  have y2 := hZf.frozen 2
  have y3 := hZf.frozen 3
  have y4 := hZf.frozen 4
  have hbe : w.heap.size ≤ w.heap.size + 1 + 1 := by omega
  clear hBf hOf hZf
  go_wp2
  refine bodyPost_ret (v := .agg #[.int .i64 3, .int .i64 d, .int .i64 (Fo.use s a), .int .i64 (Fo.use s b), .int .i64 i]) ?_ rfl ⟨rfl, ?_⟩
  · simp [results, Try.results43, go_sem, z0, z1, z2, z3, z4]
  · exact ((((HBf.out.setCell hbe _).setCell hbe _).setCell hbe _).setCell hbe _).setCell hbe _
set_option maxHeartbeats 8000000 in
theorem direct_5 (s : Fo.S) (B1 B2 n : Nat) (d a b i : Int) (w : World) (hk : Kn w B1 B2 n s) (ha : Wf a) (hb : Wf b) :
    Calls Try.prog 43 #[.agg #[.map (some B1), .map (some B2)], .agg #[.int .i64 5, .int .i64 d, .int .i64 a, .int .i64 b, .int .i64 i]] w fun e w' => e = .returned (opV (Fo.direct s ⟨5, d, a, b, i⟩)) ∧ Below w.heap.size w w' := by
  have HB := Lib.hid (b3_new w #[.map (some B1), .map (some B2)] #[.int .i64 5, .int .i64 d, .int .i64 a, .int .i64 b, .int .i64 i] #[.int .i64 0, .int .i64 0, .int .i64 0, .int .i64 0, .int .i64 0])
  have HKn := Lib.hid (hk.below HB.out.1)
  have hOlt : B1 < w.heap.size + 1 ∧ B2 < w.heap.size + 1 := ⟨Nat.lt_succ_of_lt hk.1.lt, Nat.lt_succ_of_lt hk.2.lt⟩
  have HVa := Lib.hid ha
  have HVb := Lib.hid hb
  clear hk ha hb
  go_enter Try.func43, Try.ntmps43
  go_upto_region 4 with fail
  refine wp_region_last (S := (fun u : World => (Below w.heap.size w u ∧ Kn u B1 B2 n s) ∧ Bk u w.heap.size 77 #[.map (some B1), .map (some B2)] ∧ (∃ x, Bk u (w.heap.size + 1) 27 #[.int .i64 5, .int .i64 d, x, .int .i64 b, .int .i64 i]) ∧ Bk u (w.heap.size + 1 + 1) 27 #[.int .i64 0, .int .i64 0, .int .i64 0, .int .i64 0, .int .i64 0])) 11 (by kernel_rfl) ?_ (fun hHeld => ?_)
  · exact ⟨⟨blt HB.out.1 (below_drewN _ _ 1), HKn.out.below (below_drewN _ _ 1)⟩, HB.out.2.1.below (below_drewN _ _ 1), ⟨_, HB.out.2.2.1.below (below_drewN _ _ 1)⟩, HB.out.2.2.2.below (below_drewN _ _ 1)⟩
  have hOa := HB.out.2.2.1.below (below_drewN _ _ 1)
  refine' wpAnyL_take (i := 0) (v := _) ?_ ?_ ?_ ?_ ?_ ?_ ?_ ?_ ?_
  rotate_left 2
  focus (simp only [List.getElem?_toArray, List.getElem?_cons_succ, List.getElem?_cons_zero]; rfl)
  focus kernel_rfl
  focus kernel_rfl
  focus kernel_rfl
  focus kernel_rfl
  focus exact (fun _ _ _ h => h)
  refine Or.inl ⟨?_, ?_⟩
  focus (go_simp; done)
  focus (intro w hSw; obtain ⟨_, hKb, ⟨_, hOb⟩, _⟩ := hSw; have m0 := hKb.cell 0; have m1 := hKb.cell 1; have c3 := hOb.cell 3; (first | (go_simp; done) | (go_simp; with_reducible rfl)))
  focus assumption
  (try simp only [Act.put, List.setIfInBounds_toArray, List.set_cons_zero, List.set_cons_succ])
  refine' wpAnyL_take (i := 1) (v := _) ?_ ?_ ?_ ?_ ?_ ?_ ?_ ?_ ?_
  rotate_left 2
  focus (simp only [List.getElem?_toArray, List.getElem?_cons_succ, List.getElem?_cons_zero]; rfl)
  focus kernel_rfl
  focus kernel_rfl
  focus kernel_rfl
  focus kernel_rfl
  focus exact (fun _ _ _ h => h)
  refine Or.inl ⟨?_, ?_⟩
  focus (go_simp; done)
  focus (intro w hSw; obtain ⟨_, hKb, ⟨_, hOb⟩, _⟩ := hSw; have m0 := hKb.cell 0; have m1 := hKb.cell 1; have c3 := hOb.cell 3; (first | (go_simp; done) | (go_simp; with_reducible rfl)))
  focus assumption
  (try simp only [Act.put, List.setIfInBounds_toArray, List.set_cons_zero, List.set_cons_succ])
  refine' wpAnyL_take (i := 4) (v := _) ?_ ?_ ?_ ?_ ?_ ?_ ?_ ?_ ?_
  rotate_left 2
  focus (simp only [List.getElem?_toArray, List.getElem?_cons_succ, List.getElem?_cons_zero]; rfl)
  focus kernel_rfl
  focus kernel_rfl
  focus kernel_rfl
  focus kernel_rfl
  focus exact (fun _ _ _ h => h)
  refine Or.inl ⟨?_, ?_⟩
  focus (go_simp; done)
  focus (intro w hSw; obtain ⟨_, hKb, ⟨_, hOb⟩, _⟩ := hSw; have m0 := hKb.cell 0; have m1 := hKb.cell 1; have c3 := hOb.cell 3; (first | (go_simp; done) | (go_simp; with_reducible rfl)))
  focus assumption
  (try simp only [Act.put, List.setIfInBounds_toArray, List.set_cons_zero, List.set_cons_succ])
  refine' wpAnyL_take (i := 5) (v := _) ?_ ?_ ?_ ?_ ?_ ?_ ?_ ?_ ?_
  rotate_left 2
  focus (simp only [List.getElem?_toArray, List.getElem?_cons_succ, List.getElem?_cons_zero]; rfl)
  focus kernel_rfl
  focus kernel_rfl
  focus kernel_rfl
  focus kernel_rfl
  focus exact (fun _ _ _ h => h)
  refine Or.inl ⟨?_, ?_⟩
  focus (go_simp; done)
  focus (intro w hSw; obtain ⟨_, hKb, ⟨_, hOb⟩, _⟩ := hSw; have m0 := hKb.cell 0; have m1 := hKb.cell 1; have c3 := hOb.cell 3; (first | (go_simp; done) | (go_simp; with_reducible rfl)))
  focus assumption
  (try simp only [Act.put, List.setIfInBounds_toArray, List.set_cons_zero, List.set_cons_succ])
  refine' wpAnyL_take (i := 6) (v := _) ?_ ?_ ?_ ?_ ?_ ?_ ?_ ?_ ?_
  rotate_left 2
  focus (simp only [List.getElem?_toArray, List.getElem?_cons_succ, List.getElem?_cons_zero]; rfl)
  focus kernel_rfl
  focus kernel_rfl
  focus kernel_rfl
  focus kernel_rfl
  focus exact (fun _ _ _ h => h)
  refine Or.inl ⟨?_, ?_⟩
  focus (go_simp; done)
  focus (intro w hSw; obtain ⟨_, hKb, ⟨_, hOb⟩, _⟩ := hSw; have m0 := hKb.cell 0; have m1 := hKb.cell 1; have c3 := hOb.cell 3; (first | (go_simp; done) | (go_simp; with_reducible rfl)))
  focus assumption
  (try simp only [Act.put, List.setIfInBounds_toArray, List.set_cons_zero, List.set_cons_succ])
  refine' wpAnyL_one (i := 2) ?_ ?_ ?_ (fun K hK => ?_)
  rotate_left
  focus kernel_rfl
  focus kernel_rfl
  focus (simp only [List.getElem?_toArray, List.getElem?_cons_succ, List.getElem?_cons_zero]; rfl)
  have c2 := hOa.cell 2
  go_simp
  refine hK.out _ _ (hHeld) (fun hHeld => ?_)
  clear hK K
  (try simp only [Act.put, List.setIfInBounds_toArray, List.set_cons_zero, List.set_cons_succ])
  clear c2
  refine' wpAnyL_one (i := 3) ?_ ?_ ?_ (fun K hK => ?_)
  rotate_left
  focus kernel_rfl
  focus kernel_rfl
  focus (simp only [List.getElem?_toArray, List.getElem?_cons_succ, List.getElem?_cons_zero]; rfl)
  go_simp
  (go_at_call 89; refine (source_any s B1 B2 n a _ rfl _ hHeld.1.2 HVa.out).mono ?_; rintro e u1 ⟨rfl, hb⟩)
  refine hK.out _ _ (⟨⟨blt hHeld.1.1 hb, hHeld.1.2.below hb⟩, hHeld.2.1.below hb, ⟨_, hHeld.2.2.1.choose_spec.below hb⟩, hHeld.2.2.2.below hb⟩) (fun hHeld => ?_)
  clear hK K
  (try simp only [Act.put, List.setIfInBounds_toArray, List.set_cons_zero, List.set_cons_succ])
  replace hOa := hOa.below hb
  clear hb
  refine' wpAnyL_take (i := 8) (v := _) ?_ ?_ ?_ ?_ ?_ ?_ ?_ ?_ ?_
  rotate_left 2
  focus (simp only [List.getElem?_toArray, List.getElem?_cons_succ, List.getElem?_cons_zero]; rfl)
  focus kernel_rfl
  focus kernel_rfl
  focus kernel_rfl
  focus kernel_rfl
  focus exact (fun _ _ _ h => h)
  refine Or.inl ⟨?_, ?_⟩
  focus (go_simp; done)
  focus (intro w hSw; obtain ⟨_, hKb, ⟨_, hOb⟩, _⟩ := hSw; have m0 := hKb.cell 0; have m1 := hKb.cell 1; have c3 := hOb.cell 3; (first | (go_simp; done) | (go_simp; with_reducible rfl)))
  focus assumption
  (try simp only [Act.put, List.setIfInBounds_toArray, List.set_cons_zero, List.set_cons_succ])
  refine' wpAnyL_one (i := 7) ?_ ?_ ?_ (fun K hK => ?_)
  rotate_left
  focus kernel_rfl
  focus kernel_rfl
  focus (simp only [List.getElem?_toArray, List.getElem?_cons_succ, List.getElem?_cons_zero]; rfl)
  go_simp
  (go_at_call 89; refine (source_any s B1 B2 n b _ rfl _ hHeld.1.2 HVb.out).mono ?_; rintro e u1 ⟨rfl, hb⟩)
  refine hK.out _ _ (⟨⟨blt hHeld.1.1 hb, hHeld.1.2.below hb⟩, hHeld.2.1.below hb, ⟨_, hHeld.2.2.1.choose_spec.below hb⟩, hHeld.2.2.2.below hb⟩) (fun hHeld => ?_)
  clear hK K
  (try simp only [Act.put, List.setIfInBounds_toArray, List.set_cons_zero, List.set_cons_succ])
  replace hOa := hOa.below hb
  clear hb
  refine' wpAnyL_one (i := 9) ?_ ?_ ?_ (fun K hK => ?_)
  rotate_left
  focus kernel_rfl
  focus kernel_rfl
  focus (simp only [List.getElem?_toArray, List.getElem?_cons_succ, List.getElem?_cons_zero]; rfl)
  have c2 := hOa.cell 2
  have f2 := hOa.frozen 2
  have hlo := hOa.lt
  go_simp
  refine hK.out _ _ (⟨⟨hHeld.1.1.setCell (by show w.heap.size ≤ w.heap.size + 1; omega) _, kn_set hHeld.1.2 hOlt _⟩, hHeld.2.1.far (by show w.heap.size ≠ w.heap.size + 1; omega) _, ⟨_, hOa.set 2 _⟩, hHeld.2.2.2.far (by show w.heap.size + 1 + 1 ≠ w.heap.size + 1; omega) _⟩) (fun hHeld => ?_)
  clear hK K
  (try simp only [Act.put, List.setIfInBounds_toArray, List.set_cons_zero, List.set_cons_succ])
  replace hOa := hOa.set 2 (.int .i64 (Fo.use s a))
  clear c2 f2 hlo
  refine' wpAnyL_take (i := 10) (v := _) ?_ ?_ ?_ ?_ ?_ ?_ ?_ ?_ ?_
  rotate_left 2
  focus (simp only [List.getElem?_toArray, List.getElem?_cons_succ, List.getElem?_cons_zero]; rfl)
  focus kernel_rfl
  focus kernel_rfl
  focus kernel_rfl
  focus kernel_rfl
  focus exact (fun _ _ _ h => h)
  refine Or.inl ⟨?_, ?_⟩
  focus (go_simp; done)
  focus (intro w hSw; obtain ⟨_, hKb, ⟨_, hOb⟩, _⟩ := hSw; have m0 := hKb.cell 0; have m1 := hKb.cell 1; have c3 := hOb.cell 3; (first | (go_simp; done) | (go_simp; with_reducible rfl)))
  focus assumption
  (try simp only [Act.put, List.setIfInBounds_toArray, List.set_cons_zero, List.set_cons_succ])
  refine' wpAnyL_last ?_ ?_ (fun K hK => ?_)
  rotate_left
  focus kernel_rfl
  focus (simp only [List.getElem?_toArray, List.getElem?_cons_succ, List.getElem?_cons_zero]; rfl)
  have c3 := hOa.cell 3
  have f3 := hOa.frozen 3
  have hlo := hOa.lt
  go_simp
  refine hK.out _ _ ?_
  clear hK K
  (try simp only [Act.put, List.setIfInBounds_toArray, List.set_cons_zero, List.set_cons_succ])
  refine wpAny_done (by kernel_rfl) ?_ _
  have hOf := hOa.set 3 (.int .i64 (Fo.use s b))
  have hZf := hHeld.2.2.2.far (p := ⟨w.heap.size + 1, 3, none⟩) (by show w.heap.size + 1 + 1 ≠ w.heap.size + 1; omega) (.int .i64 (Fo.use s b))
  have hBf : Below w.heap.size w _ := Below.setCell hHeld.1.1 (p := ⟨w.heap.size + 1, 3, none⟩) (by show w.heap.size ≤ w.heap.size + 1; omega) (.int .i64 (Fo.use s b))
  generalize hW2 : World.setCell _ ⟨w.heap.size + 1, 3, none⟩ (Value.int .i64 (Fo.use s b)) = W2 at hOf hZf hBf ⊢
  clear hW2 hOa hHeld c3 f3 hlo
  have HBf := Lib.hid hBf
  have o0 := hOf.cell 0
  have o1 := hOf.cell 1
  have o2 := hOf.cell 2
  have o3 := hOf.cell 3
  have o4 := hOf.cell 4
  have z0 := hZf.cell 0
  have z1 := hZf.cell 1
  have z2 := hZf.cell 2
  have z3 := hZf.cell 3
  have z4 := hZf.cell 4
  have y0 := hZf.frozen 0
  have y1 := hZf.frozen 1
  have y2 := hZf.frozen 2
  have y3 := hZf.frozen 3
  have y4 := hZf.frozen 4
  have hbe : w.heap.size ≤ w.heap.size + 1 + 1 := by omega
  clear hBf hOf hZf
  go_wp2
  refine bodyPost_ret (v := .agg #[.int .i64 5, .int .i64 d, .int .i64 (Fo.use s a), .int .i64 (Fo.use s b), .int .i64 i]) ?_ rfl ⟨rfl, ?_⟩
  · simp [results, Try.results43, go_sem, z0, z1, z2, z3, z4]
  · exact ((((HBf.out.setCell hbe _).setCell hbe _).setCell hbe _).setCell hbe _).setCell hbe _
set_option maxHeartbeats 8000000 in
theorem direct_2 (s : Fo.S) (B1 B2 n : Nat) (d a b i : Int) (w : World) (hk : Kn w B1 B2 n s) (ha : Wf a) :
    Calls Try.prog 43 #[.agg #[.map (some B1), .map (some B2)], .agg #[.int .i64 2, .int .i64 d, .int .i64 a, .int .i64 b, .int .i64 i]] w fun e w' => e = .returned (opV (Fo.direct s ⟨2, d, a, b, i⟩)) ∧ Below w.heap.size w w' := by
  have HB := Lib.hid (b3_new w #[.map (some B1), .map (some B2)] #[.int .i64 2, .int .i64 d, .int .i64 a, .int .i64 b, .int .i64 i] #[.int .i64 0, .int .i64 0, .int .i64 0, .int .i64 0, .int .i64 0])
  have HKn := Lib.hid (hk.below HB.out.1)
  have HVa := Lib.hid ha
  clear hk ha
  go_enter Try.func43, Try.ntmps43
  go_wp2_with fail
  refine (source_any s B1 B2 n a _ rfl _ HKn.out HVa.out).mono ?_
  rintro e w1 ⟨rfl, hb1⟩
  have HB1 := Lib.hid (HB.out.below hb1)
  have hO1 := HB1.out.2.2.1
  have o0 := hO1.cell 0
  have o1 := hO1.cell 1
  have o2 := hO1.cell 2
  have o3 := hO1.cell 3
  have o4 := hO1.cell 4
  have f2 := hO1.frozen 2
  have hlo := hO1.lt
  have z0 := HB1.out.2.2.2.cell 0
  have z1 := HB1.out.2.2.2.cell 1
  have z2 := HB1.out.2.2.2.cell 2
  have z3 := HB1.out.2.2.2.cell 3
  have z4 := HB1.out.2.2.2.cell 4
  have y0 := HB1.out.2.2.2.frozen 0
  have y1 := HB1.out.2.2.2.frozen 1
  have y2 := HB1.out.2.2.2.frozen 2
  have y3 := HB1.out.2.2.2.frozen 3
  have y4 := HB1.out.2.2.2.frozen 4
  have hbe : w.heap.size ≤ w.heap.size + 1 + 1 := by omega
  have hbo : w.heap.size ≤ w.heap.size + 1 := by omega
  clear hO1 hb1
  go_wp2
  refine bodyPost_ret (v := .agg #[.int .i64 2, .int .i64 d, .int .i64 (Fo.use s a), .int .i64 b, .int .i64 i]) ?_ rfl ⟨rfl, ?_⟩
  · simp [results, Try.results43, go_sem, z0, z1, z2, z3, z4]
  · exact (((((HB1.out.1.setCell hbo _).setCell hbe _).setCell hbe _).setCell hbe _).setCell hbe _).setCell hbe _
set_option maxHeartbeats 8000000 in
theorem direct_4 (s : Fo.S) (B1 B2 n : Nat) (d a b i : Int) (w : World) (hk : Kn w B1 B2 n s) (ha : Wf a) :
    Calls Try.prog 43 #[.agg #[.map (some B1), .map (some B2)], .agg #[.int .i64 4, .int .i64 d, .int .i64 a, .int .i64 b, .int .i64 i]] w fun e w' => e = .returned (opV (Fo.direct s ⟨4, d, a, b, i⟩)) ∧ Below w.heap.size w w' := by
  have HB := Lib.hid (b3_new w #[.map (some B1), .map (some B2)] #[.int .i64 4, .int .i64 d, .int .i64 a, .int .i64 b, .int .i64 i] #[.int .i64 0, .int .i64 0, .int .i64 0, .int .i64 0, .int .i64 0])
  have HKn := Lib.hid (hk.below HB.out.1)
  have HVa := Lib.hid ha
  clear hk ha
  go_enter Try.func43, Try.ntmps43
  go_wp2_with fail
  refine (source_any s B1 B2 n a _ rfl _ HKn.out HVa.out).mono ?_
  rintro e w1 ⟨rfl, hb1⟩
  have HB1 := Lib.hid (HB.out.below hb1)
  have hO1 := HB1.out.2.2.1
  have o0 := hO1.cell 0
  have o1 := hO1.cell 1
  have o2 := hO1.cell 2
  have o3 := hO1.cell 3
  have o4 := hO1.cell 4
  have f2 := hO1.frozen 2
  have hlo := hO1.lt
  have z0 := HB1.out.2.2.2.cell 0
  have z1 := HB1.out.2.2.2.cell 1
  have z2 := HB1.out.2.2.2.cell 2
  have z3 := HB1.out.2.2.2.cell 3
  have z4 := HB1.out.2.2.2.cell 4
  have y0 := HB1.out.2.2.2.frozen 0
  have y1 := HB1.out.2.2.2.frozen 1
  have y2 := HB1.out.2.2.2.frozen 2
  have y3 := HB1.out.2.2.2.frozen 3
  have y4 := HB1.out.2.2.2.frozen 4
  have hbe : w.heap.size ≤ w.heap.size + 1 + 1 := by omega
  have hbo : w.heap.size ≤ w.heap.size + 1 := by omega
  clear hO1 hb1
  go_wp2
  refine bodyPost_ret (v := .agg #[.int .i64 4, .int .i64 d, .int .i64 (Fo.use s a), .int .i64 b, .int .i64 i]) ?_ rfl ⟨rfl, ?_⟩
  · simp [results, Try.results43, go_sem, z0, z1, z2, z3, z4]
  · exact (((((HB1.out.1.setCell hbo _).setCell hbe _).setCell hbe _).setCell hbe _).setCell hbe _).setCell hbe _
theorem direct_1 (s : Fo.S) (B1 B2 : Nat) (d a b i : Int) (w : World) :
    Calls Try.prog 43 #[.agg #[.map (some B1), .map (some B2)], .agg #[.int .i64 1, .int .i64 d, .int .i64 a, .int .i64 b, .int .i64 i]] w fun e w' => e = .returned (opV (Fo.direct s ⟨1, d, a, b, i⟩)) ∧ Below w.heap.size w w' := by
  go_enter Try.func43, Try.ntmps43
  go_wp2
  refine bodyPost_ret (v := .agg #[.int .i64 1, .int .i64 d, .int .i64 a, .int .i64 b, .int .i64 i]) ?_ rfl ⟨rfl, ?_⟩
  · simp [results, Try.results43, go_sem]
  · exact (b3_new w _ _ _).1
theorem direct_6 (s : Fo.S) (B1 B2 : Nat) (d a b i : Int) (w : World) :
    Calls Try.prog 43 #[.agg #[.map (some B1), .map (some B2)], .agg #[.int .i64 6, .int .i64 d, .int .i64 a, .int .i64 b, .int .i64 i]] w fun e w' => e = .returned (opV (Fo.direct s ⟨6, d, a, b, i⟩)) ∧ Below w.heap.size w w' := by
  go_enter Try.func43, Try.ntmps43
  go_wp2
  refine bodyPost_ret (v := .agg #[.int .i64 6, .int .i64 d, .int .i64 a, .int .i64 b, .int .i64 i]) ?_ rfl ⟨rfl, ?_⟩
  · simp [results, Try.results43, go_sem]
  · exact (b3_new w _ _ _).1
theorem direct_7 (s : Fo.S) (B1 B2 : Nat) (d a b i : Int) (w : World) :
    Calls Try.prog 43 #[.agg #[.map (some B1), .map (some B2)], .agg #[.int .i64 7, .int .i64 d, .int .i64 a, .int .i64 b, .int .i64 i]] w fun e w' => e = .returned (opV (Fo.direct s ⟨7, d, a, b, i⟩)) ∧ Below w.heap.size w w' := by
  go_enter Try.func43, Try.ntmps43
  go_wp2
  refine bodyPost_ret (v := .agg #[.int .i64 7, .int .i64 d, .int .i64 a, .int .i64 b, .int .i64 i]) ?_ rfl ⟨rfl, ?_⟩
  · simp [results, Try.results43, go_sem]
  · exact (b3_new w _ _ _).1
/-- direct, for the operations that a graph can have. -/
theorem direct_any (s : Fo.S) (B1 B2 n : Nat) (kd d a b i : Int) (w : World) (hkd : 1 ≤ kd ∧ kd ≤ 7) (hk : Kn w B1 B2 n s) (ha : Wf a) (hb : Wf b) :
    Calls Try.prog 43 #[.agg #[.map (some B1), .map (some B2)], .agg #[.int .i64 kd, .int .i64 d, .int .i64 a, .int .i64 b, .int .i64 i]] w fun e w' => e = .returned (opV (Fo.direct s ⟨kd, d, a, b, i⟩)) ∧ Below w.heap.size w w' := by
  have h : kd = 1 ∨ kd = 2 ∨ kd = 3 ∨ kd = 4 ∨ kd = 5 ∨ kd = 6 ∨ kd = 7 := by omega
  rcases h with rfl | rfl | rfl | rfl | rfl | rfl | rfl
  · exact direct_1 s B1 B2 d a b i w
  · exact direct_2 s B1 B2 n d a b i w hk ha
  · exact direct_3 s B1 B2 n d a b i w hk ha hb
  · exact direct_4 s B1 B2 n d a b i w hk ha
  · exact direct_5 s B1 B2 n d a b i w hk ha hb
  · exact direct_6 s B1 B2 d a b i w
  · exact direct_7 s B1 B2 d a b i w
end Go.Proofs.Ytojnhdkclabkgaa
