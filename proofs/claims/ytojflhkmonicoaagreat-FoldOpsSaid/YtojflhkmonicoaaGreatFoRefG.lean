/- The specification of layer 14: an operation of two operands, folded. No condition. -/
import Derived.Test.YtojflhkmonicoaaGreatFoRefC
import Derived.Test.YtojflhkmonicoaaGreatWdK
namespace Go.Proofs.YtojflhkmonicoaaGreat
open Go.RowKit
set_option linter.unusedVariables false
set_option linter.unusedSimpArgs false
attribute [local go_sem] y_undef
set_option maxHeartbeats 4000000 in
set_option maxRecDepth 100000 in
theorem rfold_2c (V Bf Kb Wb Ob : Nat) (s : Fo.S) (fw : Nat → Int) (d a : Nat) (b i : Int) (hd : d < V) (ha : a < V) (x : Int) (hua : s.wd (Fo.use s (a : Int)) = some x) (hV : V ≤ 1000) (hok : Fo.Ok V s) (w : World) (h : Rf V Bf Kb Wb Ob s fw w) :
    Calls Tryz.prog 46 #[.pointer (some ⟨Bf, 0, none⟩), .agg #[.int .i64 2, .int .i64 (d : Int), .int .i64 (a : Int), .int .i64 b, .int .i64 i]] w (RfPost V Bf Kb Wb Ob s ⟨2, (d : Int), (a : Int), b, i⟩ w) := by
  have HH := Lib.hid h
  have HB := Lib.hid (o2_new w #[.int .i64 2, .int .i64 (d : Int), .int .i64 (a : Int), .int .i64 b, .int .i64 i])
  have HR := Lib.hid (h.below HB.out.1)
  have HL := Lib.hid h.lt
  obtain ⟨l1, l2, l3, l4⟩ := h.lt
  obtain ⟨a1, a2, a3, a4, a5, a6⟩ := h.ap
  have hltd : (d : Int) < V := by omega
  have hlt0d : (0 : Int) ≤ (d : Int) := by omega
  have hlta : (a : Int) < V := by omega
  have hlt0a : (0 : Int) ≤ (a : Int) := by omega
  clear h
  go_enter Tryz.func46, Tryz.ntmps46
  have HA := Lib.hid hua
  have HBn := Lib.hid (Fo.use_in hok (v := (a : Int)) hlt0a hlta)
  clear hua
  go_wp2_with fail
  refine (ruse_any V Bf Kb Wb Ob s fw a ha hV hok _ HR.out).mono ?_
  rintro e w1 ⟨rfl, rfl⟩
  have HB2 := Lib.hid (o2_new w #[.int .i64 2, .int .i64 (d : Int), .int .i64 (Fo.use s (a : Int)), .int .i64 b, .int .i64 i])
  have HR2 := Lib.hid (HH.out.below HB2.out.1)
  have HW := Lib.hid fun (n : Nat) => (⟨HR2.out.below (below_drewN _ _ n), HB2.out.2.1.below (below_drewN _ _ n), HB2.out.2.2.below (below_drewN _ _ n), (Mt.of_below (b1 := Kb) (b2 := Wb) (b3 := Ob) HB2.out.1).trans (Mt.of_below (below_drewN _ _ n))⟩ : _ ∧ _ ∧ _ ∧ _)
  obtain ⟨ua, hua⟩ : ∃ x, Fo.use s (a : Int) = x := ⟨_, rfl⟩
  have HU := Lib.hid hua
  rw [hua] at HB2 HW HA HBn ⊢
  clear hua HR HB
  obtain ⟨na, rfl⟩ : ∃ n : Nat, ua = (n : Int) := ⟨ua.toNat, by have := HBn.out.1; omega⟩
  have hna : na < V := by have := HBn.out.2; omega
  have hna1 : (na : Int) < V := by omega
  have hna0 : (0 : Int) ≤ (na : Int) := by omega
  have b0 := HH.out.fb.cell 0
  have k0 := (HH.out.kn.cell na).trans (slRow_cell _ _ hna)
  rw [HA.out] at k0
  have lk : Kb < w.heap.size := l2
  have b1 := HH.out.fb.cell 1
  have HWx := Lib.hid (HH.out.wv na x hna HA.out)
  go_wp2
  go_quiet (fail)
  go_upto_region 9 with fail
  clear b0 b1 k0
  generalize hX : World.drewN _ _ = X
  have HX := Lib.hid (show Rf V Bf Kb Wb Ob s fw X ∧ Bk X w.heap.size 42 #[.int .i64 2, .int .i64 (d : Int), .int .i64 (na : Int), .int .i64 b, .int .i64 i] ∧ Bk X (w.heap.size + 1) 42 #[.int .i64 0, .int .i64 0, .int .i64 0, .int .i64 0, .int .i64 0] ∧ Mt Kb Wb Ob w X from by rw [← hX]; exact HW.out _)
  clear hX HW
  refine wp_region_last (S := fun u : World => Bk u Bf 89 #[.slice (some ⟨Kb, 0, none⟩) V V, .slice (some ⟨Wb, 0, none⟩) V V, .slice (some ⟨Ob, 0, none⟩) V V] ∧ Bk u Wb 3 (slRow V fun v => .int .i64 (fw v)) ∧ Bk u w.heap.size 42 #[.int .i64 2, .int .i64 (d : Int), .int .i64 (na : Int), .int .i64 b, .int .i64 i]) 11 (by kernel_rfl) ?_ (fun hHeld => ?_)
  · exact ⟨HX.out.1.fb.below (below_drewN _ _ 1), HX.out.1.wd.below (below_drewN _ _ 1), HX.out.2.1.below (below_drewN _ _ 1)⟩
  refine' wpAnyL_take (i := 0) (v := _) ?_ ?_ ?_ ?_ ?_ ?_ ?_ ?_ ?_
  rotate_left 2; (simp only [gA, gB, gC]; rfl); kernel_rfl; kernel_rfl; kernel_rfl; kernel_rfl; exact fun _ _ _ h => h; refine Or.inl ⟨?_, ?_⟩; focus (go_simp; done)
  focus (intro w hSw; have b1 := hSw.1.cell 1; have w0 := (hSw.2.1.cell na).trans (slRow_cell _ _ hna); rw [HWx.out] at w0; have o1 := hSw.2.2.cell 1; have o2 := hSw.2.2.cell 2; (go_simp <;> with_reducible rfl))
  assumption; (try simp only [Act.put, gD, gE, gF])
  refine' wpAnyL_take (i := 1) (v := _) ?_ ?_ ?_ ?_ ?_ ?_ ?_ ?_ ?_
  rotate_left 2; (simp only [gA, gB, gC]; rfl); kernel_rfl; kernel_rfl; kernel_rfl; kernel_rfl; exact fun _ _ _ h => h; refine Or.inl ⟨?_, ?_⟩; focus (go_simp; done)
  focus (intro w hSw; have b1 := hSw.1.cell 1; have w0 := (hSw.2.1.cell na).trans (slRow_cell _ _ hna); rw [HWx.out] at w0; have o1 := hSw.2.2.cell 1; have o2 := hSw.2.2.cell 2; (go_simp <;> with_reducible rfl))
  assumption; (try simp only [Act.put, gD, gE, gF])
  refine' wpAnyL_take (i := 2) (v := _) ?_ ?_ ?_ ?_ ?_ ?_ ?_ ?_ ?_
  rotate_left 2; (simp only [gA, gB, gC]; rfl); kernel_rfl; kernel_rfl; kernel_rfl; kernel_rfl; exact fun _ _ _ h => h; refine Or.inl ⟨?_, ?_⟩; focus (go_simp; done)
  focus (intro w hSw; have b1 := hSw.1.cell 1; have w0 := (hSw.2.1.cell na).trans (slRow_cell _ _ hna); rw [HWx.out] at w0; have o1 := hSw.2.2.cell 1; have o2 := hSw.2.2.cell 2; (go_simp <;> with_reducible rfl))
  assumption; (try simp only [Act.put, gD, gE, gF])
  refine' wpAnyL_take (i := 3) (v := _) ?_ ?_ ?_ ?_ ?_ ?_ ?_ ?_ ?_
  rotate_left 2; (simp only [gA, gB, gC]; rfl); kernel_rfl; kernel_rfl; kernel_rfl; kernel_rfl; exact fun _ _ _ h => h; refine Or.inl ⟨?_, ?_⟩; focus (go_simp; done)
  focus (intro w hSw; have b1 := hSw.1.cell 1; have w0 := (hSw.2.1.cell na).trans (slRow_cell _ _ hna); rw [HWx.out] at w0; have o1 := hSw.2.2.cell 1; have o2 := hSw.2.2.cell 2; (go_simp <;> with_reducible rfl))
  assumption; (try simp only [Act.put, gD, gE, gF])
  refine' wpAnyL_take (i := 4) (v := _) ?_ ?_ ?_ ?_ ?_ ?_ ?_ ?_ ?_
  rotate_left 2; (simp only [gA, gB, gC]; rfl); kernel_rfl; kernel_rfl; kernel_rfl; kernel_rfl; exact fun _ _ _ h => h; refine Or.inl ⟨?_, ?_⟩; focus (go_simp; done)
  focus (intro w hSw; have b1 := hSw.1.cell 1; have w0 := (hSw.2.1.cell na).trans (slRow_cell _ _ hna); rw [HWx.out] at w0; have o1 := hSw.2.2.cell 1; have o2 := hSw.2.2.cell 2; (go_simp <;> with_reducible rfl))
  assumption; (try simp only [Act.put, gD, gE, gF])
  refine' wpAnyL_take (i := 5) (v := _) ?_ ?_ ?_ ?_ ?_ ?_ ?_ ?_ ?_
  rotate_left 2; (simp only [gA, gB, gC]; rfl); kernel_rfl; kernel_rfl; kernel_rfl; kernel_rfl; exact fun _ _ _ h => h; refine Or.inl ⟨?_, ?_⟩; focus (go_simp; done)
  focus (intro w hSw; have b1 := hSw.1.cell 1; have w0 := (hSw.2.1.cell na).trans (slRow_cell _ _ hna); rw [HWx.out] at w0; have o1 := hSw.2.2.cell 1; have o2 := hSw.2.2.cell 2; (go_simp <;> with_reducible rfl))
  assumption; (try simp only [Act.put, gD, gE, gF])
  refine' wpAnyL_take (i := 6) (v := _) ?_ ?_ ?_ ?_ ?_ ?_ ?_ ?_ ?_
  rotate_left 2; (simp only [gA, gB, gC]; rfl); kernel_rfl; kernel_rfl; kernel_rfl; kernel_rfl; exact fun _ _ _ h => h; refine Or.inl ⟨?_, ?_⟩; focus (go_simp; done)
  focus (intro w hSw; have b1 := hSw.1.cell 1; have w0 := (hSw.2.1.cell na).trans (slRow_cell _ _ hna); rw [HWx.out] at w0; have o1 := hSw.2.2.cell 1; have o2 := hSw.2.2.cell 2; (go_simp <;> with_reducible rfl))
  assumption; (try simp only [Act.put, gD, gE, gF])
  refine' wpAnyL_take (i := 7) (v := _) ?_ ?_ ?_ ?_ ?_ ?_ ?_ ?_ ?_
  rotate_left 2; (simp only [gA, gB, gC]; rfl); kernel_rfl; kernel_rfl; kernel_rfl; kernel_rfl; exact fun _ _ _ h => h; refine Or.inl ⟨?_, ?_⟩; focus (go_simp; done)
  focus (intro w hSw; have b1 := hSw.1.cell 1; have w0 := (hSw.2.1.cell na).trans (slRow_cell _ _ hna); rw [HWx.out] at w0; have o1 := hSw.2.2.cell 1; have o2 := hSw.2.2.cell 2; (go_simp <;> with_reducible rfl))
  assumption; (try simp only [Act.put, gD, gE, gF])
  refine' wpAnyL_take (i := 8) (v := _) ?_ ?_ ?_ ?_ ?_ ?_ ?_ ?_ ?_
  rotate_left 2; (simp only [gA, gB, gC]; rfl); kernel_rfl; kernel_rfl; kernel_rfl; kernel_rfl; exact fun _ _ _ h => h; refine Or.inl ⟨?_, ?_⟩; focus (go_simp; done)
  focus (intro w hSw; have b1 := hSw.1.cell 1; have w0 := (hSw.2.1.cell na).trans (slRow_cell _ _ hna); rw [HWx.out] at w0; have o1 := hSw.2.2.cell 1; have o2 := hSw.2.2.cell 2; (go_simp <;> with_reducible rfl))
  assumption; (try simp only [Act.put, gD, gE, gF])
  refine' wpAnyL_take (i := 9) (v := _) ?_ ?_ ?_ ?_ ?_ ?_ ?_ ?_ ?_
  rotate_left 2; (simp only [gA, gB, gC]; rfl); kernel_rfl; kernel_rfl; kernel_rfl; kernel_rfl; exact fun _ _ _ h => h; refine Or.inl ⟨?_, ?_⟩; focus (go_simp; done)
  focus (intro w hSw; have b1 := hSw.1.cell 1; have w0 := (hSw.2.1.cell na).trans (slRow_cell _ _ hna); rw [HWx.out] at w0; have o1 := hSw.2.2.cell 1; have o2 := hSw.2.2.cell 2; (go_simp <;> with_reducible rfl))
  assumption; (try simp only [Act.put, gD, gE, gF])
  refine' wpAnyL_take (i := 10) (v := _) ?_ ?_ ?_ ?_ ?_ ?_ ?_ ?_ ?_
  rotate_left 2; (simp only [gA, gB, gC]; rfl); kernel_rfl; kernel_rfl; kernel_rfl; kernel_rfl; exact fun _ _ _ h => h; refine Or.inl ⟨?_, ?_⟩; focus (go_simp; done)
  focus (intro w hSw; have b1 := hSw.1.cell 1; have w0 := (hSw.2.1.cell na).trans (slRow_cell _ _ hna); rw [HWx.out] at w0; have o1 := hSw.2.2.cell 1; have o2 := hSw.2.2.cell 2; (go_simp <;> with_reducible rfl))
  assumption; (try simp only [Act.put, gD, gE, gF])
  refine' wpAnyL_last ?_ ?_ (fun K hK => ?_)
  rotate_left
  focus kernel_rfl
  focus (simp only [gA, gB, gC]; rfl)
  have hOd := (show Bk X.drew w.heap.size _ _ from HX.out.2.1.below (below_drewN _ _ 1))
  have o0 := hOd.cell 0
  have f0 := hOd.frozen 0
  have q0 := HX.out.2.1.cell 0
  have r0 := HX.out.2.1.frozen 0
  have o1 := hOd.cell 1
  have f1 := hOd.frozen 1
  have q1 := HX.out.2.1.cell 1
  have r1 := HX.out.2.1.frozen 1
  have o2 := hOd.cell 2
  have f2 := hOd.frozen 2
  have q2 := HX.out.2.1.cell 2
  have r2 := HX.out.2.1.frozen 2
  have o3 := hOd.cell 3
  have f3 := hOd.frozen 3
  have q3 := HX.out.2.1.cell 3
  have r3 := HX.out.2.1.frozen 3
  have o4 := hOd.cell 4
  have f4 := hOd.frozen 4
  have q4 := HX.out.2.1.cell 4
  have r4 := HX.out.2.1.frozen 4
  have hlo := hOd.lt
  have hlo2 := HX.out.2.1.lt
  clear hOd
  go_simp
  refine hK.out _ _ ?_
  clear hK K
  (try simp only [Act.put, gD, gE, gF])
  refine wpAny_done (by kernel_rfl) ?_ _
  clear hlo hlo2 o0 f0 q0 r0 o1 f1 q1 r1 o2 f2 q2 r2 o3 f3 q3 r3 o4 f4 q4 r4
  have HY0 := Lib.hid (⟨(((((HX.out.1.box (p := ⟨w.heap.size, 0, none⟩) (by show Bf ≠ w.heap.size; omega) (by show Kb ≠ w.heap.size; omega) (by show Wb ≠ w.heap.size; omega) (by show Ob ≠ w.heap.size; omega) (.int .i64 1)).box (p := ⟨w.heap.size, 1, none⟩) (by show Bf ≠ w.heap.size; omega) (by show Kb ≠ w.heap.size; omega) (by show Wb ≠ w.heap.size; omega) (by show Ob ≠ w.heap.size; omega) (.int .i64 (d : Int))).box (p := ⟨w.heap.size, 2, none⟩) (by show Bf ≠ w.heap.size; omega) (by show Kb ≠ w.heap.size; omega) (by show Wb ≠ w.heap.size; omega) (by show Ob ≠ w.heap.size; omega) (.int .i64 0)).box (p := ⟨w.heap.size, 3, none⟩) (by show Bf ≠ w.heap.size; omega) (by show Kb ≠ w.heap.size; omega) (by show Wb ≠ w.heap.size; omega) (by show Ob ≠ w.heap.size; omega) (.int .i64 0)).box (p := ⟨w.heap.size, 4, none⟩) (by show Bf ≠ w.heap.size; omega) (by show Kb ≠ w.heap.size; omega) (by show Wb ≠ w.heap.size; omega) (by show Ob ≠ w.heap.size; omega) (.int .i64 x)), (((((HX.out.2.1.set 0 (.int .i64 1)).set 1 (.int .i64 (d : Int))).set 2 (.int .i64 0)).set 3 (.int .i64 0)).set 4 (.int .i64 x)), (((((HX.out.2.2.1.far (p := ⟨w.heap.size, 0, none⟩) (by show w.heap.size + 1 ≠ w.heap.size; omega) (.int .i64 1)).far (p := ⟨w.heap.size, 1, none⟩) (by show w.heap.size + 1 ≠ w.heap.size; omega) (.int .i64 (d : Int))).far (p := ⟨w.heap.size, 2, none⟩) (by show w.heap.size + 1 ≠ w.heap.size; omega) (.int .i64 0)).far (p := ⟨w.heap.size, 3, none⟩) (by show w.heap.size + 1 ≠ w.heap.size; omega) (.int .i64 0)).far (p := ⟨w.heap.size, 4, none⟩) (by show w.heap.size + 1 ≠ w.heap.size; omega) (.int .i64 x)), (((((HX.out.2.2.2.box (p := ⟨w.heap.size, 0, none⟩) (Nat.le_refl _) (.int .i64 1)).box (p := ⟨w.heap.size, 1, none⟩) (Nat.le_refl _) (.int .i64 (d : Int))).box (p := ⟨w.heap.size, 2, none⟩) (Nat.le_refl _) (.int .i64 0)).box (p := ⟨w.heap.size, 3, none⟩) (Nat.le_refl _) (.int .i64 0)).box (p := ⟨w.heap.size, 4, none⟩) (Nat.le_refl _) (.int .i64 x))⟩ : Rf V Bf Kb Wb Ob s fw (((((X.setCell ⟨w.heap.size, 0, none⟩ (.int .i64 1)).setCell ⟨w.heap.size, 1, none⟩ (.int .i64 (d : Int))).setCell ⟨w.heap.size, 2, none⟩ (.int .i64 0)).setCell ⟨w.heap.size, 3, none⟩ (.int .i64 0)).setCell ⟨w.heap.size, 4, none⟩ (.int .i64 x)) ∧ Bk (((((X.setCell ⟨w.heap.size, 0, none⟩ (.int .i64 1)).setCell ⟨w.heap.size, 1, none⟩ (.int .i64 (d : Int))).setCell ⟨w.heap.size, 2, none⟩ (.int .i64 0)).setCell ⟨w.heap.size, 3, none⟩ (.int .i64 0)).setCell ⟨w.heap.size, 4, none⟩ (.int .i64 x)) w.heap.size 42 #[.int .i64 1, .int .i64 (d : Int), .int .i64 0, .int .i64 0, .int .i64 x] ∧ Bk (((((X.setCell ⟨w.heap.size, 0, none⟩ (.int .i64 1)).setCell ⟨w.heap.size, 1, none⟩ (.int .i64 (d : Int))).setCell ⟨w.heap.size, 2, none⟩ (.int .i64 0)).setCell ⟨w.heap.size, 3, none⟩ (.int .i64 0)).setCell ⟨w.heap.size, 4, none⟩ (.int .i64 x)) (w.heap.size + 1) 42 #[.int .i64 0, .int .i64 0, .int .i64 0, .int .i64 0, .int .i64 0] ∧ Mt Kb Wb Ob w (((((X.setCell ⟨w.heap.size, 0, none⟩ (.int .i64 1)).setCell ⟨w.heap.size, 1, none⟩ (.int .i64 (d : Int))).setCell ⟨w.heap.size, 2, none⟩ (.int .i64 0)).setCell ⟨w.heap.size, 3, none⟩ (.int .i64 0)).setCell ⟨w.heap.size, 4, none⟩ (.int .i64 x)))
  have HY := Lib.hid (show Rf V Bf Kb Wb Ob s fw ((((((X.setCell ⟨w.heap.size, 0, none⟩ (.int .i64 1)).setCell ⟨w.heap.size, 1, none⟩ (.int .i64 (d : Int))).setCell ⟨w.heap.size, 2, none⟩ (.int .i64 0)).setCell ⟨w.heap.size, 3, none⟩ (.int .i64 0)).setCell ⟨w.heap.size, 4, none⟩ (.int .i64 x))).drew ∧ Bk ((((((X.setCell ⟨w.heap.size, 0, none⟩ (.int .i64 1)).setCell ⟨w.heap.size, 1, none⟩ (.int .i64 (d : Int))).setCell ⟨w.heap.size, 2, none⟩ (.int .i64 0)).setCell ⟨w.heap.size, 3, none⟩ (.int .i64 0)).setCell ⟨w.heap.size, 4, none⟩ (.int .i64 x))).drew w.heap.size 42 #[.int .i64 1, .int .i64 (d : Int), .int .i64 0, .int .i64 0, .int .i64 x] ∧ Bk ((((((X.setCell ⟨w.heap.size, 0, none⟩ (.int .i64 1)).setCell ⟨w.heap.size, 1, none⟩ (.int .i64 (d : Int))).setCell ⟨w.heap.size, 2, none⟩ (.int .i64 0)).setCell ⟨w.heap.size, 3, none⟩ (.int .i64 0)).setCell ⟨w.heap.size, 4, none⟩ (.int .i64 x))).drew (w.heap.size + 1) 42 #[.int .i64 0, .int .i64 0, .int .i64 0, .int .i64 0, .int .i64 0] ∧ Mt Kb Wb Ob w ((((((X.setCell ⟨w.heap.size, 0, none⟩ (.int .i64 1)).setCell ⟨w.heap.size, 1, none⟩ (.int .i64 (d : Int))).setCell ⟨w.heap.size, 2, none⟩ (.int .i64 0)).setCell ⟨w.heap.size, 3, none⟩ (.int .i64 0)).setCell ⟨w.heap.size, 4, none⟩ (.int .i64 x))).drew from ⟨HY0.out.1.below (below_drewN _ _ 1), HY0.out.2.1.below (below_drewN _ _ 1), HY0.out.2.2.1.below (below_drewN _ _ 1), HY0.out.2.2.2.trans (Mt.of_below (below_drewN _ _ 1))⟩)
  clear hHeld HX HY0
  generalize hX : (World.setCell _ ⟨w.heap.size, 4, none⟩ (Value.int .i64 x)).drew = Y at HY ⊢
  clear hX
  have HW := Lib.hid fun (n : Nat) => (⟨HY.out.1.below (below_drewN _ _ n), HY.out.2.1.below (below_drewN _ _ n), HY.out.2.2.1.below (below_drewN _ _ n), HY.out.2.2.2.trans (Mt.of_below (below_drewN _ _ n))⟩ : _ ∧ _ ∧ _ ∧ _)
  have o0 := HY.out.2.1.cell 0
  have o1 := HY.out.2.1.cell 1
  have o2 := HY.out.2.1.cell 2
  have o3 := HY.out.2.1.cell 3
  have o4 := HY.out.2.1.cell 4
  go_wp2
  go_quiet (fail)
  go_upto_region 15 with fail
  go_wp2_with fail
  refine (rforget_any V Bf Kb Wb Ob s fw d hd hV hok _ (HW.out _).1).mono ?_
  rintro e w1 ⟨rfl, hRf, hmu⟩
  have HF := Lib.hid hRf
  have HO := Lib.hid (hmu.bk (HW.out _).2.1 (by omega) (by omega))
  have HZ := Lib.hid (hmu.bk (HW.out _).2.2.1 (by omega) (by omega))
  have HM := Lib.hid ((HW.out _).2.2.2.trans (Mt.of_mu hmu))
  clear hRf hmu HW
  have hO1 := HO.out.cell 1
  go_upto_region 16 with fail
  clear hO1
  refine wp_region_last (S := fun u : World => Bk u Bf 89 #[.slice (some ⟨Kb, 0, none⟩) V V, .slice (some ⟨Wb, 0, none⟩) V V, .slice (some ⟨Ob, 0, none⟩) V V] ∧ Bk u w.heap.size 42 #[.int .i64 1, .int .i64 (d : Int), .int .i64 0, .int .i64 0, .int .i64 x]) 17 (by kernel_rfl) ?_ (fun hHeld => ?_)
  · exact ⟨HF.out.fb.below (below_drewN _ _ 1), HO.out.below (below_drewN _ _ 1)⟩
  have HFd := Lib.hid (show Rf V Bf Kb Wb Ob (⟨Fo.upd s.wd (d : Int) none, Fo.cut s.cp (d : Int)⟩ : Fo.S) fw w1.drew from HF.out.below (below_drewN _ w1 1))
  refine' wpAnyL_take (i := 0) (v := _) ?_ ?_ ?_ ?_ ?_ ?_ ?_ ?_ ?_
  rotate_left 2; (simp only [gA, gB, gC]; rfl); kernel_rfl; kernel_rfl; kernel_rfl; kernel_rfl; exact fun _ _ _ h => h; refine Or.inl ⟨?_, ?_⟩; focus (go_simp; done)
  focus (intro w hSw; have b0 := hSw.1.cell 0; have b1 := hSw.1.cell 1; have o1 := hSw.2.cell 1; have o4 := hSw.2.cell 4; (go_simp <;> with_reducible rfl))
  assumption; (try simp only [Act.put, gD, gE, gF])
  refine' wpAnyL_take (i := 1) (v := _) ?_ ?_ ?_ ?_ ?_ ?_ ?_ ?_ ?_
  rotate_left 2; (simp only [gA, gB, gC]; rfl); kernel_rfl; kernel_rfl; kernel_rfl; kernel_rfl; exact fun _ _ _ h => h; refine Or.inl ⟨?_, ?_⟩; focus (go_simp; done)
  focus (intro w hSw; have b0 := hSw.1.cell 0; have b1 := hSw.1.cell 1; have o1 := hSw.2.cell 1; have o4 := hSw.2.cell 4; (go_simp <;> with_reducible rfl))
  assumption; (try simp only [Act.put, gD, gE, gF])
  refine' wpAnyL_take (i := 2) (v := _) ?_ ?_ ?_ ?_ ?_ ?_ ?_ ?_ ?_
  rotate_left 2; (simp only [gA, gB, gC]; rfl); kernel_rfl; kernel_rfl; kernel_rfl; kernel_rfl; exact fun _ _ _ h => h; refine Or.inl ⟨?_, ?_⟩; focus (go_simp; done)
  focus (intro w hSw; have b0 := hSw.1.cell 0; have b1 := hSw.1.cell 1; have o1 := hSw.2.cell 1; have o4 := hSw.2.cell 4; (go_simp <;> with_reducible rfl))
  assumption; (try simp only [Act.put, gD, gE, gF])
  refine' wpAnyL_take (i := 3) (v := _) ?_ ?_ ?_ ?_ ?_ ?_ ?_ ?_ ?_
  rotate_left 2; (simp only [gA, gB, gC]; rfl); kernel_rfl; kernel_rfl; kernel_rfl; kernel_rfl; exact fun _ _ _ h => h; refine Or.inl ⟨?_, ?_⟩; focus (go_simp; done)
  focus (intro w hSw; have b0 := hSw.1.cell 0; have b1 := hSw.1.cell 1; have o1 := hSw.2.cell 1; have o4 := hSw.2.cell 4; (go_simp <;> with_reducible rfl))
  assumption; (try simp only [Act.put, gD, gE, gF])
  refine' wpAnyL_take (i := 4) (v := _) ?_ ?_ ?_ ?_ ?_ ?_ ?_ ?_ ?_
  rotate_left 2; (simp only [gA, gB, gC]; rfl); kernel_rfl; kernel_rfl; kernel_rfl; kernel_rfl; exact fun _ _ _ h => h; refine Or.inl ⟨?_, ?_⟩; focus (go_simp; done)
  focus (intro w hSw; have b0 := hSw.1.cell 0; have b1 := hSw.1.cell 1; have o1 := hSw.2.cell 1; have o4 := hSw.2.cell 4; (go_simp <;> with_reducible rfl))
  assumption; (try simp only [Act.put, gD, gE, gF])
  refine' wpAnyL_take (i := 5) (v := _) ?_ ?_ ?_ ?_ ?_ ?_ ?_ ?_ ?_
  rotate_left 2; (simp only [gA, gB, gC]; rfl); kernel_rfl; kernel_rfl; kernel_rfl; kernel_rfl; exact fun _ _ _ h => h; refine Or.inl ⟨?_, ?_⟩; focus (go_simp; done)
  focus (intro w hSw; have b0 := hSw.1.cell 0; have b1 := hSw.1.cell 1; have o1 := hSw.2.cell 1; have o4 := hSw.2.cell 4; (go_simp <;> with_reducible rfl))
  assumption; (try simp only [Act.put, gD, gE, gF])
  refine' wpAnyL_take (i := 6) (v := _) ?_ ?_ ?_ ?_ ?_ ?_ ?_ ?_ ?_
  rotate_left 2; (simp only [gA, gB, gC]; rfl); kernel_rfl; kernel_rfl; kernel_rfl; kernel_rfl; exact fun _ _ _ h => h; refine Or.inl ⟨?_, ?_⟩; focus (go_simp; done)
  focus (intro w hSw; have b0 := hSw.1.cell 0; have b1 := hSw.1.cell 1; have o1 := hSw.2.cell 1; have o4 := hSw.2.cell 4; (go_simp <;> with_reducible rfl))
  assumption; (try simp only [Act.put, gD, gE, gF])
  refine' wpAnyL_take (i := 7) (v := _) ?_ ?_ ?_ ?_ ?_ ?_ ?_ ?_ ?_
  rotate_left 2; (simp only [gA, gB, gC]; rfl); kernel_rfl; kernel_rfl; kernel_rfl; kernel_rfl; exact fun _ _ _ h => h; refine Or.inl ⟨?_, ?_⟩; focus (go_simp; done)
  focus (intro w hSw; have b0 := hSw.1.cell 0; have b1 := hSw.1.cell 1; have o1 := hSw.2.cell 1; have o4 := hSw.2.cell 4; (go_simp <;> with_reducible rfl))
  assumption; (try simp only [Act.put, gD, gE, gF])
  refine' wpAnyL_take (i := 8) (v := _) ?_ ?_ ?_ ?_ ?_ ?_ ?_ ?_ ?_
  rotate_left 2; (simp only [gA, gB, gC]; rfl); kernel_rfl; kernel_rfl; kernel_rfl; kernel_rfl; exact fun _ _ _ h => h; refine Or.inl ⟨?_, ?_⟩; focus (go_simp; done)
  focus (intro w hSw; have b0 := hSw.1.cell 0; have b1 := hSw.1.cell 1; have o1 := hSw.2.cell 1; have o4 := hSw.2.cell 4; (go_simp <;> with_reducible rfl))
  assumption; (try simp only [Act.put, gD, gE, gF])
  refine' wpAnyL_take (i := 9) (v := _) ?_ ?_ ?_ ?_ ?_ ?_ ?_ ?_ ?_
  rotate_left 2; (simp only [gA, gB, gC]; rfl); kernel_rfl; kernel_rfl; kernel_rfl; kernel_rfl; exact fun _ _ _ h => h; refine Or.inl ⟨?_, ?_⟩; focus (go_simp; done)
  focus (intro w hSw; have b0 := hSw.1.cell 0; have b1 := hSw.1.cell 1; have o1 := hSw.2.cell 1; have o4 := hSw.2.cell 4; (go_simp <;> with_reducible rfl))
  assumption; (try simp only [Act.put, gD, gE, gF])
  refine' wpAnyL_take (i := 10) (v := _) ?_ ?_ ?_ ?_ ?_ ?_ ?_ ?_ ?_
  rotate_left 2; (simp only [gA, gB, gC]; rfl); kernel_rfl; kernel_rfl; kernel_rfl; kernel_rfl; exact fun _ _ _ h => h; refine Or.inl ⟨?_, ?_⟩; focus (go_simp; done)
  focus (intro w hSw; have b0 := hSw.1.cell 0; have b1 := hSw.1.cell 1; have o1 := hSw.2.cell 1; have o4 := hSw.2.cell 4; (go_simp <;> with_reducible rfl))
  assumption; (try simp only [Act.put, gD, gE, gF])
  refine' wpAnyL_take (i := 11) (v := _) ?_ ?_ ?_ ?_ ?_ ?_ ?_ ?_ ?_
  rotate_left 2; (simp only [gA, gB, gC]; rfl); kernel_rfl; kernel_rfl; kernel_rfl; kernel_rfl; exact fun _ _ _ h => h; refine Or.inl ⟨?_, ?_⟩; focus (go_simp; done)
  focus (intro w hSw; have b0 := hSw.1.cell 0; have b1 := hSw.1.cell 1; have o1 := hSw.2.cell 1; have o4 := hSw.2.cell 4; (go_simp <;> with_reducible rfl))
  assumption; (try simp only [Act.put, gD, gE, gF])
  refine' wpAnyL_take (i := 12) (v := _) ?_ ?_ ?_ ?_ ?_ ?_ ?_ ?_ ?_
  rotate_left 2; (simp only [gA, gB, gC]; rfl); kernel_rfl; kernel_rfl; kernel_rfl; kernel_rfl; exact fun _ _ _ h => h; refine Or.inl ⟨?_, ?_⟩; focus (go_simp; done)
  focus (intro w hSw; have b0 := hSw.1.cell 0; have b1 := hSw.1.cell 1; have o1 := hSw.2.cell 1; have o4 := hSw.2.cell 4; (go_simp <;> with_reducible rfl))
  assumption; (try simp only [Act.put, gD, gE, gF])
  refine' wpAnyL_take (i := 13) (v := _) ?_ ?_ ?_ ?_ ?_ ?_ ?_ ?_ ?_
  rotate_left 2; (simp only [gA, gB, gC]; rfl); kernel_rfl; kernel_rfl; kernel_rfl; kernel_rfl; exact fun _ _ _ h => h; refine Or.inl ⟨?_, ?_⟩; focus (go_simp; done)
  focus (intro w hSw; have b0 := hSw.1.cell 0; have b1 := hSw.1.cell 1; have o1 := hSw.2.cell 1; have o4 := hSw.2.cell 4; (go_simp <;> with_reducible rfl))
  assumption; (try simp only [Act.put, gD, gE, gF])
  refine' wpAnyL_take (i := 14) (v := _) ?_ ?_ ?_ ?_ ?_ ?_ ?_ ?_ ?_
  rotate_left 2; (simp only [gA, gB, gC]; rfl); kernel_rfl; kernel_rfl; kernel_rfl; kernel_rfl; exact fun _ _ _ h => h; refine Or.inl ⟨?_, ?_⟩; focus (go_simp; done)
  focus (intro w hSw; have b0 := hSw.1.cell 0; have b1 := hSw.1.cell 1; have o1 := hSw.2.cell 1; have o4 := hSw.2.cell 4; (go_simp <;> with_reducible rfl))
  assumption; (try simp only [Act.put, gD, gE, gF])
  refine' wpAnyL_one (i := 15) ?_ ?_ ?_ (fun K hK => ?_)
  rotate_left
  focus kernel_rfl
  focus kernel_rfl
  focus (simp only [gA, gB, gC]; rfl)
  have k0 := (HFd.out.kn.cell d).trans (slRow_cell _ _ hd)
  have kf := HFd.out.kn.frozen d
  have klo := HFd.out.kn.lt
  go_simp
  refine hK.out _ _ (⟨hHeld.1.far (p := ⟨Kb, d, none⟩) a1 _, hHeld.2.far (p := ⟨Kb, d, none⟩) (by show w.heap.size ≠ Kb; omega) _⟩) (fun hHeld => ?_)
  clear hK K
  (try simp only [Act.put, gD, gE, gF])
  clear k0 kf klo
  refine' wpAnyL_take (i := 16) (v := _) ?_ ?_ ?_ ?_ ?_ ?_ ?_ ?_ ?_
  rotate_left 2; (simp only [gA, gB, gC]; rfl); kernel_rfl; kernel_rfl; kernel_rfl; kernel_rfl; exact fun _ _ _ h => h; refine Or.inl ⟨?_, ?_⟩; focus (go_simp; done)
  focus (intro w hSw; have b0 := hSw.1.cell 0; have b1 := hSw.1.cell 1; have o1 := hSw.2.cell 1; have o4 := hSw.2.cell 4; (go_simp <;> with_reducible rfl))
  assumption; (try simp only [Act.put, gD, gE, gF])
  refine' wpAnyL_last ?_ ?_ (fun K hK => ?_)
  rotate_left
  focus kernel_rfl
  focus (simp only [gA, gB, gC]; rfl)
  have hwd := (show Bk (w1.setCell ⟨Kb, d, none⟩ (.bool true)).drew Wb _ _ from (HF.out.wd.far (p := ⟨Kb, d, none⟩) (fun e => a4 e.symm) (.bool true)).below (below_drewN _ _ 1))
  have c0 := (hwd.cell d).trans (slRow_cell _ _ hd)
  have cf := hwd.frozen d
  have clo := hwd.lt
  clear hwd
  go_simp
  refine hK.out _ _ ?_
  clear hK K
  (try simp only [Act.put, gD, gE, gF])
  refine wpAny_done (by kernel_rfl) ?_ _
  clear c0 cf clo
  have HE := Lib.hid (show Rf V Bf Kb Wb Ob ⟨Fo.upd s.wd (d : Int) (some x), Fo.cut s.cp (d : Int)⟩ _ (((w1.setCell ⟨Kb, d, none⟩ (.bool true)).setCell ⟨Wb, d, none⟩ (.int .i64 x)).drew) from (HF.out.known hd x).below (below_drewN _ _ 1))
  have HMe := Lib.hid (show Mt Kb Wb Ob w (((w1.setCell ⟨Kb, d, none⟩ (.bool true)).setCell ⟨Wb, d, none⟩ (.int .i64 x)).drew) from (HM.out.known d _ _).trans (Mt.of_below (below_drewN _ _ 1)))
  have HOe := Lib.hid (show Bk (((w1.setCell ⟨Kb, d, none⟩ (.bool true)).setCell ⟨Wb, d, none⟩ (.int .i64 x)).drew) w.heap.size _ _ from ((HO.out.far (p := ⟨Kb, d, none⟩) (by show w.heap.size ≠ Kb; omega) _).far (p := ⟨Wb, d, none⟩) (by show w.heap.size ≠ Wb; omega) _).below (below_drewN _ _ 1))
  have HZe := Lib.hid (show Bk (((w1.setCell ⟨Kb, d, none⟩ (.bool true)).setCell ⟨Wb, d, none⟩ (.int .i64 x)).drew) (w.heap.size + 1) _ _ from ((HZ.out.far (p := ⟨Kb, d, none⟩) (by show w.heap.size + 1 ≠ Kb; omega) _).far (p := ⟨Wb, d, none⟩) (by show w.heap.size + 1 ≠ Wb; omega) _).below (below_drewN _ _ 1))
  clear hHeld HFd HF HO HZ HM
  generalize hX : (World.setCell _ ⟨Wb, d, none⟩ (Value.int .i64 x)).drew = X at HE HMe HOe HZe ⊢
  clear hX
  have o0 := HOe.out.cell 0
  have o1 := HOe.out.cell 1
  have o2 := HOe.out.cell 2
  have o3 := HOe.out.cell 3
  have o4 := HOe.out.cell 4
  have z0 := HZe.out.cell 0
  have y0 := HZe.out.frozen 0
  have z1 := HZe.out.cell 1
  have y1 := HZe.out.frozen 1
  have z2 := HZe.out.cell 2
  have y2 := HZe.out.frozen 2
  have z3 := HZe.out.cell 3
  have y3 := HZe.out.frozen 3
  have z4 := HZe.out.cell 4
  have y4 := HZe.out.frozen 4
  go_wp2
  refine bodyPost_ret (v := .agg #[.int .i64 1, .int .i64 (d : Int), .int .i64 0, .int .i64 0, .int .i64 x]) ?_ rfl ⟨?_, ?_⟩
  · simp [results, Tryz.results46, go_sem, z0, z1, z2, z3, z4]
  · rw [show Fo.step s ⟨2, (d : Int), (a : Int), b, i⟩ = ⟨1, (d : Int), 0, 0, x⟩ by simp [Fo.step, Fo.direct, Fo.const, Fo.result, HU.out, HA.out]]; rfl
  · rw [show Fo.learn s (Fo.step s ⟨2, (d : Int), (a : Int), b, i⟩) = ⟨Fo.upd s.wd (d : Int) (some x), Fo.cut s.cp (d : Int)⟩ by simp [Fo.step, Fo.direct, Fo.const, Fo.result, Fo.learn, HU.out, HA.out]]
    exact rf_fin HL.out HE.out HMe.out _ _ _ _ _
end Go.Proofs.YtojflhkmonicoaaGreat
