/- The specification of layer 14: an operation of two operands, folded. No condition. -/
import Derived.Test.YtojflhkmonicoaaGreatFoRefC
import Derived.Test.YtojflhkmonicoaaGreatWdK
namespace Go.Proofs.YtojflhkmonicoaaGreat
open Go.RowKit
set_option linter.unusedVariables false
set_option linter.unusedSimpArgs false
attribute [local go_sem] y_undef
set_option maxHeartbeats 4000000 in
set_option maxRecDepth 100000 in
theorem rfold_3c (V Bf Kb Wb Ob : Nat) (s : Fo.S) (fw : Nat → Int) (d a b : Nat) (i : Int) (hd : d < V) (ha : a < V) (hb : b < V) (x y : Int) (hua : s.wd (Fo.use s (a : Int)) = some x) (hub : s.wd (Fo.use s (b : Int)) = some y) (hV : V ≤ 1000) (hok : Fo.Ok V s) (w : World) (h : Rf V Bf Kb Wb Ob s fw w) :
    Calls Tryz.prog 46 #[.pointer (some ⟨Bf, 0, none⟩), .agg #[.int .i64 3, .int .i64 (d : Int), .int .i64 (a : Int), .int .i64 (b : Int), .int .i64 i]] w (RfPost V Bf Kb Wb Ob s ⟨3, (d : Int), (a : Int), (b : Int), i⟩ w) := by
  have HH := Lib.hid h
  have HB := Lib.hid (o2_new w #[.int .i64 3, .int .i64 (d : Int), .int .i64 (a : Int), .int .i64 (b : Int), .int .i64 i])
  have HR := Lib.hid (h.below HB.out.1)
  have HL := Lib.hid h.lt
  obtain ⟨l1, l2, l3, l4⟩ := h.lt
  obtain ⟨a1, a2, a3, a4, a5, a6⟩ := h.ap
  have hltd : (d : Int) < V := by omega
  have hlt0d : (0 : Int) ≤ (d : Int) := by omega
  have hlta : (a : Int) < V := by omega
  have hlt0a : (0 : Int) ≤ (a : Int) := by omega
  have hltb : (b : Int) < V := by omega
  have hlt0b : (0 : Int) ≤ (b : Int) := by omega
  clear h
  go_enter Tryz.func46, Tryz.ntmps46
  have HA := Lib.hid hua
  have HAb := Lib.hid hub
  have HBn := Lib.hid (Fo.use_in hok (v := (a : Int)) hlt0a hlta)
  have HBm := Lib.hid (Fo.use_in hok (v := (b : Int)) hlt0b hltb)
  obtain ⟨m, hm⟩ : ∃ m, val i x y = m := ⟨_, rfl⟩
  have HVal := Lib.hid hm
  have HDo := Lib.hid (show ∀ W : World, Calls Tryz.prog 44 #[.int .i64 i, .int .i64 x, .int .i64 y] W (fun e w2 => e = .returned (.tuple #[.int .i64 m, .int .i64 (fault i)]) ∧ w2 = W) from fun W => by
    have h := wdDo_any i x y W
    rw [hm] at h
    exact h.mono (fun e w2 h => ⟨h.1, h.2.symm⟩))
  clear hua hub hm
  go_upto_region 7 with fail
  refine wp_region_last (S := (fun u : World => (Below w.heap.size w u ∧ Rf V Bf Kb Wb Ob s fw u) ∧ (∃ x, Bk u w.heap.size 42 #[.int .i64 3, .int .i64 (d : Int), x, .int .i64 (b : Int), .int .i64 i]) ∧ Bk u (w.heap.size + 1) 42 #[.int .i64 0, .int .i64 0, .int .i64 0, .int .i64 0, .int .i64 0])) 11 (by kernel_rfl) ?_ (fun hHeld => ?_)
  · exact ⟨⟨blt HB.out.1 (below_drewN _ _ 1), HR.out.below (below_drewN _ _ 1)⟩, ⟨_, HB.out.2.1.below (below_drewN _ _ 1)⟩, HB.out.2.2.below (below_drewN _ _ 1)⟩
  have hOa := HB.out.2.1.below (below_drewN _ _ 1)
  refine' wpAnyL_take (i := 0) (v := _) ?_ ?_ ?_ ?_ ?_ ?_ ?_ ?_ ?_
  rotate_left 2; (simp only [gA, gB, gC]; rfl); kernel_rfl; kernel_rfl; kernel_rfl; kernel_rfl; exact fun _ _ _ h => h; refine Or.inl ⟨?_, ?_⟩; focus (go_simp; done)
  focus (intro w hSw; obtain ⟨_, ⟨_, hOb⟩, _⟩ := hSw; have c3 := hOb.cell 3; (go_simp <;> with_reducible rfl))
  assumption; (try simp only [Act.put, gD, gE, gF])
  refine' wpAnyL_take (i := 1) (v := _) ?_ ?_ ?_ ?_ ?_ ?_ ?_ ?_ ?_
  rotate_left 2; (simp only [gA, gB, gC]; rfl); kernel_rfl; kernel_rfl; kernel_rfl; kernel_rfl; exact fun _ _ _ h => h; refine Or.inl ⟨?_, ?_⟩; focus (go_simp; done)
  focus (intro w hSw; obtain ⟨_, ⟨_, hOb⟩, _⟩ := hSw; have c3 := hOb.cell 3; (go_simp <;> with_reducible rfl))
  assumption; (try simp only [Act.put, gD, gE, gF])
  refine' wpAnyL_take (i := 4) (v := _) ?_ ?_ ?_ ?_ ?_ ?_ ?_ ?_ ?_
  rotate_left 2; (simp only [gA, gB, gC]; rfl); kernel_rfl; kernel_rfl; kernel_rfl; kernel_rfl; exact fun _ _ _ h => h; refine Or.inl ⟨?_, ?_⟩; focus (go_simp; done)
  focus (intro w hSw; obtain ⟨_, ⟨_, hOb⟩, _⟩ := hSw; have c3 := hOb.cell 3; (go_simp <;> with_reducible rfl))
  assumption; (try simp only [Act.put, gD, gE, gF])
  refine' wpAnyL_take (i := 5) (v := _) ?_ ?_ ?_ ?_ ?_ ?_ ?_ ?_ ?_
  rotate_left 2; (simp only [gA, gB, gC]; rfl); kernel_rfl; kernel_rfl; kernel_rfl; kernel_rfl; exact fun _ _ _ h => h; refine Or.inl ⟨?_, ?_⟩; focus (go_simp; done)
  focus (intro w hSw; obtain ⟨_, ⟨_, hOb⟩, _⟩ := hSw; have c3 := hOb.cell 3; (go_simp <;> with_reducible rfl))
  assumption; (try simp only [Act.put, gD, gE, gF])
  refine' wpAnyL_take (i := 6) (v := _) ?_ ?_ ?_ ?_ ?_ ?_ ?_ ?_ ?_
  rotate_left 2; (simp only [gA, gB, gC]; rfl); kernel_rfl; kernel_rfl; kernel_rfl; kernel_rfl; exact fun _ _ _ h => h; refine Or.inl ⟨?_, ?_⟩; focus (go_simp; done)
  focus (intro w hSw; obtain ⟨_, ⟨_, hOb⟩, _⟩ := hSw; have c3 := hOb.cell 3; (go_simp <;> with_reducible rfl))
  assumption; (try simp only [Act.put, gD, gE, gF])
  refine' wpAnyL_one (i := 2) ?_ ?_ ?_ (fun K hK => ?_)
  rotate_left
  focus kernel_rfl
  focus kernel_rfl
  focus (simp only [gA, gB, gC]; rfl)
  have c2 := hOa.cell 2
  go_simp
  refine hK.out _ _ (hHeld) (fun hHeld => ?_)
  clear hK K
  (try simp only [Act.put, gD, gE, gF])
  clear c2
  refine' wpAnyL_one (i := 3) ?_ ?_ ?_ (fun K hK => ?_)
  rotate_left
  focus kernel_rfl
  focus kernel_rfl
  focus (simp only [gA, gB, gC]; rfl)
  go_simp
  (go_at_call 47; refine (ruse_any V Bf Kb Wb Ob s fw a ha hV hok _ hHeld.1.2).mono ?_; rintro e u1 ⟨rfl, hw1⟩)
  have hb := below_eq hw1
  clear hw1
  refine hK.out _ _ (⟨⟨blt hHeld.1.1 hb, hHeld.1.2.below hb⟩, ⟨_, hHeld.2.1.choose_spec.below hb⟩, hHeld.2.2.below hb⟩) (fun hHeld => ?_)
  clear hK K
  (try simp only [Act.put, gD, gE, gF])
  replace hOa := hOa.below hb
  clear hb
  refine' wpAnyL_take (i := 8) (v := _) ?_ ?_ ?_ ?_ ?_ ?_ ?_ ?_ ?_
  rotate_left 2; (simp only [gA, gB, gC]; rfl); kernel_rfl; kernel_rfl; kernel_rfl; kernel_rfl; exact fun _ _ _ h => h; refine Or.inl ⟨?_, ?_⟩; focus (go_simp; done)
  focus (intro w hSw; obtain ⟨_, ⟨_, hOb⟩, _⟩ := hSw; have c3 := hOb.cell 3; (go_simp <;> with_reducible rfl))
  assumption; (try simp only [Act.put, gD, gE, gF])
  refine' wpAnyL_one (i := 7) ?_ ?_ ?_ (fun K hK => ?_)
  rotate_left
  focus kernel_rfl
  focus kernel_rfl
  focus (simp only [gA, gB, gC]; rfl)
  go_simp
  (go_at_call 47; refine (ruse_any V Bf Kb Wb Ob s fw b hb hV hok _ hHeld.1.2).mono ?_; rintro e u1 ⟨rfl, hw1⟩)
  have hb := below_eq hw1
  clear hw1
  refine hK.out _ _ (⟨⟨blt hHeld.1.1 hb, hHeld.1.2.below hb⟩, ⟨_, hHeld.2.1.choose_spec.below hb⟩, hHeld.2.2.below hb⟩) (fun hHeld => ?_)
  clear hK K
  (try simp only [Act.put, gD, gE, gF])
  replace hOa := hOa.below hb
  clear hb
  refine' wpAnyL_one (i := 9) ?_ ?_ ?_ (fun K hK => ?_)
  rotate_left
  focus kernel_rfl
  focus kernel_rfl
  focus (simp only [gA, gB, gC]; rfl)
  have c2 := hOa.cell 2
  have f2 := hOa.frozen 2
  have hlo := hOa.lt
  go_simp
  refine hK.out _ _ (⟨⟨hHeld.1.1.setCell (p := ⟨w.heap.size, 2, none⟩) (Nat.le_refl _) _, hHeld.1.2.box (p := ⟨w.heap.size, 2, none⟩) (by show Bf ≠ w.heap.size; omega) (by show Kb ≠ w.heap.size; omega) (by show Wb ≠ w.heap.size; omega) (by show Ob ≠ w.heap.size; omega) _⟩, ⟨_, hOa.set 2 _⟩, hHeld.2.2.far (p := ⟨w.heap.size, 2, none⟩) (by show w.heap.size + 1 ≠ w.heap.size; omega) _⟩) (fun hHeld => ?_)
  clear hK K
  (try simp only [Act.put, gD, gE, gF])
  replace hOa := hOa.set 2 (.int .i64 (Fo.use s (a : Int)))
  clear c2 f2 hlo
  refine' wpAnyL_take (i := 10) (v := _) ?_ ?_ ?_ ?_ ?_ ?_ ?_ ?_ ?_
  rotate_left 2; (simp only [gA, gB, gC]; rfl); kernel_rfl; kernel_rfl; kernel_rfl; kernel_rfl; exact fun _ _ _ h => h; refine Or.inl ⟨?_, ?_⟩; focus (go_simp; done)
  focus (intro w hSw; obtain ⟨_, ⟨_, hOb⟩, _⟩ := hSw; have c3 := hOb.cell 3; (go_simp <;> with_reducible rfl))
  assumption; (try simp only [Act.put, gD, gE, gF])
  refine' wpAnyL_last ?_ ?_ (fun K hK => ?_)
  rotate_left
  focus kernel_rfl
  focus (simp only [gA, gB, gC]; rfl)
  have c3 := hOa.cell 3
  have f3 := hOa.frozen 3
  have hlo := hOa.lt
  go_simp
  refine hK.out _ _ ?_
  clear hK K
  (try simp only [Act.put, gD, gE, gF])
  refine wpAny_done (by kernel_rfl) ?_ _
  have HO := Lib.hid (hOa.set 3 (.int .i64 (Fo.use s (b : Int))))
  have HZ := Lib.hid (hHeld.2.2.far (p := ⟨w.heap.size, 3, none⟩) (by show w.heap.size + 1 ≠ w.heap.size; omega) (.int .i64 (Fo.use s (b : Int))))
  have HBl := Lib.hid (show Below w.heap.size w _ from Below.setCell hHeld.1.1 (p := ⟨w.heap.size, 3, none⟩) (Nat.le_refl _) (.int .i64 (Fo.use s (b : Int))))
  have HRr := Lib.hid (hHeld.1.2.box (p := ⟨w.heap.size, 3, none⟩) (by show Bf ≠ w.heap.size; omega) (by show Kb ≠ w.heap.size; omega) (by show Wb ≠ w.heap.size; omega) (by show Ob ≠ w.heap.size; omega) (.int .i64 (Fo.use s (b : Int))))
  generalize hW2 : World.setCell _ ⟨w.heap.size, 3, none⟩ (Value.int .i64 (Fo.use s (b : Int))) = W2 at HO HZ HBl HRr ⊢
  clear hW2 hOa hHeld c3 f3 hlo HB HR
  have HW := Lib.hid fun (n : Nat) => (⟨HRr.out.below (below_drewN _ _ n), HO.out.below (below_drewN _ _ n), HZ.out.below (below_drewN _ _ n), (Mt.of_below (b1 := Kb) (b2 := Wb) (b3 := Ob) HBl.out).trans (Mt.of_below (below_drewN _ _ n))⟩ : _ ∧ _ ∧ _ ∧ _)
  obtain ⟨ua, hua⟩ : ∃ x, Fo.use s (a : Int) = x := ⟨_, rfl⟩
  obtain ⟨ub, hub⟩ : ∃ x, Fo.use s (b : Int) = x := ⟨_, rfl⟩
  have HU := Lib.hid (And.intro hua hub)
  rw [hua, hub] at HO HW
  try rw [hua]
  try rw [hub]
  clear hua hub
  rw [HU.out.1] at HA HBn
  rw [HU.out.2] at HAb HBm
  obtain ⟨na, rfl⟩ : ∃ n : Nat, ua = (n : Int) := ⟨ua.toNat, by have := HBn.out.1; omega⟩
  obtain ⟨nb, rfl⟩ : ∃ n : Nat, ub = (n : Int) := ⟨ub.toNat, by have := HBm.out.1; omega⟩
  have hna : na < V := by have := HBn.out.2; omega
  have hnb : nb < V := by have := HBm.out.2; omega
  have hna1 : (na : Int) < V := by omega
  have hnb1 : (nb : Int) < V := by omega
  have hna0 : (0 : Int) ≤ (na : Int) := by omega
  have hnb0 : (0 : Int) ≤ (nb : Int) := by omega
  have b0 := HRr.out.fb.cell 0
  have b1 := HRr.out.fb.cell 1
  have k0 := (HRr.out.kn.cell na).trans (slRow_cell _ _ hna)
  rw [HA.out] at k0
  have k1 := (HRr.out.kn.cell nb).trans (slRow_cell _ _ hnb)
  rw [HAb.out] at k1
  have w0 := (HRr.out.wd.cell na).trans (slRow_cell _ _ hna)
  rw [HRr.out.wv na x hna HA.out] at w0
  have w1 := (HRr.out.wd.cell nb).trans (slRow_cell _ _ hnb)
  rw [HRr.out.wv nb y hnb HAb.out] at w1
  have o0 := HO.out.cell 0
  have o1 := HO.out.cell 1
  have o2 := HO.out.cell 2
  have o3 := HO.out.cell 3
  have o4 := HO.out.cell 4
  have y0 := HO.out.frozen 0
  have y1 := HO.out.frozen 1
  have y2 := HO.out.frozen 2
  have y3 := HO.out.frozen 3
  have y4 := HO.out.frozen 4
  go_wp2
  go_quiet (fail)
  go_wp2
  go_quiet (fail)
  go_wp2_with fail
  go_quiet ((go_at_call 44; exact (HDo.out _).mono (fun e w2 h => ⟨h.1, _, h.2⟩)))
  replace HW := Lib.hid fun (n : Nat) => (⟨((((((HW.out n).1.box (p := ⟨w.heap.size, 0, none⟩) (by show Bf ≠ w.heap.size; omega) (by show Kb ≠ w.heap.size; omega) (by show Wb ≠ w.heap.size; omega) (by show Ob ≠ w.heap.size; omega) (.int .i64 1)).box (p := ⟨w.heap.size, 1, none⟩) (by show Bf ≠ w.heap.size; omega) (by show Kb ≠ w.heap.size; omega) (by show Wb ≠ w.heap.size; omega) (by show Ob ≠ w.heap.size; omega) (.int .i64 (d : Int))).box (p := ⟨w.heap.size, 2, none⟩) (by show Bf ≠ w.heap.size; omega) (by show Kb ≠ w.heap.size; omega) (by show Wb ≠ w.heap.size; omega) (by show Ob ≠ w.heap.size; omega) (.int .i64 0)).box (p := ⟨w.heap.size, 3, none⟩) (by show Bf ≠ w.heap.size; omega) (by show Kb ≠ w.heap.size; omega) (by show Wb ≠ w.heap.size; omega) (by show Ob ≠ w.heap.size; omega) (.int .i64 0)).box (p := ⟨w.heap.size, 4, none⟩) (by show Bf ≠ w.heap.size; omega) (by show Kb ≠ w.heap.size; omega) (by show Wb ≠ w.heap.size; omega) (by show Ob ≠ w.heap.size; omega) (.int .i64 m)), ((((((HW.out n).2.1.set 0 (.int .i64 1)).set 1 (.int .i64 (d : Int))).set 2 (.int .i64 0)).set 3 (.int .i64 0)).set 4 (.int .i64 m)), ((((((HW.out n).2.2.1.far (p := ⟨w.heap.size, 0, none⟩) (by show w.heap.size + 1 ≠ w.heap.size; omega) (.int .i64 1)).far (p := ⟨w.heap.size, 1, none⟩) (by show w.heap.size + 1 ≠ w.heap.size; omega) (.int .i64 (d : Int))).far (p := ⟨w.heap.size, 2, none⟩) (by show w.heap.size + 1 ≠ w.heap.size; omega) (.int .i64 0)).far (p := ⟨w.heap.size, 3, none⟩) (by show w.heap.size + 1 ≠ w.heap.size; omega) (.int .i64 0)).far (p := ⟨w.heap.size, 4, none⟩) (by show w.heap.size + 1 ≠ w.heap.size; omega) (.int .i64 m)), ((((((HW.out n).2.2.2.box (p := ⟨w.heap.size, 0, none⟩) (Nat.le_refl _) (.int .i64 1)).box (p := ⟨w.heap.size, 1, none⟩) (Nat.le_refl _) (.int .i64 (d : Int))).box (p := ⟨w.heap.size, 2, none⟩) (Nat.le_refl _) (.int .i64 0)).box (p := ⟨w.heap.size, 3, none⟩) (Nat.le_refl _) (.int .i64 0)).box (p := ⟨w.heap.size, 4, none⟩) (Nat.le_refl _) (.int .i64 m))⟩ : Rf V Bf Kb Wb Ob s fw ((((((W2.drewN n).setCell ⟨w.heap.size, 0, none⟩ (.int .i64 1)).setCell ⟨w.heap.size, 1, none⟩ (.int .i64 (d : Int))).setCell ⟨w.heap.size, 2, none⟩ (.int .i64 0)).setCell ⟨w.heap.size, 3, none⟩ (.int .i64 0)).setCell ⟨w.heap.size, 4, none⟩ (.int .i64 m)) ∧ Bk ((((((W2.drewN n).setCell ⟨w.heap.size, 0, none⟩ (.int .i64 1)).setCell ⟨w.heap.size, 1, none⟩ (.int .i64 (d : Int))).setCell ⟨w.heap.size, 2, none⟩ (.int .i64 0)).setCell ⟨w.heap.size, 3, none⟩ (.int .i64 0)).setCell ⟨w.heap.size, 4, none⟩ (.int .i64 m)) w.heap.size 42 #[.int .i64 1, .int .i64 (d : Int), .int .i64 0, .int .i64 0, .int .i64 m] ∧ Bk ((((((W2.drewN n).setCell ⟨w.heap.size, 0, none⟩ (.int .i64 1)).setCell ⟨w.heap.size, 1, none⟩ (.int .i64 (d : Int))).setCell ⟨w.heap.size, 2, none⟩ (.int .i64 0)).setCell ⟨w.heap.size, 3, none⟩ (.int .i64 0)).setCell ⟨w.heap.size, 4, none⟩ (.int .i64 m)) (w.heap.size + 1) 42 #[.int .i64 0, .int .i64 0, .int .i64 0, .int .i64 0, .int .i64 0] ∧ Mt Kb Wb Ob w ((((((W2.drewN n).setCell ⟨w.heap.size, 0, none⟩ (.int .i64 1)).setCell ⟨w.heap.size, 1, none⟩ (.int .i64 (d : Int))).setCell ⟨w.heap.size, 2, none⟩ (.int .i64 0)).setCell ⟨w.heap.size, 3, none⟩ (.int .i64 0)).setCell ⟨w.heap.size, 4, none⟩ (.int .i64 m)))
  go_upto_region 15 with fail
  clear b0 b1 k0 k1 w0 w1
  go_wp2_with fail
  refine (rforget_any V Bf Kb Wb Ob s fw d hd hV hok _ (HW.out _).1).mono ?_
  rintro e w1 ⟨rfl, hRf, hmu⟩
  have HF := Lib.hid hRf
  have HO := Lib.hid (hmu.bk (HW.out _).2.1 (by omega) (by omega))
  have HZ := Lib.hid (hmu.bk (HW.out _).2.2.1 (by omega) (by omega))
  have HM := Lib.hid ((HW.out _).2.2.2.trans (Mt.of_mu hmu))
  clear hRf hmu HW
  have hO1 := HO.out.cell 1
  go_upto_region 16 with fail
  clear hO1
  refine wp_region_last (S := fun u : World => Bk u Bf 89 #[.slice (some ⟨Kb, 0, none⟩) V V, .slice (some ⟨Wb, 0, none⟩) V V, .slice (some ⟨Ob, 0, none⟩) V V] ∧ Bk u w.heap.size 42 #[.int .i64 1, .int .i64 (d : Int), .int .i64 0, .int .i64 0, .int .i64 m]) 17 (by kernel_rfl) ?_ (fun hHeld => ?_)
  · exact ⟨HF.out.fb.below (below_drewN _ _ 1), HO.out.below (below_drewN _ _ 1)⟩
  have HFd := Lib.hid (show Rf V Bf Kb Wb Ob (⟨Fo.upd s.wd (d : Int) none, Fo.cut s.cp (d : Int)⟩ : Fo.S) fw w1.drew from HF.out.below (below_drewN _ w1 1))
  refine' wpAnyL_take (i := 0) (v := _) ?_ ?_ ?_ ?_ ?_ ?_ ?_ ?_ ?_
  rotate_left 2; (simp only [gA, gB, gC]; rfl); kernel_rfl; kernel_rfl; kernel_rfl; kernel_rfl; exact fun _ _ _ h => h; refine Or.inl ⟨?_, ?_⟩; focus (go_simp; done)
  focus (intro w hSw; have b0 := hSw.1.cell 0; have b1 := hSw.1.cell 1; have o1 := hSw.2.cell 1; have o4 := hSw.2.cell 4; (go_simp <;> with_reducible rfl))
  assumption; (try simp only [Act.put, gD, gE, gF])
  refine' wpAnyL_take (i := 1) (v := _) ?_ ?_ ?_ ?_ ?_ ?_ ?_ ?_ ?_
  rotate_left 2; (simp only [gA, gB, gC]; rfl); kernel_rfl; kernel_rfl; kernel_rfl; kernel_rfl; exact fun _ _ _ h => h; refine Or.inl ⟨?_, ?_⟩; focus (go_simp; done)
  focus (intro w hSw; have b0 := hSw.1.cell 0; have b1 := hSw.1.cell 1; have o1 := hSw.2.cell 1; have o4 := hSw.2.cell 4; (go_simp <;> with_reducible rfl))
  assumption; (try simp only [Act.put, gD, gE, gF])
  refine' wpAnyL_take (i := 2) (v := _) ?_ ?_ ?_ ?_ ?_ ?_ ?_ ?_ ?_
  rotate_left 2; (simp only [gA, gB, gC]; rfl); kernel_rfl; kernel_rfl; kernel_rfl; kernel_rfl; exact fun _ _ _ h => h; refine Or.inl ⟨?_, ?_⟩; focus (go_simp; done)
  focus (intro w hSw; have b0 := hSw.1.cell 0; have b1 := hSw.1.cell 1; have o1 := hSw.2.cell 1; have o4 := hSw.2.cell 4; (go_simp <;> with_reducible rfl))
  assumption; (try simp only [Act.put, gD, gE, gF])
  refine' wpAnyL_take (i := 3) (v := _) ?_ ?_ ?_ ?_ ?_ ?_ ?_ ?_ ?_
  rotate_left 2; (simp only [gA, gB, gC]; rfl); kernel_rfl; kernel_rfl; kernel_rfl; kernel_rfl; exact fun _ _ _ h => h; refine Or.inl ⟨?_, ?_⟩; focus (go_simp; done)
  focus (intro w hSw; have b0 := hSw.1.cell 0; have b1 := hSw.1.cell 1; have o1 := hSw.2.cell 1; have o4 := hSw.2.cell 4; (go_simp <;> with_reducible rfl))
  assumption; (try simp only [Act.put, gD, gE, gF])
  refine' wpAnyL_take (i := 4) (v := _) ?_ ?_ ?_ ?_ ?_ ?_ ?_ ?_ ?_
  rotate_left 2; (simp only [gA, gB, gC]; rfl); kernel_rfl; kernel_rfl; kernel_rfl; kernel_rfl; exact fun _ _ _ h => h; refine Or.inl ⟨?_, ?_⟩; focus (go_simp; done)
  focus (intro w hSw; have b0 := hSw.1.cell 0; have b1 := hSw.1.cell 1; have o1 := hSw.2.cell 1; have o4 := hSw.2.cell 4; (go_simp <;> with_reducible rfl))
  assumption; (try simp only [Act.put, gD, gE, gF])
  refine' wpAnyL_take (i := 5) (v := _) ?_ ?_ ?_ ?_ ?_ ?_ ?_ ?_ ?_
  rotate_left 2; (simp only [gA, gB, gC]; rfl); kernel_rfl; kernel_rfl; kernel_rfl; kernel_rfl; exact fun _ _ _ h => h; refine Or.inl ⟨?_, ?_⟩; focus (go_simp; done)
  focus (intro w hSw; have b0 := hSw.1.cell 0; have b1 := hSw.1.cell 1; have o1 := hSw.2.cell 1; have o4 := hSw.2.cell 4; (go_simp <;> with_reducible rfl))
  assumption; (try simp only [Act.put, gD, gE, gF])
  refine' wpAnyL_take (i := 6) (v := _) ?_ ?_ ?_ ?_ ?_ ?_ ?_ ?_ ?_
  rotate_left 2; (simp only [gA, gB, gC]; rfl); kernel_rfl; kernel_rfl; kernel_rfl; kernel_rfl; exact fun _ _ _ h => h; refine Or.inl ⟨?_, ?_⟩; focus (go_simp; done)
  focus (intro w hSw; have b0 := hSw.1.cell 0; have b1 := hSw.1.cell 1; have o1 := hSw.2.cell 1; have o4 := hSw.2.cell 4; (go_simp <;> with_reducible rfl))
  assumption; (try simp only [Act.put, gD, gE, gF])
  refine' wpAnyL_take (i := 7) (v := _) ?_ ?_ ?_ ?_ ?_ ?_ ?_ ?_ ?_
  rotate_left 2; (simp only [gA, gB, gC]; rfl); kernel_rfl; kernel_rfl; kernel_rfl; kernel_rfl; exact fun _ _ _ h => h; refine Or.inl ⟨?_, ?_⟩; focus (go_simp; done)
  focus (intro w hSw; have b0 := hSw.1.cell 0; have b1 := hSw.1.cell 1; have o1 := hSw.2.cell 1; have o4 := hSw.2.cell 4; (go_simp <;> with_reducible rfl))
  assumption; (try simp only [Act.put, gD, gE, gF])
  refine' wpAnyL_take (i := 8) (v := _) ?_ ?_ ?_ ?_ ?_ ?_ ?_ ?_ ?_
  rotate_left 2; (simp only [gA, gB, gC]; rfl); kernel_rfl; kernel_rfl; kernel_rfl; kernel_rfl; exact fun _ _ _ h => h; refine Or.inl ⟨?_, ?_⟩; focus (go_simp; done)
  focus (intro w hSw; have b0 := hSw.1.cell 0; have b1 := hSw.1.cell 1; have o1 := hSw.2.cell 1; have o4 := hSw.2.cell 4; (go_simp <;> with_reducible rfl))
  assumption; (try simp only [Act.put, gD, gE, gF])
  refine' wpAnyL_take (i := 9) (v := _) ?_ ?_ ?_ ?_ ?_ ?_ ?_ ?_ ?_
  rotate_left 2; (simp only [gA, gB, gC]; rfl); kernel_rfl; kernel_rfl; kernel_rfl; kernel_rfl; exact fun _ _ _ h => h; refine Or.inl ⟨?_, ?_⟩; focus (go_simp; done)
  focus (intro w hSw; have b0 := hSw.1.cell 0; have b1 := hSw.1.cell 1; have o1 := hSw.2.cell 1; have o4 := hSw.2.cell 4; (go_simp <;> with_reducible rfl))
  assumption; (try simp only [Act.put, gD, gE, gF])
  refine' wpAnyL_take (i := 10) (v := _) ?_ ?_ ?_ ?_ ?_ ?_ ?_ ?_ ?_
  rotate_left 2; (simp only [gA, gB, gC]; rfl); kernel_rfl; kernel_rfl; kernel_rfl; kernel_rfl; exact fun _ _ _ h => h; refine Or.inl ⟨?_, ?_⟩; focus (go_simp; done)
  focus (intro w hSw; have b0 := hSw.1.cell 0; have b1 := hSw.1.cell 1; have o1 := hSw.2.cell 1; have o4 := hSw.2.cell 4; (go_simp <;> with_reducible rfl))
  assumption; (try simp only [Act.put, gD, gE, gF])
  refine' wpAnyL_take (i := 11) (v := _) ?_ ?_ ?_ ?_ ?_ ?_ ?_ ?_ ?_
  rotate_left 2; (simp only [gA, gB, gC]; rfl); kernel_rfl; kernel_rfl; kernel_rfl; kernel_rfl; exact fun _ _ _ h => h; refine Or.inl ⟨?_, ?_⟩; focus (go_simp; done)
  focus (intro w hSw; have b0 := hSw.1.cell 0; have b1 := hSw.1.cell 1; have o1 := hSw.2.cell 1; have o4 := hSw.2.cell 4; (go_simp <;> with_reducible rfl))
  assumption; (try simp only [Act.put, gD, gE, gF])
  refine' wpAnyL_take (i := 12) (v := _) ?_ ?_ ?_ ?_ ?_ ?_ ?_ ?_ ?_
  rotate_left 2; (simp only [gA, gB, gC]; rfl); kernel_rfl; kernel_rfl; kernel_rfl; kernel_rfl; exact fun _ _ _ h => h; refine Or.inl ⟨?_, ?_⟩; focus (go_simp; done)
  focus (intro w hSw; have b0 := hSw.1.cell 0; have b1 := hSw.1.cell 1; have o1 := hSw.2.cell 1; have o4 := hSw.2.cell 4; (go_simp <;> with_reducible rfl))
  assumption; (try simp only [Act.put, gD, gE, gF])
  refine' wpAnyL_take (i := 13) (v := _) ?_ ?_ ?_ ?_ ?_ ?_ ?_ ?_ ?_
  rotate_left 2; (simp only [gA, gB, gC]; rfl); kernel_rfl; kernel_rfl; kernel_rfl; kernel_rfl; exact fun _ _ _ h => h; refine Or.inl ⟨?_, ?_⟩; focus (go_simp; done)
  focus (intro w hSw; have b0 := hSw.1.cell 0; have b1 := hSw.1.cell 1; have o1 := hSw.2.cell 1; have o4 := hSw.2.cell 4; (go_simp <;> with_reducible rfl))
  assumption; (try simp only [Act.put, gD, gE, gF])
  refine' wpAnyL_take (i := 14) (v := _) ?_ ?_ ?_ ?_ ?_ ?_ ?_ ?_ ?_
  rotate_left 2; (simp only [gA, gB, gC]; rfl); kernel_rfl; kernel_rfl; kernel_rfl; kernel_rfl; exact fun _ _ _ h => h; refine Or.inl ⟨?_, ?_⟩; focus (go_simp; done)
  focus (intro w hSw; have b0 := hSw.1.cell 0; have b1 := hSw.1.cell 1; have o1 := hSw.2.cell 1; have o4 := hSw.2.cell 4; (go_simp <;> with_reducible rfl))
  assumption; (try simp only [Act.put, gD, gE, gF])
  refine' wpAnyL_one (i := 15) ?_ ?_ ?_ (fun K hK => ?_)
  rotate_left
  focus kernel_rfl
  focus kernel_rfl
  focus (simp only [gA, gB, gC]; rfl)
  have k0 := (HFd.out.kn.cell d).trans (slRow_cell _ _ hd)
  have kf := HFd.out.kn.frozen d
  have klo := HFd.out.kn.lt
  go_simp
  refine hK.out _ _ (⟨hHeld.1.far (p := ⟨Kb, d, none⟩) a1 _, hHeld.2.far (p := ⟨Kb, d, none⟩) (by show w.heap.size ≠ Kb; omega) _⟩) (fun hHeld => ?_)
  clear hK K
  (try simp only [Act.put, gD, gE, gF])
  clear k0 kf klo
  refine' wpAnyL_take (i := 16) (v := _) ?_ ?_ ?_ ?_ ?_ ?_ ?_ ?_ ?_
  rotate_left 2; (simp only [gA, gB, gC]; rfl); kernel_rfl; kernel_rfl; kernel_rfl; kernel_rfl; exact fun _ _ _ h => h; refine Or.inl ⟨?_, ?_⟩; focus (go_simp; done)
  focus (intro w hSw; have b0 := hSw.1.cell 0; have b1 := hSw.1.cell 1; have o1 := hSw.2.cell 1; have o4 := hSw.2.cell 4; (go_simp <;> with_reducible rfl))
  assumption; (try simp only [Act.put, gD, gE, gF])
  refine' wpAnyL_last ?_ ?_ (fun K hK => ?_)
  rotate_left
  focus kernel_rfl
  focus (simp only [gA, gB, gC]; rfl)
  have hwd := (show Bk (w1.setCell ⟨Kb, d, none⟩ (.bool true)).drew Wb _ _ from (HF.out.wd.far (p := ⟨Kb, d, none⟩) (fun e => a4 e.symm) (.bool true)).below (below_drewN _ _ 1))
  have c0 := (hwd.cell d).trans (slRow_cell _ _ hd)
  have cf := hwd.frozen d
  have clo := hwd.lt
  clear hwd
  go_simp
  refine hK.out _ _ ?_
  clear hK K
  (try simp only [Act.put, gD, gE, gF])
  refine wpAny_done (by kernel_rfl) ?_ _
  clear c0 cf clo
  have HE := Lib.hid (show Rf V Bf Kb Wb Ob ⟨Fo.upd s.wd (d : Int) (some m), Fo.cut s.cp (d : Int)⟩ _ (((w1.setCell ⟨Kb, d, none⟩ (.bool true)).setCell ⟨Wb, d, none⟩ (.int .i64 m)).drew) from (HF.out.known hd m).below (below_drewN _ _ 1))
  have HMe := Lib.hid (show Mt Kb Wb Ob w (((w1.setCell ⟨Kb, d, none⟩ (.bool true)).setCell ⟨Wb, d, none⟩ (.int .i64 m)).drew) from (HM.out.known d _ _).trans (Mt.of_below (below_drewN _ _ 1)))
  have HOe := Lib.hid (show Bk (((w1.setCell ⟨Kb, d, none⟩ (.bool true)).setCell ⟨Wb, d, none⟩ (.int .i64 m)).drew) w.heap.size _ _ from ((HO.out.far (p := ⟨Kb, d, none⟩) (by show w.heap.size ≠ Kb; omega) _).far (p := ⟨Wb, d, none⟩) (by show w.heap.size ≠ Wb; omega) _).below (below_drewN _ _ 1))
  have HZe := Lib.hid (show Bk (((w1.setCell ⟨Kb, d, none⟩ (.bool true)).setCell ⟨Wb, d, none⟩ (.int .i64 m)).drew) (w.heap.size + 1) _ _ from ((HZ.out.far (p := ⟨Kb, d, none⟩) (by show w.heap.size + 1 ≠ Kb; omega) _).far (p := ⟨Wb, d, none⟩) (by show w.heap.size + 1 ≠ Wb; omega) _).below (below_drewN _ _ 1))
  clear hHeld HFd HF HO HZ HM
  generalize hX : (World.setCell _ ⟨Wb, d, none⟩ (Value.int .i64 m)).drew = X at HE HMe HOe HZe ⊢
  clear hX
  have o0 := HOe.out.cell 0
  have o1 := HOe.out.cell 1
  have o2 := HOe.out.cell 2
  have o3 := HOe.out.cell 3
  have o4 := HOe.out.cell 4
  have z0 := HZe.out.cell 0
  have y0 := HZe.out.frozen 0
  have z1 := HZe.out.cell 1
  have y1 := HZe.out.frozen 1
  have z2 := HZe.out.cell 2
  have y2 := HZe.out.frozen 2
  have z3 := HZe.out.cell 3
  have y3 := HZe.out.frozen 3
  have z4 := HZe.out.cell 4
  have y4 := HZe.out.frozen 4
  go_wp2
  refine bodyPost_ret (v := .agg #[.int .i64 1, .int .i64 (d : Int), .int .i64 0, .int .i64 0, .int .i64 m]) ?_ rfl ⟨?_, ?_⟩
  · simp [results, Tryz.results46, go_sem, z0, z1, z2, z3, z4]
  · rw [show Fo.step s ⟨3, (d : Int), (a : Int), (b : Int), i⟩ = ⟨1, (d : Int), 0, 0, m⟩ by rw [← HVal.out]; simp [Fo.step, Fo.direct, Fo.const, Fo.result, HU.out.1, HU.out.2, HA.out, HAb.out]]; rfl
  · rw [show Fo.learn s (Fo.step s ⟨3, (d : Int), (a : Int), (b : Int), i⟩) = ⟨Fo.upd s.wd (d : Int) (some m), Fo.cut s.cp (d : Int)⟩ by rw [← HVal.out]; simp [Fo.step, Fo.direct, Fo.const, Fo.result, Fo.learn, HU.out.1, HU.out.2, HA.out, HAb.out]]
    exact rf_fin HL.out HE.out HMe.out _ _ _ _ _
end Go.Proofs.YtojflhkmonicoaaGreat
