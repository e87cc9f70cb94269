/- The specification of layer 14: an operation of two operands, folded. No condition. -/
import Derived.Test.YtojflhkmonicoaaGreatFoRefC
import Derived.Test.YtojflhkmonicoaaGreatWdK
namespace Go.Proofs.YtojflhkmonicoaaGreat
open Go.RowKit
set_option linter.unusedVariables false
set_option linter.unusedSimpArgs false
attribute [local go_sem] y_undef
theorem Rf.copy {V Bf K W O : Nat} {s : Fo.S} {fw : Nat → Int} {u : World} {d : Nat} (h : Rf V Bf K W O ⟨Fo.upd s.wd (d : Int) none, Fo.cut s.cp (d : Int)⟩ fw u) (hd : d < V) (m : Int) :
    Rf V Bf K W O ⟨Fo.upd s.wd (d : Int) none, Fo.upd (Fo.cut s.cp (d : Int)) (d : Int) (some m)⟩ fw (u.setCell ⟨O, d, none⟩ (.int .i64 m)) := by
  obtain ⟨a1, a2, a3, a4, a5, a6⟩ := h.ap
  refine ⟨h.fb.far (p := ⟨O, d, none⟩) a3 _, h.kn.far (p := ⟨O, d, none⟩) a5 _, h.wd.far (p := ⟨O, d, none⟩) a6 _, ?_, h.wv, h.ap⟩
  have := h.cp.set d (.int .i64 m)
  rw [slRow_set V _ (fun v => .int .i64 ((Fo.upd (Fo.cut s.cp (d : Int)) (d : Int) (some m) (v : Int)).getD (-1))) d (.int .i64 m) (fun j hj => by
    unfold Fo.upd
    by_cases e : j = d
    · subst e; simp
    · have : ¬ (j : Int) = (d : Int) := by omega
      simp [e, this])] at this
  exact this
theorem Mt.third {K W O : Nat} {w u : World} (h : Mt K W O w u) (d : Nat) (x : Value) : Mt K W O w (u.setCell ⟨O, d, none⟩ x) := by
  have hB : Below 0 u _ := (Below.refl 0 u).setCell (p := ⟨O, d, none⟩) (Nat.zero_le _) x
  exact ⟨hB.os.trans h.os, hB.tape.trans h.tape, hB.output.trans h.output, by rw [World.size_setCell]; exact h.size, fun j hj h1 h2 h3 => (Below.heap_setCell _ _ _ j (by exact h3)).trans (h.block j hj h1 h2 h3)⟩
set_option maxHeartbeats 4000000 in
set_option maxRecDepth 100000 in
theorem rfold_2a (V Bf Kb Wb Ob : Nat) (s : Fo.S) (fw : Nat → Int) (d a : Nat) (b i : Int) (hd : d < V) (ha : a < V) (hua : s.wd (Fo.use s (a : Int)) = none) (hud : Fo.use s (a : Int) = (d : Int)) (hV : V ≤ 1000) (hok : Fo.Ok V s) (w : World) (h : Rf V Bf Kb Wb Ob s fw w) :
    Calls Tryz.prog 46 #[.pointer (some ⟨Bf, 0, none⟩), .agg #[.int .i64 2, .int .i64 (d : Int), .int .i64 (a : Int), .int .i64 b, .int .i64 i]] w (RfPost V Bf Kb Wb Ob s ⟨2, (d : Int), (a : Int), b, i⟩ w) := by
  have HH := Lib.hid h
  have HB := Lib.hid (o2_new w #[.int .i64 2, .int .i64 (d : Int), .int .i64 (a : Int), .int .i64 b, .int .i64 i])
  have HR := Lib.hid (h.below HB.out.1)
  have HL := Lib.hid h.lt
  obtain ⟨l1, l2, l3, l4⟩ := h.lt
  obtain ⟨a1, a2, a3, a4, a5, a6⟩ := h.ap
  have hltd : (d : Int) < V := by omega
  have hlt0d : (0 : Int) ≤ (d : Int) := by omega
  have hlta : (a : Int) < V := by omega
  have hlt0a : (0 : Int) ≤ (a : Int) := by omega
  clear h
  go_enter Tryz.func46, Tryz.ntmps46
  have HA := Lib.hid hua
  have HBn := Lib.hid (Fo.use_in hok (v := (a : Int)) hlt0a hlta)
  clear hua
  go_wp2_with fail
  refine (ruse_any V Bf Kb Wb Ob s fw a ha hV hok _ HR.out).mono ?_
  rintro e w1 ⟨rfl, rfl⟩
  have HB2 := Lib.hid (o2_new w #[.int .i64 2, .int .i64 (d : Int), .int .i64 (Fo.use s (a : Int)), .int .i64 b, .int .i64 i])
  have HR2 := Lib.hid (HH.out.below HB2.out.1)
  have HW := Lib.hid fun (n : Nat) => (⟨HR2.out.below (below_drewN _ _ n), HB2.out.2.1.below (below_drewN _ _ n), HB2.out.2.2.below (below_drewN _ _ n), (Mt.of_below (b1 := Kb) (b2 := Wb) (b3 := Ob) HB2.out.1).trans (Mt.of_below (below_drewN _ _ n))⟩ : _ ∧ _ ∧ _ ∧ _)
  obtain ⟨ua, hua⟩ : ∃ x, Fo.use s (a : Int) = x := ⟨_, rfl⟩
  have HU := Lib.hid hua
  rw [hua] at HB2 HW HA HBn ⊢
  clear hua HR HB
  obtain ⟨na, rfl⟩ : ∃ n : Nat, ua = (n : Int) := ⟨ua.toNat, by have := HBn.out.1; omega⟩
  have hna : na < V := by have := HBn.out.2; omega
  have hna1 : (na : Int) < V := by omega
  have hna0 : (0 : Int) ≤ (na : Int) := by omega
  have b0 := HH.out.fb.cell 0
  have k0 := (HH.out.kn.cell na).trans (slRow_cell _ _ hna)
  rw [HA.out] at k0
  have lk : Kb < w.heap.size := l2
  obtain rfl : na = d := by have := HU.out; omega
  go_wp2
  go_quiet (fail)
  go_wp2
  go_quiet (fail)
  clear b0 k0
  go_upto_region 18 with fail
  go_wp2_with fail
  refine (rforget_any V Bf Kb Wb Ob s fw na hd hV hok _ (HW.out _).1).mono ?_
  rintro e w1 ⟨rfl, hRf, hmu⟩
  have HE := Lib.hid hRf
  have HOe := Lib.hid (hmu.bk (HW.out _).2.1 (by omega) (by omega))
  have HZe := Lib.hid (hmu.bk (HW.out _).2.2.1 (by omega) (by omega))
  have HMe := Lib.hid ((HW.out _).2.2.2.trans (Mt.of_mu hmu))
  clear hRf hmu HW
  have o0 := HOe.out.cell 0
  have o1 := HOe.out.cell 1
  have o2 := HOe.out.cell 2
  have o3 := HOe.out.cell 3
  have o4 := HOe.out.cell 4
  have z0 := HZe.out.cell 0
  have y0 := HZe.out.frozen 0
  have z1 := HZe.out.cell 1
  have y1 := HZe.out.frozen 1
  have z2 := HZe.out.cell 2
  have y2 := HZe.out.frozen 2
  have z3 := HZe.out.cell 3
  have y3 := HZe.out.frozen 3
  have z4 := HZe.out.cell 4
  have y4 := HZe.out.frozen 4
  go_wp2
  refine bodyPost_ret (v := .agg #[.int .i64 2, .int .i64 (na : Int), .int .i64 (na : Int), .int .i64 b, .int .i64 i]) ?_ rfl ⟨?_, ?_⟩
  · simp [results, Tryz.results46, go_sem, z0, z1, z2, z3, z4]
  · rw [show Fo.step s ⟨2, (na : Int), (a : Int), b, i⟩ = ⟨2, (na : Int), (na : Int), b, i⟩ by simp [Fo.step, Fo.direct, Fo.const, Fo.result, HU.out, HA.out]]; rfl
  · rw [show Fo.learn s (Fo.step s ⟨2, (na : Int), (a : Int), b, i⟩) = ⟨Fo.upd s.wd (na : Int) none, Fo.cut s.cp (na : Int)⟩ by simp [Fo.step, Fo.direct, Fo.const, Fo.result, Fo.learn, HU.out, HA.out]]
    exact rf_fin HL.out HE.out HMe.out _ _ _ _ _
set_option maxHeartbeats 4000000 in
set_option maxRecDepth 100000 in
theorem rfold_2b (V Bf Kb Wb Ob : Nat) (s : Fo.S) (fw : Nat → Int) (d a : Nat) (b i : Int) (hd : d < V) (ha : a < V) (hua : s.wd (Fo.use s (a : Int)) = none) (hud : ¬ Fo.use s (a : Int) = (d : Int)) (hV : V ≤ 1000) (hok : Fo.Ok V s) (w : World) (h : Rf V Bf Kb Wb Ob s fw w) :
    Calls Tryz.prog 46 #[.pointer (some ⟨Bf, 0, none⟩), .agg #[.int .i64 2, .int .i64 (d : Int), .int .i64 (a : Int), .int .i64 b, .int .i64 i]] w (RfPost V Bf Kb Wb Ob s ⟨2, (d : Int), (a : Int), b, i⟩ w) := by
  have HH := Lib.hid h
  have HB := Lib.hid (o2_new w #[.int .i64 2, .int .i64 (d : Int), .int .i64 (a : Int), .int .i64 b, .int .i64 i])
  have HR := Lib.hid (h.below HB.out.1)
  have HL := Lib.hid h.lt
  obtain ⟨l1, l2, l3, l4⟩ := h.lt
  obtain ⟨a1, a2, a3, a4, a5, a6⟩ := h.ap
  have hltd : (d : Int) < V := by omega
  have hlt0d : (0 : Int) ≤ (d : Int) := by omega
  have hlta : (a : Int) < V := by omega
  have hlt0a : (0 : Int) ≤ (a : Int) := by omega
  clear h
  go_enter Tryz.func46, Tryz.ntmps46
  have HA := Lib.hid hua
  have HBn := Lib.hid (Fo.use_in hok (v := (a : Int)) hlt0a hlta)
  clear hua
  go_wp2_with fail
  refine (ruse_any V Bf Kb Wb Ob s fw a ha hV hok _ HR.out).mono ?_
  rintro e w1 ⟨rfl, rfl⟩
  have HB2 := Lib.hid (o2_new w #[.int .i64 2, .int .i64 (d : Int), .int .i64 (Fo.use s (a : Int)), .int .i64 b, .int .i64 i])
  have HR2 := Lib.hid (HH.out.below HB2.out.1)
  have HW := Lib.hid fun (n : Nat) => (⟨HR2.out.below (below_drewN _ _ n), HB2.out.2.1.below (below_drewN _ _ n), HB2.out.2.2.below (below_drewN _ _ n), (Mt.of_below (b1 := Kb) (b2 := Wb) (b3 := Ob) HB2.out.1).trans (Mt.of_below (below_drewN _ _ n))⟩ : _ ∧ _ ∧ _ ∧ _)
  obtain ⟨ua, hua⟩ : ∃ x, Fo.use s (a : Int) = x := ⟨_, rfl⟩
  have HU := Lib.hid hua
  rw [hua] at HB2 HW HA HBn ⊢
  clear hua HR HB
  obtain ⟨na, rfl⟩ : ∃ n : Nat, ua = (n : Int) := ⟨ua.toNat, by have := HBn.out.1; omega⟩
  have hna : na < V := by have := HBn.out.2; omega
  have hna1 : (na : Int) < V := by omega
  have hna0 : (0 : Int) ≤ (na : Int) := by omega
  have b0 := HH.out.fb.cell 0
  have k0 := (HH.out.kn.cell na).trans (slRow_cell _ _ hna)
  rw [HA.out] at k0
  have lk : Kb < w.heap.size := l2
  have hnd : ¬ (na : Int) = (d : Int) := by have := HU.out; omega
  have hnd2 : decide ((na : Int) = (d : Int)) = false := by simp; omega
  go_wp2
  go_quiet (fail)
  go_wp2
  go_quiet (fail)
  clear b0 k0
  go_upto_region 18 with fail
  go_wp2_with fail
  refine (rforget_any V Bf Kb Wb Ob s fw d hd hV hok _ (HW.out _).1).mono ?_
  rintro e w1 ⟨rfl, hRf, hmu⟩
  have HE := Lib.hid hRf
  have HOe := Lib.hid (hmu.bk (HW.out _).2.1 (by omega) (by omega))
  have HZe := Lib.hid (hmu.bk (HW.out _).2.2.1 (by omega) (by omega))
  have HMe := Lib.hid ((HW.out _).2.2.2.trans (Mt.of_mu hmu))
  clear hRf hmu HW
  have o0 := HOe.out.cell 0
  have o1 := HOe.out.cell 1
  have o2 := HOe.out.cell 2
  have o3 := HOe.out.cell 3
  have o4 := HOe.out.cell 4
  have z0 := HZe.out.cell 0
  have y0 := HZe.out.frozen 0
  have z1 := HZe.out.cell 1
  have y1 := HZe.out.frozen 1
  have z2 := HZe.out.cell 2
  have y2 := HZe.out.frozen 2
  have z3 := HZe.out.cell 3
  have y3 := HZe.out.frozen 3
  have z4 := HZe.out.cell 4
  have y4 := HZe.out.frozen 4
  go_upto_region 20 with fail
  clear o0 z0 y0 o1 z1 y1 o2 z2 y2 o3 z3 y3 o4 z4 y4
  refine wp_region_last (S := fun u : World => Bk u Bf 89 #[.slice (some ⟨Kb, 0, none⟩) V V, .slice (some ⟨Wb, 0, none⟩) V V, .slice (some ⟨Ob, 0, none⟩) V V] ∧ Bk u w.heap.size 42 #[.int .i64 2, .int .i64 (d : Int), .int .i64 (na : Int), .int .i64 b, .int .i64 i]) 9 (by kernel_rfl) ?_ (fun hHeld => ?_)
  · exact ⟨HE.out.fb.below (below_drewN _ _ 1), HOe.out.below (below_drewN _ _ 1)⟩
  refine' wpAnyL_take (i := 0) (v := _) ?_ ?_ ?_ ?_ ?_ ?_ ?_ ?_ ?_
  rotate_left 2; (simp only [gA, gB, gC]; rfl); kernel_rfl; kernel_rfl; kernel_rfl; kernel_rfl; exact fun _ _ _ h => h; refine Or.inl ⟨?_, ?_⟩; focus (go_simp; done)
  focus (intro w hSw; have b2 := hSw.1.cell 2; have o1 := hSw.2.cell 1; have o2 := hSw.2.cell 2; (go_simp <;> with_reducible rfl))
  assumption; (try simp only [Act.put, gD, gE, gF])
  refine' wpAnyL_take (i := 1) (v := _) ?_ ?_ ?_ ?_ ?_ ?_ ?_ ?_ ?_
  rotate_left 2; (simp only [gA, gB, gC]; rfl); kernel_rfl; kernel_rfl; kernel_rfl; kernel_rfl; exact fun _ _ _ h => h; refine Or.inl ⟨?_, ?_⟩; focus (go_simp; done)
  focus (intro w hSw; have b2 := hSw.1.cell 2; have o1 := hSw.2.cell 1; have o2 := hSw.2.cell 2; (go_simp <;> with_reducible rfl))
  assumption; (try simp only [Act.put, gD, gE, gF])
  refine' wpAnyL_take (i := 2) (v := _) ?_ ?_ ?_ ?_ ?_ ?_ ?_ ?_ ?_
  rotate_left 2; (simp only [gA, gB, gC]; rfl); kernel_rfl; kernel_rfl; kernel_rfl; kernel_rfl; exact fun _ _ _ h => h; refine Or.inl ⟨?_, ?_⟩; focus (go_simp; done)
  focus (intro w hSw; have b2 := hSw.1.cell 2; have o1 := hSw.2.cell 1; have o2 := hSw.2.cell 2; (go_simp <;> with_reducible rfl))
  assumption; (try simp only [Act.put, gD, gE, gF])
  refine' wpAnyL_take (i := 3) (v := _) ?_ ?_ ?_ ?_ ?_ ?_ ?_ ?_ ?_
  rotate_left 2; (simp only [gA, gB, gC]; rfl); kernel_rfl; kernel_rfl; kernel_rfl; kernel_rfl; exact fun _ _ _ h => h; refine Or.inl ⟨?_, ?_⟩; focus (go_simp; done)
  focus (intro w hSw; have b2 := hSw.1.cell 2; have o1 := hSw.2.cell 1; have o2 := hSw.2.cell 2; (go_simp <;> with_reducible rfl))
  assumption; (try simp only [Act.put, gD, gE, gF])
  refine' wpAnyL_take (i := 4) (v := _) ?_ ?_ ?_ ?_ ?_ ?_ ?_ ?_ ?_
  rotate_left 2; (simp only [gA, gB, gC]; rfl); kernel_rfl; kernel_rfl; kernel_rfl; kernel_rfl; exact fun _ _ _ h => h; refine Or.inl ⟨?_, ?_⟩; focus (go_simp; done)
  focus (intro w hSw; have b2 := hSw.1.cell 2; have o1 := hSw.2.cell 1; have o2 := hSw.2.cell 2; (go_simp <;> with_reducible rfl))
  assumption; (try simp only [Act.put, gD, gE, gF])
  refine' wpAnyL_take (i := 5) (v := _) ?_ ?_ ?_ ?_ ?_ ?_ ?_ ?_ ?_
  rotate_left 2; (simp only [gA, gB, gC]; rfl); kernel_rfl; kernel_rfl; kernel_rfl; kernel_rfl; exact fun _ _ _ h => h; refine Or.inl ⟨?_, ?_⟩; focus (go_simp; done)
  focus (intro w hSw; have b2 := hSw.1.cell 2; have o1 := hSw.2.cell 1; have o2 := hSw.2.cell 2; (go_simp <;> with_reducible rfl))
  assumption; (try simp only [Act.put, gD, gE, gF])
  refine' wpAnyL_take (i := 6) (v := _) ?_ ?_ ?_ ?_ ?_ ?_ ?_ ?_ ?_
  rotate_left 2; (simp only [gA, gB, gC]; rfl); kernel_rfl; kernel_rfl; kernel_rfl; kernel_rfl; exact fun _ _ _ h => h; refine Or.inl ⟨?_, ?_⟩; focus (go_simp; done)
  focus (intro w hSw; have b2 := hSw.1.cell 2; have o1 := hSw.2.cell 1; have o2 := hSw.2.cell 2; (go_simp <;> with_reducible rfl))
  assumption; (try simp only [Act.put, gD, gE, gF])
  refine' wpAnyL_take (i := 7) (v := _) ?_ ?_ ?_ ?_ ?_ ?_ ?_ ?_ ?_
  rotate_left 2; (simp only [gA, gB, gC]; rfl); kernel_rfl; kernel_rfl; kernel_rfl; kernel_rfl; exact fun _ _ _ h => h; refine Or.inl ⟨?_, ?_⟩; focus (go_simp; done)
  focus (intro w hSw; have b2 := hSw.1.cell 2; have o1 := hSw.2.cell 1; have o2 := hSw.2.cell 2; (go_simp <;> with_reducible rfl))
  assumption; (try simp only [Act.put, gD, gE, gF])
  refine' wpAnyL_take (i := 8) (v := _) ?_ ?_ ?_ ?_ ?_ ?_ ?_ ?_ ?_
  rotate_left 2; (simp only [gA, gB, gC]; rfl); kernel_rfl; kernel_rfl; kernel_rfl; kernel_rfl; exact fun _ _ _ h => h; refine Or.inl ⟨?_, ?_⟩; focus (go_simp; done)
  focus (intro w hSw; have b2 := hSw.1.cell 2; have o1 := hSw.2.cell 1; have o2 := hSw.2.cell 2; (go_simp <;> with_reducible rfl))
  assumption; (try simp only [Act.put, gD, gE, gF])
  refine' wpAnyL_last ?_ ?_ (fun K hK => ?_)
  rotate_left
  focus kernel_rfl
  focus (simp only [gA, gB, gC]; rfl)
  have hcp := (show Bk w1.drew Ob _ _ from HE.out.cp.below (below_drewN _ _ 1))
  have c0 := (hcp.cell d).trans (slRow_cell _ _ hd)
  have cf := hcp.frozen d
  have clo := hcp.lt
  clear hcp
  go_simp
  refine hK.out _ _ ?_
  clear hK K
  (try simp only [Act.put, gD, gE, gF])
  refine wpAny_done (by kernel_rfl) ?_ _
  clear c0 cf clo
  replace HE := Lib.hid (show Rf V Bf Kb Wb Ob _ _ ((w1.setCell ⟨Ob, d, none⟩ (.int .i64 (na : Int))).drew) from (HE.out.copy hd (na : Int)).below (below_drewN _ _ 1))
  replace HMe := Lib.hid (show Mt Kb Wb Ob w ((w1.setCell ⟨Ob, d, none⟩ (.int .i64 (na : Int))).drew) from (HMe.out.third d _).trans (Mt.of_below (below_drewN _ _ 1)))
  replace HOe := Lib.hid (show Bk ((w1.setCell ⟨Ob, d, none⟩ (.int .i64 (na : Int))).drew) w.heap.size _ _ from (HOe.out.far (p := ⟨Ob, d, none⟩) (by show w.heap.size ≠ Ob; omega) _).below (below_drewN _ _ 1))
  replace HZe := Lib.hid (show Bk ((w1.setCell ⟨Ob, d, none⟩ (.int .i64 (na : Int))).drew) (w.heap.size + 1) _ _ from (HZe.out.far (p := ⟨Ob, d, none⟩) (by show w.heap.size + 1 ≠ Ob; omega) _).below (below_drewN _ _ 1))
  clear hHeld
  generalize hX : (World.setCell _ ⟨Ob, d, none⟩ (Value.int .i64 (na : Int))).drew = X at HE HMe HOe HZe ⊢
  clear hX
  have o0 := HOe.out.cell 0
  have o1 := HOe.out.cell 1
  have o2 := HOe.out.cell 2
  have o3 := HOe.out.cell 3
  have o4 := HOe.out.cell 4
  have z0 := HZe.out.cell 0
  have y0 := HZe.out.frozen 0
  have z1 := HZe.out.cell 1
  have y1 := HZe.out.frozen 1
  have z2 := HZe.out.cell 2
  have y2 := HZe.out.frozen 2
  have z3 := HZe.out.cell 3
  have y3 := HZe.out.frozen 3
  have z4 := HZe.out.cell 4
  have y4 := HZe.out.frozen 4
  go_wp2
  refine bodyPost_ret (v := .agg #[.int .i64 2, .int .i64 (d : Int), .int .i64 (na : Int), .int .i64 b, .int .i64 i]) ?_ rfl ⟨?_, ?_⟩
  · simp [results, Tryz.results46, go_sem, z0, z1, z2, z3, z4]
  · rw [show Fo.step s ⟨2, (d : Int), (a : Int), b, i⟩ = ⟨2, (d : Int), (na : Int), b, i⟩ by simp [Fo.step, Fo.direct, Fo.const, Fo.result, HU.out, HA.out]]; rfl
  · rw [show Fo.learn s (Fo.step s ⟨2, (d : Int), (a : Int), b, i⟩) = ⟨Fo.upd s.wd (d : Int) none, Fo.upd (Fo.cut s.cp (d : Int)) (d : Int) (some (na : Int))⟩ by rw [show Fo.step s ⟨2, (d : Int), (a : Int), b, i⟩ = ⟨2, (d : Int), (na : Int), b, i⟩ by simp [Fo.step, Fo.direct, Fo.const, Fo.result, HU.out, HA.out]]; exact Fo.learn_2 hnd]
    exact rf_fin HL.out HE.out HMe.out _ _ _ _ _
end Go.Proofs.YtojflhkmonicoaaGreat
