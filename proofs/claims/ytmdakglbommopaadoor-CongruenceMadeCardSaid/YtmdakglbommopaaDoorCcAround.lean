/- The code of layer 8: what results of more than one word can be. Condition: the library's table of trailing zeros lies in the world. -/
import Derived.Test.YtmdakglbommopaaDoorCcJoin
namespace Go.Proofs.YtmdakglbommopaaDoor
open Go.RowKit
set_option linter.unusedVariables false
set_option linter.unusedSimpArgs false
attribute [local go_sem] y_undef
set_option maxHeartbeats 8000000 in
theorem around_any (o n : Int) (a b z : Rs) (i j : Nat) (gx : Rs.G a i) (gy : Rs.G b j) (hs : ¬ (a.m = 0 ∧ b.m = 0)) (hn : val o a.r b.r = n) (hz : Rs.op o a b = z) (w : World) (htb : Tb w) :
    Calls Tryd.prog 34 #[.int .i64 o, .int .i64 n, .agg #[.int .i64 a.m, .int .i64 a.r], .agg #[.int .i64 b.m, .int .i64 b.r]] w fun e w' => e = .returned (.agg #[.int .i64 z.m, .int .i64 z.r]) ∧ Below w.heap.size w w' := by
  have hB := c3_new w a b 23
  have HTb := Lib.hid htb
  clear htb
  have HI := Lib.hid gx.sz
  have HJ := Lib.hid gy.sz
  have hle : i ≤ 32 ∧ j ≤ 32 := ⟨gx.le, gy.le⟩
  have HG := Lib.hid (And.intro gx (And.intro gy (And.intro hs (And.intro hn hz))))
  clear gx gy hs hn hz
  obtain ⟨k0, hk0⟩ : ∃ k, min i j = k := ⟨_, rfl⟩
  have hmin := fun (ts : Array TypeId) (t : TypeId) (W : World) => run_minN2 i j ts t W
  rw [hk0] at hmin
  have HK0 := Lib.hid hk0
  clear hk0
  go_enter Tryd.func34, Tryd.ntmps34
  go_wp2_with fail
  refine wp_region_held_drew (S := (fun w' => C3 w a b w')) (by kernel_rfl) (hB.drew) (fun hHeld => ?_)
  generalize (((w.alloc (.cells #[.int .i64 a.m, .int .i64 a.r] 23)).alloc (.cells #[.int .i64 b.m, .int .i64 b.r] 23)).alloc (.cells #[.int .i64 0, .int .i64 0] 23)).drew = u0 at *
  clear hB
  refine' wpAnyH_take (i := 0) (v := _) ?_ ?_ ?_ ?_ ?_ ?_ ?_ ?_
  rotate_left 2
  focus (simp only [List.getElem?_toArray, List.getElem?_cons_succ, List.getElem?_cons_zero]; rfl)
  focus kernel_rfl
  focus kernel_rfl
  focus kernel_rfl
  focus exact (fun _ _ _ h => h)
  refine Or.inl ⟨?_, ?_⟩
  focus (go_simp; done)
  focus (intro w hSw; obtain ⟨_, ⟨a0, a1⟩, ⟨b0, b1⟩, _⟩ := hSw; (first | (go_simp; done) | (go_simp; with_reducible rfl)))
  focus assumption
  (try simp only [Act.put, List.setIfInBounds_toArray, List.set_cons_zero, List.set_cons_succ])
  refine' wpAnyH_take (i := 2) (v := _) ?_ ?_ ?_ ?_ ?_ ?_ ?_ ?_
  rotate_left 2
  focus (simp only [List.getElem?_toArray, List.getElem?_cons_succ, List.getElem?_cons_zero]; rfl)
  focus kernel_rfl
  focus kernel_rfl
  focus kernel_rfl
  focus exact (fun _ _ _ h => h)
  refine Or.inl ⟨?_, ?_⟩
  focus (go_simp; done)
  focus (intro w hSw; obtain ⟨_, ⟨a0, a1⟩, ⟨b0, b1⟩, _⟩ := hSw; (first | (go_simp; done) | (go_simp; with_reducible rfl)))
  focus assumption
  (try simp only [Act.put, List.setIfInBounds_toArray, List.set_cons_zero, List.set_cons_succ])
  refine wpAnyH_ready (rs := [1]) (by kernel_rfl) (by simp) ?_
  refine' AllReadyH.cons ?_ (fun K hK => ?_) AllReadyH.nil
  rotate_left
  focus (simp only [List.getElem?_toArray, List.getElem?_cons_succ, List.getElem?_cons_zero]; rfl)
  go_simp
  (have hTu := HTb.out.below (hHeld.1.1); go_at_call 39; (with_reducible refine (size_any a.m a.r i HI.out _ hTu).mono ?_); clear hTu; rintro e u1 ⟨rfl, hb⟩)
  have hS := C3.below hHeld hb
  clear hb
  refine hK.out _ _ hS (fun hHeld => ?_)
  clear hK K hS
  (try simp only [Act.put, List.setIfInBounds_toArray, List.set_cons_zero, List.set_cons_succ])
  refine wpAnyH_ready (rs := [3]) (by kernel_rfl) (by simp) ?_
  refine' AllReadyH.cons ?_ (fun K hK => ?_) AllReadyH.nil
  rotate_left
  focus (simp only [List.getElem?_toArray, List.getElem?_cons_succ, List.getElem?_cons_zero]; rfl)
  go_simp
  (have hTu := HTb.out.below (hHeld.1.1); go_at_call 39; (with_reducible refine (size_any b.m b.r j HJ.out _ hTu).mono ?_); clear hTu; rintro e u3 ⟨rfl, hb⟩)
  have hS := C3.below hHeld hb
  clear hb
  refine hK.out _ _ hS (fun hHeld => ?_)
  clear hK K hS
  (try simp only [Act.put, List.setIfInBounds_toArray, List.set_cons_zero, List.set_cons_succ])
  refine' wpAnyH_take (i := 4) (v := _) ?_ ?_ ?_ ?_ ?_ ?_ ?_ ?_
  rotate_left 2
  focus (simp only [List.getElem?_toArray, List.getElem?_cons_succ, List.getElem?_cons_zero]; rfl)
  focus kernel_rfl
  focus kernel_rfl
  focus kernel_rfl
  focus exact (fun _ _ _ h => h)
  refine Or.inl ⟨?_, ?_⟩
  focus (go_simp; done)
  focus (intro w hSw; obtain ⟨_, ⟨a0, a1⟩, ⟨b0, b1⟩, _⟩ := hSw; (first | (go_simp; done) | (go_simp; with_reducible rfl)))
  focus assumption
  (try simp only [Act.put, List.setIfInBounds_toArray, List.set_cons_zero, List.set_cons_succ])
  refine' wpAnyH_take (i := 5) (v := _) ?_ ?_ ?_ ?_ ?_ ?_ ?_ ?_
  rotate_left 2
  focus (simp only [List.getElem?_toArray, List.getElem?_cons_succ, List.getElem?_cons_zero]; rfl)
  focus kernel_rfl
  focus kernel_rfl
  focus kernel_rfl
  focus exact (fun _ _ _ h => h)
  refine Or.inl ⟨?_, ?_⟩
  focus (go_simp; done)
  focus (intro w hSw; obtain ⟨_, ⟨a0, a1⟩, ⟨b0, b1⟩, _⟩ := hSw; (first | (go_simp; done) | (go_simp; with_reducible rfl)))
  focus assumption
  (try simp only [Act.put, List.setIfInBounds_toArray, List.set_cons_zero, List.set_cons_succ])
  refine wpAnyH_done (by kernel_rfl) ?_ _
  clear hmin
  obtain ⟨hA, ⟨a0, a1⟩, ⟨b0, b1⟩, ⟨x, y, c0, c1⟩, f2⟩ := id hHeld; have hy0 := hA.lt0 (by omega); have hy1 := hA.lt1 (by omega); have hy2 := hA.lt2 (by omega)
  have hcase : (o = 1 ∨ o = 2 ∨ o = 3 ∨ o = 6 ∨ o = 7 ∨ o = 8) ∨ o = 9 ∨ (o = 13 ∨ o = 14) ∨ ¬ (o = 1 ∨ o = 2 ∨ o = 3 ∨ o = 6 ∨ o = 7 ∨ o = 8 ∨ o = 9 ∨ o = 13 ∨ o = 14) := by omega
  rcases hcase with ho | rfl | ho | ho
  · have HZ := Lib.hid (show Rs.low n k0 = z by rw [← HG.out.2.2.2.2, Rs.op_ring HG.out.1 HG.out.2.1 HG.out.2.2.1 ho, HG.out.2.2.2.1, HK0.out])
    rcases ho with rfl | rfl | rfl | rfl | rfl | rfl
    all_goals as_aux_lemma =>
      go_wp2_with fail
      refine (class_any n k0 z HZ.out _).mono ?_
      rintro e w4 ⟨rfl, hb⟩
      clear hA a0 a1 b0 b1 c0 c1 f2 hy0 hy1 hy2 x y
      replace hHeld := hHeld.below hb
      clear hb
      obtain ⟨hA, ⟨a0, a1⟩, ⟨b0, b1⟩, ⟨x, y, c0, c1⟩, f2⟩ := id hHeld; have hy0 := hA.lt0 (by omega); have hy1 := hA.lt1 (by omega); have hy2 := hA.lt2 (by omega)
      go_wp2
      refine bodyPost_ret (v := .agg #[.int .i64 z.m, .int .i64 z.r]) ?_ rfl ⟨rfl, hHeld.set.1.1⟩
      simp [results, Tryd.results34, go_sem, c0, c1, hy2]
  · by_cases h0 : b.m = 0
    · have HS := Lib.hid (show (b.m == 0) = true by simp [h0])
      obtain ⟨c9, hc9⟩ : ∃ c, b.r % 32 = c := ⟨_, rfl⟩
      have hc : 0 ≤ c9 ∧ c9 < 32 := by omega
      have hand : bits .and .i64 b.r 31 = c9 := by rw [mask31, hc9]
      obtain ⟨k9, hk9⟩ : ∃ k, i + c9.toNat = k := ⟨_, rfl⟩
      have hadd : IntKind.i64.wrap ((i : Int) + c9) = (k9 : Int) := by rw [IntWalk.i64_in] <;> omega
      have HL := Lib.hid (show Rs.low n k9 = z by rw [← HG.out.2.2.2.2, Rs.op_shl HG.out.1 HG.out.2.1 HG.out.2.2.1 h0, HG.out.2.2.2.1, hc9, hk9])
      clear h0 hc9 hk9 hc hle
      go_wp2_with fail
      refine (single_any b.m b.r true HS.out _).mono ?_
      rintro e w5 ⟨rfl, hb⟩
      clear hA a0 a1 b0 b1 c0 c1 f2 hy0 hy1 hy2 x y
      replace hHeld := hHeld.below hb
      clear hb
      obtain ⟨hA, ⟨a0, a1⟩, ⟨b0, b1⟩, ⟨x, y, c0, c1⟩, f2⟩ := id hHeld; have hy0 := hA.lt0 (by omega); have hy1 := hA.lt1 (by omega); have hy2 := hA.lt2 (by omega)
      go_wp2
      clear hA a0 a1 b0 b1 c0 c1 f2 hy0 hy1 hy2 x y
      refine wp_region_held_drew (S := (fun w' => C3 w a b w')) (by kernel_rfl) (hHeld.drew) (fun hHeld => ?_)
      generalize w5.drew = u0 at *
      refine' wpAnyH_take (i := 0) (v := _) ?_ ?_ ?_ ?_ ?_ ?_ ?_ ?_
      rotate_left 2
      focus (simp only [List.getElem?_toArray, List.getElem?_cons_succ, List.getElem?_cons_zero]; rfl)
      focus kernel_rfl
      focus kernel_rfl
      focus kernel_rfl
      focus exact (fun _ _ _ h => h)
      refine Or.inl ⟨?_, ?_⟩
      focus (go_simp; done)
      focus (intro w hSw; obtain ⟨_, ⟨a0, a1⟩, ⟨b0, b1⟩, _⟩ := hSw; (first | (go_simp; done) | (go_simp; with_reducible rfl)))
      focus assumption
      (try simp only [Act.put, List.setIfInBounds_toArray, List.set_cons_zero, List.set_cons_succ])
      refine' wpAnyH_take (i := 1) (v := _) ?_ ?_ ?_ ?_ ?_ ?_ ?_ ?_
      rotate_left 2
      focus (simp only [List.getElem?_toArray, List.getElem?_cons_succ, List.getElem?_cons_zero]; rfl)
      focus kernel_rfl
      focus kernel_rfl
      focus kernel_rfl
      focus exact (fun _ _ _ h => h)
      refine Or.inl ⟨?_, ?_⟩
      focus (go_simp; done)
      focus (intro w hSw; obtain ⟨_, ⟨a0, a1⟩, ⟨b0, b1⟩, _⟩ := hSw; (first | (go_simp; done) | (go_simp; with_reducible rfl)))
      focus assumption
      (try simp only [Act.put, List.setIfInBounds_toArray, List.set_cons_zero, List.set_cons_succ])
      refine' wpAnyH_take (i := 3) (v := _) ?_ ?_ ?_ ?_ ?_ ?_ ?_ ?_
      rotate_left 2
      focus (simp only [List.getElem?_toArray, List.getElem?_cons_succ, List.getElem?_cons_zero]; rfl)
      focus kernel_rfl
      focus kernel_rfl
      focus kernel_rfl
      focus exact (fun _ _ _ h => h)
      refine Or.inl ⟨?_, ?_⟩
      focus (go_simp; done)
      focus (intro w hSw; obtain ⟨_, ⟨a0, a1⟩, ⟨b0, b1⟩, _⟩ := hSw; (first | (go_simp; done) | (go_simp; with_reducible rfl)))
      focus assumption
      (try simp only [Act.put, List.setIfInBounds_toArray, List.set_cons_zero, List.set_cons_succ])
      refine' wpAnyH_take (i := 4) (v := _) ?_ ?_ ?_ ?_ ?_ ?_ ?_ ?_
      rotate_left 2
      focus (simp only [List.getElem?_toArray, List.getElem?_cons_succ, List.getElem?_cons_zero]; rfl)
      focus kernel_rfl
      focus kernel_rfl
      focus kernel_rfl
      focus exact (fun _ _ _ h => h)
      refine Or.inl ⟨?_, ?_⟩
      focus (go_simp; done)
      focus (intro w hSw; obtain ⟨_, ⟨a0, a1⟩, ⟨b0, b1⟩, _⟩ := hSw; (first | (go_simp; done) | (go_simp; with_reducible rfl)))
      focus assumption
      (try simp only [Act.put, List.setIfInBounds_toArray, List.set_cons_zero, List.set_cons_succ])
      refine' wpAnyH_take (i := 5) (v := _) ?_ ?_ ?_ ?_ ?_ ?_ ?_ ?_
      rotate_left 2
      focus (simp only [List.getElem?_toArray, List.getElem?_cons_succ, List.getElem?_cons_zero]; rfl)
      focus kernel_rfl
      focus kernel_rfl
      focus kernel_rfl
      focus exact (fun _ _ _ h => h)
      refine Or.inl ⟨?_, ?_⟩
      focus (go_simp; done)
      focus (intro w hSw; obtain ⟨_, ⟨a0, a1⟩, ⟨b0, b1⟩, _⟩ := hSw; (first | (go_simp; done) | (go_simp; with_reducible rfl)))
      focus assumption
      (try simp only [Act.put, List.setIfInBounds_toArray, List.set_cons_zero, List.set_cons_succ])
      refine wpAnyH_ready (rs := [2]) (by kernel_rfl) (by simp) ?_
      refine' AllReadyH.cons ?_ (fun K hK => ?_) AllReadyH.nil
      rotate_left
      focus (simp only [List.getElem?_toArray, List.getElem?_cons_succ, List.getElem?_cons_zero]; rfl)
      go_simp
      (have hTu := HTb.out.below (hHeld.1.1); go_at_call 39; (with_reducible refine (size_any a.m a.r i HI.out _ hTu).mono ?_); clear hTu; rintro e u2 ⟨rfl, hb⟩)
      have hS := C3.below hHeld hb
      clear hb
      refine hK.out _ _ hS (fun hHeld => ?_)
      clear hK K hS
      (try simp only [Act.put, List.setIfInBounds_toArray, List.set_cons_zero, List.set_cons_succ])
      refine' wpAnyH_take (i := 6) (v := _) ?_ ?_ ?_ ?_ ?_ ?_ ?_ ?_
      rotate_left 2
      focus (simp only [List.getElem?_toArray, List.getElem?_cons_succ, List.getElem?_cons_zero]; rfl)
      focus kernel_rfl
      focus kernel_rfl
      focus kernel_rfl
      focus exact (fun _ _ _ h => h)
      refine Or.inl ⟨?_, ?_⟩
      focus (go_simp; done)
      focus (intro w hSw; obtain ⟨_, ⟨a0, a1⟩, ⟨b0, b1⟩, _⟩ := hSw; (first | (go_simp; done) | (go_simp; with_reducible rfl)))
      focus assumption
      (try simp only [Act.put, List.setIfInBounds_toArray, List.set_cons_zero, List.set_cons_succ])
      refine wpAnyH_ready (rs := [7]) (by kernel_rfl) (by simp) ?_
      refine' AllReadyH.cons ?_ (fun K hK => ?_) AllReadyH.nil
      rotate_left
      focus (simp only [List.getElem?_toArray, List.getElem?_cons_succ, List.getElem?_cons_zero]; rfl)
      go_simp
      (go_at_call 38; (with_reducible refine (class_any n k9 z HL.out _).mono ?_); rintro e u7 ⟨rfl, hb⟩)
      have hS := C3.below hHeld hb
      clear hb
      refine hK.out _ _ hS (fun hHeld => ?_)
      clear hK K hS
      (try simp only [Act.put, List.setIfInBounds_toArray, List.set_cons_zero, List.set_cons_succ])
      refine wpAnyH_ready (rs := [8]) (by kernel_rfl) (by simp) ?_
      refine' AllReadyH.cons ?_ (fun K hK => ?_) AllReadyH.nil
      rotate_left
      focus (simp only [List.getElem?_toArray, List.getElem?_cons_succ, List.getElem?_cons_zero]; rfl)
      obtain ⟨hA, ⟨a0, a1⟩, ⟨b0, b1⟩, ⟨x, y, c0, c1⟩, f2⟩ := id hHeld; have hy0 := hA.lt0 (by omega); have hy1 := hA.lt1 (by omega); have hy2 := hA.lt2 (by omega)
      go_simp
      have hS := C3.set (x := .int .i64 (z.m)) (y := .int .i64 (z.r)) hHeld
      refine hK.out _ _ hS (fun hHeld => ?_)
      clear hK K hS
      (try simp only [Act.put, List.setIfInBounds_toArray, List.set_cons_zero, List.set_cons_succ])
      refine wpAnyH_done (by kernel_rfl) ?_ _
      go_wp2
      refine bodyPost_ret (v := .agg #[.int .i64 z.m, .int .i64 z.r]) ?_ rfl ⟨rfl, hHeld.1.1⟩
      simp [results, Tryd.results34, go_sem, c0, c1]
    · have HS := Lib.hid (show (b.m == 0) = false by simp [h0])
      have HZ := Lib.hid (show Rs.all = z by rw [← HG.out.2.2.2.2, Rs.op_else HG.out.2.2.1 (by omega) (by simp [h0]) (by omega)])
      clear h0 hle
      go_wp2_with fail
      refine (single_any b.m b.r false HS.out _).mono ?_
      rintro e w5 ⟨rfl, hb⟩
      clear hA a0 a1 b0 b1 c0 c1 f2 hy0 hy1 hy2 x y
      replace hHeld := hHeld.below hb
      clear hb
      obtain ⟨hA, ⟨a0, a1⟩, ⟨b0, b1⟩, ⟨x, y, c0, c1⟩, f2⟩ := id hHeld; have hy0 := hA.lt0 (by omega); have hy1 := hA.lt1 (by omega); have hy2 := hA.lt2 (by omega)
      go_wp2_with fail
      refine (cAll_any _).mono ?_
      rintro e w6 ⟨rfl, hb⟩
      clear hA a0 a1 b0 b1 c0 c1 f2 hy0 hy1 hy2 x y
      replace hHeld := hHeld.below hb
      clear hb
      obtain ⟨hA, ⟨a0, a1⟩, ⟨b0, b1⟩, ⟨x, y, c0, c1⟩, f2⟩ := id hHeld; have hy0 := hA.lt0 (by omega); have hy1 := hA.lt1 (by omega); have hy2 := hA.lt2 (by omega)
      go_wp2
      rw [← HZ.out]
      refine bodyPost_ret (v := .agg #[.int .i64 Rs.all.m, .int .i64 Rs.all.r]) ?_ rfl ⟨rfl, hHeld.set.1.1⟩
      simp [results, Tryd.results34, go_sem, c0, c1, hy2, Rs.all]
  · obtain ⟨za, hza⟩ : ∃ q, Rs.low a.r k0 = q := ⟨_, rfl⟩
    obtain ⟨zb, hzb⟩ : ∃ q, Rs.low b.r k0 = q := ⟨_, rfl⟩
    have hg := rs_guard
    by_cases h0 : za = zb
    · have he := rs_neq za.m za.r zb.m zb.r false (by simp [h0])
      have HZ := Lib.hid (show Rs.all = z by rw [← HG.out.2.2.2.2, Rs.op_near HG.out.1 HG.out.2.1 HG.out.2.2.1 ho (by rw [HK0.out, hza, hzb]; exact h0)])
      have HA := Lib.hid hza
      have HB := Lib.hid hzb
      clear h0 hza hzb hle
      rcases ho with rfl | rfl
      all_goals as_aux_lemma =>
        go_wp2
        clear hA a0 a1 b0 b1 c0 c1 f2 hy0 hy1 hy2 x y
        refine wp_region_held_drew (S := (fun w' => C3 w a b w')) (by kernel_rfl) (hHeld.drew) (fun hHeld => ?_)
        generalize u3.drew = u0 at *
        refine' wpAnyH_take (i := 0) (v := _) ?_ ?_ ?_ ?_ ?_ ?_ ?_ ?_
        rotate_left 2
        focus (simp only [List.getElem?_toArray, List.getElem?_cons_succ, List.getElem?_cons_zero]; rfl)
        focus kernel_rfl
        focus kernel_rfl
        focus kernel_rfl
        focus exact (fun _ _ _ h => h)
        refine Or.inl ⟨?_, ?_⟩
        focus (go_simp; done)
        focus (intro w hSw; obtain ⟨_, ⟨a0, a1⟩, ⟨b0, b1⟩, _⟩ := hSw; (first | (go_simp; done) | (go_simp; with_reducible rfl)))
        focus assumption
        (try simp only [Act.put, List.setIfInBounds_toArray, List.set_cons_zero, List.set_cons_succ])
        refine' wpAnyH_take (i := 1) (v := _) ?_ ?_ ?_ ?_ ?_ ?_ ?_ ?_
        rotate_left 2
        focus (simp only [List.getElem?_toArray, List.getElem?_cons_succ, List.getElem?_cons_zero]; rfl)
        focus kernel_rfl
        focus kernel_rfl
        focus kernel_rfl
        focus exact (fun _ _ _ h => h)
        refine Or.inl ⟨?_, ?_⟩
        focus (go_simp; done)
        focus (intro w hSw; obtain ⟨_, ⟨a0, a1⟩, ⟨b0, b1⟩, _⟩ := hSw; (first | (go_simp; done) | (go_simp; with_reducible rfl)))
        focus assumption
        (try simp only [Act.put, List.setIfInBounds_toArray, List.set_cons_zero, List.set_cons_succ])
        refine' wpAnyH_take (i := 2) (v := _) ?_ ?_ ?_ ?_ ?_ ?_ ?_ ?_
        rotate_left 2
        focus (simp only [List.getElem?_toArray, List.getElem?_cons_succ, List.getElem?_cons_zero]; rfl)
        focus kernel_rfl
        focus kernel_rfl
        focus kernel_rfl
        focus exact (fun _ _ _ h => h)
        refine Or.inl ⟨?_, ?_⟩
        focus (go_simp; done)
        focus (intro w hSw; obtain ⟨_, ⟨a0, a1⟩, ⟨b0, b1⟩, _⟩ := hSw; (first | (go_simp; done) | (go_simp; with_reducible rfl)))
        focus assumption
        (try simp only [Act.put, List.setIfInBounds_toArray, List.set_cons_zero, List.set_cons_succ])
        refine' wpAnyH_take (i := 4) (v := _) ?_ ?_ ?_ ?_ ?_ ?_ ?_ ?_
        rotate_left 2
        focus (simp only [List.getElem?_toArray, List.getElem?_cons_succ, List.getElem?_cons_zero]; rfl)
        focus kernel_rfl
        focus kernel_rfl
        focus kernel_rfl
        focus exact (fun _ _ _ h => h)
        refine Or.inl ⟨?_, ?_⟩
        focus (go_simp; done)
        focus (intro w hSw; obtain ⟨_, ⟨a0, a1⟩, ⟨b0, b1⟩, _⟩ := hSw; (first | (go_simp; done) | (go_simp; with_reducible rfl)))
        focus assumption
        (try simp only [Act.put, List.setIfInBounds_toArray, List.set_cons_zero, List.set_cons_succ])
        refine' wpAnyH_take (i := 5) (v := _) ?_ ?_ ?_ ?_ ?_ ?_ ?_ ?_
        rotate_left 2
        focus (simp only [List.getElem?_toArray, List.getElem?_cons_succ, List.getElem?_cons_zero]; rfl)
        focus kernel_rfl
        focus kernel_rfl
        focus kernel_rfl
        focus exact (fun _ _ _ h => h)
        refine Or.inl ⟨?_, ?_⟩
        focus (go_simp; done)
        focus (intro w hSw; obtain ⟨_, ⟨a0, a1⟩, ⟨b0, b1⟩, _⟩ := hSw; (first | (go_simp; done) | (go_simp; with_reducible rfl)))
        focus assumption
        (try simp only [Act.put, List.setIfInBounds_toArray, List.set_cons_zero, List.set_cons_succ])
        refine' wpAnyH_take (i := 6) (v := _) ?_ ?_ ?_ ?_ ?_ ?_ ?_ ?_
        rotate_left 2
        focus (simp only [List.getElem?_toArray, List.getElem?_cons_succ, List.getElem?_cons_zero]; rfl)
        focus kernel_rfl
        focus kernel_rfl
        focus kernel_rfl
        focus exact (fun _ _ _ h => h)
        refine Or.inl ⟨?_, ?_⟩
        focus (go_simp; done)
        focus (intro w hSw; obtain ⟨_, ⟨a0, a1⟩, ⟨b0, b1⟩, _⟩ := hSw; (first | (go_simp; done) | (go_simp; with_reducible rfl)))
        focus assumption
        (try simp only [Act.put, List.setIfInBounds_toArray, List.set_cons_zero, List.set_cons_succ])
        refine wpAnyH_ready (rs := [3]) (by kernel_rfl) (by simp) ?_
        refine' AllReadyH.cons ?_ (fun K hK => ?_) AllReadyH.nil
        rotate_left
        focus (simp only [List.getElem?_toArray, List.getElem?_cons_succ, List.getElem?_cons_zero]; rfl)
        go_simp
        (go_at_call 38; (with_reducible refine (class_any a.r k0 za HA.out _).mono ?_); rintro e u3 ⟨rfl, hb⟩)
        have hS := C3.below hHeld hb
        clear hb
        refine hK.out _ _ hS (fun hHeld => ?_)
        clear hK K hS
        (try simp only [Act.put, List.setIfInBounds_toArray, List.set_cons_zero, List.set_cons_succ])
        refine wpAnyH_ready (rs := [7]) (by kernel_rfl) (by simp) ?_
        refine' AllReadyH.cons ?_ (fun K hK => ?_) AllReadyH.nil
        rotate_left
        focus (simp only [List.getElem?_toArray, List.getElem?_cons_succ, List.getElem?_cons_zero]; rfl)
        go_simp
        (go_at_call 38; (with_reducible refine (class_any b.r k0 zb HB.out _).mono ?_); rintro e u7 ⟨rfl, hb⟩)
        have hS := C3.below hHeld hb
        clear hb
        refine hK.out _ _ hS (fun hHeld => ?_)
        clear hK K hS
        (try simp only [Act.put, List.setIfInBounds_toArray, List.set_cons_zero, List.set_cons_succ])
        refine' wpAnyH_take (i := 8) (v := _) ?_ ?_ ?_ ?_ ?_ ?_ ?_ ?_
        rotate_left 2
        focus (simp only [List.getElem?_toArray, List.getElem?_cons_succ, List.getElem?_cons_zero]; rfl)
        focus kernel_rfl
        focus kernel_rfl
        focus kernel_rfl
        focus exact (fun _ _ _ h => h)
        refine Or.inl ⟨?_, ?_⟩
        focus (go_simp; done)
        focus (intro w hSw; obtain ⟨_, ⟨a0, a1⟩, ⟨b0, b1⟩, _⟩ := hSw; (first | (go_simp; done) | (go_simp; with_reducible rfl)))
        focus assumption
        (try simp only [Act.put, List.setIfInBounds_toArray, List.set_cons_zero, List.set_cons_succ])
        refine wpAnyH_done (by kernel_rfl) ?_ _
        obtain ⟨hA, ⟨a0, a1⟩, ⟨b0, b1⟩, ⟨x, y, c0, c1⟩, f2⟩ := id hHeld; have hy0 := hA.lt0 (by omega); have hy1 := hA.lt1 (by omega); have hy2 := hA.lt2 (by omega)
        go_wp2_with fail
        refine (cAll_any _).mono ?_
        rintro e w6 ⟨rfl, hb⟩
        clear hA a0 a1 b0 b1 c0 c1 f2 hy0 hy1 hy2 x y
        replace hHeld := hHeld.below hb
        clear hb
        obtain ⟨hA, ⟨a0, a1⟩, ⟨b0, b1⟩, ⟨x, y, c0, c1⟩, f2⟩ := id hHeld; have hy0 := hA.lt0 (by omega); have hy1 := hA.lt1 (by omega); have hy2 := hA.lt2 (by omega)
        go_wp2
        rw [← HZ.out]
        refine bodyPost_ret (v := .agg #[.int .i64 Rs.all.m, .int .i64 Rs.all.r]) ?_ rfl ⟨rfl, hHeld.set.1.1⟩
        simp [results, Tryd.results34, go_sem, c0, c1, hy2, Rs.all]
    · have he := rs_neq za.m za.r zb.m zb.r true (by rw [rs_same]; simpa using h0)
      have HZ := Lib.hid (show Rs.sing n = z by rw [← HG.out.2.2.2.2, Rs.op_far HG.out.1 HG.out.2.1 HG.out.2.2.1 ho (by rw [HK0.out, hza, hzb]; exact h0), HG.out.2.2.2.1])
      have HA := Lib.hid hza
      have HB := Lib.hid hzb
      clear h0 hza hzb hle
      rcases ho with rfl | rfl
      all_goals as_aux_lemma =>
        go_wp2
        clear hA a0 a1 b0 b1 c0 c1 f2 hy0 hy1 hy2 x y
        refine wp_region_held_drew (S := (fun w' => C3 w a b w')) (by kernel_rfl) (hHeld.drew) (fun hHeld => ?_)
        generalize u3.drew = u0 at *
        refine' wpAnyH_take (i := 0) (v := _) ?_ ?_ ?_ ?_ ?_ ?_ ?_ ?_
        rotate_left 2
        focus (simp only [List.getElem?_toArray, List.getElem?_cons_succ, List.getElem?_cons_zero]; rfl)
        focus kernel_rfl
        focus kernel_rfl
        focus kernel_rfl
        focus exact (fun _ _ _ h => h)
        refine Or.inl ⟨?_, ?_⟩
        focus (go_simp; done)
        focus (intro w hSw; obtain ⟨_, ⟨a0, a1⟩, ⟨b0, b1⟩, _⟩ := hSw; (first | (go_simp; done) | (go_simp; with_reducible rfl)))
        focus assumption
        (try simp only [Act.put, List.setIfInBounds_toArray, List.set_cons_zero, List.set_cons_succ])
        refine' wpAnyH_take (i := 1) (v := _) ?_ ?_ ?_ ?_ ?_ ?_ ?_ ?_
        rotate_left 2
        focus (simp only [List.getElem?_toArray, List.getElem?_cons_succ, List.getElem?_cons_zero]; rfl)
        focus kernel_rfl
        focus kernel_rfl
        focus kernel_rfl
        focus exact (fun _ _ _ h => h)
        refine Or.inl ⟨?_, ?_⟩
        focus (go_simp; done)
        focus (intro w hSw; obtain ⟨_, ⟨a0, a1⟩, ⟨b0, b1⟩, _⟩ := hSw; (first | (go_simp; done) | (go_simp; with_reducible rfl)))
        focus assumption
        (try simp only [Act.put, List.setIfInBounds_toArray, List.set_cons_zero, List.set_cons_succ])
        refine' wpAnyH_take (i := 2) (v := _) ?_ ?_ ?_ ?_ ?_ ?_ ?_ ?_
        rotate_left 2
        focus (simp only [List.getElem?_toArray, List.getElem?_cons_succ, List.getElem?_cons_zero]; rfl)
        focus kernel_rfl
        focus kernel_rfl
        focus kernel_rfl
        focus exact (fun _ _ _ h => h)
        refine Or.inl ⟨?_, ?_⟩
        focus (go_simp; done)
        focus (intro w hSw; obtain ⟨_, ⟨a0, a1⟩, ⟨b0, b1⟩, _⟩ := hSw; (first | (go_simp; done) | (go_simp; with_reducible rfl)))
        focus assumption
        (try simp only [Act.put, List.setIfInBounds_toArray, List.set_cons_zero, List.set_cons_succ])
        refine' wpAnyH_take (i := 4) (v := _) ?_ ?_ ?_ ?_ ?_ ?_ ?_ ?_
        rotate_left 2
        focus (simp only [List.getElem?_toArray, List.getElem?_cons_succ, List.getElem?_cons_zero]; rfl)
        focus kernel_rfl
        focus kernel_rfl
        focus kernel_rfl
        focus exact (fun _ _ _ h => h)
        refine Or.inl ⟨?_, ?_⟩
        focus (go_simp; done)
        focus (intro w hSw; obtain ⟨_, ⟨a0, a1⟩, ⟨b0, b1⟩, _⟩ := hSw; (first | (go_simp; done) | (go_simp; with_reducible rfl)))
        focus assumption
        (try simp only [Act.put, List.setIfInBounds_toArray, List.set_cons_zero, List.set_cons_succ])
        refine' wpAnyH_take (i := 5) (v := _) ?_ ?_ ?_ ?_ ?_ ?_ ?_ ?_
        rotate_left 2
        focus (simp only [List.getElem?_toArray, List.getElem?_cons_succ, List.getElem?_cons_zero]; rfl)
        focus kernel_rfl
        focus kernel_rfl
        focus kernel_rfl
        focus exact (fun _ _ _ h => h)
        refine Or.inl ⟨?_, ?_⟩
        focus (go_simp; done)
        focus (intro w hSw; obtain ⟨_, ⟨a0, a1⟩, ⟨b0, b1⟩, _⟩ := hSw; (first | (go_simp; done) | (go_simp; with_reducible rfl)))
        focus assumption
        (try simp only [Act.put, List.setIfInBounds_toArray, List.set_cons_zero, List.set_cons_succ])
        refine' wpAnyH_take (i := 6) (v := _) ?_ ?_ ?_ ?_ ?_ ?_ ?_ ?_
        rotate_left 2
        focus (simp only [List.getElem?_toArray, List.getElem?_cons_succ, List.getElem?_cons_zero]; rfl)
        focus kernel_rfl
        focus kernel_rfl
        focus kernel_rfl
        focus exact (fun _ _ _ h => h)
        refine Or.inl ⟨?_, ?_⟩
        focus (go_simp; done)
        focus (intro w hSw; obtain ⟨_, ⟨a0, a1⟩, ⟨b0, b1⟩, _⟩ := hSw; (first | (go_simp; done) | (go_simp; with_reducible rfl)))
        focus assumption
        (try simp only [Act.put, List.setIfInBounds_toArray, List.set_cons_zero, List.set_cons_succ])
        refine wpAnyH_ready (rs := [3]) (by kernel_rfl) (by simp) ?_
        refine' AllReadyH.cons ?_ (fun K hK => ?_) AllReadyH.nil
        rotate_left
        focus (simp only [List.getElem?_toArray, List.getElem?_cons_succ, List.getElem?_cons_zero]; rfl)
        go_simp
        (go_at_call 38; (with_reducible refine (class_any a.r k0 za HA.out _).mono ?_); rintro e u3 ⟨rfl, hb⟩)
        have hS := C3.below hHeld hb
        clear hb
        refine hK.out _ _ hS (fun hHeld => ?_)
        clear hK K hS
        (try simp only [Act.put, List.setIfInBounds_toArray, List.set_cons_zero, List.set_cons_succ])
        refine wpAnyH_ready (rs := [7]) (by kernel_rfl) (by simp) ?_
        refine' AllReadyH.cons ?_ (fun K hK => ?_) AllReadyH.nil
        rotate_left
        focus (simp only [List.getElem?_toArray, List.getElem?_cons_succ, List.getElem?_cons_zero]; rfl)
        go_simp
        (go_at_call 38; (with_reducible refine (class_any b.r k0 zb HB.out _).mono ?_); rintro e u7 ⟨rfl, hb⟩)
        have hS := C3.below hHeld hb
        clear hb
        refine hK.out _ _ hS (fun hHeld => ?_)
        clear hK K hS
        (try simp only [Act.put, List.setIfInBounds_toArray, List.set_cons_zero, List.set_cons_succ])
        refine' wpAnyH_take (i := 8) (v := _) ?_ ?_ ?_ ?_ ?_ ?_ ?_ ?_
        rotate_left 2
        focus (simp only [List.getElem?_toArray, List.getElem?_cons_succ, List.getElem?_cons_zero]; rfl)
        focus kernel_rfl
        focus kernel_rfl
        focus kernel_rfl
        focus exact (fun _ _ _ h => h)
        refine Or.inl ⟨?_, ?_⟩
        focus (go_simp; done)
        focus (intro w hSw; obtain ⟨_, ⟨a0, a1⟩, ⟨b0, b1⟩, _⟩ := hSw; (first | (go_simp; done) | (go_simp; with_reducible rfl)))
        focus assumption
        (try simp only [Act.put, List.setIfInBounds_toArray, List.set_cons_zero, List.set_cons_succ])
        refine wpAnyH_done (by kernel_rfl) ?_ _
        obtain ⟨hA, ⟨a0, a1⟩, ⟨b0, b1⟩, ⟨x, y, c0, c1⟩, f2⟩ := id hHeld; have hy0 := hA.lt0 (by omega); have hy1 := hA.lt1 (by omega); have hy2 := hA.lt2 (by omega)
        go_wp2_with fail
        refine (cOf_any n z HZ.out _).mono ?_
        rintro e w9 ⟨rfl, hb⟩
        clear hA a0 a1 b0 b1 c0 c1 f2 hy0 hy1 hy2 x y
        replace hHeld := hHeld.below hb
        clear hb
        obtain ⟨hA, ⟨a0, a1⟩, ⟨b0, b1⟩, ⟨x, y, c0, c1⟩, f2⟩ := id hHeld; have hy0 := hA.lt0 (by omega); have hy1 := hA.lt1 (by omega); have hy2 := hA.lt2 (by omega)
        go_wp2
        refine bodyPost_ret (v := .agg #[.int .i64 z.m, .int .i64 z.r]) ?_ rfl ⟨rfl, hHeld.set.1.1⟩
        simp [results, Tryd.results34, go_sem, c0, c1, hy2]
  · have HZ := Lib.hid (show Rs.all = z by rw [← HG.out.2.2.2.2, Rs.op_else HG.out.2.2.1 (by omega) (by omega) (by omega)])
    have e1 : (o == 1) = false := by simp; omega
    have e2 : (o == 2) = false := by simp; omega
    have e3 : (o == 3) = false := by simp; omega
    have e6 : (o == 6) = false := by simp; omega
    have e7 : (o == 7) = false := by simp; omega
    have e8 : (o == 8) = false := by simp; omega
    have e9 : (o == 9) = false := by simp; omega
    have e13 : (o == 13) = false := by simp; omega
    have e14 : (o == 14) = false := by simp; omega
    clear ho hle
    go_wp2_with fail
    refine (cAll_any _).mono ?_
    rintro e w6 ⟨rfl, hb⟩
    clear hA a0 a1 b0 b1 c0 c1 f2 hy0 hy1 hy2 x y
    replace hHeld := hHeld.below hb
    clear hb
    obtain ⟨hA, ⟨a0, a1⟩, ⟨b0, b1⟩, ⟨x, y, c0, c1⟩, f2⟩ := id hHeld; have hy0 := hA.lt0 (by omega); have hy1 := hA.lt1 (by omega); have hy2 := hA.lt2 (by omega)
    go_wp2
    rw [← HZ.out]
    refine bodyPost_ret (v := .agg #[.int .i64 Rs.all.m, .int .i64 Rs.all.r]) ?_ rfl ⟨rfl, hHeld.set.1.1⟩
    simp [results, Tryd.results34, go_sem, c0, c1, hy2, Rs.all]
end Go.Proofs.YtmdakglbommopaaDoor
