/- The code of layer 7: without, partners, Refine. No condition. -/
import Derived.Test.YtdajgopgaklipaaIcRefine
import Derived.Test.YtdajgopgaklipaaIvRefH
namespace Go.Proofs.Ytdajgopgaklipaa
open Go.RowKit
set_option linter.unusedVariables false
set_option linter.unusedSimpArgs false
attribute [local go_sem] y_undef
set_option maxHeartbeats 8000000 in
theorem without_any (a b z : Iv) (la : -2147483648 ≤ a.lo) (ha : a.hi ≤ 2147483647) (lb : a.lo ≤ a.hi) (hz : Iv.but a b = z) (w : World) : Calls Try.prog 68 #[.agg #[.int .i64 (a).lo, .int .i64 (a).hi], .agg #[.int .i64 (b).lo, .int .i64 (b).hi]] w fun e w' => e = .returned (.agg #[.int .i64 (z).lo, .int .i64 (z).hi]) ∧ Below w.heap.size w w' := by
  have hA := (((Ahead.refl w).alloc (.cells #[.int .i64 a.lo, .int .i64 a.hi] 23)).alloc (.cells #[.int .i64 b.lo, .int .i64 b.hi] 23)).alloc (.cells #[.int .i64 0, .int .i64 0] 23)
  have hj : (if b.lo ≠ b.hi then a else Iv.mk' (if a.lo = b.lo then a.lo + 1 else a.lo) (if a.hi = b.lo then a.hi - 1 else a.hi)) = z := hz
  have HJ := Lib.hid hj
  clear hz hj
  cases e : (b.lo != b.hi)
  · have e' : b.lo = b.hi := by simpa using e
    have hj := HJ.out
    rw [if_neg (by simpa using e'), e'] at hj
    have HE := Lib.hid (show Iv.mk' (if a.lo = b.lo then a.lo + 1 else a.lo) (if a.hi = b.hi then a.hi - 1 else a.hi) = z by rw [e']; exact hj)
    clear HJ hj e'
    cases e1 : (a.lo == b.lo) <;> cases e2 : (a.hi == b.hi)
    all_goals
      go_enter Try.func68, Try.ntmps68
      go_wp2_with fail
      go_quiet (fail)
      go_wp2_with fail
      refine (span_any _ _ z ?_ _).mono ?_
      · have h1 := e1
        have h2 := e2
        simp at h1 h2
        rw [← HE.out]
        simp [h1, h2]
      rintro e w5 ⟨rfl, hb⟩
      replace hA := hA.drewN nq
      have hA5 := hA.below hb; obtain ⟨hc5, hf5⟩ := bcell hb; (try simp only [size_alloc] at hc5 hf5); clear hb; have hz50 : w.heap.size < w5.heap.size := (by have := hA5.2; omega); have hz51 : w.heap.size + 1 < w5.heap.size := (by have := hA5.2; omega); have hz52 : w.heap.size + 1 + 1 < w5.heap.size := (by have := hA5.2; omega)
      go_wp2
      refine bodyPost_ret (v := .agg #[.int .i64 (z).lo, .int .i64 (z).hi]) ?_ rfl ⟨rfl, ((hA5.set (by omega) _).set (by omega) _).1⟩
      simp [results, Try.results68, go_sem, hc5, hz50, hz51, hz52]
  · have e' : b.lo ≠ b.hi := by simpa using e
    have hj := HJ.out
    rw [if_pos e'] at hj
    subst hj
    clear HJ e'
    go_enter Try.func68, Try.ntmps68
    go_wp2
    refine bodyPost_ret (v := .agg #[.int .i64 (a).lo, .int .i64 (a).hi]) ?_ rfl ⟨rfl, ((((Ahead.refl w).alloc _).alloc _).alloc _).1⟩
    simp [results, Try.results68, go_sem]
set_option maxHeartbeats 8000000 in
theorem partners_any (a b : Iv) (ga : Iv.Good a) (gb : Iv.Good b) (o : Int) (t : Bool) (ho : o = 11 ∨ o = 12 ∨ o = 13 ∨ o = 14) (z : Iv × Iv) (hz : Iv.parts o t a b = z) (w : World) : Calls Try.prog 49 #[.int .i64 o, .bool t, .agg #[.int .i64 (a).lo, .int .i64 (a).hi], .agg #[.int .i64 (b).lo, .int .i64 (b).hi]] w fun e w' => e = .returned (.tuple #[.agg #[.int .i64 (z.1).lo, .int .i64 (z.1).hi], .agg #[.int .i64 (z.2).lo, .int .i64 (z.2).hi]]) ∧ Below w.heap.size w w' := by
  have hHeld := by_new w a b 23
  obtain ⟨l1, l2, l3⟩ := id ga
  obtain ⟨r1, r2, r3⟩ := id gb
  have HJ' := Lib.hid hz
  clear hz
  rcases ho with rfl | rfl | rfl | rfl <;> cases t
  · skip
    obtain ⟨yy, hy⟩ : ∃ y, Iv.blw b a 0 = y := ⟨_, rfl⟩
    have hj : Iv.swap yy = z := by rw [← HJ'.out, ← hy]; rfl
    subst hj
    have HY := Lib.hid hy
    clear HJ' hy
    go_enter Try.func49, Try.ntmps49
    go_wp2_with fail
    refine (below_any b a gb ga 0 (by omega) yy HY.out _).mono ?_
    rintro e w1 ⟨rfl, hb⟩
    replace hHeld := hHeld.below hb
    clear hb
    go_wp2_with fail
    refine (swap_any yy.1 yy.2 _).mono ?_
    rintro e w2 ⟨rfl, hb⟩
    replace hHeld := hHeld.below hb
    clear hb
    obtain ⟨hA, ⟨a0, a1⟩, ⟨b0, b1⟩, ⟨⟨x, y, c0, c1⟩, f2⟩, ⟨⟨x2, y2, d0, d1⟩, f3⟩⟩ := id hHeld; have hy0 := hA.lt0 (by omega); have hy1 := hA.lt1 (by omega); have hy2 := hA.lt2 (by omega); have hy3 := hA.lt3 (by omega)
    go_wp2
    refine bodyPost_ret (v := .tuple #[.agg #[.int .i64 (yy.2).lo, .int .i64 (yy.2).hi], .agg #[.int .i64 (yy.1).lo, .int .i64 (yy.1).hi]]) ?_ rfl ⟨rfl, hHeld.set.set3.1.1⟩
    simp [results, Try.results49, go_sem, c0, c1, d0, d1, a0, a1, b0, b1]
  · skip
    have HJ := Lib.hid (show Iv.blw a b 1 = z from HJ'.out)
    clear HJ'
    go_enter Try.func49, Try.ntmps49
    go_wp2_with fail
    refine (below_any a b ga gb 1 (by omega) z HJ.out _).mono ?_
    rintro e w1 ⟨rfl, hb⟩
    replace hHeld := hHeld.below hb
    clear hb
    obtain ⟨hA, ⟨a0, a1⟩, ⟨b0, b1⟩, ⟨⟨x, y, c0, c1⟩, f2⟩, ⟨⟨x2, y2, d0, d1⟩, f3⟩⟩ := id hHeld; have hy0 := hA.lt0 (by omega); have hy1 := hA.lt1 (by omega); have hy2 := hA.lt2 (by omega); have hy3 := hA.lt3 (by omega)
    go_wp2
    refine bodyPost_ret (v := .tuple #[.agg #[.int .i64 (z.1).lo, .int .i64 (z.1).hi], .agg #[.int .i64 (z.2).lo, .int .i64 (z.2).hi]]) ?_ rfl ⟨rfl, hHeld.set.set3.1.1⟩
    simp [results, Try.results49, go_sem, c0, c1, d0, d1, a0, a1, b0, b1]
  · skip
    obtain ⟨yy, hy⟩ : ∃ y, Iv.blw b a 1 = y := ⟨_, rfl⟩
    have hj : Iv.swap yy = z := by rw [← HJ'.out, ← hy]; rfl
    subst hj
    have HY := Lib.hid hy
    clear HJ' hy
    go_enter Try.func49, Try.ntmps49
    go_wp2_with fail
    refine (below_any b a gb ga 1 (by omega) yy HY.out _).mono ?_
    rintro e w1 ⟨rfl, hb⟩
    replace hHeld := hHeld.below hb
    clear hb
    go_wp2_with fail
    refine (swap_any yy.1 yy.2 _).mono ?_
    rintro e w2 ⟨rfl, hb⟩
    replace hHeld := hHeld.below hb
    clear hb
    obtain ⟨hA, ⟨a0, a1⟩, ⟨b0, b1⟩, ⟨⟨x, y, c0, c1⟩, f2⟩, ⟨⟨x2, y2, d0, d1⟩, f3⟩⟩ := id hHeld; have hy0 := hA.lt0 (by omega); have hy1 := hA.lt1 (by omega); have hy2 := hA.lt2 (by omega); have hy3 := hA.lt3 (by omega)
    go_wp2
    refine bodyPost_ret (v := .tuple #[.agg #[.int .i64 (yy.2).lo, .int .i64 (yy.2).hi], .agg #[.int .i64 (yy.1).lo, .int .i64 (yy.1).hi]]) ?_ rfl ⟨rfl, hHeld.set.set3.1.1⟩
    simp [results, Try.results49, go_sem, c0, c1, d0, d1, a0, a1, b0, b1]
  · skip
    have HJ := Lib.hid (show Iv.blw a b 0 = z from HJ'.out)
    clear HJ'
    go_enter Try.func49, Try.ntmps49
    go_wp2_with fail
    refine (below_any a b ga gb 0 (by omega) z HJ.out _).mono ?_
    rintro e w1 ⟨rfl, hb⟩
    replace hHeld := hHeld.below hb
    clear hb
    obtain ⟨hA, ⟨a0, a1⟩, ⟨b0, b1⟩, ⟨⟨x, y, c0, c1⟩, f2⟩, ⟨⟨x2, y2, d0, d1⟩, f3⟩⟩ := id hHeld; have hy0 := hA.lt0 (by omega); have hy1 := hA.lt1 (by omega); have hy2 := hA.lt2 (by omega); have hy3 := hA.lt3 (by omega)
    go_wp2
    refine bodyPost_ret (v := .tuple #[.agg #[.int .i64 (z.1).lo, .int .i64 (z.1).hi], .agg #[.int .i64 (z.2).lo, .int .i64 (z.2).hi]]) ?_ rfl ⟨rfl, hHeld.set.set3.1.1⟩
    simp [results, Try.results49, go_sem, c0, c1, d0, d1, a0, a1, b0, b1]
  · skip
    obtain ⟨m, hm⟩ : ∃ m, Iv.but a b = m := ⟨_, rfl⟩
    obtain ⟨n, hn⟩ : ∃ m, Iv.but b a = m := ⟨_, rfl⟩
    have hj : (m, n) = z := by rw [← HJ'.out, ← hm, ← hn]; rfl
    subst hj
    have HM := Lib.hid hm
    have HN := Lib.hid hn
    clear HJ' hm hn
    go_enter Try.func49, Try.ntmps49
    go_wp2
    refine wp_region_held_drew (S := (fun w' => By w a b w')) (by kernel_rfl) (hHeld.drew) (fun hHeld => ?_)
    generalize ((((w.alloc (.cells #[.int .i64 a.lo, .int .i64 a.hi] 23)).alloc (.cells #[.int .i64 b.lo, .int .i64 b.hi] 23)).alloc (.cells #[.int .i64 0, .int .i64 0] 23)).alloc (.cells #[.int .i64 0, .int .i64 0] 23)).drew = u0 at *
    refine' wpAnyH_take (i := 0) (v := _) ?_ ?_ ?_ ?_ ?_ ?_ ?_ ?_
    rotate_left 2
    focus (simp only [List.getElem?_toArray, List.getElem?_cons_succ, List.getElem?_cons_zero]; rfl)
    focus kernel_rfl
    focus kernel_rfl
    focus kernel_rfl
    focus exact (fun _ _ _ h => h)
    refine Or.inl ⟨?_, ?_⟩
    focus (go_simp; done)
    focus (intro w hSw; obtain ⟨_, ⟨a0, a1⟩, ⟨b0, b1⟩, _⟩ := hSw; (first | (go_simp; done) | (go_simp; with_reducible rfl)))
    focus assumption
    (try simp only [Act.put, List.setIfInBounds_toArray, List.set_cons_zero, List.set_cons_succ])
    refine' wpAnyH_take (i := 1) (v := _) ?_ ?_ ?_ ?_ ?_ ?_ ?_ ?_
    rotate_left 2
    focus (simp only [List.getElem?_toArray, List.getElem?_cons_succ, List.getElem?_cons_zero]; rfl)
    focus kernel_rfl
    focus kernel_rfl
    focus kernel_rfl
    focus exact (fun _ _ _ h => h)
    refine Or.inl ⟨?_, ?_⟩
    focus (go_simp; done)
    focus (intro w hSw; obtain ⟨_, ⟨a0, a1⟩, ⟨b0, b1⟩, _⟩ := hSw; (first | (go_simp; done) | (go_simp; with_reducible rfl)))
    focus assumption
    (try simp only [Act.put, List.setIfInBounds_toArray, List.set_cons_zero, List.set_cons_succ])
    refine' wpAnyH_take (i := 3) (v := _) ?_ ?_ ?_ ?_ ?_ ?_ ?_ ?_
    rotate_left 2
    focus (simp only [List.getElem?_toArray, List.getElem?_cons_succ, List.getElem?_cons_zero]; rfl)
    focus kernel_rfl
    focus kernel_rfl
    focus kernel_rfl
    focus exact (fun _ _ _ h => h)
    refine Or.inl ⟨?_, ?_⟩
    focus (go_simp; done)
    focus (intro w hSw; obtain ⟨_, ⟨a0, a1⟩, ⟨b0, b1⟩, _⟩ := hSw; (first | (go_simp; done) | (go_simp; with_reducible rfl)))
    focus assumption
    (try simp only [Act.put, List.setIfInBounds_toArray, List.set_cons_zero, List.set_cons_succ])
    refine' wpAnyH_take (i := 4) (v := _) ?_ ?_ ?_ ?_ ?_ ?_ ?_ ?_
    rotate_left 2
    focus (simp only [List.getElem?_toArray, List.getElem?_cons_succ, List.getElem?_cons_zero]; rfl)
    focus kernel_rfl
    focus kernel_rfl
    focus kernel_rfl
    focus exact (fun _ _ _ h => h)
    refine Or.inl ⟨?_, ?_⟩
    focus (go_simp; done)
    focus (intro w hSw; obtain ⟨_, ⟨a0, a1⟩, ⟨b0, b1⟩, _⟩ := hSw; (first | (go_simp; done) | (go_simp; with_reducible rfl)))
    focus assumption
    (try simp only [Act.put, List.setIfInBounds_toArray, List.set_cons_zero, List.set_cons_succ])
    refine wpAnyH_ready (rs := [2]) (by kernel_rfl) (by simp) ?_
    refine' AllReadyH.cons ?_ (fun K hK => ?_) AllReadyH.nil
    rotate_left
    focus (simp only [List.getElem?_toArray, List.getElem?_cons_succ, List.getElem?_cons_zero]; rfl)
    go_simp
    (go_at_call 68; (with_reducible refine (without_any a b m l1 l3 l2 HM.out _).mono ?_); rintro e u2 ⟨rfl, hb⟩)
    have hS := By.below hHeld hb
    clear hb
    refine hK.out _ _ hS (fun hHeld => ?_)
    clear hK K hS
    (try simp only [Act.put, List.setIfInBounds_toArray, List.set_cons_zero, List.set_cons_succ])
    refine wpAnyH_ready (rs := [5]) (by kernel_rfl) (by simp) ?_
    refine' AllReadyH.cons ?_ (fun K hK => ?_) AllReadyH.nil
    rotate_left
    focus (simp only [List.getElem?_toArray, List.getElem?_cons_succ, List.getElem?_cons_zero]; rfl)
    go_simp
    (go_at_call 68; (with_reducible refine (without_any b a n r1 r3 r2 HN.out _).mono ?_); rintro e u5 ⟨rfl, hb⟩)
    have hS := By.below hHeld hb
    clear hb
    refine hK.out _ _ hS (fun hHeld => ?_)
    clear hK K hS
    (try simp only [Act.put, List.setIfInBounds_toArray, List.set_cons_zero, List.set_cons_succ])
    refine wpAnyH_ready (rs := [6]) (by kernel_rfl) (by simp) ?_
    refine' AllReadyH.cons ?_ (fun K hK => ?_) AllReadyH.nil
    rotate_left
    focus (simp only [List.getElem?_toArray, List.getElem?_cons_succ, List.getElem?_cons_zero]; rfl)
    obtain ⟨hA, ⟨a0, a1⟩, ⟨b0, b1⟩, ⟨⟨x, y, c0, c1⟩, f2⟩, ⟨⟨x2, y2, d0, d1⟩, f3⟩⟩ := id hHeld; have hy0 := hA.lt0 (by omega); have hy1 := hA.lt1 (by omega); have hy2 := hA.lt2 (by omega); have hy3 := hA.lt3 (by omega)
    go_simp
    have hS := By.set (x := .int .i64 (m.lo)) (y := .int .i64 (m.hi)) hHeld
    refine hK.out _ _ hS (fun hHeld => ?_)
    clear hK K hS
    (try simp only [Act.put, List.setIfInBounds_toArray, List.set_cons_zero, List.set_cons_succ])
    refine wpAnyH_ready (rs := [7]) (by kernel_rfl) (by simp) ?_
    refine' AllReadyH.cons ?_ (fun K hK => ?_) AllReadyH.nil
    rotate_left
    focus (simp only [List.getElem?_toArray, List.getElem?_cons_succ, List.getElem?_cons_zero]; rfl)
    skip
    go_simp
    have hS := By.set3 (x := .int .i64 (n.lo)) (y := .int .i64 (n.hi)) hHeld
    refine hK.out _ _ hS (fun hHeld => ?_)
    clear hK K hS
    (try simp only [Act.put, List.setIfInBounds_toArray, List.set_cons_zero, List.set_cons_succ])
    refine wpAnyH_done (by kernel_rfl) ?_ _
    go_wp2
    refine bodyPost_ret (v := .tuple #[.agg #[.int .i64 (m).lo, .int .i64 (m).hi], .agg #[.int .i64 (n).lo, .int .i64 (n).hi]]) ?_ rfl ⟨rfl, hHeld.1.1⟩
    simp [results, Try.results49, go_sem, c0, c1, d0, d1, a0, a1, b0, b1]
  · skip
    obtain ⟨m, hm⟩ : ∃ m, Iv.meet ⟨a.lo, a.hi⟩ ⟨b.lo, b.hi⟩ = m := ⟨_, rfl⟩
    have hj : (m, m) = z := by rw [← HJ'.out, ← hm]; rfl
    subst hj
    have HM := Lib.hid hm
    clear HJ' hm
    go_enter Try.func49, Try.ntmps49
    go_wp2
    refine wp_region_held_drew (S := (fun w' => By w a b w')) (by kernel_rfl) (hHeld.drew) (fun hHeld => ?_)
    generalize ((((w.alloc (.cells #[.int .i64 a.lo, .int .i64 a.hi] 23)).alloc (.cells #[.int .i64 b.lo, .int .i64 b.hi] 23)).alloc (.cells #[.int .i64 0, .int .i64 0] 23)).alloc (.cells #[.int .i64 0, .int .i64 0] 23)).drew = u0 at *
    refine' wpAnyH_take (i := 0) (v := _) ?_ ?_ ?_ ?_ ?_ ?_ ?_ ?_
    rotate_left 2
    focus (simp only [List.getElem?_toArray, List.getElem?_cons_succ, List.getElem?_cons_zero]; rfl)
    focus kernel_rfl
    focus kernel_rfl
    focus kernel_rfl
    focus exact (fun _ _ _ h => h)
    refine Or.inl ⟨?_, ?_⟩
    focus (go_simp; done)
    focus (intro w hSw; obtain ⟨_, ⟨a0, a1⟩, ⟨b0, b1⟩, _⟩ := hSw; (first | (go_simp; done) | (go_simp; with_reducible rfl)))
    focus assumption
    (try simp only [Act.put, List.setIfInBounds_toArray, List.set_cons_zero, List.set_cons_succ])
    refine' wpAnyH_take (i := 1) (v := _) ?_ ?_ ?_ ?_ ?_ ?_ ?_ ?_
    rotate_left 2
    focus (simp only [List.getElem?_toArray, List.getElem?_cons_succ, List.getElem?_cons_zero]; rfl)
    focus kernel_rfl
    focus kernel_rfl
    focus kernel_rfl
    focus exact (fun _ _ _ h => h)
    refine Or.inl ⟨?_, ?_⟩
    focus (go_simp; done)
    focus (intro w hSw; obtain ⟨_, ⟨a0, a1⟩, ⟨b0, b1⟩, _⟩ := hSw; (first | (go_simp; done) | (go_simp; with_reducible rfl)))
    focus assumption
    (try simp only [Act.put, List.setIfInBounds_toArray, List.set_cons_zero, List.set_cons_succ])
    refine' wpAnyH_take (i := 3) (v := _) ?_ ?_ ?_ ?_ ?_ ?_ ?_ ?_
    rotate_left 2
    focus (simp only [List.getElem?_toArray, List.getElem?_cons_succ, List.getElem?_cons_zero]; rfl)
    focus kernel_rfl
    focus kernel_rfl
    focus kernel_rfl
    focus exact (fun _ _ _ h => h)
    refine Or.inl ⟨?_, ?_⟩
    focus (go_simp; done)
    focus (intro w hSw; obtain ⟨_, ⟨a0, a1⟩, ⟨b0, b1⟩, _⟩ := hSw; (first | (go_simp; done) | (go_simp; with_reducible rfl)))
    focus assumption
    (try simp only [Act.put, List.setIfInBounds_toArray, List.set_cons_zero, List.set_cons_succ])
    refine' wpAnyH_take (i := 4) (v := _) ?_ ?_ ?_ ?_ ?_ ?_ ?_ ?_
    rotate_left 2
    focus (simp only [List.getElem?_toArray, List.getElem?_cons_succ, List.getElem?_cons_zero]; rfl)
    focus kernel_rfl
    focus kernel_rfl
    focus kernel_rfl
    focus exact (fun _ _ _ h => h)
    refine Or.inl ⟨?_, ?_⟩
    focus (go_simp; done)
    focus (intro w hSw; obtain ⟨_, ⟨a0, a1⟩, ⟨b0, b1⟩, _⟩ := hSw; (first | (go_simp; done) | (go_simp; with_reducible rfl)))
    focus assumption
    (try simp only [Act.put, List.setIfInBounds_toArray, List.set_cons_zero, List.set_cons_succ])
    refine wpAnyH_ready (rs := [2]) (by kernel_rfl) (by simp) ?_
    refine' AllReadyH.cons ?_ (fun K hK => ?_) AllReadyH.nil
    rotate_left
    focus (simp only [List.getElem?_toArray, List.getElem?_cons_succ, List.getElem?_cons_zero]; rfl)
    go_simp
    (go_at_call 25; (with_reducible refine (iMeet_any a.lo a.hi b.lo b.hi m HM.out _).mono ?_); rintro e u2 ⟨rfl, hb⟩)
    have hS := By.below hHeld hb
    clear hb
    refine hK.out _ _ hS (fun hHeld => ?_)
    clear hK K hS
    (try simp only [Act.put, List.setIfInBounds_toArray, List.set_cons_zero, List.set_cons_succ])
    refine wpAnyH_ready (rs := [5]) (by kernel_rfl) (by simp) ?_
    refine' AllReadyH.cons ?_ (fun K hK => ?_) AllReadyH.nil
    rotate_left
    focus (simp only [List.getElem?_toArray, List.getElem?_cons_succ, List.getElem?_cons_zero]; rfl)
    go_simp
    (go_at_call 25; (with_reducible refine (iMeet_any a.lo a.hi b.lo b.hi m HM.out _).mono ?_); rintro e u5 ⟨rfl, hb⟩)
    have hS := By.below hHeld hb
    clear hb
    refine hK.out _ _ hS (fun hHeld => ?_)
    clear hK K hS
    (try simp only [Act.put, List.setIfInBounds_toArray, List.set_cons_zero, List.set_cons_succ])
    refine wpAnyH_ready (rs := [6]) (by kernel_rfl) (by simp) ?_
    refine' AllReadyH.cons ?_ (fun K hK => ?_) AllReadyH.nil
    rotate_left
    focus (simp only [List.getElem?_toArray, List.getElem?_cons_succ, List.getElem?_cons_zero]; rfl)
    obtain ⟨hA, ⟨a0, a1⟩, ⟨b0, b1⟩, ⟨⟨x, y, c0, c1⟩, f2⟩, ⟨⟨x2, y2, d0, d1⟩, f3⟩⟩ := id hHeld; have hy0 := hA.lt0 (by omega); have hy1 := hA.lt1 (by omega); have hy2 := hA.lt2 (by omega); have hy3 := hA.lt3 (by omega)
    go_simp
    have hS := By.set (x := .int .i64 (m.lo)) (y := .int .i64 (m.hi)) hHeld
    refine hK.out _ _ hS (fun hHeld => ?_)
    clear hK K hS
    (try simp only [Act.put, List.setIfInBounds_toArray, List.set_cons_zero, List.set_cons_succ])
    refine wpAnyH_ready (rs := [7]) (by kernel_rfl) (by simp) ?_
    refine' AllReadyH.cons ?_ (fun K hK => ?_) AllReadyH.nil
    rotate_left
    focus (simp only [List.getElem?_toArray, List.getElem?_cons_succ, List.getElem?_cons_zero]; rfl)
    skip
    go_simp
    have hS := By.set3 (x := .int .i64 (m.lo)) (y := .int .i64 (m.hi)) hHeld
    refine hK.out _ _ hS (fun hHeld => ?_)
    clear hK K hS
    (try simp only [Act.put, List.setIfInBounds_toArray, List.set_cons_zero, List.set_cons_succ])
    refine wpAnyH_done (by kernel_rfl) ?_ _
    go_wp2
    refine bodyPost_ret (v := .tuple #[.agg #[.int .i64 (m).lo, .int .i64 (m).hi], .agg #[.int .i64 (m).lo, .int .i64 (m).hi]]) ?_ rfl ⟨rfl, hHeld.1.1⟩
    simp [results, Try.results49, go_sem, c0, c1, d0, d1, a0, a1, b0, b1]
  · skip
    obtain ⟨m, hm⟩ : ∃ m, Iv.meet ⟨a.lo, a.hi⟩ ⟨b.lo, b.hi⟩ = m := ⟨_, rfl⟩
    have hj : (m, m) = z := by rw [← HJ'.out, ← hm]; rfl
    subst hj
    have HM := Lib.hid hm
    clear HJ' hm
    go_enter Try.func49, Try.ntmps49
    go_wp2
    refine wp_region_held_drew (S := (fun w' => By w a b w')) (by kernel_rfl) (hHeld.drew) (fun hHeld => ?_)
    generalize ((((w.alloc (.cells #[.int .i64 a.lo, .int .i64 a.hi] 23)).alloc (.cells #[.int .i64 b.lo, .int .i64 b.hi] 23)).alloc (.cells #[.int .i64 0, .int .i64 0] 23)).alloc (.cells #[.int .i64 0, .int .i64 0] 23)).drew = u0 at *
    refine' wpAnyH_take (i := 0) (v := _) ?_ ?_ ?_ ?_ ?_ ?_ ?_ ?_
    rotate_left 2
    focus (simp only [List.getElem?_toArray, List.getElem?_cons_succ, List.getElem?_cons_zero]; rfl)
    focus kernel_rfl
    focus kernel_rfl
    focus kernel_rfl
    focus exact (fun _ _ _ h => h)
    refine Or.inl ⟨?_, ?_⟩
    focus (go_simp; done)
    focus (intro w hSw; obtain ⟨_, ⟨a0, a1⟩, ⟨b0, b1⟩, _⟩ := hSw; (first | (go_simp; done) | (go_simp; with_reducible rfl)))
    focus assumption
    (try simp only [Act.put, List.setIfInBounds_toArray, List.set_cons_zero, List.set_cons_succ])
    refine' wpAnyH_take (i := 1) (v := _) ?_ ?_ ?_ ?_ ?_ ?_ ?_ ?_
    rotate_left 2
    focus (simp only [List.getElem?_toArray, List.getElem?_cons_succ, List.getElem?_cons_zero]; rfl)
    focus kernel_rfl
    focus kernel_rfl
    focus kernel_rfl
    focus exact (fun _ _ _ h => h)
    refine Or.inl ⟨?_, ?_⟩
    focus (go_simp; done)
    focus (intro w hSw; obtain ⟨_, ⟨a0, a1⟩, ⟨b0, b1⟩, _⟩ := hSw; (first | (go_simp; done) | (go_simp; with_reducible rfl)))
    focus assumption
    (try simp only [Act.put, List.setIfInBounds_toArray, List.set_cons_zero, List.set_cons_succ])
    refine' wpAnyH_take (i := 3) (v := _) ?_ ?_ ?_ ?_ ?_ ?_ ?_ ?_
    rotate_left 2
    focus (simp only [List.getElem?_toArray, List.getElem?_cons_succ, List.getElem?_cons_zero]; rfl)
    focus kernel_rfl
    focus kernel_rfl
    focus kernel_rfl
    focus exact (fun _ _ _ h => h)
    refine Or.inl ⟨?_, ?_⟩
    focus (go_simp; done)
    focus (intro w hSw; obtain ⟨_, ⟨a0, a1⟩, ⟨b0, b1⟩, _⟩ := hSw; (first | (go_simp; done) | (go_simp; with_reducible rfl)))
    focus assumption
    (try simp only [Act.put, List.setIfInBounds_toArray, List.set_cons_zero, List.set_cons_succ])
    refine' wpAnyH_take (i := 4) (v := _) ?_ ?_ ?_ ?_ ?_ ?_ ?_ ?_
    rotate_left 2
    focus (simp only [List.getElem?_toArray, List.getElem?_cons_succ, List.getElem?_cons_zero]; rfl)
    focus kernel_rfl
    focus kernel_rfl
    focus kernel_rfl
    focus exact (fun _ _ _ h => h)
    refine Or.inl ⟨?_, ?_⟩
    focus (go_simp; done)
    focus (intro w hSw; obtain ⟨_, ⟨a0, a1⟩, ⟨b0, b1⟩, _⟩ := hSw; (first | (go_simp; done) | (go_simp; with_reducible rfl)))
    focus assumption
    (try simp only [Act.put, List.setIfInBounds_toArray, List.set_cons_zero, List.set_cons_succ])
    refine wpAnyH_ready (rs := [2]) (by kernel_rfl) (by simp) ?_
    refine' AllReadyH.cons ?_ (fun K hK => ?_) AllReadyH.nil
    rotate_left
    focus (simp only [List.getElem?_toArray, List.getElem?_cons_succ, List.getElem?_cons_zero]; rfl)
    go_simp
    (go_at_call 25; (with_reducible refine (iMeet_any a.lo a.hi b.lo b.hi m HM.out _).mono ?_); rintro e u2 ⟨rfl, hb⟩)
    have hS := By.below hHeld hb
    clear hb
    refine hK.out _ _ hS (fun hHeld => ?_)
    clear hK K hS
    (try simp only [Act.put, List.setIfInBounds_toArray, List.set_cons_zero, List.set_cons_succ])
    refine wpAnyH_ready (rs := [5]) (by kernel_rfl) (by simp) ?_
    refine' AllReadyH.cons ?_ (fun K hK => ?_) AllReadyH.nil
    rotate_left
    focus (simp only [List.getElem?_toArray, List.getElem?_cons_succ, List.getElem?_cons_zero]; rfl)
    go_simp
    (go_at_call 25; (with_reducible refine (iMeet_any a.lo a.hi b.lo b.hi m HM.out _).mono ?_); rintro e u5 ⟨rfl, hb⟩)
    have hS := By.below hHeld hb
    clear hb
    refine hK.out _ _ hS (fun hHeld => ?_)
    clear hK K hS
    (try simp only [Act.put, List.setIfInBounds_toArray, List.set_cons_zero, List.set_cons_succ])
    refine wpAnyH_ready (rs := [6]) (by kernel_rfl) (by simp) ?_
    refine' AllReadyH.cons ?_ (fun K hK => ?_) AllReadyH.nil
    rotate_left
    focus (simp only [List.getElem?_toArray, List.getElem?_cons_succ, List.getElem?_cons_zero]; rfl)
    obtain ⟨hA, ⟨a0, a1⟩, ⟨b0, b1⟩, ⟨⟨x, y, c0, c1⟩, f2⟩, ⟨⟨x2, y2, d0, d1⟩, f3⟩⟩ := id hHeld; have hy0 := hA.lt0 (by omega); have hy1 := hA.lt1 (by omega); have hy2 := hA.lt2 (by omega); have hy3 := hA.lt3 (by omega)
    go_simp
    have hS := By.set (x := .int .i64 (m.lo)) (y := .int .i64 (m.hi)) hHeld
    refine hK.out _ _ hS (fun hHeld => ?_)
    clear hK K hS
    (try simp only [Act.put, List.setIfInBounds_toArray, List.set_cons_zero, List.set_cons_succ])
    refine wpAnyH_ready (rs := [7]) (by kernel_rfl) (by simp) ?_
    refine' AllReadyH.cons ?_ (fun K hK => ?_) AllReadyH.nil
    rotate_left
    focus (simp only [List.getElem?_toArray, List.getElem?_cons_succ, List.getElem?_cons_zero]; rfl)
    skip
    go_simp
    have hS := By.set3 (x := .int .i64 (m.lo)) (y := .int .i64 (m.hi)) hHeld
    refine hK.out _ _ hS (fun hHeld => ?_)
    clear hK K hS
    (try simp only [Act.put, List.setIfInBounds_toArray, List.set_cons_zero, List.set_cons_succ])
    refine wpAnyH_done (by kernel_rfl) ?_ _
    go_wp2
    refine bodyPost_ret (v := .tuple #[.agg #[.int .i64 (m).lo, .int .i64 (m).hi], .agg #[.int .i64 (m).lo, .int .i64 (m).hi]]) ?_ rfl ⟨rfl, hHeld.1.1⟩
    simp [results, Try.results49, go_sem, c0, c1, d0, d1, a0, a1, b0, b1]
  · skip
    obtain ⟨m, hm⟩ : ∃ m, Iv.but a b = m := ⟨_, rfl⟩
    obtain ⟨n, hn⟩ : ∃ m, Iv.but b a = m := ⟨_, rfl⟩
    have hj : (m, n) = z := by rw [← HJ'.out, ← hm, ← hn]; rfl
    subst hj
    have HM := Lib.hid hm
    have HN := Lib.hid hn
    clear HJ' hm hn
    go_enter Try.func49, Try.ntmps49
    go_wp2
    refine wp_region_held_drew (S := (fun w' => By w a b w')) (by kernel_rfl) (hHeld.drew) (fun hHeld => ?_)
    generalize ((((w.alloc (.cells #[.int .i64 a.lo, .int .i64 a.hi] 23)).alloc (.cells #[.int .i64 b.lo, .int .i64 b.hi] 23)).alloc (.cells #[.int .i64 0, .int .i64 0] 23)).alloc (.cells #[.int .i64 0, .int .i64 0] 23)).drew = u0 at *
    refine' wpAnyH_take (i := 0) (v := _) ?_ ?_ ?_ ?_ ?_ ?_ ?_ ?_
    rotate_left 2
    focus (simp only [List.getElem?_toArray, List.getElem?_cons_succ, List.getElem?_cons_zero]; rfl)
    focus kernel_rfl
    focus kernel_rfl
    focus kernel_rfl
    focus exact (fun _ _ _ h => h)
    refine Or.inl ⟨?_, ?_⟩
    focus (go_simp; done)
    focus (intro w hSw; obtain ⟨_, ⟨a0, a1⟩, ⟨b0, b1⟩, _⟩ := hSw; (first | (go_simp; done) | (go_simp; with_reducible rfl)))
    focus assumption
    (try simp only [Act.put, List.setIfInBounds_toArray, List.set_cons_zero, List.set_cons_succ])
    refine' wpAnyH_take (i := 1) (v := _) ?_ ?_ ?_ ?_ ?_ ?_ ?_ ?_
    rotate_left 2
    focus (simp only [List.getElem?_toArray, List.getElem?_cons_succ, List.getElem?_cons_zero]; rfl)
    focus kernel_rfl
    focus kernel_rfl
    focus kernel_rfl
    focus exact (fun _ _ _ h => h)
    refine Or.inl ⟨?_, ?_⟩
    focus (go_simp; done)
    focus (intro w hSw; obtain ⟨_, ⟨a0, a1⟩, ⟨b0, b1⟩, _⟩ := hSw; (first | (go_simp; done) | (go_simp; with_reducible rfl)))
    focus assumption
    (try simp only [Act.put, List.setIfInBounds_toArray, List.set_cons_zero, List.set_cons_succ])
    refine' wpAnyH_take (i := 3) (v := _) ?_ ?_ ?_ ?_ ?_ ?_ ?_ ?_
    rotate_left 2
    focus (simp only [List.getElem?_toArray, List.getElem?_cons_succ, List.getElem?_cons_zero]; rfl)
    focus kernel_rfl
    focus kernel_rfl
    focus kernel_rfl
    focus exact (fun _ _ _ h => h)
    refine Or.inl ⟨?_, ?_⟩
    focus (go_simp; done)
    focus (intro w hSw; obtain ⟨_, ⟨a0, a1⟩, ⟨b0, b1⟩, _⟩ := hSw; (first | (go_simp; done) | (go_simp; with_reducible rfl)))
    focus assumption
    (try simp only [Act.put, List.setIfInBounds_toArray, List.set_cons_zero, List.set_cons_succ])
    refine' wpAnyH_take (i := 4) (v := _) ?_ ?_ ?_ ?_ ?_ ?_ ?_ ?_
    rotate_left 2
    focus (simp only [List.getElem?_toArray, List.getElem?_cons_succ, List.getElem?_cons_zero]; rfl)
    focus kernel_rfl
    focus kernel_rfl
    focus kernel_rfl
    focus exact (fun _ _ _ h => h)
    refine Or.inl ⟨?_, ?_⟩
    focus (go_simp; done)
    focus (intro w hSw; obtain ⟨_, ⟨a0, a1⟩, ⟨b0, b1⟩, _⟩ := hSw; (first | (go_simp; done) | (go_simp; with_reducible rfl)))
    focus assumption
    (try simp only [Act.put, List.setIfInBounds_toArray, List.set_cons_zero, List.set_cons_succ])
    refine wpAnyH_ready (rs := [2]) (by kernel_rfl) (by simp) ?_
    refine' AllReadyH.cons ?_ (fun K hK => ?_) AllReadyH.nil
    rotate_left
    focus (simp only [List.getElem?_toArray, List.getElem?_cons_succ, List.getElem?_cons_zero]; rfl)
    go_simp
    (go_at_call 68; (with_reducible refine (without_any a b m l1 l3 l2 HM.out _).mono ?_); rintro e u2 ⟨rfl, hb⟩)
    have hS := By.below hHeld hb
    clear hb
    refine hK.out _ _ hS (fun hHeld => ?_)
    clear hK K hS
    (try simp only [Act.put, List.setIfInBounds_toArray, List.set_cons_zero, List.set_cons_succ])
    refine wpAnyH_ready (rs := [5]) (by kernel_rfl) (by simp) ?_
    refine' AllReadyH.cons ?_ (fun K hK => ?_) AllReadyH.nil
    rotate_left
    focus (simp only [List.getElem?_toArray, List.getElem?_cons_succ, List.getElem?_cons_zero]; rfl)
    go_simp
    (go_at_call 68; (with_reducible refine (without_any b a n r1 r3 r2 HN.out _).mono ?_); rintro e u5 ⟨rfl, hb⟩)
    have hS := By.below hHeld hb
    clear hb
    refine hK.out _ _ hS (fun hHeld => ?_)
    clear hK K hS
    (try simp only [Act.put, List.setIfInBounds_toArray, List.set_cons_zero, List.set_cons_succ])
    refine wpAnyH_ready (rs := [6]) (by kernel_rfl) (by simp) ?_
    refine' AllReadyH.cons ?_ (fun K hK => ?_) AllReadyH.nil
    rotate_left
    focus (simp only [List.getElem?_toArray, List.getElem?_cons_succ, List.getElem?_cons_zero]; rfl)
    obtain ⟨hA, ⟨a0, a1⟩, ⟨b0, b1⟩, ⟨⟨x, y, c0, c1⟩, f2⟩, ⟨⟨x2, y2, d0, d1⟩, f3⟩⟩ := id hHeld; have hy0 := hA.lt0 (by omega); have hy1 := hA.lt1 (by omega); have hy2 := hA.lt2 (by omega); have hy3 := hA.lt3 (by omega)
    go_simp
    have hS := By.set (x := .int .i64 (m.lo)) (y := .int .i64 (m.hi)) hHeld
    refine hK.out _ _ hS (fun hHeld => ?_)
    clear hK K hS
    (try simp only [Act.put, List.setIfInBounds_toArray, List.set_cons_zero, List.set_cons_succ])
    refine wpAnyH_ready (rs := [7]) (by kernel_rfl) (by simp) ?_
    refine' AllReadyH.cons ?_ (fun K hK => ?_) AllReadyH.nil
    rotate_left
    focus (simp only [List.getElem?_toArray, List.getElem?_cons_succ, List.getElem?_cons_zero]; rfl)
    skip
    go_simp
    have hS := By.set3 (x := .int .i64 (n.lo)) (y := .int .i64 (n.hi)) hHeld
    refine hK.out _ _ hS (fun hHeld => ?_)
    clear hK K hS
    (try simp only [Act.put, List.setIfInBounds_toArray, List.set_cons_zero, List.set_cons_succ])
    refine wpAnyH_done (by kernel_rfl) ?_ _
    go_wp2
    refine bodyPost_ret (v := .tuple #[.agg #[.int .i64 (m).lo, .int .i64 (m).hi], .agg #[.int .i64 (n).lo, .int .i64 (n).hi]]) ?_ rfl ⟨rfl, hHeld.1.1⟩
    simp [results, Try.results49, go_sem, c0, c1, d0, d1, a0, a1, b0, b1]
set_option maxHeartbeats 16000000 in
theorem iRefine_any (o p q r s : Int) (t : Bool) (z : Iv × Iv) (hz : Iv.refine o t ⟨p, q⟩ ⟨r, s⟩ = z) (w : World) : Calls Try.prog 21 #[.int .i64 o, .bool t, .agg #[.int .i64 p, .int .i64 q], .agg #[.int .i64 r, .int .i64 s]] w fun e w' => e = .returned (.tuple #[.agg #[.int .i64 (z.1).lo, .int .i64 (z.1).hi], .agg #[.int .i64 (z.2).lo, .int .i64 (z.2).hi]]) ∧ Below w.heap.size w w' := by
  have hA := ((((Ahead.refl w).alloc (.cells #[.int .i64 p, .int .i64 q] 23)).alloc (.cells #[.int .i64 r, .int .i64 s] 23)).alloc (.cells #[.int .i64 0, .int .i64 0] 23)).alloc (.cells #[.int .i64 0, .int .i64 0] 23)
  obtain ⟨a, ha⟩ : ∃ a, Iv.form ⟨p, q⟩ = a := ⟨_, rfl⟩
  obtain ⟨b, hb⟩ : ∃ b, Iv.form ⟨r, s⟩ = b := ⟨_, rfl⟩
  have oka : a = Iv.non ∨ (-2147483648 ≤ a.lo ∧ a.lo ≤ a.hi ∧ a.hi ≤ 2147483647) := ha ▸ Iv.form_ok ⟨p, q⟩
  have okb : b = Iv.non ∨ (-2147483648 ≤ b.lo ∧ b.lo ≤ b.hi ∧ b.hi ≤ 2147483647) := hb ▸ Iv.form_ok ⟨r, s⟩
  have hj : (if o < 11 ∨ 14 < o then (a, b) else if a = Iv.non ∨ b = Iv.non then (Iv.non, Iv.non) else Iv.refine' o t a b) = z := by rw [← hz, ← ha, ← hb]; rfl
  have HA := Lib.hid ha
  have HB := Lib.hid hb
  have HJ := Lib.hid hj
  clear ha hb hj hz
  have HOA := Lib.hid oka
  have HOB := Lib.hid okb
  clear oka okb
  have hg := iv_guard
  go_enter Try.func21, Try.ntmps21
  go_wp2
  rename_i K hK
  refine' (fun (HK : ∀ w', By w a b w' → K _ w') => ?_) (fun w' hHeld => ?_)
  rotate_left
  focus
    go_region_with (go_at_call 33; (first | (with_reducible refine (taken_any p q a HA.out _).mono ?_) | (with_reducible refine (taken_any r s b HB.out _).mono ?_)); rintro e w1 ⟨rfl, hb⟩; obtain ⟨hc, hf⟩ := bcell hb; (first | replace hA := hA.below hb | replace hA := hA.drew.below hb); have hz : w.heap.size + 1 + 1 + 1 < w1.heap.size := (by have := hA.2; omega); have hz2 : w.heap.size + 1 + 1 < w1.heap.size := (by omega); have hz1 : w.heap.size + 1 < w1.heap.size := (by omega); have hz0 : w.heap.size < w1.heap.size := (by omega); (try simp only [size_alloc] at hc hf))
    all_goals
      exact HK _ (by_of (p := p) (q := q) (r := r) (s := s) hA (by go_simp) (by go_simp) (by go_simp) (by go_simp) (by go_simp) (by go_simp) (fun o => by go_simp) (by go_simp) (by go_simp) (fun o => by go_simp))
  refine hK _ _ ?_
  clear hA hK
  clear HA HB
  by_cases ho : o = 11 ∨ o = 12 ∨ o = 13 ∨ o = 14
  · have hj := HJ.out
    rw [if_neg (by omega)] at hj
    by_cases hn : a = Iv.non
    · rw [if_pos (.inl hn)] at hj
      subst hj
      have he := iv_eql a.lo a.hi 1 0 true (iv_is a hn)
      clear HJ HOA HOB hn
      rcases ho with rfl | rfl | rfl | rfl
      all_goals
        go_wp2
        refine wp_region_held_drew (S := (fun w' => By w a b w')) (by kernel_rfl) (hHeld.drew) (fun hHeld => ?_)
        generalize w'.drew = u0 at *
        refine' wpAnyH_take (i := 0) (v := _) ?_ ?_ ?_ ?_ ?_ ?_ ?_ ?_
        rotate_left 2
        focus (simp only [List.getElem?_toArray, List.getElem?_cons_succ, List.getElem?_cons_zero]; rfl)
        focus kernel_rfl
        focus kernel_rfl
        focus kernel_rfl
        focus exact (fun _ _ _ h => h)
        refine Or.inl ⟨?_, ?_⟩
        focus (go_simp; done)
        focus (intro w hSw; obtain ⟨_, ⟨a0, a1⟩, ⟨b0, b1⟩, _⟩ := hSw; (first | (go_simp; done) | (go_simp; with_reducible rfl)))
        focus assumption
        (try simp only [Act.put, List.setIfInBounds_toArray, List.set_cons_zero, List.set_cons_succ])
        refine wpAnyH_ready (rs := [1]) (by kernel_rfl) (by simp) ?_
        refine' AllReadyH.cons ?_ (fun K hK => ?_) AllReadyH.nil
        rotate_left
        focus (simp only [List.getElem?_toArray, List.getElem?_cons_succ, List.getElem?_cons_zero]; rfl)
        go_simp
        (go_at_call 12; (with_reducible refine (iNone_any _).mono ?_); rintro e u1 ⟨rfl, hb⟩)
        have hS := By.below hHeld hb
        clear hb
        refine hK.out _ _ hS (fun hHeld => ?_)
        clear hK K hS
        (try simp only [Act.put, List.setIfInBounds_toArray, List.set_cons_zero, List.set_cons_succ])
        refine' wpAnyH_take (i := 2) (v := _) ?_ ?_ ?_ ?_ ?_ ?_ ?_ ?_
        rotate_left 2
        focus (simp only [List.getElem?_toArray, List.getElem?_cons_succ, List.getElem?_cons_zero]; rfl)
        focus kernel_rfl
        focus kernel_rfl
        focus kernel_rfl
        focus exact (fun _ _ _ h => h)
        refine Or.inl ⟨?_, ?_⟩
        focus (go_simp; done)
        focus (intro w hSw; obtain ⟨_, ⟨a0, a1⟩, ⟨b0, b1⟩, _⟩ := hSw; (first | (go_simp; done) | (go_simp; with_reducible rfl)))
        focus assumption
        (try simp only [Act.put, List.setIfInBounds_toArray, List.set_cons_zero, List.set_cons_succ])
        refine' wpAnyH_take (i := 3) (v := _) ?_ ?_ ?_ ?_ ?_ ?_ ?_ ?_
        rotate_left 2
        focus (simp only [List.getElem?_toArray, List.getElem?_cons_succ, List.getElem?_cons_zero]; rfl)
        focus kernel_rfl
        focus kernel_rfl
        focus kernel_rfl
        focus exact (fun _ _ _ h => h)
        refine Or.inl ⟨?_, ?_⟩
        focus (go_simp; done)
        focus (intro w hSw; obtain ⟨_, ⟨a0, a1⟩, ⟨b0, b1⟩, _⟩ := hSw; (first | (go_simp; done) | (go_simp; with_reducible rfl)))
        focus assumption
        (try simp only [Act.put, List.setIfInBounds_toArray, List.set_cons_zero, List.set_cons_succ])
        refine' wpAnyH_take (i := 4) (v := undef) ?_ ?_ ?_ ?_ ?_ ?_ ?_ ?_
        rotate_left 1
        focus (simp only [List.getElem?_toArray, List.getElem?_cons_succ, List.getElem?_cons_zero]; rfl)
        focus kernel_rfl
        focus kernel_rfl
        focus kernel_rfl
        focus exact (fun _ _ _ h => h)
        refine Or.inr ⟨?_, rfl⟩
        focus (go_simp; done)
        focus assumption
        (try simp only [Act.put, List.setIfInBounds_toArray, List.set_cons_zero, List.set_cons_succ])
        refine' wpAnyH_take (i := 5) (v := undef) ?_ ?_ ?_ ?_ ?_ ?_ ?_ ?_
        rotate_left 1
        focus (simp only [List.getElem?_toArray, List.getElem?_cons_succ, List.getElem?_cons_zero]; rfl)
        focus kernel_rfl
        focus kernel_rfl
        focus kernel_rfl
        focus exact (fun _ _ _ h => h)
        refine Or.inr ⟨?_, rfl⟩
        focus (go_simp; done)
        focus assumption
        (try simp only [Act.put, List.setIfInBounds_toArray, List.set_cons_zero, List.set_cons_succ])
        refine' wpAnyH_take (i := 6) (v := undef) ?_ ?_ ?_ ?_ ?_ ?_ ?_ ?_
        rotate_left 1
        focus (simp only [List.getElem?_toArray, List.getElem?_cons_succ, List.getElem?_cons_zero]; rfl)
        focus kernel_rfl
        focus kernel_rfl
        focus kernel_rfl
        focus exact (fun _ _ _ h => h)
        refine Or.inr ⟨?_, rfl⟩
        focus (go_simp; done)
        focus assumption
        (try simp only [Act.put, List.setIfInBounds_toArray, List.set_cons_zero, List.set_cons_succ])
        refine' wpAnyH_take (i := 7) (v := _) ?_ ?_ ?_ ?_ ?_ ?_ ?_ ?_
        rotate_left 2
        focus (simp only [List.getElem?_toArray, List.getElem?_cons_succ, List.getElem?_cons_zero]; rfl)
        focus kernel_rfl
        focus kernel_rfl
        focus kernel_rfl
        focus exact (fun _ _ _ h => h)
        refine Or.inl ⟨?_, ?_⟩
        focus (go_simp; done)
        focus (intro w hSw; obtain ⟨_, ⟨a0, a1⟩, ⟨b0, b1⟩, _⟩ := hSw; (first | (go_simp; done) | (go_simp; with_reducible rfl)))
        focus assumption
        (try simp only [Act.put, List.setIfInBounds_toArray, List.set_cons_zero, List.set_cons_succ])
        refine wpAnyH_done (by kernel_rfl) ?_ _
        go_wp2_with fail
        all_goals
          refine (iNone_any _).mono ?_
          rintro e w2 ⟨rfl, hb⟩
          replace hHeld := hHeld.below hb
          clear hb
          go_wp2_with fail
          refine (iNone_any _).mono ?_
          rintro e w3 ⟨rfl, hb⟩
          replace hHeld := hHeld.below hb
          clear hb
          obtain ⟨hA, ⟨a0, a1⟩, ⟨b0, b1⟩, ⟨⟨x, y, c0, c1⟩, f2⟩, ⟨⟨x2, y2, d0, d1⟩, f3⟩⟩ := id hHeld; have hy0 := hA.lt0 (by omega); have hy1 := hA.lt1 (by omega); have hy2 := hA.lt2 (by omega); have hy3 := hA.lt3 (by omega)
          go_wp2
          refine bodyPost_ret (v := .tuple #[.agg #[.int .i64 (Iv.non).lo, .int .i64 (Iv.non).hi], .agg #[.int .i64 (Iv.non).lo, .int .i64 (Iv.non).hi]]) ?_ rfl ⟨rfl, hHeld.set.set3.1.1⟩
          simp [results, Try.results21, go_sem, c0, c1, d0, d1, a0, a1, b0, b1, Iv.non]
    · have he := iv_eql a.lo a.hi 1 0 false (iv_not a hn)
      by_cases hm : b = Iv.non
      · rw [if_pos (.inr hm)] at hj
        subst hj
        have he2 := iv_eql b.lo b.hi 1 0 true (iv_is b hm)
        clear HJ HOA HOB hn hm
        rcases ho with rfl | rfl | rfl | rfl
        all_goals
          go_wp2
          refine wp_region_held_drew (S := (fun w' => By w a b w')) (by kernel_rfl) (hHeld.drew) (fun hHeld => ?_)
          generalize w'.drew = u0 at *
          refine' wpAnyH_take (i := 0) (v := _) ?_ ?_ ?_ ?_ ?_ ?_ ?_ ?_
          rotate_left 2
          focus (simp only [List.getElem?_toArray, List.getElem?_cons_succ, List.getElem?_cons_zero]; rfl)
          focus kernel_rfl
          focus kernel_rfl
          focus kernel_rfl
          focus exact (fun _ _ _ h => h)
          refine Or.inl ⟨?_, ?_⟩
          focus (go_simp; done)
          focus (intro w hSw; obtain ⟨_, ⟨a0, a1⟩, ⟨b0, b1⟩, _⟩ := hSw; (first | (go_simp; done) | (go_simp; with_reducible rfl)))
          focus assumption
          (try simp only [Act.put, List.setIfInBounds_toArray, List.set_cons_zero, List.set_cons_succ])
          refine wpAnyH_ready (rs := [1]) (by kernel_rfl) (by simp) ?_
          refine' AllReadyH.cons ?_ (fun K hK => ?_) AllReadyH.nil
          rotate_left
          focus (simp only [List.getElem?_toArray, List.getElem?_cons_succ, List.getElem?_cons_zero]; rfl)
          go_simp
          (go_at_call 12; (with_reducible refine (iNone_any _).mono ?_); rintro e u1 ⟨rfl, hb⟩)
          have hS := By.below hHeld hb
          clear hb
          refine hK.out _ _ hS (fun hHeld => ?_)
          clear hK K hS
          (try simp only [Act.put, List.setIfInBounds_toArray, List.set_cons_zero, List.set_cons_succ])
          refine' wpAnyH_take (i := 2) (v := _) ?_ ?_ ?_ ?_ ?_ ?_ ?_ ?_
          rotate_left 2
          focus (simp only [List.getElem?_toArray, List.getElem?_cons_succ, List.getElem?_cons_zero]; rfl)
          focus kernel_rfl
          focus kernel_rfl
          focus kernel_rfl
          focus exact (fun _ _ _ h => h)
          refine Or.inl ⟨?_, ?_⟩
          focus (go_simp; done)
          focus (intro w hSw; obtain ⟨_, ⟨a0, a1⟩, ⟨b0, b1⟩, _⟩ := hSw; (first | (go_simp; done) | (go_simp; with_reducible rfl)))
          focus assumption
          (try simp only [Act.put, List.setIfInBounds_toArray, List.set_cons_zero, List.set_cons_succ])
          refine' wpAnyH_take (i := 3) (v := _) ?_ ?_ ?_ ?_ ?_ ?_ ?_ ?_
          rotate_left 2
          focus (simp only [List.getElem?_toArray, List.getElem?_cons_succ, List.getElem?_cons_zero]; rfl)
          focus kernel_rfl
          focus kernel_rfl
          focus kernel_rfl
          focus exact (fun _ _ _ h => h)
          refine Or.inl ⟨?_, ?_⟩
          focus (go_simp; done)
          focus (intro w hSw; obtain ⟨_, ⟨a0, a1⟩, ⟨b0, b1⟩, _⟩ := hSw; (first | (go_simp; done) | (go_simp; with_reducible rfl)))
          focus assumption
          (try simp only [Act.put, List.setIfInBounds_toArray, List.set_cons_zero, List.set_cons_succ])
          refine' wpAnyH_take (i := 4) (v := _) ?_ ?_ ?_ ?_ ?_ ?_ ?_ ?_
          rotate_left 2
          focus (simp only [List.getElem?_toArray, List.getElem?_cons_succ, List.getElem?_cons_zero]; rfl)
          focus kernel_rfl
          focus kernel_rfl
          focus kernel_rfl
          focus exact (fun _ _ _ h => h)
          refine Or.inl ⟨?_, ?_⟩
          focus (go_simp; done)
          focus (intro w hSw; obtain ⟨_, ⟨a0, a1⟩, ⟨b0, b1⟩, _⟩ := hSw; (first | (go_simp; done) | (go_simp; with_reducible rfl)))
          focus assumption
          (try simp only [Act.put, List.setIfInBounds_toArray, List.set_cons_zero, List.set_cons_succ])
          refine wpAnyH_ready (rs := [5]) (by kernel_rfl) (by simp) ?_
          refine' AllReadyH.cons ?_ (fun K hK => ?_) AllReadyH.nil
          rotate_left
          focus (simp only [List.getElem?_toArray, List.getElem?_cons_succ, List.getElem?_cons_zero]; rfl)
          go_simp
          (go_at_call 12; (with_reducible refine (iNone_any _).mono ?_); rintro e u5 ⟨rfl, hb⟩)
          have hS := By.below hHeld hb
          clear hb
          refine hK.out _ _ hS (fun hHeld => ?_)
          clear hK K hS
          (try simp only [Act.put, List.setIfInBounds_toArray, List.set_cons_zero, List.set_cons_succ])
          refine' wpAnyH_take (i := 6) (v := _) ?_ ?_ ?_ ?_ ?_ ?_ ?_ ?_
          rotate_left 2
          focus (simp only [List.getElem?_toArray, List.getElem?_cons_succ, List.getElem?_cons_zero]; rfl)
          focus kernel_rfl
          focus kernel_rfl
          focus kernel_rfl
          focus exact (fun _ _ _ h => h)
          refine Or.inl ⟨?_, ?_⟩
          focus (go_simp; done)
          focus (intro w hSw; obtain ⟨_, ⟨a0, a1⟩, ⟨b0, b1⟩, _⟩ := hSw; (first | (go_simp; done) | (go_simp; with_reducible rfl)))
          focus assumption
          (try simp only [Act.put, List.setIfInBounds_toArray, List.set_cons_zero, List.set_cons_succ])
          refine' wpAnyH_take (i := 7) (v := _) ?_ ?_ ?_ ?_ ?_ ?_ ?_ ?_
          rotate_left 2
          focus (simp only [List.getElem?_toArray, List.getElem?_cons_succ, List.getElem?_cons_zero]; rfl)
          focus kernel_rfl
          focus kernel_rfl
          focus kernel_rfl
          focus exact (fun _ _ _ h => h)
          refine Or.inl ⟨?_, ?_⟩
          focus (go_simp; done)
          focus (intro w hSw; obtain ⟨_, ⟨a0, a1⟩, ⟨b0, b1⟩, _⟩ := hSw; (first | (go_simp; done) | (go_simp; with_reducible rfl)))
          focus assumption
          (try simp only [Act.put, List.setIfInBounds_toArray, List.set_cons_zero, List.set_cons_succ])
          refine wpAnyH_done (by kernel_rfl) ?_ _
          go_wp2_with fail
          all_goals
            refine (iNone_any _).mono ?_
            rintro e w2 ⟨rfl, hb⟩
            replace hHeld := hHeld.below hb
            clear hb
            go_wp2_with fail
            refine (iNone_any _).mono ?_
            rintro e w3 ⟨rfl, hb⟩
            replace hHeld := hHeld.below hb
            clear hb
            obtain ⟨hA, ⟨a0, a1⟩, ⟨b0, b1⟩, ⟨⟨x, y, c0, c1⟩, f2⟩, ⟨⟨x2, y2, d0, d1⟩, f3⟩⟩ := id hHeld; have hy0 := hA.lt0 (by omega); have hy1 := hA.lt1 (by omega); have hy2 := hA.lt2 (by omega); have hy3 := hA.lt3 (by omega)
            go_wp2
            refine bodyPost_ret (v := .tuple #[.agg #[.int .i64 (Iv.non).lo, .int .i64 (Iv.non).hi], .agg #[.int .i64 (Iv.non).lo, .int .i64 (Iv.non).hi]]) ?_ rfl ⟨rfl, hHeld.set.set3.1.1⟩
            simp [results, Try.results21, go_sem, c0, c1, d0, d1, a0, a1, b0, b1, Iv.non]
      · have he2 := iv_eql b.lo b.hi 1 0 false (iv_not b hm)
        have ga : Iv.Good a := HOA.out.resolve_left hn
        have gb : Iv.Good b := HOB.out.resolve_left hm
        rw [if_neg (by simp [hn, hm]), Iv.parts_eq (by omega) ga gb] at hj
        have HP := Lib.hid (fun (w : World) => partners_any a b ga gb o t ho z hj w)
        clear HJ HOA HOB hn hm ga gb hj
        rcases ho with rfl | rfl | rfl | rfl
        all_goals
          go_wp2
          refine wp_region_held_drew (S := (fun w' => By w a b w')) (by kernel_rfl) (hHeld.drew) (fun hHeld => ?_)
          generalize w'.drew = u0 at *
          refine' wpAnyH_take (i := 0) (v := _) ?_ ?_ ?_ ?_ ?_ ?_ ?_ ?_
          rotate_left 2
          focus (simp only [List.getElem?_toArray, List.getElem?_cons_succ, List.getElem?_cons_zero]; rfl)
          focus kernel_rfl
          focus kernel_rfl
          focus kernel_rfl
          focus exact (fun _ _ _ h => h)
          refine Or.inl ⟨?_, ?_⟩
          focus (go_simp; done)
          focus (intro w hSw; obtain ⟨_, ⟨a0, a1⟩, ⟨b0, b1⟩, _⟩ := hSw; (first | (go_simp; done) | (go_simp; with_reducible rfl)))
          focus assumption
          (try simp only [Act.put, List.setIfInBounds_toArray, List.set_cons_zero, List.set_cons_succ])
          refine wpAnyH_ready (rs := [1]) (by kernel_rfl) (by simp) ?_
          refine' AllReadyH.cons ?_ (fun K hK => ?_) AllReadyH.nil
          rotate_left
          focus (simp only [List.getElem?_toArray, List.getElem?_cons_succ, List.getElem?_cons_zero]; rfl)
          go_simp
          (go_at_call 12; (with_reducible refine (iNone_any _).mono ?_); rintro e u1 ⟨rfl, hb⟩)
          have hS := By.below hHeld hb
          clear hb
          refine hK.out _ _ hS (fun hHeld => ?_)
          clear hK K hS
          (try simp only [Act.put, List.setIfInBounds_toArray, List.set_cons_zero, List.set_cons_succ])
          refine' wpAnyH_take (i := 2) (v := _) ?_ ?_ ?_ ?_ ?_ ?_ ?_ ?_
          rotate_left 2
          focus (simp only [List.getElem?_toArray, List.getElem?_cons_succ, List.getElem?_cons_zero]; rfl)
          focus kernel_rfl
          focus kernel_rfl
          focus kernel_rfl
          focus exact (fun _ _ _ h => h)
          refine Or.inl ⟨?_, ?_⟩
          focus (go_simp; done)
          focus (intro w hSw; obtain ⟨_, ⟨a0, a1⟩, ⟨b0, b1⟩, _⟩ := hSw; (first | (go_simp; done) | (go_simp; with_reducible rfl)))
          focus assumption
          (try simp only [Act.put, List.setIfInBounds_toArray, List.set_cons_zero, List.set_cons_succ])
          refine' wpAnyH_take (i := 3) (v := _) ?_ ?_ ?_ ?_ ?_ ?_ ?_ ?_
          rotate_left 2
          focus (simp only [List.getElem?_toArray, List.getElem?_cons_succ, List.getElem?_cons_zero]; rfl)
          focus kernel_rfl
          focus kernel_rfl
          focus kernel_rfl
          focus exact (fun _ _ _ h => h)
          refine Or.inl ⟨?_, ?_⟩
          focus (go_simp; done)
          focus (intro w hSw; obtain ⟨_, ⟨a0, a1⟩, ⟨b0, b1⟩, _⟩ := hSw; (first | (go_simp; done) | (go_simp; with_reducible rfl)))
          focus assumption
          (try simp only [Act.put, List.setIfInBounds_toArray, List.set_cons_zero, List.set_cons_succ])
          refine' wpAnyH_take (i := 4) (v := _) ?_ ?_ ?_ ?_ ?_ ?_ ?_ ?_
          rotate_left 2
          focus (simp only [List.getElem?_toArray, List.getElem?_cons_succ, List.getElem?_cons_zero]; rfl)
          focus kernel_rfl
          focus kernel_rfl
          focus kernel_rfl
          focus exact (fun _ _ _ h => h)
          refine Or.inl ⟨?_, ?_⟩
          focus (go_simp; done)
          focus (intro w hSw; obtain ⟨_, ⟨a0, a1⟩, ⟨b0, b1⟩, _⟩ := hSw; (first | (go_simp; done) | (go_simp; with_reducible rfl)))
          focus assumption
          (try simp only [Act.put, List.setIfInBounds_toArray, List.set_cons_zero, List.set_cons_succ])
          refine wpAnyH_ready (rs := [5]) (by kernel_rfl) (by simp) ?_
          refine' AllReadyH.cons ?_ (fun K hK => ?_) AllReadyH.nil
          rotate_left
          focus (simp only [List.getElem?_toArray, List.getElem?_cons_succ, List.getElem?_cons_zero]; rfl)
          go_simp
          (go_at_call 12; (with_reducible refine (iNone_any _).mono ?_); rintro e u5 ⟨rfl, hb⟩)
          have hS := By.below hHeld hb
          clear hb
          refine hK.out _ _ hS (fun hHeld => ?_)
          clear hK K hS
          (try simp only [Act.put, List.setIfInBounds_toArray, List.set_cons_zero, List.set_cons_succ])
          refine' wpAnyH_take (i := 6) (v := _) ?_ ?_ ?_ ?_ ?_ ?_ ?_ ?_
          rotate_left 2
          focus (simp only [List.getElem?_toArray, List.getElem?_cons_succ, List.getElem?_cons_zero]; rfl)
          focus kernel_rfl
          focus kernel_rfl
          focus kernel_rfl
          focus exact (fun _ _ _ h => h)
          refine Or.inl ⟨?_, ?_⟩
          focus (go_simp; done)
          focus (intro w hSw; obtain ⟨_, ⟨a0, a1⟩, ⟨b0, b1⟩, _⟩ := hSw; (first | (go_simp; done) | (go_simp; with_reducible rfl)))
          focus assumption
          (try simp only [Act.put, List.setIfInBounds_toArray, List.set_cons_zero, List.set_cons_succ])
          refine' wpAnyH_take (i := 7) (v := _) ?_ ?_ ?_ ?_ ?_ ?_ ?_ ?_
          rotate_left 2
          focus (simp only [List.getElem?_toArray, List.getElem?_cons_succ, List.getElem?_cons_zero]; rfl)
          focus kernel_rfl
          focus kernel_rfl
          focus kernel_rfl
          focus exact (fun _ _ _ h => h)
          refine Or.inl ⟨?_, ?_⟩
          focus (go_simp; done)
          focus (intro w hSw; obtain ⟨_, ⟨a0, a1⟩, ⟨b0, b1⟩, _⟩ := hSw; (first | (go_simp; done) | (go_simp; with_reducible rfl)))
          focus assumption
          (try simp only [Act.put, List.setIfInBounds_toArray, List.set_cons_zero, List.set_cons_succ])
          refine wpAnyH_done (by kernel_rfl) ?_ _
          obtain ⟨hA, ⟨a0, a1⟩, ⟨b0, b1⟩, ⟨⟨x, y, c0, c1⟩, f2⟩, ⟨⟨x2, y2, d0, d1⟩, f3⟩⟩ := id hHeld; have hy0 := hA.lt0 (by omega); have hy1 := hA.lt1 (by omega); have hy2 := hA.lt2 (by omega); have hy3 := hA.lt3 (by omega)
          go_wp2_with fail
          refine (HP.out _).mono ?_
          rintro e w2 ⟨rfl, hb⟩
          replace hHeld := hHeld.below hb
          clear hb
          obtain ⟨hA, ⟨a0, a1⟩, ⟨b0, b1⟩, ⟨⟨x, y, c0, c1⟩, f2⟩, ⟨⟨x2, y2, d0, d1⟩, f3⟩⟩ := id hHeld; have hy0 := hA.lt0 (by omega); have hy1 := hA.lt1 (by omega); have hy2 := hA.lt2 (by omega); have hy3 := hA.lt3 (by omega)
          go_wp2
          refine bodyPost_ret (v := .tuple #[.agg #[.int .i64 (z.1).lo, .int .i64 (z.1).hi], .agg #[.int .i64 (z.2).lo, .int .i64 (z.2).hi]]) ?_ rfl ⟨rfl, hHeld.set.set3.1.1⟩
          simp [results, Try.results21, go_sem, c0, c1, d0, d1, a0, a1, b0, b1]
  · have hj := HJ.out
    rw [if_pos (by omega)] at hj
    subst hj
    have n1 : (o == 11) = false := by simp; omega
    have n2 : (o == 12) = false := by simp; omega
    have n3 : (o == 13) = false := by simp; omega
    have n4 : (o == 14) = false := by simp; omega
    clear HJ HOA HOB ho
    go_wp2
    obtain ⟨hA, ⟨a0, a1⟩, ⟨b0, b1⟩, ⟨⟨x, y, c0, c1⟩, f2⟩, ⟨⟨x2, y2, d0, d1⟩, f3⟩⟩ := id hHeld; have hy0 := hA.lt0 (by omega); have hy1 := hA.lt1 (by omega); have hy2 := hA.lt2 (by omega); have hy3 := hA.lt3 (by omega)
    go_region
    all_goals
      go_wp2
      refine bodyPost_ret (v := .tuple #[.agg #[.int .i64 (a).lo, .int .i64 (a).hi], .agg #[.int .i64 (b).lo, .int .i64 (b).hi]]) ?_ rfl ⟨rfl, hHeld.drew.set.set3.1.1⟩
      simp [results, Try.results21, go_sem, go_sem, c0, c1, d0, d1, a0, a1, b0, b1]
end Go.Proofs.Ytdajgopgaklipaa
