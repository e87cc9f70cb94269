/- The code of layer 7: swap, below, without, partners, Refine. No condition. -/
import Derived.Test.YtdajgopgaklipaaIcOpsC
namespace Go.Proofs.Ytdajgopgaklipaa
open Go.RowKit
set_option linter.unusedVariables false
set_option linter.unusedSimpArgs false
attribute [local go_sem] y_undef
set_option maxHeartbeats 4000000 in
theorem below_any (a b : Iv) (ga : Iv.Good a) (gb : Iv.Good b) (g : Int) (hg : 0 ≤ g ∧ g ≤ 1) (z : Iv × Iv) (hz : Iv.blw a b g = z) (w : World) : Calls Try.prog 66 #[.agg #[.int .i64 (a).lo, .int .i64 (a).hi], .agg #[.int .i64 (b).lo, .int .i64 (b).hi], .int .i64 g] w fun e w' => e = .returned (.tuple #[.agg #[.int .i64 (z.1).lo, .int .i64 (z.1).hi], .agg #[.int .i64 (z.2).lo, .int .i64 (z.2).hi]]) ∧ Below w.heap.size w w' := by
  have hHeld := by_new w a b 23
  obtain ⟨l1, l2, l3⟩ := ga
  obtain ⟨r1, r2, r3⟩ := gb
  obtain ⟨m1, hm1⟩ : ∃ m, b.hi - g = m := ⟨_, rfl⟩
  obtain ⟨n1, hn1⟩ : ∃ n, min a.hi m1 = n := ⟨_, rfl⟩
  obtain ⟨m2, hm2⟩ : ∃ m, a.lo + g = m := ⟨_, rfl⟩
  obtain ⟨n2, hn2⟩ : ∃ n, max b.lo m2 = n := ⟨_, rfl⟩
  obtain ⟨z1, hz1⟩ : ∃ y, Iv.mk' a.lo n1 = y := ⟨_, rfl⟩
  obtain ⟨z2, hz2⟩ : ∃ y, Iv.mk' n2 b.hi = y := ⟨_, rfl⟩
  have hj : (z1, z2) = z := by rw [← hz, ← hz1, ← hz2, ← hn1, ← hn2, ← hm1, ← hm2]; rfl
  subst hj
  have w1 : IntKind.i64.wrap (b.hi - g) = m1 := by rw [hm1]; exact IntWalk.i64_in _ (by omega)
  have w2 : IntKind.i64.wrap (a.lo + g) = m2 := by rw [hm2]; exact IntWalk.i64_in _ (by omega)
  have HN1 := Lib.hid hn1
  have HN2 := Lib.hid hn2
  have HZ1 := Lib.hid hz1
  have HZ2 := Lib.hid hz2
  clear hz hm1 hm2 hn1 hn2 hz1 hz2 hg l1 l2 l3 r1 r2 r3
  go_enter Try.func66, Try.ntmps66
  go_wp2
  refine wp_region_held_drew (S := (fun w' => By w a b w')) (by kernel_rfl) (hHeld.drew) (fun hHeld => ?_)
  generalize ((((w.alloc (.cells #[.int .i64 a.lo, .int .i64 a.hi] 23)).alloc (.cells #[.int .i64 b.lo, .int .i64 b.hi] 23)).alloc (.cells #[.int .i64 0, .int .i64 0] 23)).alloc (.cells #[.int .i64 0, .int .i64 0] 23)).drew = u0 at *
  refine' mh2 (Pre := fun (v8 : Value) (v17 : Value) (w' : World) => Sl [m1] v8 w' ∧ Sl [m2] v17 w' ∧ ((fun w' => By w a b w')) w') _ #[true, true, true, true, true, true, true, true, true, true, true, true, true, true, true, true, true, true, false, true, true, false, false, false] _ (fun HK1_abcd => ?ha1_abcd) (fun v8 v17 w' hpre => ?hb1_abcd)
  case' ha1_abcd => skip
  refine' mh2 (Pre := fun (v8 : Value) (v17 : Value) (w' : World) => Sl [m1] v8 w' ∧ Sl [m2] v17 w' ∧ ((fun w' => By w a b w')) w') _ #[true, true, true, true, true, true, true, true, true, true, false, true, true, true, true, true, true, true, false, true, true, false, false, false] _ (fun HK1_abd => ?ha1_abd) (fun v8 v17 w' hpre => ?hb1_abd)
  case' ha1_abd => skip
  refine' mh2 (Pre := fun (v8 : Value) (v17 : Value) (w' : World) => Sl [m1] v8 w' ∧ Sl [m2] v17 w' ∧ ((fun w' => By w a b w')) w') _ #[true, true, true, true, true, true, true, true, true, false, false, true, true, true, true, true, true, true, false, true, true, false, false, false] _ (fun HK1_ad => ?ha1_ad) (fun v8 v17 w' hpre => ?hb1_ad)
  case ha1_ad =>
    refine' wpAnyH_take (i := 0) (v := _) ?_ ?_ ?_ ?_ ?_ ?_ ?_ ?_
    rotate_left 2
    focus (simp only [List.getElem?_toArray, List.getElem?_cons_succ, List.getElem?_cons_zero]; rfl)
    focus kernel_rfl
    focus kernel_rfl
    focus kernel_rfl
    focus exact (fun _ _ _ h => h)
    refine Or.inl ⟨?_, ?_⟩
    focus (go_simp; done)
    focus (intro w hSw; obtain ⟨_, ⟨a0, a1⟩, ⟨b0, b1⟩, _⟩ := hSw; (first | (go_simp; done) | (go_simp; with_reducible rfl)))
    focus assumption
    (try simp only [Act.put, List.setIfInBounds_toArray, List.set_cons_zero, List.set_cons_succ])
    refine' wpAnyH_take (i := 1) (v := _) ?_ ?_ ?_ ?_ ?_ ?_ ?_ ?_
    rotate_left 2
    focus (simp only [List.getElem?_toArray, List.getElem?_cons_succ, List.getElem?_cons_zero]; rfl)
    focus kernel_rfl
    focus kernel_rfl
    focus kernel_rfl
    focus exact (fun _ _ _ h => h)
    refine Or.inl ⟨?_, ?_⟩
    focus (go_simp; done)
    focus (intro w hSw; obtain ⟨_, ⟨a0, a1⟩, ⟨b0, b1⟩, _⟩ := hSw; (first | (go_simp; done) | (go_simp; with_reducible rfl)))
    focus assumption
    (try simp only [Act.put, List.setIfInBounds_toArray, List.set_cons_zero, List.set_cons_succ])
    refine' wpAnyH_take (i := 2) (v := _) ?_ ?_ ?_ ?_ ?_ ?_ ?_ ?_
    rotate_left 2
    focus (simp only [List.getElem?_toArray, List.getElem?_cons_succ, List.getElem?_cons_zero]; rfl)
    focus kernel_rfl
    focus kernel_rfl
    focus kernel_rfl
    focus exact (fun _ _ _ h => h)
    refine Or.inl ⟨?_, ?_⟩
    focus (go_simp; done)
    focus (intro w hSw; obtain ⟨_, ⟨a0, a1⟩, ⟨b0, b1⟩, _⟩ := hSw; (first | (go_simp; done) | (go_simp; with_reducible rfl)))
    focus assumption
    (try simp only [Act.put, List.setIfInBounds_toArray, List.set_cons_zero, List.set_cons_succ])
    refine' wpAnyH_take (i := 3) (v := _) ?_ ?_ ?_ ?_ ?_ ?_ ?_ ?_
    rotate_left 2
    focus (simp only [List.getElem?_toArray, List.getElem?_cons_succ, List.getElem?_cons_zero]; rfl)
    focus kernel_rfl
    focus kernel_rfl
    focus kernel_rfl
    focus exact (fun _ _ _ h => h)
    refine Or.inl ⟨?_, ?_⟩
    focus (go_simp; done)
    focus (intro w hSw; obtain ⟨_, ⟨a0, a1⟩, ⟨b0, b1⟩, _⟩ := hSw; (first | (go_simp; done) | (go_simp; with_reducible rfl)))
    focus assumption
    (try simp only [Act.put, List.setIfInBounds_toArray, List.set_cons_zero, List.set_cons_succ])
    refine' wpAnyH_take (i := 4) (v := _) ?_ ?_ ?_ ?_ ?_ ?_ ?_ ?_
    rotate_left 2
    focus (simp only [List.getElem?_toArray, List.getElem?_cons_succ, List.getElem?_cons_zero]; rfl)
    focus kernel_rfl
    focus kernel_rfl
    focus kernel_rfl
    focus exact (fun _ _ _ h => h)
    refine Or.inl ⟨?_, ?_⟩
    focus (go_simp; done)
    focus (intro w hSw; obtain ⟨_, ⟨a0, a1⟩, ⟨b0, b1⟩, _⟩ := hSw; (first | (go_simp; done) | (go_simp; with_reducible rfl)))
    focus assumption
    (try simp only [Act.put, List.setIfInBounds_toArray, List.set_cons_zero, List.set_cons_succ])
    refine' wpAnyH_take (i := 5) (v := _) ?_ ?_ ?_ ?_ ?_ ?_ ?_ ?_
    rotate_left 2
    focus (simp only [List.getElem?_toArray, List.getElem?_cons_succ, List.getElem?_cons_zero]; rfl)
    focus kernel_rfl
    focus kernel_rfl
    focus kernel_rfl
    focus exact (fun _ _ _ h => h)
    refine Or.inl ⟨?_, ?_⟩
    focus (go_simp; done)
    focus (intro w hSw; obtain ⟨_, ⟨a0, a1⟩, ⟨b0, b1⟩, _⟩ := hSw; (first | (go_simp; done) | (go_simp; with_reducible rfl)))
    focus assumption
    (try simp only [Act.put, List.setIfInBounds_toArray, List.set_cons_zero, List.set_cons_succ])
    refine' wpAnyH_take (i := 6) (v := _) ?_ ?_ ?_ ?_ ?_ ?_ ?_ ?_
    rotate_left 2
    focus (simp only [List.getElem?_toArray, List.getElem?_cons_succ, List.getElem?_cons_zero]; rfl)
    focus kernel_rfl
    focus kernel_rfl
    focus kernel_rfl
    focus exact (fun _ _ _ h => h)
    refine Or.inl ⟨?_, ?_⟩
    focus (go_simp; done)
    focus (intro w hSw; obtain ⟨_, ⟨a0, a1⟩, ⟨b0, b1⟩, _⟩ := hSw; (first | (go_simp; done) | (go_simp; with_reducible rfl)))
    focus assumption
    (try simp only [Act.put, List.setIfInBounds_toArray, List.set_cons_zero, List.set_cons_succ])
    refine' wpAnyH_take (i := 7) (v := _) ?_ ?_ ?_ ?_ ?_ ?_ ?_ ?_
    rotate_left 2
    focus (simp only [List.getElem?_toArray, List.getElem?_cons_succ, List.getElem?_cons_zero]; rfl)
    focus kernel_rfl
    focus kernel_rfl
    focus kernel_rfl
    focus exact (fun _ _ _ h => h)
    refine Or.inl ⟨?_, ?_⟩
    focus (go_simp; done)
    focus (intro w hSw; obtain ⟨_, ⟨a0, a1⟩, ⟨b0, b1⟩, _⟩ := hSw; (first | (go_simp; done) | (go_simp; with_reducible rfl)))
    focus assumption
    (try simp only [Act.put, List.setIfInBounds_toArray, List.set_cons_zero, List.set_cons_succ])
    refine' wpAnyH_take (i := 11) (v := _) ?_ ?_ ?_ ?_ ?_ ?_ ?_ ?_
    rotate_left 2
    focus (simp only [List.getElem?_toArray, List.getElem?_cons_succ, List.getElem?_cons_zero]; rfl)
    focus kernel_rfl
    focus kernel_rfl
    focus kernel_rfl
    focus exact (fun _ _ _ h => h)
    refine Or.inl ⟨?_, ?_⟩
    focus (go_simp; done)
    focus (intro w hSw; obtain ⟨_, ⟨a0, a1⟩, ⟨b0, b1⟩, _⟩ := hSw; (first | (go_simp; done) | (go_simp; with_reducible rfl)))
    focus assumption
    (try simp only [Act.put, List.setIfInBounds_toArray, List.set_cons_zero, List.set_cons_succ])
    refine' wpAnyH_take (i := 12) (v := _) ?_ ?_ ?_ ?_ ?_ ?_ ?_ ?_
    rotate_left 2
    focus (simp only [List.getElem?_toArray, List.getElem?_cons_succ, List.getElem?_cons_zero]; rfl)
    focus kernel_rfl
    focus kernel_rfl
    focus kernel_rfl
    focus exact (fun _ _ _ h => h)
    refine Or.inl ⟨?_, ?_⟩
    focus (go_simp; done)
    focus (intro w hSw; obtain ⟨_, ⟨a0, a1⟩, ⟨b0, b1⟩, _⟩ := hSw; (first | (go_simp; done) | (go_simp; with_reducible rfl)))
    focus assumption
    (try simp only [Act.put, List.setIfInBounds_toArray, List.set_cons_zero, List.set_cons_succ])
    refine' wpAnyH_take (i := 13) (v := _) ?_ ?_ ?_ ?_ ?_ ?_ ?_ ?_
    rotate_left 2
    focus (simp only [List.getElem?_toArray, List.getElem?_cons_succ, List.getElem?_cons_zero]; rfl)
    focus kernel_rfl
    focus kernel_rfl
    focus kernel_rfl
    focus exact (fun _ _ _ h => h)
    refine Or.inl ⟨?_, ?_⟩
    focus (go_simp; done)
    focus (intro w hSw; obtain ⟨_, ⟨a0, a1⟩, ⟨b0, b1⟩, _⟩ := hSw; (first | (go_simp; done) | (go_simp; with_reducible rfl)))
    focus assumption
    (try simp only [Act.put, List.setIfInBounds_toArray, List.set_cons_zero, List.set_cons_succ])
    refine' wpAnyH_take (i := 14) (v := _) ?_ ?_ ?_ ?_ ?_ ?_ ?_ ?_
    rotate_left 2
    focus (simp only [List.getElem?_toArray, List.getElem?_cons_succ, List.getElem?_cons_zero]; rfl)
    focus kernel_rfl
    focus kernel_rfl
    focus kernel_rfl
    focus exact (fun _ _ _ h => h)
    refine Or.inl ⟨?_, ?_⟩
    focus (go_simp; done)
    focus (intro w hSw; obtain ⟨_, ⟨a0, a1⟩, ⟨b0, b1⟩, _⟩ := hSw; (first | (go_simp; done) | (go_simp; with_reducible rfl)))
    focus assumption
    (try simp only [Act.put, List.setIfInBounds_toArray, List.set_cons_zero, List.set_cons_succ])
    refine' wpAnyH_take (i := 15) (v := _) ?_ ?_ ?_ ?_ ?_ ?_ ?_ ?_
    rotate_left 2
    focus (simp only [List.getElem?_toArray, List.getElem?_cons_succ, List.getElem?_cons_zero]; rfl)
    focus kernel_rfl
    focus kernel_rfl
    focus kernel_rfl
    focus exact (fun _ _ _ h => h)
    refine Or.inl ⟨?_, ?_⟩
    focus (go_simp; done)
    focus (intro w hSw; obtain ⟨_, ⟨a0, a1⟩, ⟨b0, b1⟩, _⟩ := hSw; (first | (go_simp; done) | (go_simp; with_reducible rfl)))
    focus assumption
    (try simp only [Act.put, List.setIfInBounds_toArray, List.set_cons_zero, List.set_cons_succ])
    refine' wpAnyH_take (i := 16) (v := _) ?_ ?_ ?_ ?_ ?_ ?_ ?_ ?_
    rotate_left 2
    focus (simp only [List.getElem?_toArray, List.getElem?_cons_succ, List.getElem?_cons_zero]; rfl)
    focus kernel_rfl
    focus kernel_rfl
    focus kernel_rfl
    focus exact (fun _ _ _ h => h)
    refine Or.inl ⟨?_, ?_⟩
    focus (go_simp; done)
    focus (intro w hSw; obtain ⟨_, ⟨a0, a1⟩, ⟨b0, b1⟩, _⟩ := hSw; (first | (go_simp; done) | (go_simp; with_reducible rfl)))
    focus assumption
    (try simp only [Act.put, List.setIfInBounds_toArray, List.set_cons_zero, List.set_cons_succ])
    refine' wpAnyH_take (i := 19) (v := _) ?_ ?_ ?_ ?_ ?_ ?_ ?_ ?_
    rotate_left 2
    focus (simp only [List.getElem?_toArray, List.getElem?_cons_succ, List.getElem?_cons_zero]; rfl)
    focus kernel_rfl
    focus kernel_rfl
    focus kernel_rfl
    focus exact (fun _ _ _ h => h)
    refine Or.inl ⟨?_, ?_⟩
    focus (go_simp; done)
    focus (intro w hSw; obtain ⟨_, ⟨a0, a1⟩, ⟨b0, b1⟩, _⟩ := hSw; (first | (go_simp; done) | (go_simp; with_reducible rfl)))
    focus assumption
    (try simp only [Act.put, List.setIfInBounds_toArray, List.set_cons_zero, List.set_cons_succ])
    refine' wpAnyH_take (i := 20) (v := _) ?_ ?_ ?_ ?_ ?_ ?_ ?_ ?_
    rotate_left 2
    focus (simp only [List.getElem?_toArray, List.getElem?_cons_succ, List.getElem?_cons_zero]; rfl)
    focus kernel_rfl
    focus kernel_rfl
    focus kernel_rfl
    focus exact (fun _ _ _ h => h)
    refine Or.inl ⟨?_, ?_⟩
    focus (go_simp; done)
    focus (intro w hSw; obtain ⟨_, ⟨a0, a1⟩, ⟨b0, b1⟩, _⟩ := hSw; (first | (go_simp; done) | (go_simp; with_reducible rfl)))
    focus assumption
    (try simp only [Act.put, List.setIfInBounds_toArray, List.set_cons_zero, List.set_cons_succ])
    refine wpAnyH_ready (rs := [8, 17]) (by kernel_rfl) (by simp) ?_
    refine' AllReadyH.cons ?_ (fun K hK => ?_) ?_
    rotate_left
    focus (simp only [List.getElem?_toArray, List.getElem?_cons_succ, List.getElem?_cons_zero]; rfl)
    focus
      go_simp
      have hb := (Below.refl u0.heap.size u0).alloc (Nat.le_refl _) (.cells #[.int .i64 (m1)] 3)
      have hS := By.below hHeld hb
      clear hb
      have hs8 := sl_new1 (m1) 3 u0
      generalize (Value.slice (some ⟨u0.heap.size, 0, none⟩) 1 1) = v8 at *
      generalize (u0.alloc (.cells #[.int .i64 (m1)] 3)) = u8 at *
      refine hK.out _ _ hS (fun hHeld => ?_)
      clear hK K hS
      (try simp only [Act.put, List.setIfInBounds_toArray, List.set_cons_zero, List.set_cons_succ])
      refine wpAnyH_ready (rs := [9, 17]) (by kernel_rfl) (by simp) ?_
      refine' AllReadyH.cons ?_ (fun K hK => ?_) ?_
      rotate_left
      focus (simp only [List.getElem?_toArray, List.getElem?_cons_succ, List.getElem?_cons_zero]; rfl)
      focus
        go_simp
        (go_at_call 50; (with_reducible refine (least1 _ _ n1 HN1.out _ _ hs8).mono ?_); rintro e u9 ⟨rfl, hb⟩)
        have hS := By.below hHeld hb
        replace hs8 := hs8.below hb
        clear hb
        refine hK.out _ _ hS (fun hHeld => ?_)
        clear hK K hS
        (try simp only [Act.put, List.setIfInBounds_toArray, List.set_cons_zero, List.set_cons_succ])
        refine wpAnyH_ready (rs := [10, 17]) (by kernel_rfl) (by simp) ?_
        refine' AllReadyH.cons ?_ (fun K hK => ?_) ?_
        rotate_left
        focus (simp only [List.getElem?_toArray, List.getElem?_cons_succ, List.getElem?_cons_zero]; rfl)
        focus
          go_simp
          (go_at_call 51; (with_reducible refine (span_any _ _ z1 HZ1.out _).mono ?_); rintro e u10 ⟨rfl, hb⟩)
          have hS := By.below hHeld hb
          replace hs8 := hs8.below hb
          clear hb
          refine hK.out _ _ hS (fun hHeld => ?_)
          clear hK K hS
          (try simp only [Act.put, List.setIfInBounds_toArray, List.set_cons_zero, List.set_cons_succ])
          refine wpAnyH_ready (rs := [17]) (by kernel_rfl) (by simp) ?_
          refine' AllReadyH.cons ?_ (fun K hK => ?_) AllReadyH.nil
          rotate_left
          focus (simp only [List.getElem?_toArray, List.getElem?_cons_succ, List.getElem?_cons_zero]; rfl)
          go_simp
          have hb := (Below.refl u10.heap.size u10).alloc (Nat.le_refl _) (.cells #[.int .i64 (m2)] 3)
          have hS := By.below hHeld hb
          replace hs8 := hs8.below hb
          clear hb
          have hs17 := sl_new1 (m2) 3 u10
          generalize (Value.slice (some ⟨u10.heap.size, 0, none⟩) 1 1) = v17 at *
          generalize (u10.alloc (.cells #[.int .i64 (m2)] 3)) = u17 at *
          refine hK.out _ _ hS (fun hHeld => ?_)
          clear hK K hS
          (try simp only [Act.put, List.setIfInBounds_toArray, List.set_cons_zero, List.set_cons_succ])
          refine wpAnyH_listed (listed' := #[true, true, true, true, true, true, true, true, true, true, true, true, true, true, true, true, true, true, false, true, true, false, false, false]) (by kernel_rfl) ?_
          exact HK1_abcd v8 v17 u17 ⟨hs8, hs17, hHeld⟩
        refine' AllReadyH.cons ?_ (fun K hK => ?_) ?_
        rotate_left
        focus (simp only [List.getElem?_toArray, List.getElem?_cons_succ, List.getElem?_cons_zero]; rfl)
        focus
          go_simp
          have hb := (Below.refl u9.heap.size u9).alloc (Nat.le_refl _) (.cells #[.int .i64 (m2)] 3)
          have hS := By.below hHeld hb
          replace hs8 := hs8.below hb
          clear hb
          have hs17 := sl_new1 (m2) 3 u9
          generalize (Value.slice (some ⟨u9.heap.size, 0, none⟩) 1 1) = v17 at *
          generalize (u9.alloc (.cells #[.int .i64 (m2)] 3)) = u17 at *
          refine hK.out _ _ hS (fun hHeld => ?_)
          clear hK K hS
          (try simp only [Act.put, List.setIfInBounds_toArray, List.set_cons_zero, List.set_cons_succ])
          refine wpAnyH_listed (listed' := #[true, true, true, true, true, true, true, true, true, true, false, true, true, true, true, true, true, true, false, true, true, false, false, false]) (by kernel_rfl) ?_
          exact HK1_abd v8 v17 u17 ⟨hs8, hs17, hHeld⟩
        exact AllReadyH.nil
      refine' AllReadyH.cons ?_ (fun K hK => ?_) ?_
      rotate_left
      focus (simp only [List.getElem?_toArray, List.getElem?_cons_succ, List.getElem?_cons_zero]; rfl)
      focus
        go_simp
        have hb := (Below.refl u8.heap.size u8).alloc (Nat.le_refl _) (.cells #[.int .i64 (m2)] 3)
        have hS := By.below hHeld hb
        replace hs8 := hs8.below hb
        clear hb
        have hs17 := sl_new1 (m2) 3 u8
        generalize (Value.slice (some ⟨u8.heap.size, 0, none⟩) 1 1) = v17 at *
        generalize (u8.alloc (.cells #[.int .i64 (m2)] 3)) = u17 at *
        refine hK.out _ _ hS (fun hHeld => ?_)
        clear hK K hS
        (try simp only [Act.put, List.setIfInBounds_toArray, List.set_cons_zero, List.set_cons_succ])
        refine wpAnyH_listed (listed' := #[true, true, true, true, true, true, true, true, true, false, false, true, true, true, true, true, true, true, false, true, true, false, false, false]) (by kernel_rfl) ?_
        exact HK1_ad v8 v17 u17 ⟨hs8, hs17, hHeld⟩
      exact AllReadyH.nil
    refine' AllReadyH.cons ?_ (fun K hK => ?_) ?_
    rotate_left
    focus (simp only [List.getElem?_toArray, List.getElem?_cons_succ, List.getElem?_cons_zero]; rfl)
    focus
      go_simp
      have hb := (Below.refl u0.heap.size u0).alloc (Nat.le_refl _) (.cells #[.int .i64 (m2)] 3)
      have hS := By.below hHeld hb
      clear hb
      have hs17 := sl_new1 (m2) 3 u0
      generalize (Value.slice (some ⟨u0.heap.size, 0, none⟩) 1 1) = v17 at *
      generalize (u0.alloc (.cells #[.int .i64 (m2)] 3)) = u17 at *
      refine hK.out _ _ hS (fun hHeld => ?_)
      clear hK K hS
      (try simp only [Act.put, List.setIfInBounds_toArray, List.set_cons_zero, List.set_cons_succ])
      refine wpAnyH_ready (rs := [8]) (by kernel_rfl) (by simp) ?_
      refine' AllReadyH.cons ?_ (fun K hK => ?_) AllReadyH.nil
      rotate_left
      focus (simp only [List.getElem?_toArray, List.getElem?_cons_succ, List.getElem?_cons_zero]; rfl)
      go_simp
      have hb := (Below.refl u17.heap.size u17).alloc (Nat.le_refl _) (.cells #[.int .i64 (m1)] 3)
      have hS := By.below hHeld hb
      replace hs17 := hs17.below hb
      clear hb
      have hs8 := sl_new1 (m1) 3 u17
      generalize (Value.slice (some ⟨u17.heap.size, 0, none⟩) 1 1) = v8 at *
      generalize (u17.alloc (.cells #[.int .i64 (m1)] 3)) = u8 at *
      refine hK.out _ _ hS (fun hHeld => ?_)
      clear hK K hS
      (try simp only [Act.put, List.setIfInBounds_toArray, List.set_cons_zero, List.set_cons_succ])
      refine wpAnyH_listed (listed' := #[true, true, true, true, true, true, true, true, true, false, false, true, true, true, true, true, true, true, false, true, true, false, false, false]) (by kernel_rfl) ?_
      exact HK1_ad v8 v17 u8 ⟨hs8, hs17, hHeld⟩
    exact AllReadyH.nil
  case hb1_ad =>
    obtain ⟨hs8, hs17, hHeld⟩ := hpre
    refine wpAnyH_ready (rs := [9]) (by kernel_rfl) (by simp) ?_
    refine' AllReadyH.cons ?_ (fun K hK => ?_) AllReadyH.nil
    rotate_left
    focus (simp only [List.getElem?_toArray, List.getElem?_cons_succ, List.getElem?_cons_zero]; rfl)
    go_simp
    (go_at_call 50; (with_reducible refine (least1 _ _ n1 HN1.out _ _ hs8).mono ?_); rintro e u9 ⟨rfl, hb⟩)
    have hS := By.below hHeld hb
    replace hs8 := hs8.below hb
    replace hs17 := hs17.below hb
    clear hb
    refine hK.out _ _ hS (fun hHeld => ?_)
    clear hK K hS
    (try simp only [Act.put, List.setIfInBounds_toArray, List.set_cons_zero, List.set_cons_succ])
    refine wpAnyH_listed (listed' := #[true, true, true, true, true, true, true, true, true, true, false, true, true, true, true, true, true, true, false, true, true, false, false, false]) (by kernel_rfl) ?_
    exact HK1_abd v8 v17 u9 ⟨hs8, hs17, hHeld⟩
  case hb1_abd =>
    obtain ⟨hs8, hs17, hHeld⟩ := hpre
    refine wpAnyH_ready (rs := [10]) (by kernel_rfl) (by simp) ?_
    refine' AllReadyH.cons ?_ (fun K hK => ?_) AllReadyH.nil
    rotate_left
    focus (simp only [List.getElem?_toArray, List.getElem?_cons_succ, List.getElem?_cons_zero]; rfl)
    go_simp
    (go_at_call 51; (with_reducible refine (span_any _ _ z1 HZ1.out _).mono ?_); rintro e u10 ⟨rfl, hb⟩)
    have hS := By.below hHeld hb
    replace hs8 := hs8.below hb
    replace hs17 := hs17.below hb
    clear hb
    refine hK.out _ _ hS (fun hHeld => ?_)
    clear hK K hS
    (try simp only [Act.put, List.setIfInBounds_toArray, List.set_cons_zero, List.set_cons_succ])
    refine wpAnyH_listed (listed' := #[true, true, true, true, true, true, true, true, true, true, true, true, true, true, true, true, true, true, false, true, true, false, false, false]) (by kernel_rfl) ?_
    exact HK1_abcd v8 v17 u10 ⟨hs8, hs17, hHeld⟩
  obtain ⟨hs8, hs17, hHeld⟩ := hpre
  refine wpAnyH_ready (rs := [18]) (by kernel_rfl) (by simp) ?_
  refine' AllReadyH.cons ?_ (fun K hK => ?_) AllReadyH.nil
  rotate_left
  focus (simp only [List.getElem?_toArray, List.getElem?_cons_succ, List.getElem?_cons_zero]; rfl)
  go_simp
  (go_at_call 42; (with_reducible refine (greatest1 _ _ n2 HN2.out _ _ hs17).mono ?_); rintro e u18 ⟨rfl, hb⟩)
  have hS := By.below hHeld hb
  replace hs8 := hs8.below hb
  replace hs17 := hs17.below hb
  clear hb
  refine hK.out _ _ hS (fun hHeld => ?_)
  clear hK K hS
  (try simp only [Act.put, List.setIfInBounds_toArray, List.set_cons_zero, List.set_cons_succ])
  refine wpAnyH_ready (rs := [21]) (by kernel_rfl) (by simp) ?_
  refine' AllReadyH.cons ?_ (fun K hK => ?_) AllReadyH.nil
  rotate_left
  focus (simp only [List.getElem?_toArray, List.getElem?_cons_succ, List.getElem?_cons_zero]; rfl)
  go_simp
  (go_at_call 51; (with_reducible refine (span_any _ _ z2 HZ2.out _).mono ?_); rintro e u21 ⟨rfl, hb⟩)
  have hS := By.below hHeld hb
  replace hs8 := hs8.below hb
  replace hs17 := hs17.below hb
  clear hb
  refine hK.out _ _ hS (fun hHeld => ?_)
  clear hK K hS
  (try simp only [Act.put, List.setIfInBounds_toArray, List.set_cons_zero, List.set_cons_succ])
  refine wpAnyH_ready (rs := [22]) (by kernel_rfl) (by simp) ?_
  refine' AllReadyH.cons ?_ (fun K hK => ?_) AllReadyH.nil
  rotate_left
  focus (simp only [List.getElem?_toArray, List.getElem?_cons_succ, List.getElem?_cons_zero]; rfl)
  obtain ⟨hA, ⟨a0, a1⟩, ⟨b0, b1⟩, ⟨⟨x, y, c0, c1⟩, f2⟩, ⟨⟨x2, y2, d0, d1⟩, f3⟩⟩ := id hHeld; have hy0 := hA.lt0 (by omega); have hy1 := hA.lt1 (by omega); have hy2 := hA.lt2 (by omega); have hy3 := hA.lt3 (by omega)
  go_simp
  have hS := By.set (x := .int .i64 (z1.lo)) (y := .int .i64 (z1.hi)) hHeld
  refine hK.out _ _ hS (fun hHeld => ?_)
  clear hK K hS
  (try simp only [Act.put, List.setIfInBounds_toArray, List.set_cons_zero, List.set_cons_succ])
  refine wpAnyH_ready (rs := [23]) (by kernel_rfl) (by simp) ?_
  refine' AllReadyH.cons ?_ (fun K hK => ?_) AllReadyH.nil
  rotate_left
  focus (simp only [List.getElem?_toArray, List.getElem?_cons_succ, List.getElem?_cons_zero]; rfl)
  skip
  go_simp
  have hS := By.set3 (x := .int .i64 (z2.lo)) (y := .int .i64 (z2.hi)) hHeld
  refine hK.out _ _ hS (fun hHeld => ?_)
  clear hK K hS
  (try simp only [Act.put, List.setIfInBounds_toArray, List.set_cons_zero, List.set_cons_succ])
  refine wpAnyH_done (by kernel_rfl) ?_ _
  go_wp2
  refine bodyPost_ret (v := .tuple #[.agg #[.int .i64 (z1).lo, .int .i64 (z1).hi], .agg #[.int .i64 (z2).lo, .int .i64 (z2).hi]]) ?_ rfl ⟨rfl, hHeld.1.1⟩
  simp [results, Try.results66, go_sem, c0, c1, d0, d1]
set_option maxHeartbeats 4000000 in
theorem swap_any (a b : Iv) (w : World) : Calls Try.prog 67 #[.agg #[.int .i64 (a).lo, .int .i64 (a).hi], .agg #[.int .i64 (b).lo, .int .i64 (b).hi]] w fun e w' => e = .returned (.tuple #[.agg #[.int .i64 (b).lo, .int .i64 (b).hi], .agg #[.int .i64 (a).lo, .int .i64 (a).hi]]) ∧ Below w.heap.size w w' := by
  have hHeld := by_new w a b 23
  go_enter Try.func67, Try.ntmps67
  go_wp2
  go_region
  all_goals
    go_wp2
    refine bodyPost_ret (v := .tuple #[.agg #[.int .i64 (b).lo, .int .i64 (b).hi], .agg #[.int .i64 (a).lo, .int .i64 (a).hi]]) ?_ rfl ⟨rfl, (((((Ahead.refl w).alloc _).alloc _).alloc _).alloc _).drew.1⟩
    simp [results, Try.results67, go_sem, go_sem]
end Go.Proofs.Ytdajgopgaklipaa
