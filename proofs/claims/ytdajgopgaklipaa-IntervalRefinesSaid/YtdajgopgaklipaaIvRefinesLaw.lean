/- The walk of the law IntervalRefines: it answers true. No condition. -/
import Derived.Test.YtdajgopgaklipaaIvPartner
import Derived.Test.YtdajgopgaklipaaIvAgree
import Derived.Test.YtdajgopgaklipaaIvSoundLaw
import Derived.Deep.RegionWith
namespace Go.Proofs.Ytdajgopgaklipaa
open Go.RowKit
set_option linter.unusedVariables false
set_option linter.unusedSimpArgs false
attribute [local go_sem] y_undef
set_option maxRecDepth 100000 in
set_option maxHeartbeats 16000000 in
theorem refines_law (o a b c d h0 h1 m n : Int) (ho : 0 ≤ o ∧ o ≤ 255) (ha : -2147483648 ≤ a ∧ a ≤ 2147483647) (hb : -2147483648 ≤ b ∧ b ≤ 2147483647) (hc : -2147483648 ≤ c ∧ c ≤ 2147483647) (hd : -2147483648 ≤ d ∧ d ≤ 2147483647)
    (hh0 : 0 ≤ h0 ∧ h0 ≤ 255) (hh1 : 0 ≤ h1 ∧ h1 ≤ 255) (hm : 0 ≤ m ∧ m ≤ 4294967295) (hn : 0 ≤ n ∧ n ≤ 4294967295) (w : World) :
    Calls Try.prog 6 #[.int .u8 o, .int .i32 a, .int .i32 b, .int .i32 c, .int .i32 d, .agg #[.int .u8 h0, .int .u8 h1], .int .u32 m, .int .u32 n] w fun e w' => e = .returned (.bool true) ∧ Below w.heap.size w w' := by
  have hA := (Ahead.refl w).alloc (.cells #[.int .u8 h0, .int .u8 h1] 27)
  have HX := Lib.hid (of_any a b h0 ha hb hh0)
  have HY := Lib.hid (of_any c d h1 hc hd hh1)
  have HM := Lib.hid hm
  have HN := Lib.hid hn
  obtain ⟨o1, o2⟩ := ho
  clear ha hb hc hd hh0 hh1 hm hn
  have hg := iv_guard
  go_enter Try.func6, Try.ntmps6
  go_wp2_with fail
  rename_i K1 hK1
  refine' (fun (HK : ∀ (x y : Iv) (g1 g2 : Nat) (w' : World), Iv.Ok x → Iv.Ok y → Two w x y g1 g2 w' → K1 { tmps := #[.int .u8 o, .int .i32 a, .int .i32 b, .int .i32 c, .int .i32 d, .agg #[.int .u8 h0, .int .u8 h1], .int .u32 m, .int .u32 n, undef, undef, undef, undef, undef, .pointer (some ⟨w.heap.size, 0, none⟩), undef, undef, .bool false, .pointer (some ⟨g1, 0, none⟩), .pointer (some ⟨g2, 0, none⟩), undef, undef, undef, undef, undef, undef, undef, .int .i32 a, .int .i32 b, .pointer (some ⟨w.heap.size, 0, none⟩), .int .u8 h0, .agg #[.int .i64 (x).lo, .int .i64 (x).hi], .int .i32 c, .int .i32 d, .pointer (some ⟨w.heap.size, 1, none⟩), .int .u8 h1, .agg #[.int .i64 (y).lo, .int .i64 (y).hi], undef, undef, undef, undef, undef, undef, undef, undef, undef, undef, undef, undef, undef, undef, undef, undef, undef, undef, undef, undef, undef, undef, undef, undef, undef, undef, undef, undef, undef, undef, undef, undef, undef, undef, undef, undef, undef, undef, undef, undef, undef, undef, undef, undef, undef, undef, undef, undef, undef, undef, undef, undef, undef, undef, undef, undef, undef, undef, undef, undef, undef, undef, undef, undef, undef, undef, undef, undef, undef, undef, undef, undef, undef, undef, undef, undef], defers := [] } w') => ?_) (fun x y g1 g2 w' hx hy hw' => ?_)
  focus
    clear hK1
    have hI : Inv w h0 h1 none none (w.alloc (.cells #[.int .u8 h0, .int .u8 h1] 27)).drew := ⟨⟨⟨by simp, by simp⟩, hA.drew⟩, trivial, trivial, fun _ _ h => by cases h⟩
    clear hA
    refine wp_region_held_drew (S := fun w' => Arr w h0 h1 w') (by kernel_rfl) hI.1 (fun hHeld => ?_)
    generalize (w.alloc (.cells #[.int .u8 h0, .int .u8 h1] 27)).drew = u0 at *
    refine' wpAnyH_take (i := 0) (v := _) ?_ ?_ ?_ ?_ ?_ ?_ ?_ ?_
    rotate_left 2
    focus (simp only [List.getElem?_toArray, List.getElem?_cons_succ, List.getElem?_cons_zero]; rfl)
    focus kernel_rfl
    focus kernel_rfl
    focus kernel_rfl
    focus exact (fun _ _ _ h => h)
    refine Or.inl ⟨?_, ?_⟩
    focus (go_simp; done)
    focus (intro w hSw; obtain ⟨⟨a0, a1⟩, _⟩ := hSw; (first | (go_simp; done) | (go_simp; with_reducible rfl)))
    focus assumption
    (try simp only [Act.put, List.setIfInBounds_toArray, List.set_cons_zero, List.set_cons_succ])
    refine' wpAnyH_take (i := 1) (v := _) ?_ ?_ ?_ ?_ ?_ ?_ ?_ ?_
    rotate_left 2
    focus (simp only [List.getElem?_toArray, List.getElem?_cons_succ, List.getElem?_cons_zero]; rfl)
    focus kernel_rfl
    focus kernel_rfl
    focus kernel_rfl
    focus exact (fun _ _ _ h => h)
    refine Or.inl ⟨?_, ?_⟩
    focus (go_simp; done)
    focus (intro w hSw; obtain ⟨⟨a0, a1⟩, _⟩ := hSw; (first | (go_simp; done) | (go_simp; with_reducible rfl)))
    focus assumption
    (try simp only [Act.put, List.setIfInBounds_toArray, List.set_cons_zero, List.set_cons_succ])
    refine' wpAnyH_take (i := 2) (v := _) ?_ ?_ ?_ ?_ ?_ ?_ ?_ ?_
    rotate_left 2
    focus (simp only [List.getElem?_toArray, List.getElem?_cons_succ, List.getElem?_cons_zero]; rfl)
    focus kernel_rfl
    focus kernel_rfl
    focus kernel_rfl
    focus exact (fun _ _ _ h => h)
    refine Or.inl ⟨?_, ?_⟩
    focus (go_simp; done)
    focus (intro w hSw; obtain ⟨⟨a0, a1⟩, _⟩ := hSw; (first | (go_simp; done) | (go_simp; with_reducible rfl)))
    focus assumption
    (try simp only [Act.put, List.setIfInBounds_toArray, List.set_cons_zero, List.set_cons_succ])
    refine' wpAnyH_take (i := 3) (v := _) ?_ ?_ ?_ ?_ ?_ ?_ ?_ ?_
    rotate_left 2
    focus (simp only [List.getElem?_toArray, List.getElem?_cons_succ, List.getElem?_cons_zero]; rfl)
    focus kernel_rfl
    focus kernel_rfl
    focus kernel_rfl
    focus exact (fun _ _ _ h => h)
    refine Or.inl ⟨?_, ?_⟩
    focus (go_simp; done)
    focus (intro w hSw; obtain ⟨⟨a0, a1⟩, _⟩ := hSw; (first | (go_simp; done) | (go_simp; with_reducible rfl)))
    focus assumption
    (try simp only [Act.put, List.setIfInBounds_toArray, List.set_cons_zero, List.set_cons_succ])
    refine' wpAnyH_take (i := 5) (v := _) ?_ ?_ ?_ ?_ ?_ ?_ ?_ ?_
    rotate_left 2
    focus (simp only [List.getElem?_toArray, List.getElem?_cons_succ, List.getElem?_cons_zero]; rfl)
    focus kernel_rfl
    focus kernel_rfl
    focus kernel_rfl
    focus exact (fun _ _ _ h => h)
    refine Or.inl ⟨?_, ?_⟩
    focus (go_simp; done)
    focus (intro w hSw; obtain ⟨⟨a0, a1⟩, _⟩ := hSw; (first | (go_simp; done) | (go_simp; with_reducible rfl)))
    focus assumption
    (try simp only [Act.put, List.setIfInBounds_toArray, List.set_cons_zero, List.set_cons_succ])
    refine' wpAnyH_take (i := 6) (v := _) ?_ ?_ ?_ ?_ ?_ ?_ ?_ ?_
    rotate_left 2
    focus (simp only [List.getElem?_toArray, List.getElem?_cons_succ, List.getElem?_cons_zero]; rfl)
    focus kernel_rfl
    focus kernel_rfl
    focus kernel_rfl
    focus exact (fun _ _ _ h => h)
    refine Or.inl ⟨?_, ?_⟩
    focus (go_simp; done)
    focus (intro w hSw; obtain ⟨⟨a0, a1⟩, _⟩ := hSw; (first | (go_simp; done) | (go_simp; with_reducible rfl)))
    focus assumption
    (try simp only [Act.put, List.setIfInBounds_toArray, List.set_cons_zero, List.set_cons_succ])
    refine' wpAnyH_take (i := 7) (v := _) ?_ ?_ ?_ ?_ ?_ ?_ ?_ ?_
    rotate_left 2
    focus (simp only [List.getElem?_toArray, List.getElem?_cons_succ, List.getElem?_cons_zero]; rfl)
    focus kernel_rfl
    focus kernel_rfl
    focus kernel_rfl
    focus exact (fun _ _ _ h => h)
    refine Or.inl ⟨?_, ?_⟩
    focus (go_simp; done)
    focus (intro w hSw; obtain ⟨⟨a0, a1⟩, _⟩ := hSw; (first | (go_simp; done) | (go_simp; with_reducible rfl)))
    focus assumption
    (try simp only [Act.put, List.setIfInBounds_toArray, List.set_cons_zero, List.set_cons_succ])
    refine' wpAnyH_take (i := 8) (v := _) ?_ ?_ ?_ ?_ ?_ ?_ ?_ ?_
    rotate_left 2
    focus (simp only [List.getElem?_toArray, List.getElem?_cons_succ, List.getElem?_cons_zero]; rfl)
    focus kernel_rfl
    focus kernel_rfl
    focus kernel_rfl
    focus exact (fun _ _ _ h => h)
    refine Or.inl ⟨?_, ?_⟩
    focus (go_simp; done)
    focus (intro w hSw; obtain ⟨⟨a0, a1⟩, _⟩ := hSw; (first | (go_simp; done) | (go_simp; with_reducible rfl)))
    focus assumption
    (try simp only [Act.put, List.setIfInBounds_toArray, List.set_cons_zero, List.set_cons_succ])
    refine wpAnyH_ready (rs := [4, 10, 11]) (by kernel_rfl) (by simp) ?_
    refine' AllReadyH.cons ?_ (fun K hK => ?_) ?_
    rotate_left
    focus (simp only [List.getElem?_toArray, List.getElem?_cons_succ, List.getElem?_cons_zero]; rfl)
    focus
      go_simp
      refine Calls.mono (HX.out _) ?_
      rintro e u1 ⟨x, hx, rfl, hb⟩
      replace hI := hI.below hb
      refine hK.out _ _ hI.1 (fun hHeld => ?_)
      clear hK K hb
      (try simp only [Act.put, List.setIfInBounds_toArray, List.set_cons_zero, List.set_cons_succ])
      refine wpAnyH_ready (rs := [9, 10, 11]) (by kernel_rfl) (by simp) ?_
      refine' AllReadyH.cons ?_ (fun K hK => ?_) ?_
      rotate_left
      focus (simp only [List.getElem?_toArray, List.getElem?_cons_succ, List.getElem?_cons_zero]; rfl)
      focus
        go_simp
        refine Calls.mono (HY.out _) ?_
        rintro e u2 ⟨y, hy, rfl, hb⟩
        replace hI := hI.below hb
        refine hK.out _ _ hI.1 (fun hHeld => ?_)
        clear hK K hb
        (try simp only [Act.put, List.setIfInBounds_toArray, List.set_cons_zero, List.set_cons_succ])
        refine wpAnyH_ready (rs := [10, 11]) (by kernel_rfl) (by simp) ?_
        refine' AllReadyH.cons ?_ (fun K hK => ?_) ?_
        rotate_left
        focus (simp only [List.getElem?_toArray, List.getElem?_cons_succ, List.getElem?_cons_zero]; rfl)
        focus
          go_simp
          replace hI := hI.make1
          refine hK.out _ _ hI.1 (fun hHeld => ?_)
          clear hK K
          (try simp only [Act.put, List.setIfInBounds_toArray, List.set_cons_zero, List.set_cons_succ])
          generalize u2.alloc (.cells #[.int .i64 0, .int .i64 0] 23) = u3 at *
          generalize u2.heap.size = g1 at *
          refine wpAnyH_ready (rs := [11]) (by kernel_rfl) (by simp) ?_
          refine' AllReadyH.cons ?_ (fun K hK => ?_) ?_
          rotate_left
          focus (simp only [List.getElem?_toArray, List.getElem?_cons_succ, List.getElem?_cons_zero]; rfl)
          focus
            go_simp
            replace hI := hI.make2
            refine hK.out _ _ hI.1 (fun hHeld => ?_)
            clear hK K
            (try simp only [Act.put, List.setIfInBounds_toArray, List.set_cons_zero, List.set_cons_succ])
            generalize u3.alloc (.cells #[.int .i64 0, .int .i64 0] 23) = u4 at *
            generalize u3.heap.size = g2 at *
            obtain ⟨hI1, ⟨p1, p2, p3, p4, p5⟩, ⟨q1, q2, q3, q4, q5⟩, hne⟩ := hI
            have hne := hne g1 g2 rfl rfl
            refine wpAnyH_ready (rs := [12]) (by kernel_rfl) (by simp) ?_
            refine' AllReadyH.cons ?_ (fun K hK => ?_) AllReadyH.nil
            rotate_left
            focus (simp only [List.getElem?_toArray, List.getElem?_cons_succ, List.getElem?_cons_zero]; rfl)
            go_simp
            have hI2 := hI1.set2 (x := .int .i64 x.lo) (y := .int .i64 x.hi) p1
            have r1 := set_pair p3 p4 (x := .int .i64 x.lo) (y := .int .i64 x.hi)
            have q3 := (far2 (o := 0) (o1 := 0) (o2 := 1) (v1 := .int .i64 x.lo) (v2 := .int .i64 x.hi) hne).trans q3
            have q4 := (far2 (o := 1) (o1 := 0) (o2 := 1) (v1 := .int .i64 x.lo) (v2 := .int .i64 x.hi) hne).trans q4
            have q5 : ∀ o, ((u4.setCell ⟨g1, 0, none⟩ (.int .i64 x.lo)).setCell ⟨g1, 1, none⟩ (.int .i64 x.hi)).frozen? ⟨g2, o, none⟩ = false := fun o => by simpa using q5 o
            have s1 : g1 < ((u4.setCell ⟨g1, 0, none⟩ (.int .i64 x.lo)).setCell ⟨g1, 1, none⟩ (.int .i64 x.hi)).heap.size := by simpa using p2
            have s2 : g2 < ((u4.setCell ⟨g1, 0, none⟩ (.int .i64 x.lo)).setCell ⟨g1, 1, none⟩ (.int .i64 x.hi)).heap.size := by simpa using q2
            refine hK.out _ _ hI2 (fun hHeld => ?_)
            clear hK K p3 p4 p5 hI1
            (try simp only [Act.put, List.setIfInBounds_toArray, List.set_cons_zero, List.set_cons_succ])
            generalize (u4.setCell ⟨g1, 0, none⟩ (.int .i64 x.lo)).setCell ⟨g1, 1, none⟩ (.int .i64 x.hi) = v at *
            refine wpAnyH_ready (rs := [13]) (by kernel_rfl) (by simp) ?_
            refine' AllReadyH.cons ?_ (fun K hK => ?_) AllReadyH.nil
            rotate_left
            focus (simp only [List.getElem?_toArray, List.getElem?_cons_succ, List.getElem?_cons_zero]; rfl)
            go_simp
            have hI3 := hI2.set2 (x := .int .i64 y.lo) (y := .int .i64 y.hi) q1
            refine hK.out _ _ hI3 (fun hHeld => ?_)
            clear hK K
            (try simp only [Act.put, List.setIfInBounds_toArray, List.set_cons_zero, List.set_cons_succ])
            refine wpAnyH_done (by kernel_rfl) ?_ _
            exact HK x y g1 g2 _ hx hy ⟨hI3.2.1, ⟨(far2 (Ne.symm hne)).trans r1.1, (far2 (Ne.symm hne)).trans r1.2⟩, set_pair q3 q4, by simpa using s1, by simpa using s2⟩
          exact AllReadyH.nil
        refine' AllReadyH.cons ?_ (fun K hK => ?_) ?_
        rotate_left
        focus (simp only [List.getElem?_toArray, List.getElem?_cons_succ, List.getElem?_cons_zero]; rfl)
        focus
          go_simp
          replace hI := hI.make2
          refine hK.out _ _ hI.1 (fun hHeld => ?_)
          clear hK K
          (try simp only [Act.put, List.setIfInBounds_toArray, List.set_cons_zero, List.set_cons_succ])
          generalize u2.alloc (.cells #[.int .i64 0, .int .i64 0] 23) = u5 at *
          generalize u2.heap.size = g2 at *
          refine wpAnyH_ready (rs := [10]) (by kernel_rfl) (by simp) ?_
          refine' AllReadyH.cons ?_ (fun K hK => ?_) ?_
          rotate_left
          focus (simp only [List.getElem?_toArray, List.getElem?_cons_succ, List.getElem?_cons_zero]; rfl)
          focus
            go_simp
            replace hI := hI.make1
            refine hK.out _ _ hI.1 (fun hHeld => ?_)
            clear hK K
            (try simp only [Act.put, List.setIfInBounds_toArray, List.set_cons_zero, List.set_cons_succ])
            generalize u5.alloc (.cells #[.int .i64 0, .int .i64 0] 23) = u6 at *
            generalize u5.heap.size = g1 at *
            obtain ⟨hI1, ⟨p1, p2, p3, p4, p5⟩, ⟨q1, q2, q3, q4, q5⟩, hne⟩ := hI
            have hne := hne g1 g2 rfl rfl
            refine wpAnyH_ready (rs := [12]) (by kernel_rfl) (by simp) ?_
            refine' AllReadyH.cons ?_ (fun K hK => ?_) AllReadyH.nil
            rotate_left
            focus (simp only [List.getElem?_toArray, List.getElem?_cons_succ, List.getElem?_cons_zero]; rfl)
            go_simp
            have hI2 := hI1.set2 (x := .int .i64 x.lo) (y := .int .i64 x.hi) p1
            have r1 := set_pair p3 p4 (x := .int .i64 x.lo) (y := .int .i64 x.hi)
            have q3 := (far2 (o := 0) (o1 := 0) (o2 := 1) (v1 := .int .i64 x.lo) (v2 := .int .i64 x.hi) hne).trans q3
            have q4 := (far2 (o := 1) (o1 := 0) (o2 := 1) (v1 := .int .i64 x.lo) (v2 := .int .i64 x.hi) hne).trans q4
            have q5 : ∀ o, ((u6.setCell ⟨g1, 0, none⟩ (.int .i64 x.lo)).setCell ⟨g1, 1, none⟩ (.int .i64 x.hi)).frozen? ⟨g2, o, none⟩ = false := fun o => by simpa using q5 o
            have s1 : g1 < ((u6.setCell ⟨g1, 0, none⟩ (.int .i64 x.lo)).setCell ⟨g1, 1, none⟩ (.int .i64 x.hi)).heap.size := by simpa using p2
            have s2 : g2 < ((u6.setCell ⟨g1, 0, none⟩ (.int .i64 x.lo)).setCell ⟨g1, 1, none⟩ (.int .i64 x.hi)).heap.size := by simpa using q2
            refine hK.out _ _ hI2 (fun hHeld => ?_)
            clear hK K p3 p4 p5 hI1
            (try simp only [Act.put, List.setIfInBounds_toArray, List.set_cons_zero, List.set_cons_succ])
            generalize (u6.setCell ⟨g1, 0, none⟩ (.int .i64 x.lo)).setCell ⟨g1, 1, none⟩ (.int .i64 x.hi) = v at *
            refine wpAnyH_ready (rs := [13]) (by kernel_rfl) (by simp) ?_
            refine' AllReadyH.cons ?_ (fun K hK => ?_) AllReadyH.nil
            rotate_left
            focus (simp only [List.getElem?_toArray, List.getElem?_cons_succ, List.getElem?_cons_zero]; rfl)
            go_simp
            have hI3 := hI2.set2 (x := .int .i64 y.lo) (y := .int .i64 y.hi) q1
            refine hK.out _ _ hI3 (fun hHeld => ?_)
            clear hK K
            (try simp only [Act.put, List.setIfInBounds_toArray, List.set_cons_zero, List.set_cons_succ])
            refine wpAnyH_done (by kernel_rfl) ?_ _
            exact HK x y g1 g2 _ hx hy ⟨hI3.2.1, ⟨(far2 (Ne.symm hne)).trans r1.1, (far2 (Ne.symm hne)).trans r1.2⟩, set_pair q3 q4, by simpa using s1, by simpa using s2⟩
          exact AllReadyH.nil
        exact AllReadyH.nil
      refine' AllReadyH.cons ?_ (fun K hK => ?_) ?_
      rotate_left
      focus (simp only [List.getElem?_toArray, List.getElem?_cons_succ, List.getElem?_cons_zero]; rfl)
      focus
        go_simp
        replace hI := hI.make1
        refine hK.out _ _ hI.1 (fun hHeld => ?_)
        clear hK K
        (try simp only [Act.put, List.setIfInBounds_toArray, List.set_cons_zero, List.set_cons_succ])
        generalize u1.alloc (.cells #[.int .i64 0, .int .i64 0] 23) = u7 at *
        generalize u1.heap.size = g1 at *
        refine wpAnyH_ready (rs := [9, 11]) (by kernel_rfl) (by simp) ?_
        refine' AllReadyH.cons ?_ (fun K hK => ?_) ?_
        rotate_left
        focus (simp only [List.getElem?_toArray, List.getElem?_cons_succ, List.getElem?_cons_zero]; rfl)
        focus
          go_simp
          refine Calls.mono (HY.out _) ?_
          rintro e u8 ⟨y, hy, rfl, hb⟩
          replace hI := hI.below hb
          refine hK.out _ _ hI.1 (fun hHeld => ?_)
          clear hK K hb
          (try simp only [Act.put, List.setIfInBounds_toArray, List.set_cons_zero, List.set_cons_succ])
          refine wpAnyH_ready (rs := [11]) (by kernel_rfl) (by simp) ?_
          refine' AllReadyH.cons ?_ (fun K hK => ?_) ?_
          rotate_left
          focus (simp only [List.getElem?_toArray, List.getElem?_cons_succ, List.getElem?_cons_zero]; rfl)
          focus
            go_simp
            replace hI := hI.make2
            refine hK.out _ _ hI.1 (fun hHeld => ?_)
            clear hK K
            (try simp only [Act.put, List.setIfInBounds_toArray, List.set_cons_zero, List.set_cons_succ])
            generalize u8.alloc (.cells #[.int .i64 0, .int .i64 0] 23) = u9 at *
            generalize u8.heap.size = g2 at *
            obtain ⟨hI1, ⟨p1, p2, p3, p4, p5⟩, ⟨q1, q2, q3, q4, q5⟩, hne⟩ := hI
            have hne := hne g1 g2 rfl rfl
            refine wpAnyH_ready (rs := [12]) (by kernel_rfl) (by simp) ?_
            refine' AllReadyH.cons ?_ (fun K hK => ?_) AllReadyH.nil
            rotate_left
            focus (simp only [List.getElem?_toArray, List.getElem?_cons_succ, List.getElem?_cons_zero]; rfl)
            go_simp
            have hI2 := hI1.set2 (x := .int .i64 x.lo) (y := .int .i64 x.hi) p1
            have r1 := set_pair p3 p4 (x := .int .i64 x.lo) (y := .int .i64 x.hi)
            have q3 := (far2 (o := 0) (o1 := 0) (o2 := 1) (v1 := .int .i64 x.lo) (v2 := .int .i64 x.hi) hne).trans q3
            have q4 := (far2 (o := 1) (o1 := 0) (o2 := 1) (v1 := .int .i64 x.lo) (v2 := .int .i64 x.hi) hne).trans q4
            have q5 : ∀ o, ((u9.setCell ⟨g1, 0, none⟩ (.int .i64 x.lo)).setCell ⟨g1, 1, none⟩ (.int .i64 x.hi)).frozen? ⟨g2, o, none⟩ = false := fun o => by simpa using q5 o
            have s1 : g1 < ((u9.setCell ⟨g1, 0, none⟩ (.int .i64 x.lo)).setCell ⟨g1, 1, none⟩ (.int .i64 x.hi)).heap.size := by simpa using p2
            have s2 : g2 < ((u9.setCell ⟨g1, 0, none⟩ (.int .i64 x.lo)).setCell ⟨g1, 1, none⟩ (.int .i64 x.hi)).heap.size := by simpa using q2
            refine hK.out _ _ hI2 (fun hHeld => ?_)
            clear hK K p3 p4 p5 hI1
            (try simp only [Act.put, List.setIfInBounds_toArray, List.set_cons_zero, List.set_cons_succ])
            generalize (u9.setCell ⟨g1, 0, none⟩ (.int .i64 x.lo)).setCell ⟨g1, 1, none⟩ (.int .i64 x.hi) = v at *
            refine wpAnyH_ready (rs := [13]) (by kernel_rfl) (by simp) ?_
            refine' AllReadyH.cons ?_ (fun K hK => ?_) AllReadyH.nil
            rotate_left
            focus (simp only [List.getElem?_toArray, List.getElem?_cons_succ, List.getElem?_cons_zero]; rfl)
            go_simp
            have hI3 := hI2.set2 (x := .int .i64 y.lo) (y := .int .i64 y.hi) q1
            refine hK.out _ _ hI3 (fun hHeld => ?_)
            clear hK K
            (try simp only [Act.put, List.setIfInBounds_toArray, List.set_cons_zero, List.set_cons_succ])
            refine wpAnyH_done (by kernel_rfl) ?_ _
            exact HK x y g1 g2 _ hx hy ⟨hI3.2.1, ⟨(far2 (Ne.symm hne)).trans r1.1, (far2 (Ne.symm hne)).trans r1.2⟩, set_pair q3 q4, by simpa using s1, by simpa using s2⟩
          exact AllReadyH.nil
        refine' AllReadyH.cons ?_ (fun K hK => ?_) ?_
        rotate_left
        focus (simp only [List.getElem?_toArray, List.getElem?_cons_succ, List.getElem?_cons_zero]; rfl)
        focus
          go_simp
          replace hI := hI.make2
          refine hK.out _ _ hI.1 (fun hHeld => ?_)
          clear hK K
          (try simp only [Act.put, List.setIfInBounds_toArray, List.set_cons_zero, List.set_cons_succ])
          generalize u7.alloc (.cells #[.int .i64 0, .int .i64 0] 23) = u10 at *
          generalize u7.heap.size = g2 at *
          refine wpAnyH_ready (rs := [9]) (by kernel_rfl) (by simp) ?_
          refine' AllReadyH.cons ?_ (fun K hK => ?_) ?_
          rotate_left
          focus (simp only [List.getElem?_toArray, List.getElem?_cons_succ, List.getElem?_cons_zero]; rfl)
          focus
            go_simp
            refine Calls.mono (HY.out _) ?_
            rintro e u11 ⟨y, hy, rfl, hb⟩
            replace hI := hI.below hb
            refine hK.out _ _ hI.1 (fun hHeld => ?_)
            clear hK K hb
            (try simp only [Act.put, List.setIfInBounds_toArray, List.set_cons_zero, List.set_cons_succ])
            obtain ⟨hI1, ⟨p1, p2, p3, p4, p5⟩, ⟨q1, q2, q3, q4, q5⟩, hne⟩ := hI
            have hne := hne g1 g2 rfl rfl
            refine wpAnyH_ready (rs := [12]) (by kernel_rfl) (by simp) ?_
            refine' AllReadyH.cons ?_ (fun K hK => ?_) AllReadyH.nil
            rotate_left
            focus (simp only [List.getElem?_toArray, List.getElem?_cons_succ, List.getElem?_cons_zero]; rfl)
            go_simp
            have hI2 := hI1.set2 (x := .int .i64 x.lo) (y := .int .i64 x.hi) p1
            have r1 := set_pair p3 p4 (x := .int .i64 x.lo) (y := .int .i64 x.hi)
            have q3 := (far2 (o := 0) (o1 := 0) (o2 := 1) (v1 := .int .i64 x.lo) (v2 := .int .i64 x.hi) hne).trans q3
            have q4 := (far2 (o := 1) (o1 := 0) (o2 := 1) (v1 := .int .i64 x.lo) (v2 := .int .i64 x.hi) hne).trans q4
            have q5 : ∀ o, ((u11.setCell ⟨g1, 0, none⟩ (.int .i64 x.lo)).setCell ⟨g1, 1, none⟩ (.int .i64 x.hi)).frozen? ⟨g2, o, none⟩ = false := fun o => by simpa using q5 o
            have s1 : g1 < ((u11.setCell ⟨g1, 0, none⟩ (.int .i64 x.lo)).setCell ⟨g1, 1, none⟩ (.int .i64 x.hi)).heap.size := by simpa using p2
            have s2 : g2 < ((u11.setCell ⟨g1, 0, none⟩ (.int .i64 x.lo)).setCell ⟨g1, 1, none⟩ (.int .i64 x.hi)).heap.size := by simpa using q2
            refine hK.out _ _ hI2 (fun hHeld => ?_)
            clear hK K p3 p4 p5 hI1
            (try simp only [Act.put, List.setIfInBounds_toArray, List.set_cons_zero, List.set_cons_succ])
            generalize (u11.setCell ⟨g1, 0, none⟩ (.int .i64 x.lo)).setCell ⟨g1, 1, none⟩ (.int .i64 x.hi) = v at *
            refine wpAnyH_ready (rs := [13]) (by kernel_rfl) (by simp) ?_
            refine' AllReadyH.cons ?_ (fun K hK => ?_) AllReadyH.nil
            rotate_left
            focus (simp only [List.getElem?_toArray, List.getElem?_cons_succ, List.getElem?_cons_zero]; rfl)
            go_simp
            have hI3 := hI2.set2 (x := .int .i64 y.lo) (y := .int .i64 y.hi) q1
            refine hK.out _ _ hI3 (fun hHeld => ?_)
            clear hK K
            (try simp only [Act.put, List.setIfInBounds_toArray, List.set_cons_zero, List.set_cons_succ])
            refine wpAnyH_done (by kernel_rfl) ?_ _
            exact HK x y g1 g2 _ hx hy ⟨hI3.2.1, ⟨(far2 (Ne.symm hne)).trans r1.1, (far2 (Ne.symm hne)).trans r1.2⟩, set_pair q3 q4, by simpa using s1, by simpa using s2⟩
          exact AllReadyH.nil
        exact AllReadyH.nil
      refine' AllReadyH.cons ?_ (fun K hK => ?_) ?_
      rotate_left
      focus (simp only [List.getElem?_toArray, List.getElem?_cons_succ, List.getElem?_cons_zero]; rfl)
      focus
        go_simp
        replace hI := hI.make2
        refine hK.out _ _ hI.1 (fun hHeld => ?_)
        clear hK K
        (try simp only [Act.put, List.setIfInBounds_toArray, List.set_cons_zero, List.set_cons_succ])
        generalize u1.alloc (.cells #[.int .i64 0, .int .i64 0] 23) = u12 at *
        generalize u1.heap.size = g2 at *
        refine wpAnyH_ready (rs := [9, 10]) (by kernel_rfl) (by simp) ?_
        refine' AllReadyH.cons ?_ (fun K hK => ?_) ?_
        rotate_left
        focus (simp only [List.getElem?_toArray, List.getElem?_cons_succ, List.getElem?_cons_zero]; rfl)
        focus
          go_simp
          refine Calls.mono (HY.out _) ?_
          rintro e u13 ⟨y, hy, rfl, hb⟩
          replace hI := hI.below hb
          refine hK.out _ _ hI.1 (fun hHeld => ?_)
          clear hK K hb
          (try simp only [Act.put, List.setIfInBounds_toArray, List.set_cons_zero, List.set_cons_succ])
          refine wpAnyH_ready (rs := [10]) (by kernel_rfl) (by simp) ?_
          refine' AllReadyH.cons ?_ (fun K hK => ?_) ?_
          rotate_left
          focus (simp only [List.getElem?_toArray, List.getElem?_cons_succ, List.getElem?_cons_zero]; rfl)
          focus
            go_simp
            replace hI := hI.make1
            refine hK.out _ _ hI.1 (fun hHeld => ?_)
            clear hK K
            (try simp only [Act.put, List.setIfInBounds_toArray, List.set_cons_zero, List.set_cons_succ])
            generalize u13.alloc (.cells #[.int .i64 0, .int .i64 0] 23) = u14 at *
            generalize u13.heap.size = g1 at *
            obtain ⟨hI1, ⟨p1, p2, p3, p4, p5⟩, ⟨q1, q2, q3, q4, q5⟩, hne⟩ := hI
            have hne := hne g1 g2 rfl rfl
            refine wpAnyH_ready (rs := [12]) (by kernel_rfl) (by simp) ?_
            refine' AllReadyH.cons ?_ (fun K hK => ?_) AllReadyH.nil
            rotate_left
            focus (simp only [List.getElem?_toArray, List.getElem?_cons_succ, List.getElem?_cons_zero]; rfl)
            go_simp
            have hI2 := hI1.set2 (x := .int .i64 x.lo) (y := .int .i64 x.hi) p1
            have r1 := set_pair p3 p4 (x := .int .i64 x.lo) (y := .int .i64 x.hi)
            have q3 := (far2 (o := 0) (o1 := 0) (o2 := 1) (v1 := .int .i64 x.lo) (v2 := .int .i64 x.hi) hne).trans q3
            have q4 := (far2 (o := 1) (o1 := 0) (o2 := 1) (v1 := .int .i64 x.lo) (v2 := .int .i64 x.hi) hne).trans q4
            have q5 : ∀ o, ((u14.setCell ⟨g1, 0, none⟩ (.int .i64 x.lo)).setCell ⟨g1, 1, none⟩ (.int .i64 x.hi)).frozen? ⟨g2, o, none⟩ = false := fun o => by simpa using q5 o
            have s1 : g1 < ((u14.setCell ⟨g1, 0, none⟩ (.int .i64 x.lo)).setCell ⟨g1, 1, none⟩ (.int .i64 x.hi)).heap.size := by simpa using p2
            have s2 : g2 < ((u14.setCell ⟨g1, 0, none⟩ (.int .i64 x.lo)).setCell ⟨g1, 1, none⟩ (.int .i64 x.hi)).heap.size := by simpa using q2
            refine hK.out _ _ hI2 (fun hHeld => ?_)
            clear hK K p3 p4 p5 hI1
            (try simp only [Act.put, List.setIfInBounds_toArray, List.set_cons_zero, List.set_cons_succ])
            generalize (u14.setCell ⟨g1, 0, none⟩ (.int .i64 x.lo)).setCell ⟨g1, 1, none⟩ (.int .i64 x.hi) = v at *
            refine wpAnyH_ready (rs := [13]) (by kernel_rfl) (by simp) ?_
            refine' AllReadyH.cons ?_ (fun K hK => ?_) AllReadyH.nil
            rotate_left
            focus (simp only [List.getElem?_toArray, List.getElem?_cons_succ, List.getElem?_cons_zero]; rfl)
            go_simp
            have hI3 := hI2.set2 (x := .int .i64 y.lo) (y := .int .i64 y.hi) q1
            refine hK.out _ _ hI3 (fun hHeld => ?_)
            clear hK K
            (try simp only [Act.put, List.setIfInBounds_toArray, List.set_cons_zero, List.set_cons_succ])
            refine wpAnyH_done (by kernel_rfl) ?_ _
            exact HK x y g1 g2 _ hx hy ⟨hI3.2.1, ⟨(far2 (Ne.symm hne)).trans r1.1, (far2 (Ne.symm hne)).trans r1.2⟩, set_pair q3 q4, by simpa using s1, by simpa using s2⟩
          exact AllReadyH.nil
        refine' AllReadyH.cons ?_ (fun K hK => ?_) ?_
        rotate_left
        focus (simp only [List.getElem?_toArray, List.getElem?_cons_succ, List.getElem?_cons_zero]; rfl)
        focus
          go_simp
          replace hI := hI.make1
          refine hK.out _ _ hI.1 (fun hHeld => ?_)
          clear hK K
          (try simp only [Act.put, List.setIfInBounds_toArray, List.set_cons_zero, List.set_cons_succ])
          generalize u12.alloc (.cells #[.int .i64 0, .int .i64 0] 23) = u15 at *
          generalize u12.heap.size = g1 at *
          refine wpAnyH_ready (rs := [9]) (by kernel_rfl) (by simp) ?_
          refine' AllReadyH.cons ?_ (fun K hK => ?_) ?_
          rotate_left
          focus (simp only [List.getElem?_toArray, List.getElem?_cons_succ, List.getElem?_cons_zero]; rfl)
          focus
            go_simp
            refine Calls.mono (HY.out _) ?_
            rintro e u16 ⟨y, hy, rfl, hb⟩
            replace hI := hI.below hb
            refine hK.out _ _ hI.1 (fun hHeld => ?_)
            clear hK K hb
            (try simp only [Act.put, List.setIfInBounds_toArray, List.set_cons_zero, List.set_cons_succ])
            obtain ⟨hI1, ⟨p1, p2, p3, p4, p5⟩, ⟨q1, q2, q3, q4, q5⟩, hne⟩ := hI
            have hne := hne g1 g2 rfl rfl
            refine wpAnyH_ready (rs := [12]) (by kernel_rfl) (by simp) ?_
            refine' AllReadyH.cons ?_ (fun K hK => ?_) AllReadyH.nil
            rotate_left
            focus (simp only [List.getElem?_toArray, List.getElem?_cons_succ, List.getElem?_cons_zero]; rfl)
            go_simp
            have hI2 := hI1.set2 (x := .int .i64 x.lo) (y := .int .i64 x.hi) p1
            have r1 := set_pair p3 p4 (x := .int .i64 x.lo) (y := .int .i64 x.hi)
            have q3 := (far2 (o := 0) (o1 := 0) (o2 := 1) (v1 := .int .i64 x.lo) (v2 := .int .i64 x.hi) hne).trans q3
            have q4 := (far2 (o := 1) (o1 := 0) (o2 := 1) (v1 := .int .i64 x.lo) (v2 := .int .i64 x.hi) hne).trans q4
            have q5 : ∀ o, ((u16.setCell ⟨g1, 0, none⟩ (.int .i64 x.lo)).setCell ⟨g1, 1, none⟩ (.int .i64 x.hi)).frozen? ⟨g2, o, none⟩ = false := fun o => by simpa using q5 o
            have s1 : g1 < ((u16.setCell ⟨g1, 0, none⟩ (.int .i64 x.lo)).setCell ⟨g1, 1, none⟩ (.int .i64 x.hi)).heap.size := by simpa using p2
            have s2 : g2 < ((u16.setCell ⟨g1, 0, none⟩ (.int .i64 x.lo)).setCell ⟨g1, 1, none⟩ (.int .i64 x.hi)).heap.size := by simpa using q2
            refine hK.out _ _ hI2 (fun hHeld => ?_)
            clear hK K p3 p4 p5 hI1
            (try simp only [Act.put, List.setIfInBounds_toArray, List.set_cons_zero, List.set_cons_succ])
            generalize (u16.setCell ⟨g1, 0, none⟩ (.int .i64 x.lo)).setCell ⟨g1, 1, none⟩ (.int .i64 x.hi) = v at *
            refine wpAnyH_ready (rs := [13]) (by kernel_rfl) (by simp) ?_
            refine' AllReadyH.cons ?_ (fun K hK => ?_) AllReadyH.nil
            rotate_left
            focus (simp only [List.getElem?_toArray, List.getElem?_cons_succ, List.getElem?_cons_zero]; rfl)
            go_simp
            have hI3 := hI2.set2 (x := .int .i64 y.lo) (y := .int .i64 y.hi) q1
            refine hK.out _ _ hI3 (fun hHeld => ?_)
            clear hK K
            (try simp only [Act.put, List.setIfInBounds_toArray, List.set_cons_zero, List.set_cons_succ])
            refine wpAnyH_done (by kernel_rfl) ?_ _
            exact HK x y g1 g2 _ hx hy ⟨hI3.2.1, ⟨(far2 (Ne.symm hne)).trans r1.1, (far2 (Ne.symm hne)).trans r1.2⟩, set_pair q3 q4, by simpa using s1, by simpa using s2⟩
          exact AllReadyH.nil
        exact AllReadyH.nil
      exact AllReadyH.nil
    refine' AllReadyH.cons ?_ (fun K hK => ?_) ?_
    rotate_left
    focus (simp only [List.getElem?_toArray, List.getElem?_cons_succ, List.getElem?_cons_zero]; rfl)
    focus
      go_simp
      replace hI := hI.make1
      refine hK.out _ _ hI.1 (fun hHeld => ?_)
      clear hK K
      (try simp only [Act.put, List.setIfInBounds_toArray, List.set_cons_zero, List.set_cons_succ])
      generalize u0.alloc (.cells #[.int .i64 0, .int .i64 0] 23) = u17 at *
      generalize u0.heap.size = g1 at *
      refine wpAnyH_ready (rs := [4, 11]) (by kernel_rfl) (by simp) ?_
      refine' AllReadyH.cons ?_ (fun K hK => ?_) ?_
      rotate_left
      focus (simp only [List.getElem?_toArray, List.getElem?_cons_succ, List.getElem?_cons_zero]; rfl)
      focus
        go_simp
        refine Calls.mono (HX.out _) ?_
        rintro e u18 ⟨x, hx, rfl, hb⟩
        replace hI := hI.below hb
        refine hK.out _ _ hI.1 (fun hHeld => ?_)
        clear hK K hb
        (try simp only [Act.put, List.setIfInBounds_toArray, List.set_cons_zero, List.set_cons_succ])
        refine wpAnyH_ready (rs := [9, 11]) (by kernel_rfl) (by simp) ?_
        refine' AllReadyH.cons ?_ (fun K hK => ?_) ?_
        rotate_left
        focus (simp only [List.getElem?_toArray, List.getElem?_cons_succ, List.getElem?_cons_zero]; rfl)
        focus
          go_simp
          refine Calls.mono (HY.out _) ?_
          rintro e u19 ⟨y, hy, rfl, hb⟩
          replace hI := hI.below hb
          refine hK.out _ _ hI.1 (fun hHeld => ?_)
          clear hK K hb
          (try simp only [Act.put, List.setIfInBounds_toArray, List.set_cons_zero, List.set_cons_succ])
          refine wpAnyH_ready (rs := [11]) (by kernel_rfl) (by simp) ?_
          refine' AllReadyH.cons ?_ (fun K hK => ?_) ?_
          rotate_left
          focus (simp only [List.getElem?_toArray, List.getElem?_cons_succ, List.getElem?_cons_zero]; rfl)
          focus
            go_simp
            replace hI := hI.make2
            refine hK.out _ _ hI.1 (fun hHeld => ?_)
            clear hK K
            (try simp only [Act.put, List.setIfInBounds_toArray, List.set_cons_zero, List.set_cons_succ])
            generalize u19.alloc (.cells #[.int .i64 0, .int .i64 0] 23) = u20 at *
            generalize u19.heap.size = g2 at *
            obtain ⟨hI1, ⟨p1, p2, p3, p4, p5⟩, ⟨q1, q2, q3, q4, q5⟩, hne⟩ := hI
            have hne := hne g1 g2 rfl rfl
            refine wpAnyH_ready (rs := [12]) (by kernel_rfl) (by simp) ?_
            refine' AllReadyH.cons ?_ (fun K hK => ?_) AllReadyH.nil
            rotate_left
            focus (simp only [List.getElem?_toArray, List.getElem?_cons_succ, List.getElem?_cons_zero]; rfl)
            go_simp
            have hI2 := hI1.set2 (x := .int .i64 x.lo) (y := .int .i64 x.hi) p1
            have r1 := set_pair p3 p4 (x := .int .i64 x.lo) (y := .int .i64 x.hi)
            have q3 := (far2 (o := 0) (o1 := 0) (o2 := 1) (v1 := .int .i64 x.lo) (v2 := .int .i64 x.hi) hne).trans q3
            have q4 := (far2 (o := 1) (o1 := 0) (o2 := 1) (v1 := .int .i64 x.lo) (v2 := .int .i64 x.hi) hne).trans q4
            have q5 : ∀ o, ((u20.setCell ⟨g1, 0, none⟩ (.int .i64 x.lo)).setCell ⟨g1, 1, none⟩ (.int .i64 x.hi)).frozen? ⟨g2, o, none⟩ = false := fun o => by simpa using q5 o
            have s1 : g1 < ((u20.setCell ⟨g1, 0, none⟩ (.int .i64 x.lo)).setCell ⟨g1, 1, none⟩ (.int .i64 x.hi)).heap.size := by simpa using p2
            have s2 : g2 < ((u20.setCell ⟨g1, 0, none⟩ (.int .i64 x.lo)).setCell ⟨g1, 1, none⟩ (.int .i64 x.hi)).heap.size := by simpa using q2
            refine hK.out _ _ hI2 (fun hHeld => ?_)
            clear hK K p3 p4 p5 hI1
            (try simp only [Act.put, List.setIfInBounds_toArray, List.set_cons_zero, List.set_cons_succ])
            generalize (u20.setCell ⟨g1, 0, none⟩ (.int .i64 x.lo)).setCell ⟨g1, 1, none⟩ (.int .i64 x.hi) = v at *
            refine wpAnyH_ready (rs := [13]) (by kernel_rfl) (by simp) ?_
            refine' AllReadyH.cons ?_ (fun K hK => ?_) AllReadyH.nil
            rotate_left
            focus (simp only [List.getElem?_toArray, List.getElem?_cons_succ, List.getElem?_cons_zero]; rfl)
            go_simp
            have hI3 := hI2.set2 (x := .int .i64 y.lo) (y := .int .i64 y.hi) q1
            refine hK.out _ _ hI3 (fun hHeld => ?_)
            clear hK K
            (try simp only [Act.put, List.setIfInBounds_toArray, List.set_cons_zero, List.set_cons_succ])
            refine wpAnyH_done (by kernel_rfl) ?_ _
            exact HK x y g1 g2 _ hx hy ⟨hI3.2.1, ⟨(far2 (Ne.symm hne)).trans r1.1, (far2 (Ne.symm hne)).trans r1.2⟩, set_pair q3 q4, by simpa using s1, by simpa using s2⟩
          exact AllReadyH.nil
        refine' AllReadyH.cons ?_ (fun K hK => ?_) ?_
        rotate_left
        focus (simp only [List.getElem?_toArray, List.getElem?_cons_succ, List.getElem?_cons_zero]; rfl)
        focus
          go_simp
          replace hI := hI.make2
          refine hK.out _ _ hI.1 (fun hHeld => ?_)
          clear hK K
          (try simp only [Act.put, List.setIfInBounds_toArray, List.set_cons_zero, List.set_cons_succ])
          generalize u18.alloc (.cells #[.int .i64 0, .int .i64 0] 23) = u21 at *
          generalize u18.heap.size = g2 at *
          refine wpAnyH_ready (rs := [9]) (by kernel_rfl) (by simp) ?_
          refine' AllReadyH.cons ?_ (fun K hK => ?_) ?_
          rotate_left
          focus (simp only [List.getElem?_toArray, List.getElem?_cons_succ, List.getElem?_cons_zero]; rfl)
          focus
            go_simp
            refine Calls.mono (HY.out _) ?_
            rintro e u22 ⟨y, hy, rfl, hb⟩
            replace hI := hI.below hb
            refine hK.out _ _ hI.1 (fun hHeld => ?_)
            clear hK K hb
            (try simp only [Act.put, List.setIfInBounds_toArray, List.set_cons_zero, List.set_cons_succ])
            obtain ⟨hI1, ⟨p1, p2, p3, p4, p5⟩, ⟨q1, q2, q3, q4, q5⟩, hne⟩ := hI
            have hne := hne g1 g2 rfl rfl
            refine wpAnyH_ready (rs := [12]) (by kernel_rfl) (by simp) ?_
            refine' AllReadyH.cons ?_ (fun K hK => ?_) AllReadyH.nil
            rotate_left
            focus (simp only [List.getElem?_toArray, List.getElem?_cons_succ, List.getElem?_cons_zero]; rfl)
            go_simp
            have hI2 := hI1.set2 (x := .int .i64 x.lo) (y := .int .i64 x.hi) p1
            have r1 := set_pair p3 p4 (x := .int .i64 x.lo) (y := .int .i64 x.hi)
            have q3 := (far2 (o := 0) (o1 := 0) (o2 := 1) (v1 := .int .i64 x.lo) (v2 := .int .i64 x.hi) hne).trans q3
            have q4 := (far2 (o := 1) (o1 := 0) (o2 := 1) (v1 := .int .i64 x.lo) (v2 := .int .i64 x.hi) hne).trans q4
            have q5 : ∀ o, ((u22.setCell ⟨g1, 0, none⟩ (.int .i64 x.lo)).setCell ⟨g1, 1, none⟩ (.int .i64 x.hi)).frozen? ⟨g2, o, none⟩ = false := fun o => by simpa using q5 o
            have s1 : g1 < ((u22.setCell ⟨g1, 0, none⟩ (.int .i64 x.lo)).setCell ⟨g1, 1, none⟩ (.int .i64 x.hi)).heap.size := by simpa using p2
            have s2 : g2 < ((u22.setCell ⟨g1, 0, none⟩ (.int .i64 x.lo)).setCell ⟨g1, 1, none⟩ (.int .i64 x.hi)).heap.size := by simpa using q2
            refine hK.out _ _ hI2 (fun hHeld => ?_)
            clear hK K p3 p4 p5 hI1
            (try simp only [Act.put, List.setIfInBounds_toArray, List.set_cons_zero, List.set_cons_succ])
            generalize (u22.setCell ⟨g1, 0, none⟩ (.int .i64 x.lo)).setCell ⟨g1, 1, none⟩ (.int .i64 x.hi) = v at *
            refine wpAnyH_ready (rs := [13]) (by kernel_rfl) (by simp) ?_
            refine' AllReadyH.cons ?_ (fun K hK => ?_) AllReadyH.nil
            rotate_left
            focus (simp only [List.getElem?_toArray, List.getElem?_cons_succ, List.getElem?_cons_zero]; rfl)
            go_simp
            have hI3 := hI2.set2 (x := .int .i64 y.lo) (y := .int .i64 y.hi) q1
            refine hK.out _ _ hI3 (fun hHeld => ?_)
            clear hK K
            (try simp only [Act.put, List.setIfInBounds_toArray, List.set_cons_zero, List.set_cons_succ])
            refine wpAnyH_done (by kernel_rfl) ?_ _
            exact HK x y g1 g2 _ hx hy ⟨hI3.2.1, ⟨(far2 (Ne.symm hne)).trans r1.1, (far2 (Ne.symm hne)).trans r1.2⟩, set_pair q3 q4, by simpa using s1, by simpa using s2⟩
          exact AllReadyH.nil
        exact AllReadyH.nil
      refine' AllReadyH.cons ?_ (fun K hK => ?_) ?_
      rotate_left
      focus (simp only [List.getElem?_toArray, List.getElem?_cons_succ, List.getElem?_cons_zero]; rfl)
      focus
        go_simp
        replace hI := hI.make2
        refine hK.out _ _ hI.1 (fun hHeld => ?_)
        clear hK K
        (try simp only [Act.put, List.setIfInBounds_toArray, List.set_cons_zero, List.set_cons_succ])
        generalize u17.alloc (.cells #[.int .i64 0, .int .i64 0] 23) = u23 at *
        generalize u17.heap.size = g2 at *
        refine wpAnyH_ready (rs := [4]) (by kernel_rfl) (by simp) ?_
        refine' AllReadyH.cons ?_ (fun K hK => ?_) ?_
        rotate_left
        focus (simp only [List.getElem?_toArray, List.getElem?_cons_succ, List.getElem?_cons_zero]; rfl)
        focus
          go_simp
          refine Calls.mono (HX.out _) ?_
          rintro e u24 ⟨x, hx, rfl, hb⟩
          replace hI := hI.below hb
          refine hK.out _ _ hI.1 (fun hHeld => ?_)
          clear hK K hb
          (try simp only [Act.put, List.setIfInBounds_toArray, List.set_cons_zero, List.set_cons_succ])
          refine wpAnyH_ready (rs := [9]) (by kernel_rfl) (by simp) ?_
          refine' AllReadyH.cons ?_ (fun K hK => ?_) ?_
          rotate_left
          focus (simp only [List.getElem?_toArray, List.getElem?_cons_succ, List.getElem?_cons_zero]; rfl)
          focus
            go_simp
            refine Calls.mono (HY.out _) ?_
            rintro e u25 ⟨y, hy, rfl, hb⟩
            replace hI := hI.below hb
            refine hK.out _ _ hI.1 (fun hHeld => ?_)
            clear hK K hb
            (try simp only [Act.put, List.setIfInBounds_toArray, List.set_cons_zero, List.set_cons_succ])
            obtain ⟨hI1, ⟨p1, p2, p3, p4, p5⟩, ⟨q1, q2, q3, q4, q5⟩, hne⟩ := hI
            have hne := hne g1 g2 rfl rfl
            refine wpAnyH_ready (rs := [12]) (by kernel_rfl) (by simp) ?_
            refine' AllReadyH.cons ?_ (fun K hK => ?_) AllReadyH.nil
            rotate_left
            focus (simp only [List.getElem?_toArray, List.getElem?_cons_succ, List.getElem?_cons_zero]; rfl)
            go_simp
            have hI2 := hI1.set2 (x := .int .i64 x.lo) (y := .int .i64 x.hi) p1
            have r1 := set_pair p3 p4 (x := .int .i64 x.lo) (y := .int .i64 x.hi)
            have q3 := (far2 (o := 0) (o1 := 0) (o2 := 1) (v1 := .int .i64 x.lo) (v2 := .int .i64 x.hi) hne).trans q3
            have q4 := (far2 (o := 1) (o1 := 0) (o2 := 1) (v1 := .int .i64 x.lo) (v2 := .int .i64 x.hi) hne).trans q4
            have q5 : ∀ o, ((u25.setCell ⟨g1, 0, none⟩ (.int .i64 x.lo)).setCell ⟨g1, 1, none⟩ (.int .i64 x.hi)).frozen? ⟨g2, o, none⟩ = false := fun o => by simpa using q5 o
            have s1 : g1 < ((u25.setCell ⟨g1, 0, none⟩ (.int .i64 x.lo)).setCell ⟨g1, 1, none⟩ (.int .i64 x.hi)).heap.size := by simpa using p2
            have s2 : g2 < ((u25.setCell ⟨g1, 0, none⟩ (.int .i64 x.lo)).setCell ⟨g1, 1, none⟩ (.int .i64 x.hi)).heap.size := by simpa using q2
            refine hK.out _ _ hI2 (fun hHeld => ?_)
            clear hK K p3 p4 p5 hI1
            (try simp only [Act.put, List.setIfInBounds_toArray, List.set_cons_zero, List.set_cons_succ])
            generalize (u25.setCell ⟨g1, 0, none⟩ (.int .i64 x.lo)).setCell ⟨g1, 1, none⟩ (.int .i64 x.hi) = v at *
            refine wpAnyH_ready (rs := [13]) (by kernel_rfl) (by simp) ?_
            refine' AllReadyH.cons ?_ (fun K hK => ?_) AllReadyH.nil
            rotate_left
            focus (simp only [List.getElem?_toArray, List.getElem?_cons_succ, List.getElem?_cons_zero]; rfl)
            go_simp
            have hI3 := hI2.set2 (x := .int .i64 y.lo) (y := .int .i64 y.hi) q1
            refine hK.out _ _ hI3 (fun hHeld => ?_)
            clear hK K
            (try simp only [Act.put, List.setIfInBounds_toArray, List.set_cons_zero, List.set_cons_succ])
            refine wpAnyH_done (by kernel_rfl) ?_ _
            exact HK x y g1 g2 _ hx hy ⟨hI3.2.1, ⟨(far2 (Ne.symm hne)).trans r1.1, (far2 (Ne.symm hne)).trans r1.2⟩, set_pair q3 q4, by simpa using s1, by simpa using s2⟩
          exact AllReadyH.nil
        exact AllReadyH.nil
      exact AllReadyH.nil
    refine' AllReadyH.cons ?_ (fun K hK => ?_) ?_
    rotate_left
    focus (simp only [List.getElem?_toArray, List.getElem?_cons_succ, List.getElem?_cons_zero]; rfl)
    focus
      go_simp
      replace hI := hI.make2
      refine hK.out _ _ hI.1 (fun hHeld => ?_)
      clear hK K
      (try simp only [Act.put, List.setIfInBounds_toArray, List.set_cons_zero, List.set_cons_succ])
      generalize u0.alloc (.cells #[.int .i64 0, .int .i64 0] 23) = u26 at *
      generalize u0.heap.size = g2 at *
      refine wpAnyH_ready (rs := [4, 10]) (by kernel_rfl) (by simp) ?_
      refine' AllReadyH.cons ?_ (fun K hK => ?_) ?_
      rotate_left
      focus (simp only [List.getElem?_toArray, List.getElem?_cons_succ, List.getElem?_cons_zero]; rfl)
      focus
        go_simp
        refine Calls.mono (HX.out _) ?_
        rintro e u27 ⟨x, hx, rfl, hb⟩
        replace hI := hI.below hb
        refine hK.out _ _ hI.1 (fun hHeld => ?_)
        clear hK K hb
        (try simp only [Act.put, List.setIfInBounds_toArray, List.set_cons_zero, List.set_cons_succ])
        refine wpAnyH_ready (rs := [9, 10]) (by kernel_rfl) (by simp) ?_
        refine' AllReadyH.cons ?_ (fun K hK => ?_) ?_
        rotate_left
        focus (simp only [List.getElem?_toArray, List.getElem?_cons_succ, List.getElem?_cons_zero]; rfl)
        focus
          go_simp
          refine Calls.mono (HY.out _) ?_
          rintro e u28 ⟨y, hy, rfl, hb⟩
          replace hI := hI.below hb
          refine hK.out _ _ hI.1 (fun hHeld => ?_)
          clear hK K hb
          (try simp only [Act.put, List.setIfInBounds_toArray, List.set_cons_zero, List.set_cons_succ])
          refine wpAnyH_ready (rs := [10]) (by kernel_rfl) (by simp) ?_
          refine' AllReadyH.cons ?_ (fun K hK => ?_) ?_
          rotate_left
          focus (simp only [List.getElem?_toArray, List.getElem?_cons_succ, List.getElem?_cons_zero]; rfl)
          focus
            go_simp
            replace hI := hI.make1
            refine hK.out _ _ hI.1 (fun hHeld => ?_)
            clear hK K
            (try simp only [Act.put, List.setIfInBounds_toArray, List.set_cons_zero, List.set_cons_succ])
            generalize u28.alloc (.cells #[.int .i64 0, .int .i64 0] 23) = u29 at *
            generalize u28.heap.size = g1 at *
            obtain ⟨hI1, ⟨p1, p2, p3, p4, p5⟩, ⟨q1, q2, q3, q4, q5⟩, hne⟩ := hI
            have hne := hne g1 g2 rfl rfl
            refine wpAnyH_ready (rs := [12]) (by kernel_rfl) (by simp) ?_
            refine' AllReadyH.cons ?_ (fun K hK => ?_) AllReadyH.nil
            rotate_left
            focus (simp only [List.getElem?_toArray, List.getElem?_cons_succ, List.getElem?_cons_zero]; rfl)
            go_simp
            have hI2 := hI1.set2 (x := .int .i64 x.lo) (y := .int .i64 x.hi) p1
            have r1 := set_pair p3 p4 (x := .int .i64 x.lo) (y := .int .i64 x.hi)
            have q3 := (far2 (o := 0) (o1 := 0) (o2 := 1) (v1 := .int .i64 x.lo) (v2 := .int .i64 x.hi) hne).trans q3
            have q4 := (far2 (o := 1) (o1 := 0) (o2 := 1) (v1 := .int .i64 x.lo) (v2 := .int .i64 x.hi) hne).trans q4
            have q5 : ∀ o, ((u29.setCell ⟨g1, 0, none⟩ (.int .i64 x.lo)).setCell ⟨g1, 1, none⟩ (.int .i64 x.hi)).frozen? ⟨g2, o, none⟩ = false := fun o => by simpa using q5 o
            have s1 : g1 < ((u29.setCell ⟨g1, 0, none⟩ (.int .i64 x.lo)).setCell ⟨g1, 1, none⟩ (.int .i64 x.hi)).heap.size := by simpa using p2
            have s2 : g2 < ((u29.setCell ⟨g1, 0, none⟩ (.int .i64 x.lo)).setCell ⟨g1, 1, none⟩ (.int .i64 x.hi)).heap.size := by simpa using q2
            refine hK.out _ _ hI2 (fun hHeld => ?_)
            clear hK K p3 p4 p5 hI1
            (try simp only [Act.put, List.setIfInBounds_toArray, List.set_cons_zero, List.set_cons_succ])
            generalize (u29.setCell ⟨g1, 0, none⟩ (.int .i64 x.lo)).setCell ⟨g1, 1, none⟩ (.int .i64 x.hi) = v at *
            refine wpAnyH_ready (rs := [13]) (by kernel_rfl) (by simp) ?_
            refine' AllReadyH.cons ?_ (fun K hK => ?_) AllReadyH.nil
            rotate_left
            focus (simp only [List.getElem?_toArray, List.getElem?_cons_succ, List.getElem?_cons_zero]; rfl)
            go_simp
            have hI3 := hI2.set2 (x := .int .i64 y.lo) (y := .int .i64 y.hi) q1
            refine hK.out _ _ hI3 (fun hHeld => ?_)
            clear hK K
            (try simp only [Act.put, List.setIfInBounds_toArray, List.set_cons_zero, List.set_cons_succ])
            refine wpAnyH_done (by kernel_rfl) ?_ _
            exact HK x y g1 g2 _ hx hy ⟨hI3.2.1, ⟨(far2 (Ne.symm hne)).trans r1.1, (far2 (Ne.symm hne)).trans r1.2⟩, set_pair q3 q4, by simpa using s1, by simpa using s2⟩
          exact AllReadyH.nil
        refine' AllReadyH.cons ?_ (fun K hK => ?_) ?_
        rotate_left
        focus (simp only [List.getElem?_toArray, List.getElem?_cons_succ, List.getElem?_cons_zero]; rfl)
        focus
          go_simp
          replace hI := hI.make1
          refine hK.out _ _ hI.1 (fun hHeld => ?_)
          clear hK K
          (try simp only [Act.put, List.setIfInBounds_toArray, List.set_cons_zero, List.set_cons_succ])
          generalize u27.alloc (.cells #[.int .i64 0, .int .i64 0] 23) = u30 at *
          generalize u27.heap.size = g1 at *
          refine wpAnyH_ready (rs := [9]) (by kernel_rfl) (by simp) ?_
          refine' AllReadyH.cons ?_ (fun K hK => ?_) ?_
          rotate_left
          focus (simp only [List.getElem?_toArray, List.getElem?_cons_succ, List.getElem?_cons_zero]; rfl)
          focus
            go_simp
            refine Calls.mono (HY.out _) ?_
            rintro e u31 ⟨y, hy, rfl, hb⟩
            replace hI := hI.below hb
            refine hK.out _ _ hI.1 (fun hHeld => ?_)
            clear hK K hb
            (try simp only [Act.put, List.setIfInBounds_toArray, List.set_cons_zero, List.set_cons_succ])
            obtain ⟨hI1, ⟨p1, p2, p3, p4, p5⟩, ⟨q1, q2, q3, q4, q5⟩, hne⟩ := hI
            have hne := hne g1 g2 rfl rfl
            refine wpAnyH_ready (rs := [12]) (by kernel_rfl) (by simp) ?_
            refine' AllReadyH.cons ?_ (fun K hK => ?_) AllReadyH.nil
            rotate_left
            focus (simp only [List.getElem?_toArray, List.getElem?_cons_succ, List.getElem?_cons_zero]; rfl)
            go_simp
            have hI2 := hI1.set2 (x := .int .i64 x.lo) (y := .int .i64 x.hi) p1
            have r1 := set_pair p3 p4 (x := .int .i64 x.lo) (y := .int .i64 x.hi)
            have q3 := (far2 (o := 0) (o1 := 0) (o2 := 1) (v1 := .int .i64 x.lo) (v2 := .int .i64 x.hi) hne).trans q3
            have q4 := (far2 (o := 1) (o1 := 0) (o2 := 1) (v1 := .int .i64 x.lo) (v2 := .int .i64 x.hi) hne).trans q4
            have q5 : ∀ o, ((u31.setCell ⟨g1, 0, none⟩ (.int .i64 x.lo)).setCell ⟨g1, 1, none⟩ (.int .i64 x.hi)).frozen? ⟨g2, o, none⟩ = false := fun o => by simpa using q5 o
            have s1 : g1 < ((u31.setCell ⟨g1, 0, none⟩ (.int .i64 x.lo)).setCell ⟨g1, 1, none⟩ (.int .i64 x.hi)).heap.size := by simpa using p2
            have s2 : g2 < ((u31.setCell ⟨g1, 0, none⟩ (.int .i64 x.lo)).setCell ⟨g1, 1, none⟩ (.int .i64 x.hi)).heap.size := by simpa using q2
            refine hK.out _ _ hI2 (fun hHeld => ?_)
            clear hK K p3 p4 p5 hI1
            (try simp only [Act.put, List.setIfInBounds_toArray, List.set_cons_zero, List.set_cons_succ])
            generalize (u31.setCell ⟨g1, 0, none⟩ (.int .i64 x.lo)).setCell ⟨g1, 1, none⟩ (.int .i64 x.hi) = v at *
            refine wpAnyH_ready (rs := [13]) (by kernel_rfl) (by simp) ?_
            refine' AllReadyH.cons ?_ (fun K hK => ?_) AllReadyH.nil
            rotate_left
            focus (simp only [List.getElem?_toArray, List.getElem?_cons_succ, List.getElem?_cons_zero]; rfl)
            go_simp
            have hI3 := hI2.set2 (x := .int .i64 y.lo) (y := .int .i64 y.hi) q1
            refine hK.out _ _ hI3 (fun hHeld => ?_)
            clear hK K
            (try simp only [Act.put, List.setIfInBounds_toArray, List.set_cons_zero, List.set_cons_succ])
            refine wpAnyH_done (by kernel_rfl) ?_ _
            exact HK x y g1 g2 _ hx hy ⟨hI3.2.1, ⟨(far2 (Ne.symm hne)).trans r1.1, (far2 (Ne.symm hne)).trans r1.2⟩, set_pair q3 q4, by simpa using s1, by simpa using s2⟩
          exact AllReadyH.nil
        exact AllReadyH.nil
      refine' AllReadyH.cons ?_ (fun K hK => ?_) ?_
      rotate_left
      focus (simp only [List.getElem?_toArray, List.getElem?_cons_succ, List.getElem?_cons_zero]; rfl)
      focus
        go_simp
        replace hI := hI.make1
        refine hK.out _ _ hI.1 (fun hHeld => ?_)
        clear hK K
        (try simp only [Act.put, List.setIfInBounds_toArray, List.set_cons_zero, List.set_cons_succ])
        generalize u26.alloc (.cells #[.int .i64 0, .int .i64 0] 23) = u32 at *
        generalize u26.heap.size = g1 at *
        refine wpAnyH_ready (rs := [4]) (by kernel_rfl) (by simp) ?_
        refine' AllReadyH.cons ?_ (fun K hK => ?_) ?_
        rotate_left
        focus (simp only [List.getElem?_toArray, List.getElem?_cons_succ, List.getElem?_cons_zero]; rfl)
        focus
          go_simp
          refine Calls.mono (HX.out _) ?_
          rintro e u33 ⟨x, hx, rfl, hb⟩
          replace hI := hI.below hb
          refine hK.out _ _ hI.1 (fun hHeld => ?_)
          clear hK K hb
          (try simp only [Act.put, List.setIfInBounds_toArray, List.set_cons_zero, List.set_cons_succ])
          refine wpAnyH_ready (rs := [9]) (by kernel_rfl) (by simp) ?_
          refine' AllReadyH.cons ?_ (fun K hK => ?_) ?_
          rotate_left
          focus (simp only [List.getElem?_toArray, List.getElem?_cons_succ, List.getElem?_cons_zero]; rfl)
          focus
            go_simp
            refine Calls.mono (HY.out _) ?_
            rintro e u34 ⟨y, hy, rfl, hb⟩
            replace hI := hI.below hb
            refine hK.out _ _ hI.1 (fun hHeld => ?_)
            clear hK K hb
            (try simp only [Act.put, List.setIfInBounds_toArray, List.set_cons_zero, List.set_cons_succ])
            obtain ⟨hI1, ⟨p1, p2, p3, p4, p5⟩, ⟨q1, q2, q3, q4, q5⟩, hne⟩ := hI
            have hne := hne g1 g2 rfl rfl
            refine wpAnyH_ready (rs := [12]) (by kernel_rfl) (by simp) ?_
            refine' AllReadyH.cons ?_ (fun K hK => ?_) AllReadyH.nil
            rotate_left
            focus (simp only [List.getElem?_toArray, List.getElem?_cons_succ, List.getElem?_cons_zero]; rfl)
            go_simp
            have hI2 := hI1.set2 (x := .int .i64 x.lo) (y := .int .i64 x.hi) p1
            have r1 := set_pair p3 p4 (x := .int .i64 x.lo) (y := .int .i64 x.hi)
            have q3 := (far2 (o := 0) (o1 := 0) (o2 := 1) (v1 := .int .i64 x.lo) (v2 := .int .i64 x.hi) hne).trans q3
            have q4 := (far2 (o := 1) (o1 := 0) (o2 := 1) (v1 := .int .i64 x.lo) (v2 := .int .i64 x.hi) hne).trans q4
            have q5 : ∀ o, ((u34.setCell ⟨g1, 0, none⟩ (.int .i64 x.lo)).setCell ⟨g1, 1, none⟩ (.int .i64 x.hi)).frozen? ⟨g2, o, none⟩ = false := fun o => by simpa using q5 o
            have s1 : g1 < ((u34.setCell ⟨g1, 0, none⟩ (.int .i64 x.lo)).setCell ⟨g1, 1, none⟩ (.int .i64 x.hi)).heap.size := by simpa using p2
            have s2 : g2 < ((u34.setCell ⟨g1, 0, none⟩ (.int .i64 x.lo)).setCell ⟨g1, 1, none⟩ (.int .i64 x.hi)).heap.size := by simpa using q2
            refine hK.out _ _ hI2 (fun hHeld => ?_)
            clear hK K p3 p4 p5 hI1
            (try simp only [Act.put, List.setIfInBounds_toArray, List.set_cons_zero, List.set_cons_succ])
            generalize (u34.setCell ⟨g1, 0, none⟩ (.int .i64 x.lo)).setCell ⟨g1, 1, none⟩ (.int .i64 x.hi) = v at *
            refine wpAnyH_ready (rs := [13]) (by kernel_rfl) (by simp) ?_
            refine' AllReadyH.cons ?_ (fun K hK => ?_) AllReadyH.nil
            rotate_left
            focus (simp only [List.getElem?_toArray, List.getElem?_cons_succ, List.getElem?_cons_zero]; rfl)
            go_simp
            have hI3 := hI2.set2 (x := .int .i64 y.lo) (y := .int .i64 y.hi) q1
            refine hK.out _ _ hI3 (fun hHeld => ?_)
            clear hK K
            (try simp only [Act.put, List.setIfInBounds_toArray, List.set_cons_zero, List.set_cons_succ])
            refine wpAnyH_done (by kernel_rfl) ?_ _
            exact HK x y g1 g2 _ hx hy ⟨hI3.2.1, ⟨(far2 (Ne.symm hne)).trans r1.1, (far2 (Ne.symm hne)).trans r1.2⟩, set_pair q3 q4, by simpa using s1, by simpa using s2⟩
          exact AllReadyH.nil
        exact AllReadyH.nil
      exact AllReadyH.nil
    exact AllReadyH.nil
  refine hK1 _ _ ?_
  obtain ⟨hv, ⟨x0, x1⟩, ⟨y0, y1⟩, hg1, hg2⟩ := hw'
  clear hK1 hA HX HY
  have hB : Beh w g1 g2 w' := ⟨hv, hg1, hg2⟩
  go_wp2_with fail
  rcases none_or hx hy with hz | ⟨hx2, hz⟩ | ⟨gx, gy⟩
  · skip
    have he := iv_eql x.lo x.hi 1 0 true (iv_is x hz)
    clear hz
    refine wp_region_held_drew (S := (fun w' => (w'.cell? ⟨g1, 0, none⟩ = some (.int .i64 x.lo) ∧ w'.cell? ⟨g1, 1, none⟩ = some (.int .i64 x.hi)) ∧ (w'.cell? ⟨g2, 0, none⟩ = some (.int .i64 y.lo) ∧ w'.cell? ⟨g2, 1, none⟩ = some (.int .i64 y.hi)) ∧ Beh w g1 g2 w')) (by kernel_rfl) (by exact ⟨⟨by simpa using x0, by simpa using x1⟩, ⟨by simpa using y0, by simpa using y1⟩, hB.drew⟩) (fun hHeld => ?_)
    first
      | (refine' wpAnyH_take (i := 0) (v := _) ?_ ?_ ?_ ?_ ?_ ?_ ?_ ?_; rotate_left 2; (focus (simp only [List.getElem?_toArray, List.getElem?_cons_succ, List.getElem?_cons_zero]; rfl)); (focus kernel_rfl); (focus kernel_rfl); (focus kernel_rfl); (focus exact (fun _ _ _ h => h)); refine Or.inl ⟨?_, ?_⟩; (focus (go_simp; done)); (focus (intro w hSw; (try dsimp only at hSw); (first | (go_simp; done) | (go_simp; with_reducible rfl)))); (focus assumption); (try simp only [Act.put, List.setIfInBounds_toArray, List.set_cons_zero, List.set_cons_succ]))
      | (refine' wpAnyH_take (i := 0) (v := undef) ?_ ?_ ?_ ?_ ?_ ?_ ?_ ?_; rotate_left 1; (focus (simp only [List.getElem?_toArray, List.getElem?_cons_succ, List.getElem?_cons_zero]; rfl)); (focus kernel_rfl); (focus kernel_rfl); (focus kernel_rfl); (focus exact (fun _ _ _ h => h)); refine Or.inr ⟨?_, rfl⟩; (focus (go_simp; done)); (focus assumption); (try simp only [Act.put, List.setIfInBounds_toArray, List.set_cons_zero, List.set_cons_succ]))
      | (refine wpAnyH_ready (rs := [0]) (by kernel_rfl) (by simp) ?_; refine' AllReadyH.cons ?_ (fun K hK => ?_) AllReadyH.nil; rotate_left; (focus (simp only [List.getElem?_toArray, List.getElem?_cons_succ, List.getElem?_cons_zero]; rfl)); go_simp; (go_at_call 12; refine (iNone_any _).mono ?_; rintro e w4 ⟨rfl, hb⟩); refine hK.out _ _ (by go_split_ands; exact ⟨⟨Beh.cell1 (by assumption) hb (by assumption), Beh.cell1 (by assumption) hb (by assumption)⟩, ⟨Beh.cell2 (by assumption) hb (by assumption), Beh.cell2 (by assumption) hb (by assumption)⟩, Beh.below (by assumption) hb⟩) (fun hHeld => ?_); clear hK K; (try simp only [Act.put, List.setIfInBounds_toArray, List.set_cons_zero, List.set_cons_succ]); clear hb)
      | fail "operation 0"
    first
      | (refine' wpAnyH_take (i := 1) (v := _) ?_ ?_ ?_ ?_ ?_ ?_ ?_ ?_; rotate_left 2; (focus (simp only [List.getElem?_toArray, List.getElem?_cons_succ, List.getElem?_cons_zero]; rfl)); (focus kernel_rfl); (focus kernel_rfl); (focus kernel_rfl); (focus exact (fun _ _ _ h => h)); refine Or.inl ⟨?_, ?_⟩; (focus (go_simp; done)); (focus (intro w hSw; (try dsimp only at hSw); (first | (go_simp; done) | (go_simp; with_reducible rfl)))); (focus assumption); (try simp only [Act.put, List.setIfInBounds_toArray, List.set_cons_zero, List.set_cons_succ]))
      | (refine' wpAnyH_take (i := 1) (v := undef) ?_ ?_ ?_ ?_ ?_ ?_ ?_ ?_; rotate_left 1; (focus (simp only [List.getElem?_toArray, List.getElem?_cons_succ, List.getElem?_cons_zero]; rfl)); (focus kernel_rfl); (focus kernel_rfl); (focus kernel_rfl); (focus exact (fun _ _ _ h => h)); refine Or.inr ⟨?_, rfl⟩; (focus (go_simp; done)); (focus assumption); (try simp only [Act.put, List.setIfInBounds_toArray, List.set_cons_zero, List.set_cons_succ]))
      | (refine wpAnyH_ready (rs := [1]) (by kernel_rfl) (by simp) ?_; refine' AllReadyH.cons ?_ (fun K hK => ?_) AllReadyH.nil; rotate_left; (focus (simp only [List.getElem?_toArray, List.getElem?_cons_succ, List.getElem?_cons_zero]; rfl)); go_simp; (go_at_call 12; refine (iNone_any _).mono ?_; rintro e w4 ⟨rfl, hb⟩); refine hK.out _ _ (by go_split_ands; exact ⟨⟨Beh.cell1 (by assumption) hb (by assumption), Beh.cell1 (by assumption) hb (by assumption)⟩, ⟨Beh.cell2 (by assumption) hb (by assumption), Beh.cell2 (by assumption) hb (by assumption)⟩, Beh.below (by assumption) hb⟩) (fun hHeld => ?_); clear hK K; (try simp only [Act.put, List.setIfInBounds_toArray, List.set_cons_zero, List.set_cons_succ]); clear hb)
      | fail "operation 1"
    first
      | (refine' wpAnyH_take (i := 2) (v := _) ?_ ?_ ?_ ?_ ?_ ?_ ?_ ?_; rotate_left 2; (focus (simp only [List.getElem?_toArray, List.getElem?_cons_succ, List.getElem?_cons_zero]; rfl)); (focus kernel_rfl); (focus kernel_rfl); (focus kernel_rfl); (focus exact (fun _ _ _ h => h)); refine Or.inl ⟨?_, ?_⟩; (focus (go_simp; done)); (focus (intro w hSw; (try dsimp only at hSw); (first | (go_simp; done) | (go_simp; with_reducible rfl)))); (focus assumption); (try simp only [Act.put, List.setIfInBounds_toArray, List.set_cons_zero, List.set_cons_succ]))
      | (refine' wpAnyH_take (i := 2) (v := undef) ?_ ?_ ?_ ?_ ?_ ?_ ?_ ?_; rotate_left 1; (focus (simp only [List.getElem?_toArray, List.getElem?_cons_succ, List.getElem?_cons_zero]; rfl)); (focus kernel_rfl); (focus kernel_rfl); (focus kernel_rfl); (focus exact (fun _ _ _ h => h)); refine Or.inr ⟨?_, rfl⟩; (focus (go_simp; done)); (focus assumption); (try simp only [Act.put, List.setIfInBounds_toArray, List.set_cons_zero, List.set_cons_succ]))
      | (refine wpAnyH_ready (rs := [2]) (by kernel_rfl) (by simp) ?_; refine' AllReadyH.cons ?_ (fun K hK => ?_) AllReadyH.nil; rotate_left; (focus (simp only [List.getElem?_toArray, List.getElem?_cons_succ, List.getElem?_cons_zero]; rfl)); go_simp; (go_at_call 12; refine (iNone_any _).mono ?_; rintro e w4 ⟨rfl, hb⟩); refine hK.out _ _ (by go_split_ands; exact ⟨⟨Beh.cell1 (by assumption) hb (by assumption), Beh.cell1 (by assumption) hb (by assumption)⟩, ⟨Beh.cell2 (by assumption) hb (by assumption), Beh.cell2 (by assumption) hb (by assumption)⟩, Beh.below (by assumption) hb⟩) (fun hHeld => ?_); clear hK K; (try simp only [Act.put, List.setIfInBounds_toArray, List.set_cons_zero, List.set_cons_succ]); clear hb)
      | fail "operation 2"
    first
      | (refine' wpAnyH_take (i := 3) (v := _) ?_ ?_ ?_ ?_ ?_ ?_ ?_ ?_; rotate_left 2; (focus (simp only [List.getElem?_toArray, List.getElem?_cons_succ, List.getElem?_cons_zero]; rfl)); (focus kernel_rfl); (focus kernel_rfl); (focus kernel_rfl); (focus exact (fun _ _ _ h => h)); refine Or.inl ⟨?_, ?_⟩; (focus (go_simp; done)); (focus (intro w hSw; (try dsimp only at hSw); (first | (go_simp; done) | (go_simp; with_reducible rfl)))); (focus assumption); (try simp only [Act.put, List.setIfInBounds_toArray, List.set_cons_zero, List.set_cons_succ]))
      | (refine' wpAnyH_take (i := 3) (v := undef) ?_ ?_ ?_ ?_ ?_ ?_ ?_ ?_; rotate_left 1; (focus (simp only [List.getElem?_toArray, List.getElem?_cons_succ, List.getElem?_cons_zero]; rfl)); (focus kernel_rfl); (focus kernel_rfl); (focus kernel_rfl); (focus exact (fun _ _ _ h => h)); refine Or.inr ⟨?_, rfl⟩; (focus (go_simp; done)); (focus assumption); (try simp only [Act.put, List.setIfInBounds_toArray, List.set_cons_zero, List.set_cons_succ]))
      | (refine wpAnyH_ready (rs := [3]) (by kernel_rfl) (by simp) ?_; refine' AllReadyH.cons ?_ (fun K hK => ?_) AllReadyH.nil; rotate_left; (focus (simp only [List.getElem?_toArray, List.getElem?_cons_succ, List.getElem?_cons_zero]; rfl)); go_simp; (go_at_call 12; refine (iNone_any _).mono ?_; rintro e w4 ⟨rfl, hb⟩); refine hK.out _ _ (by go_split_ands; exact ⟨⟨Beh.cell1 (by assumption) hb (by assumption), Beh.cell1 (by assumption) hb (by assumption)⟩, ⟨Beh.cell2 (by assumption) hb (by assumption), Beh.cell2 (by assumption) hb (by assumption)⟩, Beh.below (by assumption) hb⟩) (fun hHeld => ?_); clear hK K; (try simp only [Act.put, List.setIfInBounds_toArray, List.set_cons_zero, List.set_cons_succ]); clear hb)
      | fail "operation 3"
    first
      | (refine' wpAnyH_take (i := 4) (v := _) ?_ ?_ ?_ ?_ ?_ ?_ ?_ ?_; rotate_left 2; (focus (simp only [List.getElem?_toArray, List.getElem?_cons_succ, List.getElem?_cons_zero]; rfl)); (focus kernel_rfl); (focus kernel_rfl); (focus kernel_rfl); (focus exact (fun _ _ _ h => h)); refine Or.inl ⟨?_, ?_⟩; (focus (go_simp; done)); (focus (intro w hSw; (try dsimp only at hSw); (first | (go_simp; done) | (go_simp; with_reducible rfl)))); (focus assumption); (try simp only [Act.put, List.setIfInBounds_toArray, List.set_cons_zero, List.set_cons_succ]))
      | (refine' wpAnyH_take (i := 4) (v := undef) ?_ ?_ ?_ ?_ ?_ ?_ ?_ ?_; rotate_left 1; (focus (simp only [List.getElem?_toArray, List.getElem?_cons_succ, List.getElem?_cons_zero]; rfl)); (focus kernel_rfl); (focus kernel_rfl); (focus kernel_rfl); (focus exact (fun _ _ _ h => h)); refine Or.inr ⟨?_, rfl⟩; (focus (go_simp; done)); (focus assumption); (try simp only [Act.put, List.setIfInBounds_toArray, List.set_cons_zero, List.set_cons_succ]))
      | (refine wpAnyH_ready (rs := [4]) (by kernel_rfl) (by simp) ?_; refine' AllReadyH.cons ?_ (fun K hK => ?_) AllReadyH.nil; rotate_left; (focus (simp only [List.getElem?_toArray, List.getElem?_cons_succ, List.getElem?_cons_zero]; rfl)); go_simp; (go_at_call 12; refine (iNone_any _).mono ?_; rintro e w4 ⟨rfl, hb⟩); refine hK.out _ _ (by go_split_ands; exact ⟨⟨Beh.cell1 (by assumption) hb (by assumption), Beh.cell1 (by assumption) hb (by assumption)⟩, ⟨Beh.cell2 (by assumption) hb (by assumption), Beh.cell2 (by assumption) hb (by assumption)⟩, Beh.below (by assumption) hb⟩) (fun hHeld => ?_); clear hK K; (try simp only [Act.put, List.setIfInBounds_toArray, List.set_cons_zero, List.set_cons_succ]); clear hb)
      | fail "operation 4"
    first
      | (refine' wpAnyH_take (i := 5) (v := _) ?_ ?_ ?_ ?_ ?_ ?_ ?_ ?_; rotate_left 2; (focus (simp only [List.getElem?_toArray, List.getElem?_cons_succ, List.getElem?_cons_zero]; rfl)); (focus kernel_rfl); (focus kernel_rfl); (focus kernel_rfl); (focus exact (fun _ _ _ h => h)); refine Or.inl ⟨?_, ?_⟩; (focus (go_simp; done)); (focus (intro w hSw; (try dsimp only at hSw); (first | (go_simp; done) | (go_simp; with_reducible rfl)))); (focus assumption); (try simp only [Act.put, List.setIfInBounds_toArray, List.set_cons_zero, List.set_cons_succ]))
      | (refine' wpAnyH_take (i := 5) (v := undef) ?_ ?_ ?_ ?_ ?_ ?_ ?_ ?_; rotate_left 1; (focus (simp only [List.getElem?_toArray, List.getElem?_cons_succ, List.getElem?_cons_zero]; rfl)); (focus kernel_rfl); (focus kernel_rfl); (focus kernel_rfl); (focus exact (fun _ _ _ h => h)); refine Or.inr ⟨?_, rfl⟩; (focus (go_simp; done)); (focus assumption); (try simp only [Act.put, List.setIfInBounds_toArray, List.set_cons_zero, List.set_cons_succ]))
      | (refine wpAnyH_ready (rs := [5]) (by kernel_rfl) (by simp) ?_; refine' AllReadyH.cons ?_ (fun K hK => ?_) AllReadyH.nil; rotate_left; (focus (simp only [List.getElem?_toArray, List.getElem?_cons_succ, List.getElem?_cons_zero]; rfl)); go_simp; (go_at_call 12; refine (iNone_any _).mono ?_; rintro e w4 ⟨rfl, hb⟩); refine hK.out _ _ (by go_split_ands; exact ⟨⟨Beh.cell1 (by assumption) hb (by assumption), Beh.cell1 (by assumption) hb (by assumption)⟩, ⟨Beh.cell2 (by assumption) hb (by assumption), Beh.cell2 (by assumption) hb (by assumption)⟩, Beh.below (by assumption) hb⟩) (fun hHeld => ?_); clear hK K; (try simp only [Act.put, List.setIfInBounds_toArray, List.set_cons_zero, List.set_cons_succ]); clear hb)
      | fail "operation 5"
    first
      | (refine' wpAnyH_take (i := 6) (v := _) ?_ ?_ ?_ ?_ ?_ ?_ ?_ ?_; rotate_left 2; (focus (simp only [List.getElem?_toArray, List.getElem?_cons_succ, List.getElem?_cons_zero]; rfl)); (focus kernel_rfl); (focus kernel_rfl); (focus kernel_rfl); (focus exact (fun _ _ _ h => h)); refine Or.inl ⟨?_, ?_⟩; (focus (go_simp; done)); (focus (intro w hSw; (try dsimp only at hSw); (first | (go_simp; done) | (go_simp; with_reducible rfl)))); (focus assumption); (try simp only [Act.put, List.setIfInBounds_toArray, List.set_cons_zero, List.set_cons_succ]))
      | (refine' wpAnyH_take (i := 6) (v := undef) ?_ ?_ ?_ ?_ ?_ ?_ ?_ ?_; rotate_left 1; (focus (simp only [List.getElem?_toArray, List.getElem?_cons_succ, List.getElem?_cons_zero]; rfl)); (focus kernel_rfl); (focus kernel_rfl); (focus kernel_rfl); (focus exact (fun _ _ _ h => h)); refine Or.inr ⟨?_, rfl⟩; (focus (go_simp; done)); (focus assumption); (try simp only [Act.put, List.setIfInBounds_toArray, List.set_cons_zero, List.set_cons_succ]))
      | (refine wpAnyH_ready (rs := [6]) (by kernel_rfl) (by simp) ?_; refine' AllReadyH.cons ?_ (fun K hK => ?_) AllReadyH.nil; rotate_left; (focus (simp only [List.getElem?_toArray, List.getElem?_cons_succ, List.getElem?_cons_zero]; rfl)); go_simp; (go_at_call 12; refine (iNone_any _).mono ?_; rintro e w4 ⟨rfl, hb⟩); refine hK.out _ _ (by go_split_ands; exact ⟨⟨Beh.cell1 (by assumption) hb (by assumption), Beh.cell1 (by assumption) hb (by assumption)⟩, ⟨Beh.cell2 (by assumption) hb (by assumption), Beh.cell2 (by assumption) hb (by assumption)⟩, Beh.below (by assumption) hb⟩) (fun hHeld => ?_); clear hK K; (try simp only [Act.put, List.setIfInBounds_toArray, List.set_cons_zero, List.set_cons_succ]); clear hb)
      | fail "operation 6"
    first
      | (refine' wpAnyH_take (i := 7) (v := _) ?_ ?_ ?_ ?_ ?_ ?_ ?_ ?_; rotate_left 2; (focus (simp only [List.getElem?_toArray, List.getElem?_cons_succ, List.getElem?_cons_zero]; rfl)); (focus kernel_rfl); (focus kernel_rfl); (focus kernel_rfl); (focus exact (fun _ _ _ h => h)); refine Or.inl ⟨?_, ?_⟩; (focus (go_simp; done)); (focus (intro w hSw; (try dsimp only at hSw); (first | (go_simp; done) | (go_simp; with_reducible rfl)))); (focus assumption); (try simp only [Act.put, List.setIfInBounds_toArray, List.set_cons_zero, List.set_cons_succ]))
      | (refine' wpAnyH_take (i := 7) (v := undef) ?_ ?_ ?_ ?_ ?_ ?_ ?_ ?_; rotate_left 1; (focus (simp only [List.getElem?_toArray, List.getElem?_cons_succ, List.getElem?_cons_zero]; rfl)); (focus kernel_rfl); (focus kernel_rfl); (focus kernel_rfl); (focus exact (fun _ _ _ h => h)); refine Or.inr ⟨?_, rfl⟩; (focus (go_simp; done)); (focus assumption); (try simp only [Act.put, List.setIfInBounds_toArray, List.set_cons_zero, List.set_cons_succ]))
      | (refine wpAnyH_ready (rs := [7]) (by kernel_rfl) (by simp) ?_; refine' AllReadyH.cons ?_ (fun K hK => ?_) AllReadyH.nil; rotate_left; (focus (simp only [List.getElem?_toArray, List.getElem?_cons_succ, List.getElem?_cons_zero]; rfl)); go_simp; (go_at_call 12; refine (iNone_any _).mono ?_; rintro e w4 ⟨rfl, hb⟩); refine hK.out _ _ (by go_split_ands; exact ⟨⟨Beh.cell1 (by assumption) hb (by assumption), Beh.cell1 (by assumption) hb (by assumption)⟩, ⟨Beh.cell2 (by assumption) hb (by assumption), Beh.cell2 (by assumption) hb (by assumption)⟩, Beh.below (by assumption) hb⟩) (fun hHeld => ?_); clear hK K; (try simp only [Act.put, List.setIfInBounds_toArray, List.set_cons_zero, List.set_cons_succ]); clear hb)
      | fail "operation 7"
    refine wpAnyH_done (by kernel_rfl) ?_ _
    obtain ⟨⟨x0, x1⟩, ⟨y0, y1⟩, hB⟩ := hHeld; obtain ⟨hv, hg1, hg2⟩ := id hB
    go_wp2_with fail
    refine (awake_any _).mono ?_
    rintro e w7 ⟨rfl, hb⟩
    have hB := Beh.below hB hb
    go_wp2
    go_ret
    exact ⟨rfl, hB.1⟩
  · skip
    have he := iv_eql x.lo x.hi 1 0 false (iv_not x hx2)
    have he2 := iv_eql y.lo y.hi 1 0 true (iv_is y hz)
    clear hz hx2
    refine wp_region_held_drew (S := (fun w' => (w'.cell? ⟨g1, 0, none⟩ = some (.int .i64 x.lo) ∧ w'.cell? ⟨g1, 1, none⟩ = some (.int .i64 x.hi)) ∧ (w'.cell? ⟨g2, 0, none⟩ = some (.int .i64 y.lo) ∧ w'.cell? ⟨g2, 1, none⟩ = some (.int .i64 y.hi)) ∧ Beh w g1 g2 w')) (by kernel_rfl) (by exact ⟨⟨by simpa using x0, by simpa using x1⟩, ⟨by simpa using y0, by simpa using y1⟩, hB.drew⟩) (fun hHeld => ?_)
    first
      | (refine' wpAnyH_take (i := 0) (v := _) ?_ ?_ ?_ ?_ ?_ ?_ ?_ ?_; rotate_left 2; (focus (simp only [List.getElem?_toArray, List.getElem?_cons_succ, List.getElem?_cons_zero]; rfl)); (focus kernel_rfl); (focus kernel_rfl); (focus kernel_rfl); (focus exact (fun _ _ _ h => h)); refine Or.inl ⟨?_, ?_⟩; (focus (go_simp; done)); (focus (intro w hSw; (try dsimp only at hSw); (first | (go_simp; done) | (go_simp; with_reducible rfl)))); (focus assumption); (try simp only [Act.put, List.setIfInBounds_toArray, List.set_cons_zero, List.set_cons_succ]))
      | (refine' wpAnyH_take (i := 0) (v := undef) ?_ ?_ ?_ ?_ ?_ ?_ ?_ ?_; rotate_left 1; (focus (simp only [List.getElem?_toArray, List.getElem?_cons_succ, List.getElem?_cons_zero]; rfl)); (focus kernel_rfl); (focus kernel_rfl); (focus kernel_rfl); (focus exact (fun _ _ _ h => h)); refine Or.inr ⟨?_, rfl⟩; (focus (go_simp; done)); (focus assumption); (try simp only [Act.put, List.setIfInBounds_toArray, List.set_cons_zero, List.set_cons_succ]))
      | (refine wpAnyH_ready (rs := [0]) (by kernel_rfl) (by simp) ?_; refine' AllReadyH.cons ?_ (fun K hK => ?_) AllReadyH.nil; rotate_left; (focus (simp only [List.getElem?_toArray, List.getElem?_cons_succ, List.getElem?_cons_zero]; rfl)); go_simp; (go_at_call 12; refine (iNone_any _).mono ?_; rintro e w4 ⟨rfl, hb⟩); refine hK.out _ _ (by go_split_ands; exact ⟨⟨Beh.cell1 (by assumption) hb (by assumption), Beh.cell1 (by assumption) hb (by assumption)⟩, ⟨Beh.cell2 (by assumption) hb (by assumption), Beh.cell2 (by assumption) hb (by assumption)⟩, Beh.below (by assumption) hb⟩) (fun hHeld => ?_); clear hK K; (try simp only [Act.put, List.setIfInBounds_toArray, List.set_cons_zero, List.set_cons_succ]); clear hb)
      | fail "operation 0"
    first
      | (refine' wpAnyH_take (i := 1) (v := _) ?_ ?_ ?_ ?_ ?_ ?_ ?_ ?_; rotate_left 2; (focus (simp only [List.getElem?_toArray, List.getElem?_cons_succ, List.getElem?_cons_zero]; rfl)); (focus kernel_rfl); (focus kernel_rfl); (focus kernel_rfl); (focus exact (fun _ _ _ h => h)); refine Or.inl ⟨?_, ?_⟩; (focus (go_simp; done)); (focus (intro w hSw; (try dsimp only at hSw); (first | (go_simp; done) | (go_simp; with_reducible rfl)))); (focus assumption); (try simp only [Act.put, List.setIfInBounds_toArray, List.set_cons_zero, List.set_cons_succ]))
      | (refine' wpAnyH_take (i := 1) (v := undef) ?_ ?_ ?_ ?_ ?_ ?_ ?_ ?_; rotate_left 1; (focus (simp only [List.getElem?_toArray, List.getElem?_cons_succ, List.getElem?_cons_zero]; rfl)); (focus kernel_rfl); (focus kernel_rfl); (focus kernel_rfl); (focus exact (fun _ _ _ h => h)); refine Or.inr ⟨?_, rfl⟩; (focus (go_simp; done)); (focus assumption); (try simp only [Act.put, List.setIfInBounds_toArray, List.set_cons_zero, List.set_cons_succ]))
      | (refine wpAnyH_ready (rs := [1]) (by kernel_rfl) (by simp) ?_; refine' AllReadyH.cons ?_ (fun K hK => ?_) AllReadyH.nil; rotate_left; (focus (simp only [List.getElem?_toArray, List.getElem?_cons_succ, List.getElem?_cons_zero]; rfl)); go_simp; (go_at_call 12; refine (iNone_any _).mono ?_; rintro e w4 ⟨rfl, hb⟩); refine hK.out _ _ (by go_split_ands; exact ⟨⟨Beh.cell1 (by assumption) hb (by assumption), Beh.cell1 (by assumption) hb (by assumption)⟩, ⟨Beh.cell2 (by assumption) hb (by assumption), Beh.cell2 (by assumption) hb (by assumption)⟩, Beh.below (by assumption) hb⟩) (fun hHeld => ?_); clear hK K; (try simp only [Act.put, List.setIfInBounds_toArray, List.set_cons_zero, List.set_cons_succ]); clear hb)
      | fail "operation 1"
    first
      | (refine' wpAnyH_take (i := 2) (v := _) ?_ ?_ ?_ ?_ ?_ ?_ ?_ ?_; rotate_left 2; (focus (simp only [List.getElem?_toArray, List.getElem?_cons_succ, List.getElem?_cons_zero]; rfl)); (focus kernel_rfl); (focus kernel_rfl); (focus kernel_rfl); (focus exact (fun _ _ _ h => h)); refine Or.inl ⟨?_, ?_⟩; (focus (go_simp; done)); (focus (intro w hSw; (try dsimp only at hSw); (first | (go_simp; done) | (go_simp; with_reducible rfl)))); (focus assumption); (try simp only [Act.put, List.setIfInBounds_toArray, List.set_cons_zero, List.set_cons_succ]))
      | (refine' wpAnyH_take (i := 2) (v := undef) ?_ ?_ ?_ ?_ ?_ ?_ ?_ ?_; rotate_left 1; (focus (simp only [List.getElem?_toArray, List.getElem?_cons_succ, List.getElem?_cons_zero]; rfl)); (focus kernel_rfl); (focus kernel_rfl); (focus kernel_rfl); (focus exact (fun _ _ _ h => h)); refine Or.inr ⟨?_, rfl⟩; (focus (go_simp; done)); (focus assumption); (try simp only [Act.put, List.setIfInBounds_toArray, List.set_cons_zero, List.set_cons_succ]))
      | (refine wpAnyH_ready (rs := [2]) (by kernel_rfl) (by simp) ?_; refine' AllReadyH.cons ?_ (fun K hK => ?_) AllReadyH.nil; rotate_left; (focus (simp only [List.getElem?_toArray, List.getElem?_cons_succ, List.getElem?_cons_zero]; rfl)); go_simp; (go_at_call 12; refine (iNone_any _).mono ?_; rintro e w4 ⟨rfl, hb⟩); refine hK.out _ _ (by go_split_ands; exact ⟨⟨Beh.cell1 (by assumption) hb (by assumption), Beh.cell1 (by assumption) hb (by assumption)⟩, ⟨Beh.cell2 (by assumption) hb (by assumption), Beh.cell2 (by assumption) hb (by assumption)⟩, Beh.below (by assumption) hb⟩) (fun hHeld => ?_); clear hK K; (try simp only [Act.put, List.setIfInBounds_toArray, List.set_cons_zero, List.set_cons_succ]); clear hb)
      | fail "operation 2"
    first
      | (refine' wpAnyH_take (i := 3) (v := _) ?_ ?_ ?_ ?_ ?_ ?_ ?_ ?_; rotate_left 2; (focus (simp only [List.getElem?_toArray, List.getElem?_cons_succ, List.getElem?_cons_zero]; rfl)); (focus kernel_rfl); (focus kernel_rfl); (focus kernel_rfl); (focus exact (fun _ _ _ h => h)); refine Or.inl ⟨?_, ?_⟩; (focus (go_simp; done)); (focus (intro w hSw; (try dsimp only at hSw); (first | (go_simp; done) | (go_simp; with_reducible rfl)))); (focus assumption); (try simp only [Act.put, List.setIfInBounds_toArray, List.set_cons_zero, List.set_cons_succ]))
      | (refine' wpAnyH_take (i := 3) (v := undef) ?_ ?_ ?_ ?_ ?_ ?_ ?_ ?_; rotate_left 1; (focus (simp only [List.getElem?_toArray, List.getElem?_cons_succ, List.getElem?_cons_zero]; rfl)); (focus kernel_rfl); (focus kernel_rfl); (focus kernel_rfl); (focus exact (fun _ _ _ h => h)); refine Or.inr ⟨?_, rfl⟩; (focus (go_simp; done)); (focus assumption); (try simp only [Act.put, List.setIfInBounds_toArray, List.set_cons_zero, List.set_cons_succ]))
      | (refine wpAnyH_ready (rs := [3]) (by kernel_rfl) (by simp) ?_; refine' AllReadyH.cons ?_ (fun K hK => ?_) AllReadyH.nil; rotate_left; (focus (simp only [List.getElem?_toArray, List.getElem?_cons_succ, List.getElem?_cons_zero]; rfl)); go_simp; (go_at_call 12; refine (iNone_any _).mono ?_; rintro e w4 ⟨rfl, hb⟩); refine hK.out _ _ (by go_split_ands; exact ⟨⟨Beh.cell1 (by assumption) hb (by assumption), Beh.cell1 (by assumption) hb (by assumption)⟩, ⟨Beh.cell2 (by assumption) hb (by assumption), Beh.cell2 (by assumption) hb (by assumption)⟩, Beh.below (by assumption) hb⟩) (fun hHeld => ?_); clear hK K; (try simp only [Act.put, List.setIfInBounds_toArray, List.set_cons_zero, List.set_cons_succ]); clear hb)
      | fail "operation 3"
    first
      | (refine' wpAnyH_take (i := 4) (v := _) ?_ ?_ ?_ ?_ ?_ ?_ ?_ ?_; rotate_left 2; (focus (simp only [List.getElem?_toArray, List.getElem?_cons_succ, List.getElem?_cons_zero]; rfl)); (focus kernel_rfl); (focus kernel_rfl); (focus kernel_rfl); (focus exact (fun _ _ _ h => h)); refine Or.inl ⟨?_, ?_⟩; (focus (go_simp; done)); (focus (intro w hSw; (try dsimp only at hSw); (first | (go_simp; done) | (go_simp; with_reducible rfl)))); (focus assumption); (try simp only [Act.put, List.setIfInBounds_toArray, List.set_cons_zero, List.set_cons_succ]))
      | (refine' wpAnyH_take (i := 4) (v := undef) ?_ ?_ ?_ ?_ ?_ ?_ ?_ ?_; rotate_left 1; (focus (simp only [List.getElem?_toArray, List.getElem?_cons_succ, List.getElem?_cons_zero]; rfl)); (focus kernel_rfl); (focus kernel_rfl); (focus kernel_rfl); (focus exact (fun _ _ _ h => h)); refine Or.inr ⟨?_, rfl⟩; (focus (go_simp; done)); (focus assumption); (try simp only [Act.put, List.setIfInBounds_toArray, List.set_cons_zero, List.set_cons_succ]))
      | (refine wpAnyH_ready (rs := [4]) (by kernel_rfl) (by simp) ?_; refine' AllReadyH.cons ?_ (fun K hK => ?_) AllReadyH.nil; rotate_left; (focus (simp only [List.getElem?_toArray, List.getElem?_cons_succ, List.getElem?_cons_zero]; rfl)); go_simp; (go_at_call 12; refine (iNone_any _).mono ?_; rintro e w4 ⟨rfl, hb⟩); refine hK.out _ _ (by go_split_ands; exact ⟨⟨Beh.cell1 (by assumption) hb (by assumption), Beh.cell1 (by assumption) hb (by assumption)⟩, ⟨Beh.cell2 (by assumption) hb (by assumption), Beh.cell2 (by assumption) hb (by assumption)⟩, Beh.below (by assumption) hb⟩) (fun hHeld => ?_); clear hK K; (try simp only [Act.put, List.setIfInBounds_toArray, List.set_cons_zero, List.set_cons_succ]); clear hb)
      | fail "operation 4"
    first
      | (refine' wpAnyH_take (i := 5) (v := _) ?_ ?_ ?_ ?_ ?_ ?_ ?_ ?_; rotate_left 2; (focus (simp only [List.getElem?_toArray, List.getElem?_cons_succ, List.getElem?_cons_zero]; rfl)); (focus kernel_rfl); (focus kernel_rfl); (focus kernel_rfl); (focus exact (fun _ _ _ h => h)); refine Or.inl ⟨?_, ?_⟩; (focus (go_simp; done)); (focus (intro w hSw; (try dsimp only at hSw); (first | (go_simp; done) | (go_simp; with_reducible rfl)))); (focus assumption); (try simp only [Act.put, List.setIfInBounds_toArray, List.set_cons_zero, List.set_cons_succ]))
      | (refine' wpAnyH_take (i := 5) (v := undef) ?_ ?_ ?_ ?_ ?_ ?_ ?_ ?_; rotate_left 1; (focus (simp only [List.getElem?_toArray, List.getElem?_cons_succ, List.getElem?_cons_zero]; rfl)); (focus kernel_rfl); (focus kernel_rfl); (focus kernel_rfl); (focus exact (fun _ _ _ h => h)); refine Or.inr ⟨?_, rfl⟩; (focus (go_simp; done)); (focus assumption); (try simp only [Act.put, List.setIfInBounds_toArray, List.set_cons_zero, List.set_cons_succ]))
      | (refine wpAnyH_ready (rs := [5]) (by kernel_rfl) (by simp) ?_; refine' AllReadyH.cons ?_ (fun K hK => ?_) AllReadyH.nil; rotate_left; (focus (simp only [List.getElem?_toArray, List.getElem?_cons_succ, List.getElem?_cons_zero]; rfl)); go_simp; (go_at_call 12; refine (iNone_any _).mono ?_; rintro e w4 ⟨rfl, hb⟩); refine hK.out _ _ (by go_split_ands; exact ⟨⟨Beh.cell1 (by assumption) hb (by assumption), Beh.cell1 (by assumption) hb (by assumption)⟩, ⟨Beh.cell2 (by assumption) hb (by assumption), Beh.cell2 (by assumption) hb (by assumption)⟩, Beh.below (by assumption) hb⟩) (fun hHeld => ?_); clear hK K; (try simp only [Act.put, List.setIfInBounds_toArray, List.set_cons_zero, List.set_cons_succ]); clear hb)
      | fail "operation 5"
    first
      | (refine' wpAnyH_take (i := 6) (v := _) ?_ ?_ ?_ ?_ ?_ ?_ ?_ ?_; rotate_left 2; (focus (simp only [List.getElem?_toArray, List.getElem?_cons_succ, List.getElem?_cons_zero]; rfl)); (focus kernel_rfl); (focus kernel_rfl); (focus kernel_rfl); (focus exact (fun _ _ _ h => h)); refine Or.inl ⟨?_, ?_⟩; (focus (go_simp; done)); (focus (intro w hSw; (try dsimp only at hSw); (first | (go_simp; done) | (go_simp; with_reducible rfl)))); (focus assumption); (try simp only [Act.put, List.setIfInBounds_toArray, List.set_cons_zero, List.set_cons_succ]))
      | (refine' wpAnyH_take (i := 6) (v := undef) ?_ ?_ ?_ ?_ ?_ ?_ ?_ ?_; rotate_left 1; (focus (simp only [List.getElem?_toArray, List.getElem?_cons_succ, List.getElem?_cons_zero]; rfl)); (focus kernel_rfl); (focus kernel_rfl); (focus kernel_rfl); (focus exact (fun _ _ _ h => h)); refine Or.inr ⟨?_, rfl⟩; (focus (go_simp; done)); (focus assumption); (try simp only [Act.put, List.setIfInBounds_toArray, List.set_cons_zero, List.set_cons_succ]))
      | (refine wpAnyH_ready (rs := [6]) (by kernel_rfl) (by simp) ?_; refine' AllReadyH.cons ?_ (fun K hK => ?_) AllReadyH.nil; rotate_left; (focus (simp only [List.getElem?_toArray, List.getElem?_cons_succ, List.getElem?_cons_zero]; rfl)); go_simp; (go_at_call 12; refine (iNone_any _).mono ?_; rintro e w4 ⟨rfl, hb⟩); refine hK.out _ _ (by go_split_ands; exact ⟨⟨Beh.cell1 (by assumption) hb (by assumption), Beh.cell1 (by assumption) hb (by assumption)⟩, ⟨Beh.cell2 (by assumption) hb (by assumption), Beh.cell2 (by assumption) hb (by assumption)⟩, Beh.below (by assumption) hb⟩) (fun hHeld => ?_); clear hK K; (try simp only [Act.put, List.setIfInBounds_toArray, List.set_cons_zero, List.set_cons_succ]); clear hb)
      | fail "operation 6"
    first
      | (refine' wpAnyH_take (i := 7) (v := _) ?_ ?_ ?_ ?_ ?_ ?_ ?_ ?_; rotate_left 2; (focus (simp only [List.getElem?_toArray, List.getElem?_cons_succ, List.getElem?_cons_zero]; rfl)); (focus kernel_rfl); (focus kernel_rfl); (focus kernel_rfl); (focus exact (fun _ _ _ h => h)); refine Or.inl ⟨?_, ?_⟩; (focus (go_simp; done)); (focus (intro w hSw; (try dsimp only at hSw); (first | (go_simp; done) | (go_simp; with_reducible rfl)))); (focus assumption); (try simp only [Act.put, List.setIfInBounds_toArray, List.set_cons_zero, List.set_cons_succ]))
      | (refine' wpAnyH_take (i := 7) (v := undef) ?_ ?_ ?_ ?_ ?_ ?_ ?_ ?_; rotate_left 1; (focus (simp only [List.getElem?_toArray, List.getElem?_cons_succ, List.getElem?_cons_zero]; rfl)); (focus kernel_rfl); (focus kernel_rfl); (focus kernel_rfl); (focus exact (fun _ _ _ h => h)); refine Or.inr ⟨?_, rfl⟩; (focus (go_simp; done)); (focus assumption); (try simp only [Act.put, List.setIfInBounds_toArray, List.set_cons_zero, List.set_cons_succ]))
      | (refine wpAnyH_ready (rs := [7]) (by kernel_rfl) (by simp) ?_; refine' AllReadyH.cons ?_ (fun K hK => ?_) AllReadyH.nil; rotate_left; (focus (simp only [List.getElem?_toArray, List.getElem?_cons_succ, List.getElem?_cons_zero]; rfl)); go_simp; (go_at_call 12; refine (iNone_any _).mono ?_; rintro e w4 ⟨rfl, hb⟩); refine hK.out _ _ (by go_split_ands; exact ⟨⟨Beh.cell1 (by assumption) hb (by assumption), Beh.cell1 (by assumption) hb (by assumption)⟩, ⟨Beh.cell2 (by assumption) hb (by assumption), Beh.cell2 (by assumption) hb (by assumption)⟩, Beh.below (by assumption) hb⟩) (fun hHeld => ?_); clear hK K; (try simp only [Act.put, List.setIfInBounds_toArray, List.set_cons_zero, List.set_cons_succ]); clear hb)
      | fail "operation 7"
    refine wpAnyH_done (by kernel_rfl) ?_ _
    obtain ⟨⟨x0, x1⟩, ⟨y0, y1⟩, hB⟩ := hHeld; obtain ⟨hv, hg1, hg2⟩ := id hB
    go_wp2_with fail
    refine (awake_any _).mono ?_
    rintro e w7 ⟨rfl, hb⟩
    have hB := Beh.below hB hb
    go_wp2
    go_ret
    exact ⟨rfl, hB.1⟩
  · have he := iv_eql x.lo x.hi 1 0 false (iv_not x (Iv.good_ne gx))
    have he2 := iv_eql y.lo y.hi 1 0 false (iv_not y (Iv.good_ne gy))
    refine wp_region_held_drew (S := (fun w' => (w'.cell? ⟨g1, 0, none⟩ = some (.int .i64 x.lo) ∧ w'.cell? ⟨g1, 1, none⟩ = some (.int .i64 x.hi)) ∧ (w'.cell? ⟨g2, 0, none⟩ = some (.int .i64 y.lo) ∧ w'.cell? ⟨g2, 1, none⟩ = some (.int .i64 y.hi)) ∧ Beh w g1 g2 w')) (by kernel_rfl) (by exact ⟨⟨by simpa using x0, by simpa using x1⟩, ⟨by simpa using y0, by simpa using y1⟩, hB.drew⟩) (fun hHeld => ?_)
    first
      | (refine' wpAnyH_take (i := 0) (v := _) ?_ ?_ ?_ ?_ ?_ ?_ ?_ ?_; rotate_left 2; (focus (simp only [List.getElem?_toArray, List.getElem?_cons_succ, List.getElem?_cons_zero]; rfl)); (focus kernel_rfl); (focus kernel_rfl); (focus kernel_rfl); (focus exact (fun _ _ _ h => h)); refine Or.inl ⟨?_, ?_⟩; (focus (go_simp; done)); (focus (intro w hSw; (try dsimp only at hSw); (first | (go_simp; done) | (go_simp; with_reducible rfl)))); (focus assumption); (try simp only [Act.put, List.setIfInBounds_toArray, List.set_cons_zero, List.set_cons_succ]))
      | (refine' wpAnyH_take (i := 0) (v := undef) ?_ ?_ ?_ ?_ ?_ ?_ ?_ ?_; rotate_left 1; (focus (simp only [List.getElem?_toArray, List.getElem?_cons_succ, List.getElem?_cons_zero]; rfl)); (focus kernel_rfl); (focus kernel_rfl); (focus kernel_rfl); (focus exact (fun _ _ _ h => h)); refine Or.inr ⟨?_, rfl⟩; (focus (go_simp; done)); (focus assumption); (try simp only [Act.put, List.setIfInBounds_toArray, List.set_cons_zero, List.set_cons_succ]))
      | (refine wpAnyH_ready (rs := [0]) (by kernel_rfl) (by simp) ?_; refine' AllReadyH.cons ?_ (fun K hK => ?_) AllReadyH.nil; rotate_left; (focus (simp only [List.getElem?_toArray, List.getElem?_cons_succ, List.getElem?_cons_zero]; rfl)); go_simp; (go_at_call 12; refine (iNone_any _).mono ?_; rintro e w4 ⟨rfl, hb⟩); refine hK.out _ _ (by go_split_ands; exact ⟨⟨Beh.cell1 (by assumption) hb (by assumption), Beh.cell1 (by assumption) hb (by assumption)⟩, ⟨Beh.cell2 (by assumption) hb (by assumption), Beh.cell2 (by assumption) hb (by assumption)⟩, Beh.below (by assumption) hb⟩) (fun hHeld => ?_); clear hK K; (try simp only [Act.put, List.setIfInBounds_toArray, List.set_cons_zero, List.set_cons_succ]); clear hb)
      | fail "operation 0"
    first
      | (refine' wpAnyH_take (i := 1) (v := _) ?_ ?_ ?_ ?_ ?_ ?_ ?_ ?_; rotate_left 2; (focus (simp only [List.getElem?_toArray, List.getElem?_cons_succ, List.getElem?_cons_zero]; rfl)); (focus kernel_rfl); (focus kernel_rfl); (focus kernel_rfl); (focus exact (fun _ _ _ h => h)); refine Or.inl ⟨?_, ?_⟩; (focus (go_simp; done)); (focus (intro w hSw; (try dsimp only at hSw); (first | (go_simp; done) | (go_simp; with_reducible rfl)))); (focus assumption); (try simp only [Act.put, List.setIfInBounds_toArray, List.set_cons_zero, List.set_cons_succ]))
      | (refine' wpAnyH_take (i := 1) (v := undef) ?_ ?_ ?_ ?_ ?_ ?_ ?_ ?_; rotate_left 1; (focus (simp only [List.getElem?_toArray, List.getElem?_cons_succ, List.getElem?_cons_zero]; rfl)); (focus kernel_rfl); (focus kernel_rfl); (focus kernel_rfl); (focus exact (fun _ _ _ h => h)); refine Or.inr ⟨?_, rfl⟩; (focus (go_simp; done)); (focus assumption); (try simp only [Act.put, List.setIfInBounds_toArray, List.set_cons_zero, List.set_cons_succ]))
      | (refine wpAnyH_ready (rs := [1]) (by kernel_rfl) (by simp) ?_; refine' AllReadyH.cons ?_ (fun K hK => ?_) AllReadyH.nil; rotate_left; (focus (simp only [List.getElem?_toArray, List.getElem?_cons_succ, List.getElem?_cons_zero]; rfl)); go_simp; (go_at_call 12; refine (iNone_any _).mono ?_; rintro e w4 ⟨rfl, hb⟩); refine hK.out _ _ (by go_split_ands; exact ⟨⟨Beh.cell1 (by assumption) hb (by assumption), Beh.cell1 (by assumption) hb (by assumption)⟩, ⟨Beh.cell2 (by assumption) hb (by assumption), Beh.cell2 (by assumption) hb (by assumption)⟩, Beh.below (by assumption) hb⟩) (fun hHeld => ?_); clear hK K; (try simp only [Act.put, List.setIfInBounds_toArray, List.set_cons_zero, List.set_cons_succ]); clear hb)
      | fail "operation 1"
    first
      | (refine' wpAnyH_take (i := 2) (v := _) ?_ ?_ ?_ ?_ ?_ ?_ ?_ ?_; rotate_left 2; (focus (simp only [List.getElem?_toArray, List.getElem?_cons_succ, List.getElem?_cons_zero]; rfl)); (focus kernel_rfl); (focus kernel_rfl); (focus kernel_rfl); (focus exact (fun _ _ _ h => h)); refine Or.inl ⟨?_, ?_⟩; (focus (go_simp; done)); (focus (intro w hSw; (try dsimp only at hSw); (first | (go_simp; done) | (go_simp; with_reducible rfl)))); (focus assumption); (try simp only [Act.put, List.setIfInBounds_toArray, List.set_cons_zero, List.set_cons_succ]))
      | (refine' wpAnyH_take (i := 2) (v := undef) ?_ ?_ ?_ ?_ ?_ ?_ ?_ ?_; rotate_left 1; (focus (simp only [List.getElem?_toArray, List.getElem?_cons_succ, List.getElem?_cons_zero]; rfl)); (focus kernel_rfl); (focus kernel_rfl); (focus kernel_rfl); (focus exact (fun _ _ _ h => h)); refine Or.inr ⟨?_, rfl⟩; (focus (go_simp; done)); (focus assumption); (try simp only [Act.put, List.setIfInBounds_toArray, List.set_cons_zero, List.set_cons_succ]))
      | (refine wpAnyH_ready (rs := [2]) (by kernel_rfl) (by simp) ?_; refine' AllReadyH.cons ?_ (fun K hK => ?_) AllReadyH.nil; rotate_left; (focus (simp only [List.getElem?_toArray, List.getElem?_cons_succ, List.getElem?_cons_zero]; rfl)); go_simp; (go_at_call 12; refine (iNone_any _).mono ?_; rintro e w4 ⟨rfl, hb⟩); refine hK.out _ _ (by go_split_ands; exact ⟨⟨Beh.cell1 (by assumption) hb (by assumption), Beh.cell1 (by assumption) hb (by assumption)⟩, ⟨Beh.cell2 (by assumption) hb (by assumption), Beh.cell2 (by assumption) hb (by assumption)⟩, Beh.below (by assumption) hb⟩) (fun hHeld => ?_); clear hK K; (try simp only [Act.put, List.setIfInBounds_toArray, List.set_cons_zero, List.set_cons_succ]); clear hb)
      | fail "operation 2"
    first
      | (refine' wpAnyH_take (i := 3) (v := _) ?_ ?_ ?_ ?_ ?_ ?_ ?_ ?_; rotate_left 2; (focus (simp only [List.getElem?_toArray, List.getElem?_cons_succ, List.getElem?_cons_zero]; rfl)); (focus kernel_rfl); (focus kernel_rfl); (focus kernel_rfl); (focus exact (fun _ _ _ h => h)); refine Or.inl ⟨?_, ?_⟩; (focus (go_simp; done)); (focus (intro w hSw; (try dsimp only at hSw); (first | (go_simp; done) | (go_simp; with_reducible rfl)))); (focus assumption); (try simp only [Act.put, List.setIfInBounds_toArray, List.set_cons_zero, List.set_cons_succ]))
      | (refine' wpAnyH_take (i := 3) (v := undef) ?_ ?_ ?_ ?_ ?_ ?_ ?_ ?_; rotate_left 1; (focus (simp only [List.getElem?_toArray, List.getElem?_cons_succ, List.getElem?_cons_zero]; rfl)); (focus kernel_rfl); (focus kernel_rfl); (focus kernel_rfl); (focus exact (fun _ _ _ h => h)); refine Or.inr ⟨?_, rfl⟩; (focus (go_simp; done)); (focus assumption); (try simp only [Act.put, List.setIfInBounds_toArray, List.set_cons_zero, List.set_cons_succ]))
      | (refine wpAnyH_ready (rs := [3]) (by kernel_rfl) (by simp) ?_; refine' AllReadyH.cons ?_ (fun K hK => ?_) AllReadyH.nil; rotate_left; (focus (simp only [List.getElem?_toArray, List.getElem?_cons_succ, List.getElem?_cons_zero]; rfl)); go_simp; (go_at_call 12; refine (iNone_any _).mono ?_; rintro e w4 ⟨rfl, hb⟩); refine hK.out _ _ (by go_split_ands; exact ⟨⟨Beh.cell1 (by assumption) hb (by assumption), Beh.cell1 (by assumption) hb (by assumption)⟩, ⟨Beh.cell2 (by assumption) hb (by assumption), Beh.cell2 (by assumption) hb (by assumption)⟩, Beh.below (by assumption) hb⟩) (fun hHeld => ?_); clear hK K; (try simp only [Act.put, List.setIfInBounds_toArray, List.set_cons_zero, List.set_cons_succ]); clear hb)
      | fail "operation 3"
    first
      | (refine' wpAnyH_take (i := 4) (v := _) ?_ ?_ ?_ ?_ ?_ ?_ ?_ ?_; rotate_left 2; (focus (simp only [List.getElem?_toArray, List.getElem?_cons_succ, List.getElem?_cons_zero]; rfl)); (focus kernel_rfl); (focus kernel_rfl); (focus kernel_rfl); (focus exact (fun _ _ _ h => h)); refine Or.inl ⟨?_, ?_⟩; (focus (go_simp; done)); (focus (intro w hSw; (try dsimp only at hSw); (first | (go_simp; done) | (go_simp; with_reducible rfl)))); (focus assumption); (try simp only [Act.put, List.setIfInBounds_toArray, List.set_cons_zero, List.set_cons_succ]))
      | (refine' wpAnyH_take (i := 4) (v := undef) ?_ ?_ ?_ ?_ ?_ ?_ ?_ ?_; rotate_left 1; (focus (simp only [List.getElem?_toArray, List.getElem?_cons_succ, List.getElem?_cons_zero]; rfl)); (focus kernel_rfl); (focus kernel_rfl); (focus kernel_rfl); (focus exact (fun _ _ _ h => h)); refine Or.inr ⟨?_, rfl⟩; (focus (go_simp; done)); (focus assumption); (try simp only [Act.put, List.setIfInBounds_toArray, List.set_cons_zero, List.set_cons_succ]))
      | (refine wpAnyH_ready (rs := [4]) (by kernel_rfl) (by simp) ?_; refine' AllReadyH.cons ?_ (fun K hK => ?_) AllReadyH.nil; rotate_left; (focus (simp only [List.getElem?_toArray, List.getElem?_cons_succ, List.getElem?_cons_zero]; rfl)); go_simp; (go_at_call 12; refine (iNone_any _).mono ?_; rintro e w4 ⟨rfl, hb⟩); refine hK.out _ _ (by go_split_ands; exact ⟨⟨Beh.cell1 (by assumption) hb (by assumption), Beh.cell1 (by assumption) hb (by assumption)⟩, ⟨Beh.cell2 (by assumption) hb (by assumption), Beh.cell2 (by assumption) hb (by assumption)⟩, Beh.below (by assumption) hb⟩) (fun hHeld => ?_); clear hK K; (try simp only [Act.put, List.setIfInBounds_toArray, List.set_cons_zero, List.set_cons_succ]); clear hb)
      | fail "operation 4"
    first
      | (refine' wpAnyH_take (i := 5) (v := _) ?_ ?_ ?_ ?_ ?_ ?_ ?_ ?_; rotate_left 2; (focus (simp only [List.getElem?_toArray, List.getElem?_cons_succ, List.getElem?_cons_zero]; rfl)); (focus kernel_rfl); (focus kernel_rfl); (focus kernel_rfl); (focus exact (fun _ _ _ h => h)); refine Or.inl ⟨?_, ?_⟩; (focus (go_simp; done)); (focus (intro w hSw; (try dsimp only at hSw); (first | (go_simp; done) | (go_simp; with_reducible rfl)))); (focus assumption); (try simp only [Act.put, List.setIfInBounds_toArray, List.set_cons_zero, List.set_cons_succ]))
      | (refine' wpAnyH_take (i := 5) (v := undef) ?_ ?_ ?_ ?_ ?_ ?_ ?_ ?_; rotate_left 1; (focus (simp only [List.getElem?_toArray, List.getElem?_cons_succ, List.getElem?_cons_zero]; rfl)); (focus kernel_rfl); (focus kernel_rfl); (focus kernel_rfl); (focus exact (fun _ _ _ h => h)); refine Or.inr ⟨?_, rfl⟩; (focus (go_simp; done)); (focus assumption); (try simp only [Act.put, List.setIfInBounds_toArray, List.set_cons_zero, List.set_cons_succ]))
      | (refine wpAnyH_ready (rs := [5]) (by kernel_rfl) (by simp) ?_; refine' AllReadyH.cons ?_ (fun K hK => ?_) AllReadyH.nil; rotate_left; (focus (simp only [List.getElem?_toArray, List.getElem?_cons_succ, List.getElem?_cons_zero]; rfl)); go_simp; (go_at_call 12; refine (iNone_any _).mono ?_; rintro e w4 ⟨rfl, hb⟩); refine hK.out _ _ (by go_split_ands; exact ⟨⟨Beh.cell1 (by assumption) hb (by assumption), Beh.cell1 (by assumption) hb (by assumption)⟩, ⟨Beh.cell2 (by assumption) hb (by assumption), Beh.cell2 (by assumption) hb (by assumption)⟩, Beh.below (by assumption) hb⟩) (fun hHeld => ?_); clear hK K; (try simp only [Act.put, List.setIfInBounds_toArray, List.set_cons_zero, List.set_cons_succ]); clear hb)
      | fail "operation 5"
    first
      | (refine' wpAnyH_take (i := 6) (v := _) ?_ ?_ ?_ ?_ ?_ ?_ ?_ ?_; rotate_left 2; (focus (simp only [List.getElem?_toArray, List.getElem?_cons_succ, List.getElem?_cons_zero]; rfl)); (focus kernel_rfl); (focus kernel_rfl); (focus kernel_rfl); (focus exact (fun _ _ _ h => h)); refine Or.inl ⟨?_, ?_⟩; (focus (go_simp; done)); (focus (intro w hSw; (try dsimp only at hSw); (first | (go_simp; done) | (go_simp; with_reducible rfl)))); (focus assumption); (try simp only [Act.put, List.setIfInBounds_toArray, List.set_cons_zero, List.set_cons_succ]))
      | (refine' wpAnyH_take (i := 6) (v := undef) ?_ ?_ ?_ ?_ ?_ ?_ ?_ ?_; rotate_left 1; (focus (simp only [List.getElem?_toArray, List.getElem?_cons_succ, List.getElem?_cons_zero]; rfl)); (focus kernel_rfl); (focus kernel_rfl); (focus kernel_rfl); (focus exact (fun _ _ _ h => h)); refine Or.inr ⟨?_, rfl⟩; (focus (go_simp; done)); (focus assumption); (try simp only [Act.put, List.setIfInBounds_toArray, List.set_cons_zero, List.set_cons_succ]))
      | (refine wpAnyH_ready (rs := [6]) (by kernel_rfl) (by simp) ?_; refine' AllReadyH.cons ?_ (fun K hK => ?_) AllReadyH.nil; rotate_left; (focus (simp only [List.getElem?_toArray, List.getElem?_cons_succ, List.getElem?_cons_zero]; rfl)); go_simp; (go_at_call 12; refine (iNone_any _).mono ?_; rintro e w4 ⟨rfl, hb⟩); refine hK.out _ _ (by go_split_ands; exact ⟨⟨Beh.cell1 (by assumption) hb (by assumption), Beh.cell1 (by assumption) hb (by assumption)⟩, ⟨Beh.cell2 (by assumption) hb (by assumption), Beh.cell2 (by assumption) hb (by assumption)⟩, Beh.below (by assumption) hb⟩) (fun hHeld => ?_); clear hK K; (try simp only [Act.put, List.setIfInBounds_toArray, List.set_cons_zero, List.set_cons_succ]); clear hb)
      | fail "operation 6"
    first
      | (refine' wpAnyH_take (i := 7) (v := _) ?_ ?_ ?_ ?_ ?_ ?_ ?_ ?_; rotate_left 2; (focus (simp only [List.getElem?_toArray, List.getElem?_cons_succ, List.getElem?_cons_zero]; rfl)); (focus kernel_rfl); (focus kernel_rfl); (focus kernel_rfl); (focus exact (fun _ _ _ h => h)); refine Or.inl ⟨?_, ?_⟩; (focus (go_simp; done)); (focus (intro w hSw; (try dsimp only at hSw); (first | (go_simp; done) | (go_simp; with_reducible rfl)))); (focus assumption); (try simp only [Act.put, List.setIfInBounds_toArray, List.set_cons_zero, List.set_cons_succ]))
      | (refine' wpAnyH_take (i := 7) (v := undef) ?_ ?_ ?_ ?_ ?_ ?_ ?_ ?_; rotate_left 1; (focus (simp only [List.getElem?_toArray, List.getElem?_cons_succ, List.getElem?_cons_zero]; rfl)); (focus kernel_rfl); (focus kernel_rfl); (focus kernel_rfl); (focus exact (fun _ _ _ h => h)); refine Or.inr ⟨?_, rfl⟩; (focus (go_simp; done)); (focus assumption); (try simp only [Act.put, List.setIfInBounds_toArray, List.set_cons_zero, List.set_cons_succ]))
      | (refine wpAnyH_ready (rs := [7]) (by kernel_rfl) (by simp) ?_; refine' AllReadyH.cons ?_ (fun K hK => ?_) AllReadyH.nil; rotate_left; (focus (simp only [List.getElem?_toArray, List.getElem?_cons_succ, List.getElem?_cons_zero]; rfl)); go_simp; (go_at_call 12; refine (iNone_any _).mono ?_; rintro e w4 ⟨rfl, hb⟩); refine hK.out _ _ (by go_split_ands; exact ⟨⟨Beh.cell1 (by assumption) hb (by assumption), Beh.cell1 (by assumption) hb (by assumption)⟩, ⟨Beh.cell2 (by assumption) hb (by assumption), Beh.cell2 (by assumption) hb (by assumption)⟩, Beh.below (by assumption) hb⟩) (fun hHeld => ?_); clear hK K; (try simp only [Act.put, List.setIfInBounds_toArray, List.set_cons_zero, List.set_cons_succ]); clear hb)
      | fail "operation 7"
    refine wpAnyH_done (by kernel_rfl) ?_ _
    obtain ⟨⟨x0, x1⟩, ⟨y0, y1⟩, hB⟩ := hHeld; obtain ⟨hv, hg1, hg2⟩ := id hB
    have hO : 11 ≤ 11 + o % 4 ∧ 11 + o % 4 ≤ 14 := by omega
    go_wp2_with fail
    refine wp_region_held_drew (S := (fun w' => (w'.cell? ⟨g1, 0, none⟩ = some (.int .i64 x.lo) ∧ w'.cell? ⟨g1, 1, none⟩ = some (.int .i64 x.hi)) ∧ (w'.cell? ⟨g2, 0, none⟩ = some (.int .i64 y.lo) ∧ w'.cell? ⟨g2, 1, none⟩ = some (.int .i64 y.hi)) ∧ Beh w g1 g2 w')) (by kernel_rfl) (by exact ⟨⟨by simpa using x0, by simpa using x1⟩, ⟨by simpa using y0, by simpa using y1⟩, hB.drew⟩) (fun hHeld => ?_)
    clear x0 x1 y0 y1 hB hv hg1 hg2
    refine' wpAnyH_take (i := 0) (v := _) ?_ ?_ ?_ ?_ ?_ ?_ ?_ ?_
    rotate_left 2
    focus (simp only [List.getElem?_toArray, List.getElem?_cons_succ, List.getElem?_cons_zero]; rfl)
    focus kernel_rfl
    focus kernel_rfl
    focus kernel_rfl
    focus exact (fun _ _ _ h => h)
    refine Or.inl ⟨?_, ?_⟩
    focus (go_simp; done)
    focus (intro w hSw; obtain ⟨⟨x0, x1⟩, ⟨y0, y1⟩, _⟩ := hSw; (first | (go_simp; done) | (go_simp; with_reducible rfl)))
    focus assumption
    (try simp only [Act.put, List.setIfInBounds_toArray, List.set_cons_zero, List.set_cons_succ])
    refine' wpAnyH_take (i := 1) (v := _) ?_ ?_ ?_ ?_ ?_ ?_ ?_ ?_
    rotate_left 2
    focus (simp only [List.getElem?_toArray, List.getElem?_cons_succ, List.getElem?_cons_zero]; rfl)
    focus kernel_rfl
    focus kernel_rfl
    focus kernel_rfl
    focus exact (fun _ _ _ h => h)
    refine Or.inl ⟨?_, ?_⟩
    focus (go_simp; done)
    focus (intro w hSw; obtain ⟨⟨x0, x1⟩, ⟨y0, y1⟩, _⟩ := hSw; (first | (go_simp; done) | (go_simp; with_reducible rfl)))
    focus assumption
    (try simp only [Act.put, List.setIfInBounds_toArray, List.set_cons_zero, List.set_cons_succ])
    refine' wpAnyH_take (i := 3) (v := _) ?_ ?_ ?_ ?_ ?_ ?_ ?_ ?_
    rotate_left 2
    focus (simp only [List.getElem?_toArray, List.getElem?_cons_succ, List.getElem?_cons_zero]; rfl)
    focus kernel_rfl
    focus kernel_rfl
    focus kernel_rfl
    focus exact (fun _ _ _ h => h)
    refine Or.inl ⟨?_, ?_⟩
    focus (go_simp; done)
    focus (intro w hSw; obtain ⟨⟨x0, x1⟩, ⟨y0, y1⟩, _⟩ := hSw; (first | (go_simp; done) | (go_simp; with_reducible rfl)))
    focus assumption
    (try simp only [Act.put, List.setIfInBounds_toArray, List.set_cons_zero, List.set_cons_succ])
    refine' wpAnyH_take (i := 4) (v := _) ?_ ?_ ?_ ?_ ?_ ?_ ?_ ?_
    rotate_left 2
    focus (simp only [List.getElem?_toArray, List.getElem?_cons_succ, List.getElem?_cons_zero]; rfl)
    focus kernel_rfl
    focus kernel_rfl
    focus kernel_rfl
    focus exact (fun _ _ _ h => h)
    refine Or.inl ⟨?_, ?_⟩
    focus (go_simp; done)
    focus (intro w hSw; obtain ⟨⟨x0, x1⟩, ⟨y0, y1⟩, _⟩ := hSw; (first | (go_simp; done) | (go_simp; with_reducible rfl)))
    focus assumption
    (try simp only [Act.put, List.setIfInBounds_toArray, List.set_cons_zero, List.set_cons_succ])
    refine wpAnyH_ready (rs := [2]) (by kernel_rfl) (by simp) ?_
    refine' AllReadyH.cons ?_ (fun K hK => ?_) AllReadyH.nil
    rotate_left
    focus (simp only [List.getElem?_toArray, List.getElem?_cons_succ, List.getElem?_cons_zero]; rfl)
    go_simp
    refine Calls.mono (inside_any x m gx HM.out _) ?_
    rintro e w7 ⟨i, hi, rfl, hb⟩
    obtain ⟨⟨x0, x1⟩, ⟨y0, y1⟩, hB⟩ := hHeld
    refine hK.out _ _ ⟨⟨hB.cell1 hb x0, hB.cell1 hb x1⟩, ⟨hB.cell2 hb y0, hB.cell2 hb y1⟩, hB.below hb⟩ (fun hHeld => ?_)
    clear hK K hb x0 x1 y0 y1 hB
    (try simp only [Act.put, List.setIfInBounds_toArray, List.set_cons_zero, List.set_cons_succ])
    refine wpAnyH_ready (rs := [5]) (by kernel_rfl) (by simp) ?_
    refine' AllReadyH.cons ?_ (fun K hK => ?_) AllReadyH.nil
    rotate_left
    focus (simp only [List.getElem?_toArray, List.getElem?_cons_succ, List.getElem?_cons_zero]; rfl)
    go_simp
    refine Calls.mono (inside_any y n gy HN.out _) ?_
    rintro e w8 ⟨k, hk, rfl, hb⟩
    obtain ⟨⟨x0, x1⟩, ⟨y0, y1⟩, hB⟩ := hHeld
    refine hK.out _ _ ⟨⟨hB.cell1 hb x0, hB.cell1 hb x1⟩, ⟨hB.cell2 hb y0, hB.cell2 hb y1⟩, hB.below hb⟩ (fun hHeld => ?_)
    clear hK K hb x0 x1 y0 y1 hB
    (try simp only [Act.put, List.setIfInBounds_toArray, List.set_cons_zero, List.set_cons_succ])
    refine' wpAnyH_take (i := 6) (v := _) ?_ ?_ ?_ ?_ ?_ ?_ ?_ ?_
    rotate_left 2
    focus (simp only [List.getElem?_toArray, List.getElem?_cons_succ, List.getElem?_cons_zero]; rfl)
    focus kernel_rfl
    focus kernel_rfl
    focus kernel_rfl
    focus exact (fun _ _ _ h => h)
    refine Or.inl ⟨?_, ?_⟩
    focus (go_simp; done)
    focus (intro w hSw; obtain ⟨⟨x0, x1⟩, ⟨y0, y1⟩, _⟩ := hSw; (first | (go_simp; done) | (go_simp; with_reducible rfl)))
    focus assumption
    (try simp only [Act.put, List.setIfInBounds_toArray, List.set_cons_zero, List.set_cons_succ])
    refine' wpAnyH_take (i := 7) (v := _) ?_ ?_ ?_ ?_ ?_ ?_ ?_ ?_
    rotate_left 2
    focus (simp only [List.getElem?_toArray, List.getElem?_cons_succ, List.getElem?_cons_zero]; rfl)
    focus kernel_rfl
    focus kernel_rfl
    focus kernel_rfl
    focus exact (fun _ _ _ h => h)
    refine Or.inl ⟨?_, ?_⟩
    focus (go_simp; done)
    focus (intro w hSw; obtain ⟨⟨x0, x1⟩, ⟨y0, y1⟩, _⟩ := hSw; (first | (go_simp; done) | (go_simp; with_reducible rfl)))
    focus assumption
    (try simp only [Act.put, List.setIfInBounds_toArray, List.set_cons_zero, List.set_cons_succ])
    refine wpAnyH_done (by kernel_rfl) ?_ _
    obtain ⟨⟨x0, x1⟩, ⟨y0, y1⟩, hB⟩ := hHeld
    obtain ⟨hv, hg1, hg2⟩ := id hB
    go_wp2_with fail
    refine (wdDo_any _ i k _).mono ?_
    rintro e w9 ⟨rfl, rfl⟩
    have hwi : Iv.isWord i := ⟨by have := gx.1; omega, by have := gx.2.2; omega⟩
    have hwk : Iv.isWord k := ⟨by have := gy.1; omega, by have := gy.2.2; omega⟩
    have hfine := Iv.refine_fine hO gx gy hi hk
    rw [← Iv.cmp_bit hO hwi hwk] at hfine
    generalize Go.Proofs.Ytdajgopgaklipaa.val (11 + o % 4) i k = V at *
    obtain ⟨Z, hZ⟩ : ∃ Z, Iv.refine (11 + o % 4) (V == 1) x y = Z := ⟨_, rfl⟩
    rw [hZ] at hfine
    obtain ⟨f1, f2, f3, f4, f5, f6, f7, f8⟩ := hfine
    have F1 := Lib.hid f1
    have F2 := Lib.hid f2
    have F3 := Lib.hid f3
    have F4 := Lib.hid f4
    have F5 := Lib.hid f5
    have F6 := Lib.hid f6
    have F7 := Lib.hid f7
    have F8 := Lib.hid f8
    have HZ := Lib.hid hZ
    clear f1 f2 f3 f4 f5 f6 f7 f8 hZ hi hk hwi hwk
    go_wp2_with fail
    refine (iRefine_any _ x.lo x.hi y.lo y.hi (V == 1) Z HZ.out _).mono ?_
    rintro e w7 ⟨rfl, hb⟩
    have x0 := Beh.cell1 hB hb x0; have x1 := Beh.cell1 hB hb x1; have y0 := Beh.cell2 hB hb y0; have y1 := Beh.cell2 hB hb y1; have hB := Beh.below hB hb; clear hb
    have hL : Lts w [g1, g2] w7 := ⟨hB.1, by simp; exact ⟨hB.2.1, hB.2.2⟩⟩
    obtain ⟨hv, hg1, hg2⟩ := hB
    go_wp2_with fail
    have hb := ((Below.refl w7.heap.size w7).alloc (Nat.le_refl _) (.cells #[.int .i64 Z.1.lo, .int .i64 Z.1.hi] 23)).alloc (by simp) (.cells #[.int .i64 Z.2.lo, .int .i64 Z.2.hi] 23)
    have p0 : ((w7.alloc (.cells #[.int .i64 Z.1.lo, .int .i64 Z.1.hi] 23)).alloc (.cells #[.int .i64 Z.2.lo, .int .i64 Z.2.hi] 23)).cell? ⟨w7.heap.size, 0, none⟩ = some (.int .i64 Z.1.lo) := by simp
    have p1 : ((w7.alloc (.cells #[.int .i64 Z.1.lo, .int .i64 Z.1.hi] 23)).alloc (.cells #[.int .i64 Z.2.lo, .int .i64 Z.2.hi] 23)).cell? ⟨w7.heap.size, 1, none⟩ = some (.int .i64 Z.1.hi) := by simp
    have q0 : ((w7.alloc (.cells #[.int .i64 Z.1.lo, .int .i64 Z.1.hi] 23)).alloc (.cells #[.int .i64 Z.2.lo, .int .i64 Z.2.hi] 23)).cell? ⟨w7.heap.size + 1, 0, none⟩ = some (.int .i64 Z.2.lo) := by simp
    have q1 : ((w7.alloc (.cells #[.int .i64 Z.1.lo, .int .i64 Z.1.hi] 23)).alloc (.cells #[.int .i64 Z.2.lo, .int .i64 Z.2.hi] 23)).cell? ⟨w7.heap.size + 1, 1, none⟩ = some (.int .i64 Z.2.hi) := by simp
    have x0 := hL.cell (by simp) hb x0
    have x1 := hL.cell (by simp) hb x1
    have y0 := hL.cell (by simp) hb y0
    have y1 := hL.cell (by simp) hb y1
    have hL : Lts w [g1, g2, w7.heap.size, w7.heap.size + 1] ((w7.alloc (.cells #[.int .i64 Z.1.lo, .int .i64 Z.1.hi] 23)).alloc (.cells #[.int .i64 Z.2.lo, .int .i64 Z.2.hi] 23)) :=
      ⟨(hL.below hb).1, by have h := hL.2; simp at h; simp; omega⟩
    clear hb hv hg1 hg2
    generalize (w7.alloc (.cells #[.int .i64 Z.1.lo, .int .i64 Z.1.hi] 23)).alloc (.cells #[.int .i64 Z.2.lo, .int .i64 Z.2.hi] 23) = v at *
    generalize w7.heap.size + 1 = g4 at *
    generalize w7.heap.size = g3 at *
    go_wp2_with fail
    refine (iHas_any Z.1.lo Z.1.hi i true F1.out _).mono ?_
    rintro e u1 ⟨rfl, hb⟩
    have x0 := hL.cell (by simp) hb x0; have x1 := hL.cell (by simp) hb x1; have y0 := hL.cell (by simp) hb y0; have y1 := hL.cell (by simp) hb y1; have p0 := hL.cell (by simp) hb p0; have p1 := hL.cell (by simp) hb p1; have q0 := hL.cell (by simp) hb q0; have q1 := hL.cell (by simp) hb q1
    have hL := hL.below hb
    clear hb
    go_wp2_with fail
    refine (iHas_any Z.2.lo Z.2.hi k true F2.out _).mono ?_
    rintro e u2 ⟨rfl, hb⟩
    have x0 := hL.cell (by simp) hb x0; have x1 := hL.cell (by simp) hb x1; have y0 := hL.cell (by simp) hb y0; have y1 := hL.cell (by simp) hb y1; have p0 := hL.cell (by simp) hb p0; have p1 := hL.cell (by simp) hb p1; have q0 := hL.cell (by simp) hb q0; have q1 := hL.cell (by simp) hb q1
    have hL := hL.below hb
    clear hb
    go_wp2_with fail
    refine (iLeq_any Z.1.lo Z.1.hi x.lo x.hi true F3.out _).mono ?_
    rintro e u3 ⟨rfl, hb⟩
    have x0 := hL.cell (by simp) hb x0; have x1 := hL.cell (by simp) hb x1; have y0 := hL.cell (by simp) hb y0; have y1 := hL.cell (by simp) hb y1; have p0 := hL.cell (by simp) hb p0; have p1 := hL.cell (by simp) hb p1; have q0 := hL.cell (by simp) hb q0; have q1 := hL.cell (by simp) hb q1
    have hL := hL.below hb
    clear hb
    go_wp2_with fail
    refine (iLeq_any Z.2.lo Z.2.hi y.lo y.hi true F4.out _).mono ?_
    rintro e u4 ⟨rfl, hb⟩
    have x0 := hL.cell (by simp) hb x0; have x1 := hL.cell (by simp) hb x1; have y0 := hL.cell (by simp) hb y0; have y1 := hL.cell (by simp) hb y1; have p0 := hL.cell (by simp) hb p0; have p1 := hL.cell (by simp) hb p1; have q0 := hL.cell (by simp) hb q0; have q1 := hL.cell (by simp) hb q1
    have hL := hL.below hb
    clear hb
    go_wp2_with fail
    refine (partner_any _ Z.1.lo _ y F5.out F7.out _).mono ?_
    rintro e u5 ⟨rfl, hb⟩
    have x0 := hL.cell (by simp) hb x0; have x1 := hL.cell (by simp) hb x1; have y0 := hL.cell (by simp) hb y0; have y1 := hL.cell (by simp) hb y1; have p0 := hL.cell (by simp) hb p0; have p1 := hL.cell (by simp) hb p1; have q0 := hL.cell (by simp) hb q0; have q1 := hL.cell (by simp) hb q1
    have hL := hL.below hb
    clear hb
    go_wp2_with fail
    refine (partner_any _ Z.1.hi _ y F6.out F8.out _).mono ?_
    rintro e u6 ⟨rfl, hb⟩
    have x0 := hL.cell (by simp) hb x0; have x1 := hL.cell (by simp) hb x1; have y0 := hL.cell (by simp) hb y0; have y1 := hL.cell (by simp) hb y1; have p0 := hL.cell (by simp) hb p0; have p1 := hL.cell (by simp) hb p1; have q0 := hL.cell (by simp) hb q0; have q1 := hL.cell (by simp) hb q1
    have hL := hL.below hb
    clear hb
    go_wp2_with fail
    refine (awake_any _).mono ?_
    rintro e u7 ⟨rfl, hb⟩
    have hL := hL.below hb
    go_wp2
    go_ret
    exact ⟨rfl, hL.1⟩
end Go.Proofs.Ytdajgopgaklipaa
