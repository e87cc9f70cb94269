/- The walk of the law IntervalSound: it answers true. No condition. -/
import Derived.Test.YtdajgopgaklipaaIvPair
import Derived.Deep.RegionWith
namespace Go.Proofs.Ytdajgopgaklipaa
open Go.RowKit
set_option linter.unusedVariables false
set_option linter.unusedSimpArgs false
attribute [local go_sem] y_undef
/-- Behind what was made: nothing that was there before has turned, and the two blocks are there. -/
def Beh (w : World) (g1 g2 : Nat) (w' : World) : Prop := Below w.heap.size w w' ∧ g1 < w'.heap.size ∧ g2 < w'.heap.size
theorem Beh.below {w a b : World} {g1 g2 : Nat} (h : Beh w g1 g2 a) (hb : Below a.heap.size a b) : Beh w g1 g2 b := ⟨h.1.trans (hb.mono h.1.size), Nat.lt_of_lt_of_le h.2.1 hb.size, Nat.lt_of_lt_of_le h.2.2 hb.size⟩
theorem Beh.drew {w a : World} {g1 g2 : Nat} (h : Beh w g1 g2 a) : Beh w g1 g2 a.drew := h.below (below_drewN _ a 1)
theorem Beh.cell1 {w a b : World} {g1 g2 o : Nat} {u : Value} (h : Beh w g1 g2 a) (hb : Below a.heap.size a b) (hc : a.cell? ⟨g1, o, none⟩ = some u) : b.cell? ⟨g1, o, none⟩ = some u := (hb.cell (p := ⟨g1, o, none⟩) h.2.1).trans hc
theorem Beh.cell2 {w a b : World} {g1 g2 o : Nat} {u : Value} (h : Beh w g1 g2 a) (hb : Below a.heap.size a b) (hc : a.cell? ⟨g2, o, none⟩ = some u) : b.cell? ⟨g2, o, none⟩ = some u := (hb.cell (p := ⟨g2, o, none⟩) h.2.2).trans hc
set_option maxRecDepth 100000 in
set_option maxHeartbeats 16000000 in
theorem sound_law (o a b c d h0 h1 m n : Int) (ho : 0 ≤ o ∧ o ≤ 255) (ha : -2147483648 ≤ a ∧ a ≤ 2147483647) (hb : -2147483648 ≤ b ∧ b ≤ 2147483647) (hc : -2147483648 ≤ c ∧ c ≤ 2147483647) (hd : -2147483648 ≤ d ∧ d ≤ 2147483647)
    (hh0 : 0 ≤ h0 ∧ h0 ≤ 255) (hh1 : 0 ≤ h1 ∧ h1 ≤ 255) (hm : 0 ≤ m ∧ m ≤ 4294967295) (hn : 0 ≤ n ∧ n ≤ 4294967295) (w : World) :
    Calls Try.prog 5 #[.int .u8 o, .int .i32 a, .int .i32 b, .int .i32 c, .int .i32 d, .agg #[.int .u8 h0, .int .u8 h1], .int .u32 m, .int .u32 n] w fun e w' => e = .returned (.bool true) ∧ Below w.heap.size w w' := by
  have hA := (Ahead.refl w).alloc (.cells #[.int .u8 h0, .int .u8 h1] 27)
  have HX := Lib.hid (of_any a b h0 ha hb hh0)
  have HY := Lib.hid (of_any c d h1 hc hd hh1)
  have HM := Lib.hid hm
  have HN := Lib.hid hn
  obtain ⟨o1, o2⟩ := ho
  clear ha hb hc hd hh0 hh1 hm hn
  have hg := iv_guard
  go_enter Try.func5, Try.ntmps5
  go_wp2_with fail
  rename_i K1 hK1
  refine' (fun (HK : ∀ (x y : Iv) (g1 g2 : Nat) (w' : World), Iv.Ok x → Iv.Ok y → Two w x y g1 g2 w' → K1 { tmps := #[.int .u8 o, .int .i32 a, .int .i32 b, .int .i32 c, .int .i32 d, .agg #[.int .u8 h0, .int .u8 h1], .int .u32 m, .int .u32 n, undef, undef, undef, undef, undef, .pointer (some ⟨w.heap.size, 0, none⟩), undef, undef, .bool false, .pointer (some ⟨g1, 0, none⟩), .pointer (some ⟨g2, 0, none⟩), undef, undef, undef, .int .i32 a, .int .i32 b, .pointer (some ⟨w.heap.size, 0, none⟩), .int .u8 h0, .agg #[.int .i64 (x).lo, .int .i64 (x).hi], .int .i32 c, .int .i32 d, .pointer (some ⟨w.heap.size, 1, none⟩), .int .u8 h1, .agg #[.int .i64 (y).lo, .int .i64 (y).hi], undef, undef, undef, undef, undef, undef, undef, undef, undef, undef, undef, undef, undef, undef, undef, undef, undef, undef, undef, undef, undef, undef, undef, undef, undef, undef, undef, undef, undef, undef, undef, undef, undef, undef, undef, undef, undef, undef, undef, undef, undef, undef, undef, undef, undef, undef, undef, undef, undef, undef, undef], defers := [] } w') => ?_) (fun x y g1 g2 w' hx hy hw' => ?_)
  focus
    clear hK1
    have hI : Inv w h0 h1 none none (w.alloc (.cells #[.int .u8 h0, .int .u8 h1] 27)).drew := ⟨⟨⟨by simp, by simp⟩, hA.drew⟩, trivial, trivial, fun _ _ h => by cases h⟩
    clear hA
    refine wp_region_held_drew (S := fun w' => Arr w h0 h1 w') (by kernel_rfl) hI.1 (fun hHeld => ?_)
    generalize (w.alloc (.cells #[.int .u8 h0, .int .u8 h1] 27)).drew = u0 at *
    refine' wpAnyH_take (i := 0) (v := _) ?_ ?_ ?_ ?_ ?_ ?_ ?_ ?_
    rotate_left 2
    focus (simp only [List.getElem?_toArray, List.getElem?_cons_succ, List.getElem?_cons_zero]; rfl)
    focus kernel_rfl
    focus kernel_rfl
    focus kernel_rfl
    focus exact (fun _ _ _ h => h)
    refine Or.inl ⟨?_, ?_⟩
    focus (go_simp; done)
    focus (intro w hSw; obtain ⟨⟨a0, a1⟩, _⟩ := hSw; (first | (go_simp; done) | (go_simp; with_reducible rfl)))
    focus assumption
    (try simp only [Act.put, List.setIfInBounds_toArray, List.set_cons_zero, List.set_cons_succ])
    refine' wpAnyH_take (i := 1) (v := _) ?_ ?_ ?_ ?_ ?_ ?_ ?_ ?_
    rotate_left 2
    focus (simp only [List.getElem?_toArray, List.getElem?_cons_succ, List.getElem?_cons_zero]; rfl)
    focus kernel_rfl
    focus kernel_rfl
    focus kernel_rfl
    focus exact (fun _ _ _ h => h)
    refine Or.inl ⟨?_, ?_⟩
    focus (go_simp; done)
    focus (intro w hSw; obtain ⟨⟨a0, a1⟩, _⟩ := hSw; (first | (go_simp; done) | (go_simp; with_reducible rfl)))
    focus assumption
    (try simp only [Act.put, List.setIfInBounds_toArray, List.set_cons_zero, List.set_cons_succ])
    refine' wpAnyH_take (i := 2) (v := _) ?_ ?_ ?_ ?_ ?_ ?_ ?_ ?_
    rotate_left 2
    focus (simp only [List.getElem?_toArray, List.getElem?_cons_succ, List.getElem?_cons_zero]; rfl)
    focus kernel_rfl
    focus kernel_rfl
    focus kernel_rfl
    focus exact (fun _ _ _ h => h)
    refine Or.inl ⟨?_, ?_⟩
    focus (go_simp; done)
    focus (intro w hSw; obtain ⟨⟨a0, a1⟩, _⟩ := hSw; (first | (go_simp; done) | (go_simp; with_reducible rfl)))
    focus assumption
    (try simp only [Act.put, List.setIfInBounds_toArray, List.set_cons_zero, List.set_cons_succ])
    refine' wpAnyH_take (i := 3) (v := _) ?_ ?_ ?_ ?_ ?_ ?_ ?_ ?_
    rotate_left 2
    focus (simp only [List.getElem?_toArray, List.getElem?_cons_succ, List.getElem?_cons_zero]; rfl)
    focus kernel_rfl
    focus kernel_rfl
    focus kernel_rfl
    focus exact (fun _ _ _ h => h)
    refine Or.inl ⟨?_, ?_⟩
    focus (go_simp; done)
    focus (intro w hSw; obtain ⟨⟨a0, a1⟩, _⟩ := hSw; (first | (go_simp; done) | (go_simp; with_reducible rfl)))
    focus assumption
    (try simp only [Act.put, List.setIfInBounds_toArray, List.set_cons_zero, List.set_cons_succ])
    refine' wpAnyH_take (i := 5) (v := _) ?_ ?_ ?_ ?_ ?_ ?_ ?_ ?_
    rotate_left 2
    focus (simp only [List.getElem?_toArray, List.getElem?_cons_succ, List.getElem?_cons_zero]; rfl)
    focus kernel_rfl
    focus kernel_rfl
    focus kernel_rfl
    focus exact (fun _ _ _ h => h)
    refine Or.inl ⟨?_, ?_⟩
    focus (go_simp; done)
    focus (intro w hSw; obtain ⟨⟨a0, a1⟩, _⟩ := hSw; (first | (go_simp; done) | (go_simp; with_reducible rfl)))
    focus assumption
    (try simp only [Act.put, List.setIfInBounds_toArray, List.set_cons_zero, List.set_cons_succ])
    refine' wpAnyH_take (i := 6) (v := _) ?_ ?_ ?_ ?_ ?_ ?_ ?_ ?_
    rotate_left 2
    focus (simp only [List.getElem?_toArray, List.getElem?_cons_succ, List.getElem?_cons_zero]; rfl)
    focus kernel_rfl
    focus kernel_rfl
    focus kernel_rfl
    focus exact (fun _ _ _ h => h)
    refine Or.inl ⟨?_, ?_⟩
    focus (go_simp; done)
    focus (intro w hSw; obtain ⟨⟨a0, a1⟩, _⟩ := hSw; (first | (go_simp; done) | (go_simp; with_reducible rfl)))
    focus assumption
    (try simp only [Act.put, List.setIfInBounds_toArray, List.set_cons_zero, List.set_cons_succ])
    refine' wpAnyH_take (i := 7) (v := _) ?_ ?_ ?_ ?_ ?_ ?_ ?_ ?_
    rotate_left 2
    focus (simp only [List.getElem?_toArray, List.getElem?_cons_succ, List.getElem?_cons_zero]; rfl)
    focus kernel_rfl
    focus kernel_rfl
    focus kernel_rfl
    focus exact (fun _ _ _ h => h)
    refine Or.inl ⟨?_, ?_⟩
    focus (go_simp; done)
    focus (intro w hSw; obtain ⟨⟨a0, a1⟩, _⟩ := hSw; (first | (go_simp; done) | (go_simp; with_reducible rfl)))
    focus assumption
    (try simp only [Act.put, List.setIfInBounds_toArray, List.set_cons_zero, List.set_cons_succ])
    refine' wpAnyH_take (i := 8) (v := _) ?_ ?_ ?_ ?_ ?_ ?_ ?_ ?_
    rotate_left 2
    focus (simp only [List.getElem?_toArray, List.getElem?_cons_succ, List.getElem?_cons_zero]; rfl)
    focus kernel_rfl
    focus kernel_rfl
    focus kernel_rfl
    focus exact (fun _ _ _ h => h)
    refine Or.inl ⟨?_, ?_⟩
    focus (go_simp; done)
    focus (intro w hSw; obtain ⟨⟨a0, a1⟩, _⟩ := hSw; (first | (go_simp; done) | (go_simp; with_reducible rfl)))
    focus assumption
    (try simp only [Act.put, List.setIfInBounds_toArray, List.set_cons_zero, List.set_cons_succ])
    refine wpAnyH_ready (rs := [4, 10, 11]) (by kernel_rfl) (by simp) ?_
    refine' AllReadyH.cons ?_ (fun K hK => ?_) ?_
    rotate_left
    focus (simp only [List.getElem?_toArray, List.getElem?_cons_succ, List.getElem?_cons_zero]; rfl)
    focus
      go_simp
      refine Calls.mono (HX.out _) ?_
      rintro e u1 ⟨x, hx, rfl, hb⟩
      replace hI := hI.below hb
      refine hK.out _ _ hI.1 (fun hHeld => ?_)
      clear hK K hb
      (try simp only [Act.put, List.setIfInBounds_toArray, List.set_cons_zero, List.set_cons_succ])
      refine wpAnyH_ready (rs := [9, 10, 11]) (by kernel_rfl) (by simp) ?_
      refine' AllReadyH.cons ?_ (fun K hK => ?_) ?_
      rotate_left
      focus (simp only [List.getElem?_toArray, List.getElem?_cons_succ, List.getElem?_cons_zero]; rfl)
      focus
        go_simp
        refine Calls.mono (HY.out _) ?_
        rintro e u2 ⟨y, hy, rfl, hb⟩
        replace hI := hI.below hb
        refine hK.out _ _ hI.1 (fun hHeld => ?_)
        clear hK K hb
        (try simp only [Act.put, List.setIfInBounds_toArray, List.set_cons_zero, List.set_cons_succ])
        refine wpAnyH_ready (rs := [10, 11]) (by kernel_rfl) (by simp) ?_
        refine' AllReadyH.cons ?_ (fun K hK => ?_) ?_
        rotate_left
        focus (simp only [List.getElem?_toArray, List.getElem?_cons_succ, List.getElem?_cons_zero]; rfl)
        focus
          go_simp
          replace hI := hI.make1
          refine hK.out _ _ hI.1 (fun hHeld => ?_)
          clear hK K
          (try simp only [Act.put, List.setIfInBounds_toArray, List.set_cons_zero, List.set_cons_succ])
          generalize u2.alloc (.cells #[.int .i64 0, .int .i64 0] 23) = u3 at *
          generalize u2.heap.size = g1 at *
          refine wpAnyH_ready (rs := [11]) (by kernel_rfl) (by simp) ?_
          refine' AllReadyH.cons ?_ (fun K hK => ?_) ?_
          rotate_left
          focus (simp only [List.getElem?_toArray, List.getElem?_cons_succ, List.getElem?_cons_zero]; rfl)
          focus
            go_simp
            replace hI := hI.make2
            refine hK.out _ _ hI.1 (fun hHeld => ?_)
            clear hK K
            (try simp only [Act.put, List.setIfInBounds_toArray, List.set_cons_zero, List.set_cons_succ])
            generalize u3.alloc (.cells #[.int .i64 0, .int .i64 0] 23) = u4 at *
            generalize u3.heap.size = g2 at *
            obtain ⟨hI1, ⟨p1, p2, p3, p4, p5⟩, ⟨q1, q2, q3, q4, q5⟩, hne⟩ := hI
            have hne := hne g1 g2 rfl rfl
            refine wpAnyH_ready (rs := [12]) (by kernel_rfl) (by simp) ?_
            refine' AllReadyH.cons ?_ (fun K hK => ?_) AllReadyH.nil
            rotate_left
            focus (simp only [List.getElem?_toArray, List.getElem?_cons_succ, List.getElem?_cons_zero]; rfl)
            go_simp
            have hI2 := hI1.set2 (x := .int .i64 x.lo) (y := .int .i64 x.hi) p1
            have r1 := set_pair p3 p4 (x := .int .i64 x.lo) (y := .int .i64 x.hi)
            have q3 := (far2 (o := 0) (o1 := 0) (o2 := 1) (v1 := .int .i64 x.lo) (v2 := .int .i64 x.hi) hne).trans q3
            have q4 := (far2 (o := 1) (o1 := 0) (o2 := 1) (v1 := .int .i64 x.lo) (v2 := .int .i64 x.hi) hne).trans q4
            have q5 : ∀ o, ((u4.setCell ⟨g1, 0, none⟩ (.int .i64 x.lo)).setCell ⟨g1, 1, none⟩ (.int .i64 x.hi)).frozen? ⟨g2, o, none⟩ = false := fun o => by simpa using q5 o
            have s1 : g1 < ((u4.setCell ⟨g1, 0, none⟩ (.int .i64 x.lo)).setCell ⟨g1, 1, none⟩ (.int .i64 x.hi)).heap.size := by simpa using p2
            have s2 : g2 < ((u4.setCell ⟨g1, 0, none⟩ (.int .i64 x.lo)).setCell ⟨g1, 1, none⟩ (.int .i64 x.hi)).heap.size := by simpa using q2
            refine hK.out _ _ hI2 (fun hHeld => ?_)
            clear hK K p3 p4 p5 hI1
            (try simp only [Act.put, List.setIfInBounds_toArray, List.set_cons_zero, List.set_cons_succ])
            generalize (u4.setCell ⟨g1, 0, none⟩ (.int .i64 x.lo)).setCell ⟨g1, 1, none⟩ (.int .i64 x.hi) = v at *
            refine wpAnyH_ready (rs := [13]) (by kernel_rfl) (by simp) ?_
            refine' AllReadyH.cons ?_ (fun K hK => ?_) AllReadyH.nil
            rotate_left
            focus (simp only [List.getElem?_toArray, List.getElem?_cons_succ, List.getElem?_cons_zero]; rfl)
            go_simp
            have hI3 := hI2.set2 (x := .int .i64 y.lo) (y := .int .i64 y.hi) q1
            refine hK.out _ _ hI3 (fun hHeld => ?_)
            clear hK K
            (try simp only [Act.put, List.setIfInBounds_toArray, List.set_cons_zero, List.set_cons_succ])
            refine wpAnyH_done (by kernel_rfl) ?_ _
            exact HK x y g1 g2 _ hx hy ⟨hI3.2.1, ⟨(far2 (Ne.symm hne)).trans r1.1, (far2 (Ne.symm hne)).trans r1.2⟩, set_pair q3 q4, by simpa using s1, by simpa using s2⟩
          exact AllReadyH.nil
        refine' AllReadyH.cons ?_ (fun K hK => ?_) ?_
        rotate_left
        focus (simp only [List.getElem?_toArray, List.getElem?_cons_succ, List.getElem?_cons_zero]; rfl)
        focus
          go_simp
          replace hI := hI.make2
          refine hK.out _ _ hI.1 (fun hHeld => ?_)
          clear hK K
          (try simp only [Act.put, List.setIfInBounds_toArray, List.set_cons_zero, List.set_cons_succ])
          generalize u2.alloc (.cells #[.int .i64 0, .int .i64 0] 23) = u5 at *
          generalize u2.heap.size = g2 at *
          refine wpAnyH_ready (rs := [10]) (by kernel_rfl) (by simp) ?_
          refine' AllReadyH.cons ?_ (fun K hK => ?_) ?_
          rotate_left
          focus (simp only [List.getElem?_toArray, List.getElem?_cons_succ, List.getElem?_cons_zero]; rfl)
          focus
            go_simp
            replace hI := hI.make1
            refine hK.out _ _ hI.1 (fun hHeld => ?_)
            clear hK K
            (try simp only [Act.put, List.setIfInBounds_toArray, List.set_cons_zero, List.set_cons_succ])
            generalize u5.alloc (.cells #[.int .i64 0, .int .i64 0] 23) = u6 at *
            generalize u5.heap.size = g1 at *
            obtain ⟨hI1, ⟨p1, p2, p3, p4, p5⟩, ⟨q1, q2, q3, q4, q5⟩, hne⟩ := hI
            have hne := hne g1 g2 rfl rfl
            refine wpAnyH_ready (rs := [12]) (by kernel_rfl) (by simp) ?_
            refine' AllReadyH.cons ?_ (fun K hK => ?_) AllReadyH.nil
            rotate_left
            focus (simp only [List.getElem?_toArray, List.getElem?_cons_succ, List.getElem?_cons_zero]; rfl)
            go_simp
            have hI2 := hI1.set2 (x := .int .i64 x.lo) (y := .int .i64 x.hi) p1
            have r1 := set_pair p3 p4 (x := .int .i64 x.lo) (y := .int .i64 x.hi)
            have q3 := (far2 (o := 0) (o1 := 0) (o2 := 1) (v1 := .int .i64 x.lo) (v2 := .int .i64 x.hi) hne).trans q3
            have q4 := (far2 (o := 1) (o1 := 0) (o2 := 1) (v1 := .int .i64 x.lo) (v2 := .int .i64 x.hi) hne).trans q4
            have q5 : ∀ o, ((u6.setCell ⟨g1, 0, none⟩ (.int .i64 x.lo)).setCell ⟨g1, 1, none⟩ (.int .i64 x.hi)).frozen? ⟨g2, o, none⟩ = false := fun o => by simpa using q5 o
            have s1 : g1 < ((u6.setCell ⟨g1, 0, none⟩ (.int .i64 x.lo)).setCell ⟨g1, 1, none⟩ (.int .i64 x.hi)).heap.size := by simpa using p2
            have s2 : g2 < ((u6.setCell ⟨g1, 0, none⟩ (.int .i64 x.lo)).setCell ⟨g1, 1, none⟩ (.int .i64 x.hi)).heap.size := by simpa using q2
            refine hK.out _ _ hI2 (fun hHeld => ?_)
            clear hK K p3 p4 p5 hI1
            (try simp only [Act.put, List.setIfInBounds_toArray, List.set_cons_zero, List.set_cons_succ])
            generalize (u6.setCell ⟨g1, 0, none⟩ (.int .i64 x.lo)).setCell ⟨g1, 1, none⟩ (.int .i64 x.hi) = v at *
            refine wpAnyH_ready (rs := [13]) (by kernel_rfl) (by simp) ?_
            refine' AllReadyH.cons ?_ (fun K hK => ?_) AllReadyH.nil
            rotate_left
            focus (simp only [List.getElem?_toArray, List.getElem?_cons_succ, List.getElem?_cons_zero]; rfl)
            go_simp
            have hI3 := hI2.set2 (x := .int .i64 y.lo) (y := .int .i64 y.hi) q1
            refine hK.out _ _ hI3 (fun hHeld => ?_)
            clear hK K
            (try simp only [Act.put, List.setIfInBounds_toArray, List.set_cons_zero, List.set_cons_succ])
            refine wpAnyH_done (by kernel_rfl) ?_ _
            exact HK x y g1 g2 _ hx hy ⟨hI3.2.1, ⟨(far2 (Ne.symm hne)).trans r1.1, (far2 (Ne.symm hne)).trans r1.2⟩, set_pair q3 q4, by simpa using s1, by simpa using s2⟩
          exact AllReadyH.nil
        exact AllReadyH.nil
      refine' AllReadyH.cons ?_ (fun K hK => ?_) ?_
      rotate_left
      focus (simp only [List.getElem?_toArray, List.getElem?_cons_succ, List.getElem?_cons_zero]; rfl)
      focus
        go_simp
        replace hI := hI.make1
        refine hK.out _ _ hI.1 (fun hHeld => ?_)
        clear hK K
        (try simp only [Act.put, List.setIfInBounds_toArray, List.set_cons_zero, List.set_cons_succ])
        generalize u1.alloc (.cells #[.int .i64 0, .int .i64 0] 23) = u7 at *
        generalize u1.heap.size = g1 at *
        refine wpAnyH_ready (rs := [9, 11]) (by kernel_rfl) (by simp) ?_
        refine' AllReadyH.cons ?_ (fun K hK => ?_) ?_
        rotate_left
        focus (simp only [List.getElem?_toArray, List.getElem?_cons_succ, List.getElem?_cons_zero]; rfl)
        focus
          go_simp
          refine Calls.mono (HY.out _) ?_
          rintro e u8 ⟨y, hy, rfl, hb⟩
          replace hI := hI.below hb
          refine hK.out _ _ hI.1 (fun hHeld => ?_)
          clear hK K hb
          (try simp only [Act.put, List.setIfInBounds_toArray, List.set_cons_zero, List.set_cons_succ])
          refine wpAnyH_ready (rs := [11]) (by kernel_rfl) (by simp) ?_
          refine' AllReadyH.cons ?_ (fun K hK => ?_) ?_
          rotate_left
          focus (simp only [List.getElem?_toArray, List.getElem?_cons_succ, List.getElem?_cons_zero]; rfl)
          focus
            go_simp
            replace hI := hI.make2
            refine hK.out _ _ hI.1 (fun hHeld => ?_)
            clear hK K
            (try simp only [Act.put, List.setIfInBounds_toArray, List.set_cons_zero, List.set_cons_succ])
            generalize u8.alloc (.cells #[.int .i64 0, .int .i64 0] 23) = u9 at *
            generalize u8.heap.size = g2 at *
            obtain ⟨hI1, ⟨p1, p2, p3, p4, p5⟩, ⟨q1, q2, q3, q4, q5⟩, hne⟩ := hI
            have hne := hne g1 g2 rfl rfl
            refine wpAnyH_ready (rs := [12]) (by kernel_rfl) (by simp) ?_
            refine' AllReadyH.cons ?_ (fun K hK => ?_) AllReadyH.nil
            rotate_left
            focus (simp only [List.getElem?_toArray, List.getElem?_cons_succ, List.getElem?_cons_zero]; rfl)
            go_simp
            have hI2 := hI1.set2 (x := .int .i64 x.lo) (y := .int .i64 x.hi) p1
            have r1 := set_pair p3 p4 (x := .int .i64 x.lo) (y := .int .i64 x.hi)
            have q3 := (far2 (o := 0) (o1 := 0) (o2 := 1) (v1 := .int .i64 x.lo) (v2 := .int .i64 x.hi) hne).trans q3
            have q4 := (far2 (o := 1) (o1 := 0) (o2 := 1) (v1 := .int .i64 x.lo) (v2 := .int .i64 x.hi) hne).trans q4
            have q5 : ∀ o, ((u9.setCell ⟨g1, 0, none⟩ (.int .i64 x.lo)).setCell ⟨g1, 1, none⟩ (.int .i64 x.hi)).frozen? ⟨g2, o, none⟩ = false := fun o => by simpa using q5 o
            have s1 : g1 < ((u9.setCell ⟨g1, 0, none⟩ (.int .i64 x.lo)).setCell ⟨g1, 1, none⟩ (.int .i64 x.hi)).heap.size := by simpa using p2
            have s2 : g2 < ((u9.setCell ⟨g1, 0, none⟩ (.int .i64 x.lo)).setCell ⟨g1, 1, none⟩ (.int .i64 x.hi)).heap.size := by simpa using q2
            refine hK.out _ _ hI2 (fun hHeld => ?_)
            clear hK K p3 p4 p5 hI1
            (try simp only [Act.put, List.setIfInBounds_toArray, List.set_cons_zero, List.set_cons_succ])
            generalize (u9.setCell ⟨g1, 0, none⟩ (.int .i64 x.lo)).setCell ⟨g1, 1, none⟩ (.int .i64 x.hi) = v at *
            refine wpAnyH_ready (rs := [13]) (by kernel_rfl) (by simp) ?_
            refine' AllReadyH.cons ?_ (fun K hK => ?_) AllReadyH.nil
            rotate_left
            focus (simp only [List.getElem?_toArray, List.getElem?_cons_succ, List.getElem?_cons_zero]; rfl)
            go_simp
            have hI3 := hI2.set2 (x := .int .i64 y.lo) (y := .int .i64 y.hi) q1
            refine hK.out _ _ hI3 (fun hHeld => ?_)
            clear hK K
            (try simp only [Act.put, List.setIfInBounds_toArray, List.set_cons_zero, List.set_cons_succ])
            refine wpAnyH_done (by kernel_rfl) ?_ _
            exact HK x y g1 g2 _ hx hy ⟨hI3.2.1, ⟨(far2 (Ne.symm hne)).trans r1.1, (far2 (Ne.symm hne)).trans r1.2⟩, set_pair q3 q4, by simpa using s1, by simpa using s2⟩
          exact AllReadyH.nil
        refine' AllReadyH.cons ?_ (fun K hK => ?_) ?_
        rotate_left
        focus (simp only [List.getElem?_toArray, List.getElem?_cons_succ, List.getElem?_cons_zero]; rfl)
        focus
          go_simp
          replace hI := hI.make2
          refine hK.out _ _ hI.1 (fun hHeld => ?_)
          clear hK K
          (try simp only [Act.put, List.setIfInBounds_toArray, List.set_cons_zero, List.set_cons_succ])
          generalize u7.alloc (.cells #[.int .i64 0, .int .i64 0] 23) = u10 at *
          generalize u7.heap.size = g2 at *
          refine wpAnyH_ready (rs := [9]) (by kernel_rfl) (by simp) ?_
          refine' AllReadyH.cons ?_ (fun K hK => ?_) ?_
          rotate_left
          focus (simp only [List.getElem?_toArray, List.getElem?_cons_succ, List.getElem?_cons_zero]; rfl)
          focus
            go_simp
            refine Calls.mono (HY.out _) ?_
            rintro e u11 ⟨y, hy, rfl, hb⟩
            replace hI := hI.below hb
            refine hK.out _ _ hI.1 (fun hHeld => ?_)
            clear hK K hb
            (try simp only [Act.put, List.setIfInBounds_toArray, List.set_cons_zero, List.set_cons_succ])
            obtain ⟨hI1, ⟨p1, p2, p3, p4, p5⟩, ⟨q1, q2, q3, q4, q5⟩, hne⟩ := hI
            have hne := hne g1 g2 rfl rfl
            refine wpAnyH_ready (rs := [12]) (by kernel_rfl) (by simp) ?_
            refine' AllReadyH.cons ?_ (fun K hK => ?_) AllReadyH.nil
            rotate_left
            focus (simp only [List.getElem?_toArray, List.getElem?_cons_succ, List.getElem?_cons_zero]; rfl)
            go_simp
            have hI2 := hI1.set2 (x := .int .i64 x.lo) (y := .int .i64 x.hi) p1
            have r1 := set_pair p3 p4 (x := .int .i64 x.lo) (y := .int .i64 x.hi)
            have q3 := (far2 (o := 0) (o1 := 0) (o2 := 1) (v1 := .int .i64 x.lo) (v2 := .int .i64 x.hi) hne).trans q3
            have q4 := (far2 (o := 1) (o1 := 0) (o2 := 1) (v1 := .int .i64 x.lo) (v2 := .int .i64 x.hi) hne).trans q4
            have q5 : ∀ o, ((u11.setCell ⟨g1, 0, none⟩ (.int .i64 x.lo)).setCell ⟨g1, 1, none⟩ (.int .i64 x.hi)).frozen? ⟨g2, o, none⟩ = false := fun o => by simpa using q5 o
            have s1 : g1 < ((u11.setCell ⟨g1, 0, none⟩ (.int .i64 x.lo)).setCell ⟨g1, 1, none⟩ (.int .i64 x.hi)).heap.size := by simpa using p2
            have s2 : g2 < ((u11.setCell ⟨g1, 0, none⟩ (.int .i64 x.lo)).setCell ⟨g1, 1, none⟩ (.int .i64 x.hi)).heap.size := by simpa using q2
            refine hK.out _ _ hI2 (fun hHeld => ?_)
            clear hK K p3 p4 p5 hI1
            (try simp only [Act.put, List.setIfInBounds_toArray, List.set_cons_zero, List.set_cons_succ])
            generalize (u11.setCell ⟨g1, 0, none⟩ (.int .i64 x.lo)).setCell ⟨g1, 1, none⟩ (.int .i64 x.hi) = v at *
            refine wpAnyH_ready (rs := [13]) (by kernel_rfl) (by simp) ?_
            refine' AllReadyH.cons ?_ (fun K hK => ?_) AllReadyH.nil
            rotate_left
            focus (simp only [List.getElem?_toArray, List.getElem?_cons_succ, List.getElem?_cons_zero]; rfl)
            go_simp
            have hI3 := hI2.set2 (x := .int .i64 y.lo) (y := .int .i64 y.hi) q1
            refine hK.out _ _ hI3 (fun hHeld => ?_)
            clear hK K
            (try simp only [Act.put, List.setIfInBounds_toArray, List.set_cons_zero, List.set_cons_succ])
            refine wpAnyH_done (by kernel_rfl) ?_ _
            exact HK x y g1 g2 _ hx hy ⟨hI3.2.1, ⟨(far2 (Ne.symm hne)).trans r1.1, (far2 (Ne.symm hne)).trans r1.2⟩, set_pair q3 q4, by simpa using s1, by simpa using s2⟩
          exact AllReadyH.nil
        exact AllReadyH.nil
      refine' AllReadyH.cons ?_ (fun K hK => ?_) ?_
      rotate_left
      focus (simp only [List.getElem?_toArray, List.getElem?_cons_succ, List.getElem?_cons_zero]; rfl)
      focus
        go_simp
        replace hI := hI.make2
        refine hK.out _ _ hI.1 (fun hHeld => ?_)
        clear hK K
        (try simp only [Act.put, List.setIfInBounds_toArray, List.set_cons_zero, List.set_cons_succ])
        generalize u1.alloc (.cells #[.int .i64 0, .int .i64 0] 23) = u12 at *
        generalize u1.heap.size = g2 at *
        refine wpAnyH_ready (rs := [9, 10]) (by kernel_rfl) (by simp) ?_
        refine' AllReadyH.cons ?_ (fun K hK => ?_) ?_
        rotate_left
        focus (simp only [List.getElem?_toArray, List.getElem?_cons_succ, List.getElem?_cons_zero]; rfl)
        focus
          go_simp
          refine Calls.mono (HY.out _) ?_
          rintro e u13 ⟨y, hy, rfl, hb⟩
          replace hI := hI.below hb
          refine hK.out _ _ hI.1 (fun hHeld => ?_)
          clear hK K hb
          (try simp only [Act.put, List.setIfInBounds_toArray, List.set_cons_zero, List.set_cons_succ])
          refine wpAnyH_ready (rs := [10]) (by kernel_rfl) (by simp) ?_
          refine' AllReadyH.cons ?_ (fun K hK => ?_) ?_
          rotate_left
          focus (simp only [List.getElem?_toArray, List.getElem?_cons_succ, List.getElem?_cons_zero]; rfl)
          focus
            go_simp
            replace hI := hI.make1
            refine hK.out _ _ hI.1 (fun hHeld => ?_)
            clear hK K
            (try simp only [Act.put, List.setIfInBounds_toArray, List.set_cons_zero, List.set_cons_succ])
            generalize u13.alloc (.cells #[.int .i64 0, .int .i64 0] 23) = u14 at *
            generalize u13.heap.size = g1 at *
            obtain ⟨hI1, ⟨p1, p2, p3, p4, p5⟩, ⟨q1, q2, q3, q4, q5⟩, hne⟩ := hI
            have hne := hne g1 g2 rfl rfl
            refine wpAnyH_ready (rs := [12]) (by kernel_rfl) (by simp) ?_
            refine' AllReadyH.cons ?_ (fun K hK => ?_) AllReadyH.nil
            rotate_left
            focus (simp only [List.getElem?_toArray, List.getElem?_cons_succ, List.getElem?_cons_zero]; rfl)
            go_simp
            have hI2 := hI1.set2 (x := .int .i64 x.lo) (y := .int .i64 x.hi) p1
            have r1 := set_pair p3 p4 (x := .int .i64 x.lo) (y := .int .i64 x.hi)
            have q3 := (far2 (o := 0) (o1 := 0) (o2 := 1) (v1 := .int .i64 x.lo) (v2 := .int .i64 x.hi) hne).trans q3
            have q4 := (far2 (o := 1) (o1 := 0) (o2 := 1) (v1 := .int .i64 x.lo) (v2 := .int .i64 x.hi) hne).trans q4
            have q5 : ∀ o, ((u14.setCell ⟨g1, 0, none⟩ (.int .i64 x.lo)).setCell ⟨g1, 1, none⟩ (.int .i64 x.hi)).frozen? ⟨g2, o, none⟩ = false := fun o => by simpa using q5 o
            have s1 : g1 < ((u14.setCell ⟨g1, 0, none⟩ (.int .i64 x.lo)).setCell ⟨g1, 1, none⟩ (.int .i64 x.hi)).heap.size := by simpa using p2
            have s2 : g2 < ((u14.setCell ⟨g1, 0, none⟩ (.int .i64 x.lo)).setCell ⟨g1, 1, none⟩ (.int .i64 x.hi)).heap.size := by simpa using q2
            refine hK.out _ _ hI2 (fun hHeld => ?_)
            clear hK K p3 p4 p5 hI1
            (try simp only [Act.put, List.setIfInBounds_toArray, List.set_cons_zero, List.set_cons_succ])
            generalize (u14.setCell ⟨g1, 0, none⟩ (.int .i64 x.lo)).setCell ⟨g1, 1, none⟩ (.int .i64 x.hi) = v at *
            refine wpAnyH_ready (rs := [13]) (by kernel_rfl) (by simp) ?_
            refine' AllReadyH.cons ?_ (fun K hK => ?_) AllReadyH.nil
            rotate_left
            focus (simp only [List.getElem?_toArray, List.getElem?_cons_succ, List.getElem?_cons_zero]; rfl)
            go_simp
            have hI3 := hI2.set2 (x := .int .i64 y.lo) (y := .int .i64 y.hi) q1
            refine hK.out _ _ hI3 (fun hHeld => ?_)
            clear hK K
            (try simp only [Act.put, List.setIfInBounds_toArray, List.set_cons_zero, List.set_cons_succ])
            refine wpAnyH_done (by kernel_rfl) ?_ _
            exact HK x y g1 g2 _ hx hy ⟨hI3.2.1, ⟨(far2 (Ne.symm hne)).trans r1.1, (far2 (Ne.symm hne)).trans r1.2⟩, set_pair q3 q4, by simpa using s1, by simpa using s2⟩
          exact AllReadyH.nil
        refine' AllReadyH.cons ?_ (fun K hK => ?_) ?_
        rotate_left
        focus (simp only [List.getElem?_toArray, List.getElem?_cons_succ, List.getElem?_cons_zero]; rfl)
        focus
          go_simp
          replace hI := hI.make1
          refine hK.out _ _ hI.1 (fun hHeld => ?_)
          clear hK K
          (try simp only [Act.put, List.setIfInBounds_toArray, List.set_cons_zero, List.set_cons_succ])
          generalize u12.alloc (.cells #[.int .i64 0, .int .i64 0] 23) = u15 at *
          generalize u12.heap.size = g1 at *
          refine wpAnyH_ready (rs := [9]) (by kernel_rfl) (by simp) ?_
          refine' AllReadyH.cons ?_ (fun K hK => ?_) ?_
          rotate_left
          focus (simp only [List.getElem?_toArray, List.getElem?_cons_succ, List.getElem?_cons_zero]; rfl)
          focus
            go_simp
            refine Calls.mono (HY.out _) ?_
            rintro e u16 ⟨y, hy, rfl, hb⟩
            replace hI := hI.below hb
            refine hK.out _ _ hI.1 (fun hHeld => ?_)
            clear hK K hb
            (try simp only [Act.put, List.setIfInBounds_toArray, List.set_cons_zero, List.set_cons_succ])
            obtain ⟨hI1, ⟨p1, p2, p3, p4, p5⟩, ⟨q1, q2, q3, q4, q5⟩, hne⟩ := hI
            have hne := hne g1 g2 rfl rfl
            refine wpAnyH_ready (rs := [12]) (by kernel_rfl) (by simp) ?_
            refine' AllReadyH.cons ?_ (fun K hK => ?_) AllReadyH.nil
            rotate_left
            focus (simp only [List.getElem?_toArray, List.getElem?_cons_succ, List.getElem?_cons_zero]; rfl)
            go_simp
            have hI2 := hI1.set2 (x := .int .i64 x.lo) (y := .int .i64 x.hi) p1
            have r1 := set_pair p3 p4 (x := .int .i64 x.lo) (y := .int .i64 x.hi)
            have q3 := (far2 (o := 0) (o1 := 0) (o2 := 1) (v1 := .int .i64 x.lo) (v2 := .int .i64 x.hi) hne).trans q3
            have q4 := (far2 (o := 1) (o1 := 0) (o2 := 1) (v1 := .int .i64 x.lo) (v2 := .int .i64 x.hi) hne).trans q4
            have q5 : ∀ o, ((u16.setCell ⟨g1, 0, none⟩ (.int .i64 x.lo)).setCell ⟨g1, 1, none⟩ (.int .i64 x.hi)).frozen? ⟨g2, o, none⟩ = false := fun o => by simpa using q5 o
            have s1 : g1 < ((u16.setCell ⟨g1, 0, none⟩ (.int .i64 x.lo)).setCell ⟨g1, 1, none⟩ (.int .i64 x.hi)).heap.size := by simpa using p2
            have s2 : g2 < ((u16.setCell ⟨g1, 0, none⟩ (.int .i64 x.lo)).setCell ⟨g1, 1, none⟩ (.int .i64 x.hi)).heap.size := by simpa using q2
            refine hK.out _ _ hI2 (fun hHeld => ?_)
            clear hK K p3 p4 p5 hI1
            (try simp only [Act.put, List.setIfInBounds_toArray, List.set_cons_zero, List.set_cons_succ])
            generalize (u16.setCell ⟨g1, 0, none⟩ (.int .i64 x.lo)).setCell ⟨g1, 1, none⟩ (.int .i64 x.hi) = v at *
            refine wpAnyH_ready (rs := [13]) (by kernel_rfl) (by simp) ?_
            refine' AllReadyH.cons ?_ (fun K hK => ?_) AllReadyH.nil
            rotate_left
            focus (simp only [List.getElem?_toArray, List.getElem?_cons_succ, List.getElem?_cons_zero]; rfl)
            go_simp
            have hI3 := hI2.set2 (x := .int .i64 y.lo) (y := .int .i64 y.hi) q1
            refine hK.out _ _ hI3 (fun hHeld => ?_)
            clear hK K
            (try simp only [Act.put, List.setIfInBounds_toArray, List.set_cons_zero, List.set_cons_succ])
            refine wpAnyH_done (by kernel_rfl) ?_ _
            exact HK x y g1 g2 _ hx hy ⟨hI3.2.1, ⟨(far2 (Ne.symm hne)).trans r1.1, (far2 (Ne.symm hne)).trans r1.2⟩, set_pair q3 q4, by simpa using s1, by simpa using s2⟩
          exact AllReadyH.nil
        exact AllReadyH.nil
      exact AllReadyH.nil
    refine' AllReadyH.cons ?_ (fun K hK => ?_) ?_
    rotate_left
    focus (simp only [List.getElem?_toArray, List.getElem?_cons_succ, List.getElem?_cons_zero]; rfl)
    focus
      go_simp
      replace hI := hI.make1
      refine hK.out _ _ hI.1 (fun hHeld => ?_)
      clear hK K
      (try simp only [Act.put, List.setIfInBounds_toArray, List.set_cons_zero, List.set_cons_succ])
      generalize u0.alloc (.cells #[.int .i64 0, .int .i64 0] 23) = u17 at *
      generalize u0.heap.size = g1 at *
      refine wpAnyH_ready (rs := [4, 11]) (by kernel_rfl) (by simp) ?_
      refine' AllReadyH.cons ?_ (fun K hK => ?_) ?_
      rotate_left
      focus (simp only [List.getElem?_toArray, List.getElem?_cons_succ, List.getElem?_cons_zero]; rfl)
      focus
        go_simp
        refine Calls.mono (HX.out _) ?_
        rintro e u18 ⟨x, hx, rfl, hb⟩
        replace hI := hI.below hb
        refine hK.out _ _ hI.1 (fun hHeld => ?_)
        clear hK K hb
        (try simp only [Act.put, List.setIfInBounds_toArray, List.set_cons_zero, List.set_cons_succ])
        refine wpAnyH_ready (rs := [9, 11]) (by kernel_rfl) (by simp) ?_
        refine' AllReadyH.cons ?_ (fun K hK => ?_) ?_
        rotate_left
        focus (simp only [List.getElem?_toArray, List.getElem?_cons_succ, List.getElem?_cons_zero]; rfl)
        focus
          go_simp
          refine Calls.mono (HY.out _) ?_
          rintro e u19 ⟨y, hy, rfl, hb⟩
          replace hI := hI.below hb
          refine hK.out _ _ hI.1 (fun hHeld => ?_)
          clear hK K hb
          (try simp only [Act.put, List.setIfInBounds_toArray, List.set_cons_zero, List.set_cons_succ])
          refine wpAnyH_ready (rs := [11]) (by kernel_rfl) (by simp) ?_
          refine' AllReadyH.cons ?_ (fun K hK => ?_) ?_
          rotate_left
          focus (simp only [List.getElem?_toArray, List.getElem?_cons_succ, List.getElem?_cons_zero]; rfl)
          focus
            go_simp
            replace hI := hI.make2
            refine hK.out _ _ hI.1 (fun hHeld => ?_)
            clear hK K
            (try simp only [Act.put, List.setIfInBounds_toArray, List.set_cons_zero, List.set_cons_succ])
            generalize u19.alloc (.cells #[.int .i64 0, .int .i64 0] 23) = u20 at *
            generalize u19.heap.size = g2 at *
            obtain ⟨hI1, ⟨p1, p2, p3, p4, p5⟩, ⟨q1, q2, q3, q4, q5⟩, hne⟩ := hI
            have hne := hne g1 g2 rfl rfl
            refine wpAnyH_ready (rs := [12]) (by kernel_rfl) (by simp) ?_
            refine' AllReadyH.cons ?_ (fun K hK => ?_) AllReadyH.nil
            rotate_left
            focus (simp only [List.getElem?_toArray, List.getElem?_cons_succ, List.getElem?_cons_zero]; rfl)
            go_simp
            have hI2 := hI1.set2 (x := .int .i64 x.lo) (y := .int .i64 x.hi) p1
            have r1 := set_pair p3 p4 (x := .int .i64 x.lo) (y := .int .i64 x.hi)
            have q3 := (far2 (o := 0) (o1 := 0) (o2 := 1) (v1 := .int .i64 x.lo) (v2 := .int .i64 x.hi) hne).trans q3
            have q4 := (far2 (o := 1) (o1 := 0) (o2 := 1) (v1 := .int .i64 x.lo) (v2 := .int .i64 x.hi) hne).trans q4
            have q5 : ∀ o, ((u20.setCell ⟨g1, 0, none⟩ (.int .i64 x.lo)).setCell ⟨g1, 1, none⟩ (.int .i64 x.hi)).frozen? ⟨g2, o, none⟩ = false := fun o => by simpa using q5 o
            have s1 : g1 < ((u20.setCell ⟨g1, 0, none⟩ (.int .i64 x.lo)).setCell ⟨g1, 1, none⟩ (.int .i64 x.hi)).heap.size := by simpa using p2
            have s2 : g2 < ((u20.setCell ⟨g1, 0, none⟩ (.int .i64 x.lo)).setCell ⟨g1, 1, none⟩ (.int .i64 x.hi)).heap.size := by simpa using q2
            refine hK.out _ _ hI2 (fun hHeld => ?_)
            clear hK K p3 p4 p5 hI1
            (try simp only [Act.put, List.setIfInBounds_toArray, List.set_cons_zero, List.set_cons_succ])
            generalize (u20.setCell ⟨g1, 0, none⟩ (.int .i64 x.lo)).setCell ⟨g1, 1, none⟩ (.int .i64 x.hi) = v at *
            refine wpAnyH_ready (rs := [13]) (by kernel_rfl) (by simp) ?_
            refine' AllReadyH.cons ?_ (fun K hK => ?_) AllReadyH.nil
            rotate_left
            focus (simp only [List.getElem?_toArray, List.getElem?_cons_succ, List.getElem?_cons_zero]; rfl)
            go_simp
            have hI3 := hI2.set2 (x := .int .i64 y.lo) (y := .int .i64 y.hi) q1
            refine hK.out _ _ hI3 (fun hHeld => ?_)
            clear hK K
            (try simp only [Act.put, List.setIfInBounds_toArray, List.set_cons_zero, List.set_cons_succ])
            refine wpAnyH_done (by kernel_rfl) ?_ _
            exact HK x y g1 g2 _ hx hy ⟨hI3.2.1, ⟨(far2 (Ne.symm hne)).trans r1.1, (far2 (Ne.symm hne)).trans r1.2⟩, set_pair q3 q4, by simpa using s1, by simpa using s2⟩
          exact AllReadyH.nil
        refine' AllReadyH.cons ?_ (fun K hK => ?_) ?_
        rotate_left
        focus (simp only [List.getElem?_toArray, List.getElem?_cons_succ, List.getElem?_cons_zero]; rfl)
        focus
          go_simp
          replace hI := hI.make2
          refine hK.out _ _ hI.1 (fun hHeld => ?_)
          clear hK K
          (try simp only [Act.put, List.setIfInBounds_toArray, List.set_cons_zero, List.set_cons_succ])
          generalize u18.alloc (.cells #[.int .i64 0, .int .i64 0] 23) = u21 at *
          generalize u18.heap.size = g2 at *
          refine wpAnyH_ready (rs := [9]) (by kernel_rfl) (by simp) ?_
          refine' AllReadyH.cons ?_ (fun K hK => ?_) ?_
          rotate_left
          focus (simp only [List.getElem?_toArray, List.getElem?_cons_succ, List.getElem?_cons_zero]; rfl)
          focus
            go_simp
            refine Calls.mono (HY.out _) ?_
            rintro e u22 ⟨y, hy, rfl, hb⟩
            replace hI := hI.below hb
            refine hK.out _ _ hI.1 (fun hHeld => ?_)
            clear hK K hb
            (try simp only [Act.put, List.setIfInBounds_toArray, List.set_cons_zero, List.set_cons_succ])
            obtain ⟨hI1, ⟨p1, p2, p3, p4, p5⟩, ⟨q1, q2, q3, q4, q5⟩, hne⟩ := hI
            have hne := hne g1 g2 rfl rfl
            refine wpAnyH_ready (rs := [12]) (by kernel_rfl) (by simp) ?_
            refine' AllReadyH.cons ?_ (fun K hK => ?_) AllReadyH.nil
            rotate_left
            focus (simp only [List.getElem?_toArray, List.getElem?_cons_succ, List.getElem?_cons_zero]; rfl)
            go_simp
            have hI2 := hI1.set2 (x := .int .i64 x.lo) (y := .int .i64 x.hi) p1
            have r1 := set_pair p3 p4 (x := .int .i64 x.lo) (y := .int .i64 x.hi)
            have q3 := (far2 (o := 0) (o1 := 0) (o2 := 1) (v1 := .int .i64 x.lo) (v2 := .int .i64 x.hi) hne).trans q3
            have q4 := (far2 (o := 1) (o1 := 0) (o2 := 1) (v1 := .int .i64 x.lo) (v2 := .int .i64 x.hi) hne).trans q4
            have q5 : ∀ o, ((u22.setCell ⟨g1, 0, none⟩ (.int .i64 x.lo)).setCell ⟨g1, 1, none⟩ (.int .i64 x.hi)).frozen? ⟨g2, o, none⟩ = false := fun o => by simpa using q5 o
            have s1 : g1 < ((u22.setCell ⟨g1, 0, none⟩ (.int .i64 x.lo)).setCell ⟨g1, 1, none⟩ (.int .i64 x.hi)).heap.size := by simpa using p2
            have s2 : g2 < ((u22.setCell ⟨g1, 0, none⟩ (.int .i64 x.lo)).setCell ⟨g1, 1, none⟩ (.int .i64 x.hi)).heap.size := by simpa using q2
            refine hK.out _ _ hI2 (fun hHeld => ?_)
            clear hK K p3 p4 p5 hI1
            (try simp only [Act.put, List.setIfInBounds_toArray, List.set_cons_zero, List.set_cons_succ])
            generalize (u22.setCell ⟨g1, 0, none⟩ (.int .i64 x.lo)).setCell ⟨g1, 1, none⟩ (.int .i64 x.hi) = v at *
            refine wpAnyH_ready (rs := [13]) (by kernel_rfl) (by simp) ?_
            refine' AllReadyH.cons ?_ (fun K hK => ?_) AllReadyH.nil
            rotate_left
            focus (simp only [List.getElem?_toArray, List.getElem?_cons_succ, List.getElem?_cons_zero]; rfl)
            go_simp
            have hI3 := hI2.set2 (x := .int .i64 y.lo) (y := .int .i64 y.hi) q1
            refine hK.out _ _ hI3 (fun hHeld => ?_)
            clear hK K
            (try simp only [Act.put, List.setIfInBounds_toArray, List.set_cons_zero, List.set_cons_succ])
            refine wpAnyH_done (by kernel_rfl) ?_ _
            exact HK x y g1 g2 _ hx hy ⟨hI3.2.1, ⟨(far2 (Ne.symm hne)).trans r1.1, (far2 (Ne.symm hne)).trans r1.2⟩, set_pair q3 q4, by simpa using s1, by simpa using s2⟩
          exact AllReadyH.nil
        exact AllReadyH.nil
      refine' AllReadyH.cons ?_ (fun K hK => ?_) ?_
      rotate_left
      focus (simp only [List.getElem?_toArray, List.getElem?_cons_succ, List.getElem?_cons_zero]; rfl)
      focus
        go_simp
        replace hI := hI.make2
        refine hK.out _ _ hI.1 (fun hHeld => ?_)
        clear hK K
        (try simp only [Act.put, List.setIfInBounds_toArray, List.set_cons_zero, List.set_cons_succ])
        generalize u17.alloc (.cells #[.int .i64 0, .int .i64 0] 23) = u23 at *
        generalize u17.heap.size = g2 at *
        refine wpAnyH_ready (rs := [4]) (by kernel_rfl) (by simp) ?_
        refine' AllReadyH.cons ?_ (fun K hK => ?_) ?_
        rotate_left
        focus (simp only [List.getElem?_toArray, List.getElem?_cons_succ, List.getElem?_cons_zero]; rfl)
        focus
          go_simp
          refine Calls.mono (HX.out _) ?_
          rintro e u24 ⟨x, hx, rfl, hb⟩
          replace hI := hI.below hb
          refine hK.out _ _ hI.1 (fun hHeld => ?_)
          clear hK K hb
          (try simp only [Act.put, List.setIfInBounds_toArray, List.set_cons_zero, List.set_cons_succ])
          refine wpAnyH_ready (rs := [9]) (by kernel_rfl) (by simp) ?_
          refine' AllReadyH.cons ?_ (fun K hK => ?_) ?_
          rotate_left
          focus (simp only [List.getElem?_toArray, List.getElem?_cons_succ, List.getElem?_cons_zero]; rfl)
          focus
            go_simp
            refine Calls.mono (HY.out _) ?_
            rintro e u25 ⟨y, hy, rfl, hb⟩
            replace hI := hI.below hb
            refine hK.out _ _ hI.1 (fun hHeld => ?_)
            clear hK K hb
            (try simp only [Act.put, List.setIfInBounds_toArray, List.set_cons_zero, List.set_cons_succ])
            obtain ⟨hI1, ⟨p1, p2, p3, p4, p5⟩, ⟨q1, q2, q3, q4, q5⟩, hne⟩ := hI
            have hne := hne g1 g2 rfl rfl
            refine wpAnyH_ready (rs := [12]) (by kernel_rfl) (by simp) ?_
            refine' AllReadyH.cons ?_ (fun K hK => ?_) AllReadyH.nil
            rotate_left
            focus (simp only [List.getElem?_toArray, List.getElem?_cons_succ, List.getElem?_cons_zero]; rfl)
            go_simp
            have hI2 := hI1.set2 (x := .int .i64 x.lo) (y := .int .i64 x.hi) p1
            have r1 := set_pair p3 p4 (x := .int .i64 x.lo) (y := .int .i64 x.hi)
            have q3 := (far2 (o := 0) (o1 := 0) (o2 := 1) (v1 := .int .i64 x.lo) (v2 := .int .i64 x.hi) hne).trans q3
            have q4 := (far2 (o := 1) (o1 := 0) (o2 := 1) (v1 := .int .i64 x.lo) (v2 := .int .i64 x.hi) hne).trans q4
            have q5 : ∀ o, ((u25.setCell ⟨g1, 0, none⟩ (.int .i64 x.lo)).setCell ⟨g1, 1, none⟩ (.int .i64 x.hi)).frozen? ⟨g2, o, none⟩ = false := fun o => by simpa using q5 o
            have s1 : g1 < ((u25.setCell ⟨g1, 0, none⟩ (.int .i64 x.lo)).setCell ⟨g1, 1, none⟩ (.int .i64 x.hi)).heap.size := by simpa using p2
            have s2 : g2 < ((u25.setCell ⟨g1, 0, none⟩ (.int .i64 x.lo)).setCell ⟨g1, 1, none⟩ (.int .i64 x.hi)).heap.size := by simpa using q2
            refine hK.out _ _ hI2 (fun hHeld => ?_)
            clear hK K p3 p4 p5 hI1
            (try simp only [Act.put, List.setIfInBounds_toArray, List.set_cons_zero, List.set_cons_succ])
            generalize (u25.setCell ⟨g1, 0, none⟩ (.int .i64 x.lo)).setCell ⟨g1, 1, none⟩ (.int .i64 x.hi) = v at *
            refine wpAnyH_ready (rs := [13]) (by kernel_rfl) (by simp) ?_
            refine' AllReadyH.cons ?_ (fun K hK => ?_) AllReadyH.nil
            rotate_left
            focus (simp only [List.getElem?_toArray, List.getElem?_cons_succ, List.getElem?_cons_zero]; rfl)
            go_simp
            have hI3 := hI2.set2 (x := .int .i64 y.lo) (y := .int .i64 y.hi) q1
            refine hK.out _ _ hI3 (fun hHeld => ?_)
            clear hK K
            (try simp only [Act.put, List.setIfInBounds_toArray, List.set_cons_zero, List.set_cons_succ])
            refine wpAnyH_done (by kernel_rfl) ?_ _
            exact HK x y g1 g2 _ hx hy ⟨hI3.2.1, ⟨(far2 (Ne.symm hne)).trans r1.1, (far2 (Ne.symm hne)).trans r1.2⟩, set_pair q3 q4, by simpa using s1, by simpa using s2⟩
          exact AllReadyH.nil
        exact AllReadyH.nil
      exact AllReadyH.nil
    refine' AllReadyH.cons ?_ (fun K hK => ?_) ?_
    rotate_left
    focus (simp only [List.getElem?_toArray, List.getElem?_cons_succ, List.getElem?_cons_zero]; rfl)
    focus
      go_simp
      replace hI := hI.make2
      refine hK.out _ _ hI.1 (fun hHeld => ?_)
      clear hK K
      (try simp only [Act.put, List.setIfInBounds_toArray, List.set_cons_zero, List.set_cons_succ])
      generalize u0.alloc (.cells #[.int .i64 0, .int .i64 0] 23) = u26 at *
      generalize u0.heap.size = g2 at *
      refine wpAnyH_ready (rs := [4, 10]) (by kernel_rfl) (by simp) ?_
      refine' AllReadyH.cons ?_ (fun K hK => ?_) ?_
      rotate_left
      focus (simp only [List.getElem?_toArray, List.getElem?_cons_succ, List.getElem?_cons_zero]; rfl)
      focus
        go_simp
        refine Calls.mono (HX.out _) ?_
        rintro e u27 ⟨x, hx, rfl, hb⟩
        replace hI := hI.below hb
        refine hK.out _ _ hI.1 (fun hHeld => ?_)
        clear hK K hb
        (try simp only [Act.put, List.setIfInBounds_toArray, List.set_cons_zero, List.set_cons_succ])
        refine wpAnyH_ready (rs := [9, 10]) (by kernel_rfl) (by simp) ?_
        refine' AllReadyH.cons ?_ (fun K hK => ?_) ?_
        rotate_left
        focus (simp only [List.getElem?_toArray, List.getElem?_cons_succ, List.getElem?_cons_zero]; rfl)
        focus
          go_simp
          refine Calls.mono (HY.out _) ?_
          rintro e u28 ⟨y, hy, rfl, hb⟩
          replace hI := hI.below hb
          refine hK.out _ _ hI.1 (fun hHeld => ?_)
          clear hK K hb
          (try simp only [Act.put, List.setIfInBounds_toArray, List.set_cons_zero, List.set_cons_succ])
          refine wpAnyH_ready (rs := [10]) (by kernel_rfl) (by simp) ?_
          refine' AllReadyH.cons ?_ (fun K hK => ?_) ?_
          rotate_left
          focus (simp only [List.getElem?_toArray, List.getElem?_cons_succ, List.getElem?_cons_zero]; rfl)
          focus
            go_simp
            replace hI := hI.make1
            refine hK.out _ _ hI.1 (fun hHeld => ?_)
            clear hK K
            (try simp only [Act.put, List.setIfInBounds_toArray, List.set_cons_zero, List.set_cons_succ])
            generalize u28.alloc (.cells #[.int .i64 0, .int .i64 0] 23) = u29 at *
            generalize u28.heap.size = g1 at *
            obtain ⟨hI1, ⟨p1, p2, p3, p4, p5⟩, ⟨q1, q2, q3, q4, q5⟩, hne⟩ := hI
            have hne := hne g1 g2 rfl rfl
            refine wpAnyH_ready (rs := [12]) (by kernel_rfl) (by simp) ?_
            refine' AllReadyH.cons ?_ (fun K hK => ?_) AllReadyH.nil
            rotate_left
            focus (simp only [List.getElem?_toArray, List.getElem?_cons_succ, List.getElem?_cons_zero]; rfl)
            go_simp
            have hI2 := hI1.set2 (x := .int .i64 x.lo) (y := .int .i64 x.hi) p1
            have r1 := set_pair p3 p4 (x := .int .i64 x.lo) (y := .int .i64 x.hi)
            have q3 := (far2 (o := 0) (o1 := 0) (o2 := 1) (v1 := .int .i64 x.lo) (v2 := .int .i64 x.hi) hne).trans q3
            have q4 := (far2 (o := 1) (o1 := 0) (o2 := 1) (v1 := .int .i64 x.lo) (v2 := .int .i64 x.hi) hne).trans q4
            have q5 : ∀ o, ((u29.setCell ⟨g1, 0, none⟩ (.int .i64 x.lo)).setCell ⟨g1, 1, none⟩ (.int .i64 x.hi)).frozen? ⟨g2, o, none⟩ = false := fun o => by simpa using q5 o
            have s1 : g1 < ((u29.setCell ⟨g1, 0, none⟩ (.int .i64 x.lo)).setCell ⟨g1, 1, none⟩ (.int .i64 x.hi)).heap.size := by simpa using p2
            have s2 : g2 < ((u29.setCell ⟨g1, 0, none⟩ (.int .i64 x.lo)).setCell ⟨g1, 1, none⟩ (.int .i64 x.hi)).heap.size := by simpa using q2
            refine hK.out _ _ hI2 (fun hHeld => ?_)
            clear hK K p3 p4 p5 hI1
            (try simp only [Act.put, List.setIfInBounds_toArray, List.set_cons_zero, List.set_cons_succ])
            generalize (u29.setCell ⟨g1, 0, none⟩ (.int .i64 x.lo)).setCell ⟨g1, 1, none⟩ (.int .i64 x.hi) = v at *
            refine wpAnyH_ready (rs := [13]) (by kernel_rfl) (by simp) ?_
            refine' AllReadyH.cons ?_ (fun K hK => ?_) AllReadyH.nil
            rotate_left
            focus (simp only [List.getElem?_toArray, List.getElem?_cons_succ, List.getElem?_cons_zero]; rfl)
            go_simp
            have hI3 := hI2.set2 (x := .int .i64 y.lo) (y := .int .i64 y.hi) q1
            refine hK.out _ _ hI3 (fun hHeld => ?_)
            clear hK K
            (try simp only [Act.put, List.setIfInBounds_toArray, List.set_cons_zero, List.set_cons_succ])
            refine wpAnyH_done (by kernel_rfl) ?_ _
            exact HK x y g1 g2 _ hx hy ⟨hI3.2.1, ⟨(far2 (Ne.symm hne)).trans r1.1, (far2 (Ne.symm hne)).trans r1.2⟩, set_pair q3 q4, by simpa using s1, by simpa using s2⟩
          exact AllReadyH.nil
        refine' AllReadyH.cons ?_ (fun K hK => ?_) ?_
        rotate_left
        focus (simp only [List.getElem?_toArray, List.getElem?_cons_succ, List.getElem?_cons_zero]; rfl)
        focus
          go_simp
          replace hI := hI.make1
          refine hK.out _ _ hI.1 (fun hHeld => ?_)
          clear hK K
          (try simp only [Act.put, List.setIfInBounds_toArray, List.set_cons_zero, List.set_cons_succ])
          generalize u27.alloc (.cells #[.int .i64 0, .int .i64 0] 23) = u30 at *
          generalize u27.heap.size = g1 at *
          refine wpAnyH_ready (rs := [9]) (by kernel_rfl) (by simp) ?_
          refine' AllReadyH.cons ?_ (fun K hK => ?_) ?_
          rotate_left
          focus (simp only [List.getElem?_toArray, List.getElem?_cons_succ, List.getElem?_cons_zero]; rfl)
          focus
            go_simp
            refine Calls.mono (HY.out _) ?_
            rintro e u31 ⟨y, hy, rfl, hb⟩
            replace hI := hI.below hb
            refine hK.out _ _ hI.1 (fun hHeld => ?_)
            clear hK K hb
            (try simp only [Act.put, List.setIfInBounds_toArray, List.set_cons_zero, List.set_cons_succ])
            obtain ⟨hI1, ⟨p1, p2, p3, p4, p5⟩, ⟨q1, q2, q3, q4, q5⟩, hne⟩ := hI
            have hne := hne g1 g2 rfl rfl
            refine wpAnyH_ready (rs := [12]) (by kernel_rfl) (by simp) ?_
            refine' AllReadyH.cons ?_ (fun K hK => ?_) AllReadyH.nil
            rotate_left
            focus (simp only [List.getElem?_toArray, List.getElem?_cons_succ, List.getElem?_cons_zero]; rfl)
            go_simp
            have hI2 := hI1.set2 (x := .int .i64 x.lo) (y := .int .i64 x.hi) p1
            have r1 := set_pair p3 p4 (x := .int .i64 x.lo) (y := .int .i64 x.hi)
            have q3 := (far2 (o := 0) (o1 := 0) (o2 := 1) (v1 := .int .i64 x.lo) (v2 := .int .i64 x.hi) hne).trans q3
            have q4 := (far2 (o := 1) (o1 := 0) (o2 := 1) (v1 := .int .i64 x.lo) (v2 := .int .i64 x.hi) hne).trans q4
            have q5 : ∀ o, ((u31.setCell ⟨g1, 0, none⟩ (.int .i64 x.lo)).setCell ⟨g1, 1, none⟩ (.int .i64 x.hi)).frozen? ⟨g2, o, none⟩ = false := fun o => by simpa using q5 o
            have s1 : g1 < ((u31.setCell ⟨g1, 0, none⟩ (.int .i64 x.lo)).setCell ⟨g1, 1, none⟩ (.int .i64 x.hi)).heap.size := by simpa using p2
            have s2 : g2 < ((u31.setCell ⟨g1, 0, none⟩ (.int .i64 x.lo)).setCell ⟨g1, 1, none⟩ (.int .i64 x.hi)).heap.size := by simpa using q2
            refine hK.out _ _ hI2 (fun hHeld => ?_)
            clear hK K p3 p4 p5 hI1
            (try simp only [Act.put, List.setIfInBounds_toArray, List.set_cons_zero, List.set_cons_succ])
            generalize (u31.setCell ⟨g1, 0, none⟩ (.int .i64 x.lo)).setCell ⟨g1, 1, none⟩ (.int .i64 x.hi) = v at *
            refine wpAnyH_ready (rs := [13]) (by kernel_rfl) (by simp) ?_
            refine' AllReadyH.cons ?_ (fun K hK => ?_) AllReadyH.nil
            rotate_left
            focus (simp only [List.getElem?_toArray, List.getElem?_cons_succ, List.getElem?_cons_zero]; rfl)
            go_simp
            have hI3 := hI2.set2 (x := .int .i64 y.lo) (y := .int .i64 y.hi) q1
            refine hK.out _ _ hI3 (fun hHeld => ?_)
            clear hK K
            (try simp only [Act.put, List.setIfInBounds_toArray, List.set_cons_zero, List.set_cons_succ])
            refine wpAnyH_done (by kernel_rfl) ?_ _
            exact HK x y g1 g2 _ hx hy ⟨hI3.2.1, ⟨(far2 (Ne.symm hne)).trans r1.1, (far2 (Ne.symm hne)).trans r1.2⟩, set_pair q3 q4, by simpa using s1, by simpa using s2⟩
          exact AllReadyH.nil
        exact AllReadyH.nil
      refine' AllReadyH.cons ?_ (fun K hK => ?_) ?_
      rotate_left
      focus (simp only [List.getElem?_toArray, List.getElem?_cons_succ, List.getElem?_cons_zero]; rfl)
      focus
        go_simp
        replace hI := hI.make1
        refine hK.out _ _ hI.1 (fun hHeld => ?_)
        clear hK K
        (try simp only [Act.put, List.setIfInBounds_toArray, List.set_cons_zero, List.set_cons_succ])
        generalize u26.alloc (.cells #[.int .i64 0, .int .i64 0] 23) = u32 at *
        generalize u26.heap.size = g1 at *
        refine wpAnyH_ready (rs := [4]) (by kernel_rfl) (by simp) ?_
        refine' AllReadyH.cons ?_ (fun K hK => ?_) ?_
        rotate_left
        focus (simp only [List.getElem?_toArray, List.getElem?_cons_succ, List.getElem?_cons_zero]; rfl)
        focus
          go_simp
          refine Calls.mono (HX.out _) ?_
          rintro e u33 ⟨x, hx, rfl, hb⟩
          replace hI := hI.below hb
          refine hK.out _ _ hI.1 (fun hHeld => ?_)
          clear hK K hb
          (try simp only [Act.put, List.setIfInBounds_toArray, List.set_cons_zero, List.set_cons_succ])
          refine wpAnyH_ready (rs := [9]) (by kernel_rfl) (by simp) ?_
          refine' AllReadyH.cons ?_ (fun K hK => ?_) ?_
          rotate_left
          focus (simp only [List.getElem?_toArray, List.getElem?_cons_succ, List.getElem?_cons_zero]; rfl)
          focus
            go_simp
            refine Calls.mono (HY.out _) ?_
            rintro e u34 ⟨y, hy, rfl, hb⟩
            replace hI := hI.below hb
            refine hK.out _ _ hI.1 (fun hHeld => ?_)
            clear hK K hb
            (try simp only [Act.put, List.setIfInBounds_toArray, List.set_cons_zero, List.set_cons_succ])
            obtain ⟨hI1, ⟨p1, p2, p3, p4, p5⟩, ⟨q1, q2, q3, q4, q5⟩, hne⟩ := hI
            have hne := hne g1 g2 rfl rfl
            refine wpAnyH_ready (rs := [12]) (by kernel_rfl) (by simp) ?_
            refine' AllReadyH.cons ?_ (fun K hK => ?_) AllReadyH.nil
            rotate_left
            focus (simp only [List.getElem?_toArray, List.getElem?_cons_succ, List.getElem?_cons_zero]; rfl)
            go_simp
            have hI2 := hI1.set2 (x := .int .i64 x.lo) (y := .int .i64 x.hi) p1
            have r1 := set_pair p3 p4 (x := .int .i64 x.lo) (y := .int .i64 x.hi)
            have q3 := (far2 (o := 0) (o1 := 0) (o2 := 1) (v1 := .int .i64 x.lo) (v2 := .int .i64 x.hi) hne).trans q3
            have q4 := (far2 (o := 1) (o1 := 0) (o2 := 1) (v1 := .int .i64 x.lo) (v2 := .int .i64 x.hi) hne).trans q4
            have q5 : ∀ o, ((u34.setCell ⟨g1, 0, none⟩ (.int .i64 x.lo)).setCell ⟨g1, 1, none⟩ (.int .i64 x.hi)).frozen? ⟨g2, o, none⟩ = false := fun o => by simpa using q5 o
            have s1 : g1 < ((u34.setCell ⟨g1, 0, none⟩ (.int .i64 x.lo)).setCell ⟨g1, 1, none⟩ (.int .i64 x.hi)).heap.size := by simpa using p2
            have s2 : g2 < ((u34.setCell ⟨g1, 0, none⟩ (.int .i64 x.lo)).setCell ⟨g1, 1, none⟩ (.int .i64 x.hi)).heap.size := by simpa using q2
            refine hK.out _ _ hI2 (fun hHeld => ?_)
            clear hK K p3 p4 p5 hI1
            (try simp only [Act.put, List.setIfInBounds_toArray, List.set_cons_zero, List.set_cons_succ])
            generalize (u34.setCell ⟨g1, 0, none⟩ (.int .i64 x.lo)).setCell ⟨g1, 1, none⟩ (.int .i64 x.hi) = v at *
            refine wpAnyH_ready (rs := [13]) (by kernel_rfl) (by simp) ?_
            refine' AllReadyH.cons ?_ (fun K hK => ?_) AllReadyH.nil
            rotate_left
            focus (simp only [List.getElem?_toArray, List.getElem?_cons_succ, List.getElem?_cons_zero]; rfl)
            go_simp
            have hI3 := hI2.set2 (x := .int .i64 y.lo) (y := .int .i64 y.hi) q1
            refine hK.out _ _ hI3 (fun hHeld => ?_)
            clear hK K
            (try simp only [Act.put, List.setIfInBounds_toArray, List.set_cons_zero, List.set_cons_succ])
            refine wpAnyH_done (by kernel_rfl) ?_ _
            exact HK x y g1 g2 _ hx hy ⟨hI3.2.1, ⟨(far2 (Ne.symm hne)).trans r1.1, (far2 (Ne.symm hne)).trans r1.2⟩, set_pair q3 q4, by simpa using s1, by simpa using s2⟩
          exact AllReadyH.nil
        exact AllReadyH.nil
      exact AllReadyH.nil
    exact AllReadyH.nil
  refine hK1 _ _ ?_
  obtain ⟨hv, ⟨x0, x1⟩, ⟨y0, y1⟩, hg1, hg2⟩ := hw'
  clear hK1 hA HX HY
  have hB : Beh w g1 g2 w' := ⟨hv, hg1, hg2⟩
  go_wp2_with fail
  rcases none_or hx hy with hz | ⟨hx2, hz⟩ | ⟨gx, gy⟩
  · skip
    have he := iv_eql x.lo x.hi 1 0 true (iv_is x hz)
    have HZ := Lib.hid hz
    clear hz
    have he3 := iv_eql 1 0 1 0 true (by decide)
    refine wp_region_held_drew (S := (fun w' => (w'.cell? ⟨g1, 0, none⟩ = some (.int .i64 x.lo) ∧ w'.cell? ⟨g1, 1, none⟩ = some (.int .i64 x.hi)) ∧ (w'.cell? ⟨g2, 0, none⟩ = some (.int .i64 y.lo) ∧ w'.cell? ⟨g2, 1, none⟩ = some (.int .i64 y.hi)) ∧ Beh w g1 g2 w')) (by kernel_rfl) (by exact ⟨⟨by simpa using x0, by simpa using x1⟩, ⟨by simpa using y0, by simpa using y1⟩, hB.drew⟩) (fun hHeld => ?_)
    first
      | (refine' wpAnyH_take (i := 0) (v := _) ?_ ?_ ?_ ?_ ?_ ?_ ?_ ?_; rotate_left 2; (focus (simp only [List.getElem?_toArray, List.getElem?_cons_succ, List.getElem?_cons_zero]; rfl)); (focus kernel_rfl); (focus kernel_rfl); (focus kernel_rfl); (focus exact (fun _ _ _ h => h)); refine Or.inl ⟨?_, ?_⟩; (focus (go_simp; done)); (focus (intro w hSw; (try dsimp only at hSw); (first | (go_simp; done) | (go_simp; with_reducible rfl)))); (focus assumption); (try simp only [Act.put, List.setIfInBounds_toArray, List.set_cons_zero, List.set_cons_succ]))
      | (refine' wpAnyH_take (i := 0) (v := undef) ?_ ?_ ?_ ?_ ?_ ?_ ?_ ?_; rotate_left 1; (focus (simp only [List.getElem?_toArray, List.getElem?_cons_succ, List.getElem?_cons_zero]; rfl)); (focus kernel_rfl); (focus kernel_rfl); (focus kernel_rfl); (focus exact (fun _ _ _ h => h)); refine Or.inr ⟨?_, rfl⟩; (focus (go_simp; done)); (focus assumption); (try simp only [Act.put, List.setIfInBounds_toArray, List.set_cons_zero, List.set_cons_succ]))
      | (refine wpAnyH_ready (rs := [0]) (by kernel_rfl) (by simp) ?_; refine' AllReadyH.cons ?_ (fun K hK => ?_) AllReadyH.nil; rotate_left; (focus (simp only [List.getElem?_toArray, List.getElem?_cons_succ, List.getElem?_cons_zero]; rfl)); go_simp; (go_at_call 12; refine (iNone_any _).mono ?_; rintro e w4 ⟨rfl, hb⟩); refine hK.out _ _ (by go_split_ands; exact ⟨⟨Beh.cell1 (by assumption) hb (by assumption), Beh.cell1 (by assumption) hb (by assumption)⟩, ⟨Beh.cell2 (by assumption) hb (by assumption), Beh.cell2 (by assumption) hb (by assumption)⟩, Beh.below (by assumption) hb⟩) (fun hHeld => ?_); clear hK K; (try simp only [Act.put, List.setIfInBounds_toArray, List.set_cons_zero, List.set_cons_succ]); clear hb)
      | fail "operation 0"
    first
      | (refine' wpAnyH_take (i := 1) (v := _) ?_ ?_ ?_ ?_ ?_ ?_ ?_ ?_; rotate_left 2; (focus (simp only [List.getElem?_toArray, List.getElem?_cons_succ, List.getElem?_cons_zero]; rfl)); (focus kernel_rfl); (focus kernel_rfl); (focus kernel_rfl); (focus exact (fun _ _ _ h => h)); refine Or.inl ⟨?_, ?_⟩; (focus (go_simp; done)); (focus (intro w hSw; (try dsimp only at hSw); (first | (go_simp; done) | (go_simp; with_reducible rfl)))); (focus assumption); (try simp only [Act.put, List.setIfInBounds_toArray, List.set_cons_zero, List.set_cons_succ]))
      | (refine' wpAnyH_take (i := 1) (v := undef) ?_ ?_ ?_ ?_ ?_ ?_ ?_ ?_; rotate_left 1; (focus (simp only [List.getElem?_toArray, List.getElem?_cons_succ, List.getElem?_cons_zero]; rfl)); (focus kernel_rfl); (focus kernel_rfl); (focus kernel_rfl); (focus exact (fun _ _ _ h => h)); refine Or.inr ⟨?_, rfl⟩; (focus (go_simp; done)); (focus assumption); (try simp only [Act.put, List.setIfInBounds_toArray, List.set_cons_zero, List.set_cons_succ]))
      | (refine wpAnyH_ready (rs := [1]) (by kernel_rfl) (by simp) ?_; refine' AllReadyH.cons ?_ (fun K hK => ?_) AllReadyH.nil; rotate_left; (focus (simp only [List.getElem?_toArray, List.getElem?_cons_succ, List.getElem?_cons_zero]; rfl)); go_simp; (go_at_call 12; refine (iNone_any _).mono ?_; rintro e w4 ⟨rfl, hb⟩); refine hK.out _ _ (by go_split_ands; exact ⟨⟨Beh.cell1 (by assumption) hb (by assumption), Beh.cell1 (by assumption) hb (by assumption)⟩, ⟨Beh.cell2 (by assumption) hb (by assumption), Beh.cell2 (by assumption) hb (by assumption)⟩, Beh.below (by assumption) hb⟩) (fun hHeld => ?_); clear hK K; (try simp only [Act.put, List.setIfInBounds_toArray, List.set_cons_zero, List.set_cons_succ]); clear hb)
      | fail "operation 1"
    first
      | (refine' wpAnyH_take (i := 2) (v := _) ?_ ?_ ?_ ?_ ?_ ?_ ?_ ?_; rotate_left 2; (focus (simp only [List.getElem?_toArray, List.getElem?_cons_succ, List.getElem?_cons_zero]; rfl)); (focus kernel_rfl); (focus kernel_rfl); (focus kernel_rfl); (focus exact (fun _ _ _ h => h)); refine Or.inl ⟨?_, ?_⟩; (focus (go_simp; done)); (focus (intro w hSw; (try dsimp only at hSw); (first | (go_simp; done) | (go_simp; with_reducible rfl)))); (focus assumption); (try simp only [Act.put, List.setIfInBounds_toArray, List.set_cons_zero, List.set_cons_succ]))
      | (refine' wpAnyH_take (i := 2) (v := undef) ?_ ?_ ?_ ?_ ?_ ?_ ?_ ?_; rotate_left 1; (focus (simp only [List.getElem?_toArray, List.getElem?_cons_succ, List.getElem?_cons_zero]; rfl)); (focus kernel_rfl); (focus kernel_rfl); (focus kernel_rfl); (focus exact (fun _ _ _ h => h)); refine Or.inr ⟨?_, rfl⟩; (focus (go_simp; done)); (focus assumption); (try simp only [Act.put, List.setIfInBounds_toArray, List.set_cons_zero, List.set_cons_succ]))
      | (refine wpAnyH_ready (rs := [2]) (by kernel_rfl) (by simp) ?_; refine' AllReadyH.cons ?_ (fun K hK => ?_) AllReadyH.nil; rotate_left; (focus (simp only [List.getElem?_toArray, List.getElem?_cons_succ, List.getElem?_cons_zero]; rfl)); go_simp; (go_at_call 12; refine (iNone_any _).mono ?_; rintro e w4 ⟨rfl, hb⟩); refine hK.out _ _ (by go_split_ands; exact ⟨⟨Beh.cell1 (by assumption) hb (by assumption), Beh.cell1 (by assumption) hb (by assumption)⟩, ⟨Beh.cell2 (by assumption) hb (by assumption), Beh.cell2 (by assumption) hb (by assumption)⟩, Beh.below (by assumption) hb⟩) (fun hHeld => ?_); clear hK K; (try simp only [Act.put, List.setIfInBounds_toArray, List.set_cons_zero, List.set_cons_succ]); clear hb)
      | fail "operation 2"
    first
      | (refine' wpAnyH_take (i := 3) (v := _) ?_ ?_ ?_ ?_ ?_ ?_ ?_ ?_; rotate_left 2; (focus (simp only [List.getElem?_toArray, List.getElem?_cons_succ, List.getElem?_cons_zero]; rfl)); (focus kernel_rfl); (focus kernel_rfl); (focus kernel_rfl); (focus exact (fun _ _ _ h => h)); refine Or.inl ⟨?_, ?_⟩; (focus (go_simp; done)); (focus (intro w hSw; (try dsimp only at hSw); (first | (go_simp; done) | (go_simp; with_reducible rfl)))); (focus assumption); (try simp only [Act.put, List.setIfInBounds_toArray, List.set_cons_zero, List.set_cons_succ]))
      | (refine' wpAnyH_take (i := 3) (v := undef) ?_ ?_ ?_ ?_ ?_ ?_ ?_ ?_; rotate_left 1; (focus (simp only [List.getElem?_toArray, List.getElem?_cons_succ, List.getElem?_cons_zero]; rfl)); (focus kernel_rfl); (focus kernel_rfl); (focus kernel_rfl); (focus exact (fun _ _ _ h => h)); refine Or.inr ⟨?_, rfl⟩; (focus (go_simp; done)); (focus assumption); (try simp only [Act.put, List.setIfInBounds_toArray, List.set_cons_zero, List.set_cons_succ]))
      | (refine wpAnyH_ready (rs := [3]) (by kernel_rfl) (by simp) ?_; refine' AllReadyH.cons ?_ (fun K hK => ?_) AllReadyH.nil; rotate_left; (focus (simp only [List.getElem?_toArray, List.getElem?_cons_succ, List.getElem?_cons_zero]; rfl)); go_simp; (go_at_call 12; refine (iNone_any _).mono ?_; rintro e w4 ⟨rfl, hb⟩); refine hK.out _ _ (by go_split_ands; exact ⟨⟨Beh.cell1 (by assumption) hb (by assumption), Beh.cell1 (by assumption) hb (by assumption)⟩, ⟨Beh.cell2 (by assumption) hb (by assumption), Beh.cell2 (by assumption) hb (by assumption)⟩, Beh.below (by assumption) hb⟩) (fun hHeld => ?_); clear hK K; (try simp only [Act.put, List.setIfInBounds_toArray, List.set_cons_zero, List.set_cons_succ]); clear hb)
      | fail "operation 3"
    first
      | (refine' wpAnyH_take (i := 4) (v := _) ?_ ?_ ?_ ?_ ?_ ?_ ?_ ?_; rotate_left 2; (focus (simp only [List.getElem?_toArray, List.getElem?_cons_succ, List.getElem?_cons_zero]; rfl)); (focus kernel_rfl); (focus kernel_rfl); (focus kernel_rfl); (focus exact (fun _ _ _ h => h)); refine Or.inl ⟨?_, ?_⟩; (focus (go_simp; done)); (focus (intro w hSw; (try dsimp only at hSw); (first | (go_simp; done) | (go_simp; with_reducible rfl)))); (focus assumption); (try simp only [Act.put, List.setIfInBounds_toArray, List.set_cons_zero, List.set_cons_succ]))
      | (refine' wpAnyH_take (i := 4) (v := undef) ?_ ?_ ?_ ?_ ?_ ?_ ?_ ?_; rotate_left 1; (focus (simp only [List.getElem?_toArray, List.getElem?_cons_succ, List.getElem?_cons_zero]; rfl)); (focus kernel_rfl); (focus kernel_rfl); (focus kernel_rfl); (focus exact (fun _ _ _ h => h)); refine Or.inr ⟨?_, rfl⟩; (focus (go_simp; done)); (focus assumption); (try simp only [Act.put, List.setIfInBounds_toArray, List.set_cons_zero, List.set_cons_succ]))
      | (refine wpAnyH_ready (rs := [4]) (by kernel_rfl) (by simp) ?_; refine' AllReadyH.cons ?_ (fun K hK => ?_) AllReadyH.nil; rotate_left; (focus (simp only [List.getElem?_toArray, List.getElem?_cons_succ, List.getElem?_cons_zero]; rfl)); go_simp; (go_at_call 12; refine (iNone_any _).mono ?_; rintro e w4 ⟨rfl, hb⟩); refine hK.out _ _ (by go_split_ands; exact ⟨⟨Beh.cell1 (by assumption) hb (by assumption), Beh.cell1 (by assumption) hb (by assumption)⟩, ⟨Beh.cell2 (by assumption) hb (by assumption), Beh.cell2 (by assumption) hb (by assumption)⟩, Beh.below (by assumption) hb⟩) (fun hHeld => ?_); clear hK K; (try simp only [Act.put, List.setIfInBounds_toArray, List.set_cons_zero, List.set_cons_succ]); clear hb)
      | fail "operation 4"
    first
      | (refine' wpAnyH_take (i := 5) (v := _) ?_ ?_ ?_ ?_ ?_ ?_ ?_ ?_; rotate_left 2; (focus (simp only [List.getElem?_toArray, List.getElem?_cons_succ, List.getElem?_cons_zero]; rfl)); (focus kernel_rfl); (focus kernel_rfl); (focus kernel_rfl); (focus exact (fun _ _ _ h => h)); refine Or.inl ⟨?_, ?_⟩; (focus (go_simp; done)); (focus (intro w hSw; (try dsimp only at hSw); (first | (go_simp; done) | (go_simp; with_reducible rfl)))); (focus assumption); (try simp only [Act.put, List.setIfInBounds_toArray, List.set_cons_zero, List.set_cons_succ]))
      | (refine' wpAnyH_take (i := 5) (v := undef) ?_ ?_ ?_ ?_ ?_ ?_ ?_ ?_; rotate_left 1; (focus (simp only [List.getElem?_toArray, List.getElem?_cons_succ, List.getElem?_cons_zero]; rfl)); (focus kernel_rfl); (focus kernel_rfl); (focus kernel_rfl); (focus exact (fun _ _ _ h => h)); refine Or.inr ⟨?_, rfl⟩; (focus (go_simp; done)); (focus assumption); (try simp only [Act.put, List.setIfInBounds_toArray, List.set_cons_zero, List.set_cons_succ]))
      | (refine wpAnyH_ready (rs := [5]) (by kernel_rfl) (by simp) ?_; refine' AllReadyH.cons ?_ (fun K hK => ?_) AllReadyH.nil; rotate_left; (focus (simp only [List.getElem?_toArray, List.getElem?_cons_succ, List.getElem?_cons_zero]; rfl)); go_simp; (go_at_call 12; refine (iNone_any _).mono ?_; rintro e w4 ⟨rfl, hb⟩); refine hK.out _ _ (by go_split_ands; exact ⟨⟨Beh.cell1 (by assumption) hb (by assumption), Beh.cell1 (by assumption) hb (by assumption)⟩, ⟨Beh.cell2 (by assumption) hb (by assumption), Beh.cell2 (by assumption) hb (by assumption)⟩, Beh.below (by assumption) hb⟩) (fun hHeld => ?_); clear hK K; (try simp only [Act.put, List.setIfInBounds_toArray, List.set_cons_zero, List.set_cons_succ]); clear hb)
      | fail "operation 5"
    first
      | (refine' wpAnyH_take (i := 6) (v := _) ?_ ?_ ?_ ?_ ?_ ?_ ?_ ?_; rotate_left 2; (focus (simp only [List.getElem?_toArray, List.getElem?_cons_succ, List.getElem?_cons_zero]; rfl)); (focus kernel_rfl); (focus kernel_rfl); (focus kernel_rfl); (focus exact (fun _ _ _ h => h)); refine Or.inl ⟨?_, ?_⟩; (focus (go_simp; done)); (focus (intro w hSw; (try dsimp only at hSw); (first | (go_simp; done) | (go_simp; with_reducible rfl)))); (focus assumption); (try simp only [Act.put, List.setIfInBounds_toArray, List.set_cons_zero, List.set_cons_succ]))
      | (refine' wpAnyH_take (i := 6) (v := undef) ?_ ?_ ?_ ?_ ?_ ?_ ?_ ?_; rotate_left 1; (focus (simp only [List.getElem?_toArray, List.getElem?_cons_succ, List.getElem?_cons_zero]; rfl)); (focus kernel_rfl); (focus kernel_rfl); (focus kernel_rfl); (focus exact (fun _ _ _ h => h)); refine Or.inr ⟨?_, rfl⟩; (focus (go_simp; done)); (focus assumption); (try simp only [Act.put, List.setIfInBounds_toArray, List.set_cons_zero, List.set_cons_succ]))
      | (refine wpAnyH_ready (rs := [6]) (by kernel_rfl) (by simp) ?_; refine' AllReadyH.cons ?_ (fun K hK => ?_) AllReadyH.nil; rotate_left; (focus (simp only [List.getElem?_toArray, List.getElem?_cons_succ, List.getElem?_cons_zero]; rfl)); go_simp; (go_at_call 12; refine (iNone_any _).mono ?_; rintro e w4 ⟨rfl, hb⟩); refine hK.out _ _ (by go_split_ands; exact ⟨⟨Beh.cell1 (by assumption) hb (by assumption), Beh.cell1 (by assumption) hb (by assumption)⟩, ⟨Beh.cell2 (by assumption) hb (by assumption), Beh.cell2 (by assumption) hb (by assumption)⟩, Beh.below (by assumption) hb⟩) (fun hHeld => ?_); clear hK K; (try simp only [Act.put, List.setIfInBounds_toArray, List.set_cons_zero, List.set_cons_succ]); clear hb)
      | fail "operation 6"
    first
      | (refine' wpAnyH_take (i := 7) (v := _) ?_ ?_ ?_ ?_ ?_ ?_ ?_ ?_; rotate_left 2; (focus (simp only [List.getElem?_toArray, List.getElem?_cons_succ, List.getElem?_cons_zero]; rfl)); (focus kernel_rfl); (focus kernel_rfl); (focus kernel_rfl); (focus exact (fun _ _ _ h => h)); refine Or.inl ⟨?_, ?_⟩; (focus (go_simp; done)); (focus (intro w hSw; (try dsimp only at hSw); (first | (go_simp; done) | (go_simp; with_reducible rfl)))); (focus assumption); (try simp only [Act.put, List.setIfInBounds_toArray, List.set_cons_zero, List.set_cons_succ]))
      | (refine' wpAnyH_take (i := 7) (v := undef) ?_ ?_ ?_ ?_ ?_ ?_ ?_ ?_; rotate_left 1; (focus (simp only [List.getElem?_toArray, List.getElem?_cons_succ, List.getElem?_cons_zero]; rfl)); (focus kernel_rfl); (focus kernel_rfl); (focus kernel_rfl); (focus exact (fun _ _ _ h => h)); refine Or.inr ⟨?_, rfl⟩; (focus (go_simp; done)); (focus assumption); (try simp only [Act.put, List.setIfInBounds_toArray, List.set_cons_zero, List.set_cons_succ]))
      | (refine wpAnyH_ready (rs := [7]) (by kernel_rfl) (by simp) ?_; refine' AllReadyH.cons ?_ (fun K hK => ?_) AllReadyH.nil; rotate_left; (focus (simp only [List.getElem?_toArray, List.getElem?_cons_succ, List.getElem?_cons_zero]; rfl)); go_simp; (go_at_call 12; refine (iNone_any _).mono ?_; rintro e w4 ⟨rfl, hb⟩); refine hK.out _ _ (by go_split_ands; exact ⟨⟨Beh.cell1 (by assumption) hb (by assumption), Beh.cell1 (by assumption) hb (by assumption)⟩, ⟨Beh.cell2 (by assumption) hb (by assumption), Beh.cell2 (by assumption) hb (by assumption)⟩, Beh.below (by assumption) hb⟩) (fun hHeld => ?_); clear hK K; (try simp only [Act.put, List.setIfInBounds_toArray, List.set_cons_zero, List.set_cons_succ]); clear hb)
      | fail "operation 7"
    refine wpAnyH_done (by kernel_rfl) ?_ _
    obtain ⟨⟨x0, x1⟩, ⟨y0, y1⟩, hB⟩ := hHeld; obtain ⟨hv, hg1, hg2⟩ := id hB
    go_wp2_with fail
    refine (iDo_any _ x.lo x.hi y.lo y.hi ⟨1, 0⟩ (act_non_left HZ.out) _).mono ?_
    rintro e w5 ⟨rfl, hb⟩
    have x0 := Beh.cell1 hB hb x0; have x1 := Beh.cell1 hB hb x1; have y0 := Beh.cell2 hB hb y0; have y1 := Beh.cell2 hB hb y1; have hB := Beh.below hB hb; clear hb; obtain ⟨hv, hg1, hg2⟩ := id hB
    go_wp2_with fail
    refine (iNone_any _).mono ?_
    rintro e w6 ⟨rfl, hb⟩
    have x0 := Beh.cell1 hB hb x0; have x1 := Beh.cell1 hB hb x1; have y0 := Beh.cell2 hB hb y0; have y1 := Beh.cell2 hB hb y1; have hB := Beh.below hB hb; clear hb; obtain ⟨hv, hg1, hg2⟩ := id hB
    go_wp2_with fail
    refine (awake_any _).mono ?_
    rintro e w7 ⟨rfl, hb⟩
    have x0 := Beh.cell1 hB hb x0; have x1 := Beh.cell1 hB hb x1; have y0 := Beh.cell2 hB hb y0; have y1 := Beh.cell2 hB hb y1; have hB := Beh.below hB hb; clear hb; obtain ⟨hv, hg1, hg2⟩ := id hB
    go_wp2
    go_ret
    exact ⟨rfl, hv⟩
  · skip
    have he := iv_eql x.lo x.hi 1 0 false (iv_not x hx2)
    have he2 := iv_eql y.lo y.hi 1 0 true (iv_is y hz)
    have HZ := Lib.hid hz
    clear hz hx2
    have he3 := iv_eql 1 0 1 0 true (by decide)
    refine wp_region_held_drew (S := (fun w' => (w'.cell? ⟨g1, 0, none⟩ = some (.int .i64 x.lo) ∧ w'.cell? ⟨g1, 1, none⟩ = some (.int .i64 x.hi)) ∧ (w'.cell? ⟨g2, 0, none⟩ = some (.int .i64 y.lo) ∧ w'.cell? ⟨g2, 1, none⟩ = some (.int .i64 y.hi)) ∧ Beh w g1 g2 w')) (by kernel_rfl) (by exact ⟨⟨by simpa using x0, by simpa using x1⟩, ⟨by simpa using y0, by simpa using y1⟩, hB.drew⟩) (fun hHeld => ?_)
    first
      | (refine' wpAnyH_take (i := 0) (v := _) ?_ ?_ ?_ ?_ ?_ ?_ ?_ ?_; rotate_left 2; (focus (simp only [List.getElem?_toArray, List.getElem?_cons_succ, List.getElem?_cons_zero]; rfl)); (focus kernel_rfl); (focus kernel_rfl); (focus kernel_rfl); (focus exact (fun _ _ _ h => h)); refine Or.inl ⟨?_, ?_⟩; (focus (go_simp; done)); (focus (intro w hSw; (try dsimp only at hSw); (first | (go_simp; done) | (go_simp; with_reducible rfl)))); (focus assumption); (try simp only [Act.put, List.setIfInBounds_toArray, List.set_cons_zero, List.set_cons_succ]))
      | (refine' wpAnyH_take (i := 0) (v := undef) ?_ ?_ ?_ ?_ ?_ ?_ ?_ ?_; rotate_left 1; (focus (simp only [List.getElem?_toArray, List.getElem?_cons_succ, List.getElem?_cons_zero]; rfl)); (focus kernel_rfl); (focus kernel_rfl); (focus kernel_rfl); (focus exact (fun _ _ _ h => h)); refine Or.inr ⟨?_, rfl⟩; (focus (go_simp; done)); (focus assumption); (try simp only [Act.put, List.setIfInBounds_toArray, List.set_cons_zero, List.set_cons_succ]))
      | (refine wpAnyH_ready (rs := [0]) (by kernel_rfl) (by simp) ?_; refine' AllReadyH.cons ?_ (fun K hK => ?_) AllReadyH.nil; rotate_left; (focus (simp only [List.getElem?_toArray, List.getElem?_cons_succ, List.getElem?_cons_zero]; rfl)); go_simp; (go_at_call 12; refine (iNone_any _).mono ?_; rintro e w4 ⟨rfl, hb⟩); refine hK.out _ _ (by go_split_ands; exact ⟨⟨Beh.cell1 (by assumption) hb (by assumption), Beh.cell1 (by assumption) hb (by assumption)⟩, ⟨Beh.cell2 (by assumption) hb (by assumption), Beh.cell2 (by assumption) hb (by assumption)⟩, Beh.below (by assumption) hb⟩) (fun hHeld => ?_); clear hK K; (try simp only [Act.put, List.setIfInBounds_toArray, List.set_cons_zero, List.set_cons_succ]); clear hb)
      | fail "operation 0"
    first
      | (refine' wpAnyH_take (i := 1) (v := _) ?_ ?_ ?_ ?_ ?_ ?_ ?_ ?_; rotate_left 2; (focus (simp only [List.getElem?_toArray, List.getElem?_cons_succ, List.getElem?_cons_zero]; rfl)); (focus kernel_rfl); (focus kernel_rfl); (focus kernel_rfl); (focus exact (fun _ _ _ h => h)); refine Or.inl ⟨?_, ?_⟩; (focus (go_simp; done)); (focus (intro w hSw; (try dsimp only at hSw); (first | (go_simp; done) | (go_simp; with_reducible rfl)))); (focus assumption); (try simp only [Act.put, List.setIfInBounds_toArray, List.set_cons_zero, List.set_cons_succ]))
      | (refine' wpAnyH_take (i := 1) (v := undef) ?_ ?_ ?_ ?_ ?_ ?_ ?_ ?_; rotate_left 1; (focus (simp only [List.getElem?_toArray, List.getElem?_cons_succ, List.getElem?_cons_zero]; rfl)); (focus kernel_rfl); (focus kernel_rfl); (focus kernel_rfl); (focus exact (fun _ _ _ h => h)); refine Or.inr ⟨?_, rfl⟩; (focus (go_simp; done)); (focus assumption); (try simp only [Act.put, List.setIfInBounds_toArray, List.set_cons_zero, List.set_cons_succ]))
      | (refine wpAnyH_ready (rs := [1]) (by kernel_rfl) (by simp) ?_; refine' AllReadyH.cons ?_ (fun K hK => ?_) AllReadyH.nil; rotate_left; (focus (simp only [List.getElem?_toArray, List.getElem?_cons_succ, List.getElem?_cons_zero]; rfl)); go_simp; (go_at_call 12; refine (iNone_any _).mono ?_; rintro e w4 ⟨rfl, hb⟩); refine hK.out _ _ (by go_split_ands; exact ⟨⟨Beh.cell1 (by assumption) hb (by assumption), Beh.cell1 (by assumption) hb (by assumption)⟩, ⟨Beh.cell2 (by assumption) hb (by assumption), Beh.cell2 (by assumption) hb (by assumption)⟩, Beh.below (by assumption) hb⟩) (fun hHeld => ?_); clear hK K; (try simp only [Act.put, List.setIfInBounds_toArray, List.set_cons_zero, List.set_cons_succ]); clear hb)
      | fail "operation 1"
    first
      | (refine' wpAnyH_take (i := 2) (v := _) ?_ ?_ ?_ ?_ ?_ ?_ ?_ ?_; rotate_left 2; (focus (simp only [List.getElem?_toArray, List.getElem?_cons_succ, List.getElem?_cons_zero]; rfl)); (focus kernel_rfl); (focus kernel_rfl); (focus kernel_rfl); (focus exact (fun _ _ _ h => h)); refine Or.inl ⟨?_, ?_⟩; (focus (go_simp; done)); (focus (intro w hSw; (try dsimp only at hSw); (first | (go_simp; done) | (go_simp; with_reducible rfl)))); (focus assumption); (try simp only [Act.put, List.setIfInBounds_toArray, List.set_cons_zero, List.set_cons_succ]))
      | (refine' wpAnyH_take (i := 2) (v := undef) ?_ ?_ ?_ ?_ ?_ ?_ ?_ ?_; rotate_left 1; (focus (simp only [List.getElem?_toArray, List.getElem?_cons_succ, List.getElem?_cons_zero]; rfl)); (focus kernel_rfl); (focus kernel_rfl); (focus kernel_rfl); (focus exact (fun _ _ _ h => h)); refine Or.inr ⟨?_, rfl⟩; (focus (go_simp; done)); (focus assumption); (try simp only [Act.put, List.setIfInBounds_toArray, List.set_cons_zero, List.set_cons_succ]))
      | (refine wpAnyH_ready (rs := [2]) (by kernel_rfl) (by simp) ?_; refine' AllReadyH.cons ?_ (fun K hK => ?_) AllReadyH.nil; rotate_left; (focus (simp only [List.getElem?_toArray, List.getElem?_cons_succ, List.getElem?_cons_zero]; rfl)); go_simp; (go_at_call 12; refine (iNone_any _).mono ?_; rintro e w4 ⟨rfl, hb⟩); refine hK.out _ _ (by go_split_ands; exact ⟨⟨Beh.cell1 (by assumption) hb (by assumption), Beh.cell1 (by assumption) hb (by assumption)⟩, ⟨Beh.cell2 (by assumption) hb (by assumption), Beh.cell2 (by assumption) hb (by assumption)⟩, Beh.below (by assumption) hb⟩) (fun hHeld => ?_); clear hK K; (try simp only [Act.put, List.setIfInBounds_toArray, List.set_cons_zero, List.set_cons_succ]); clear hb)
      | fail "operation 2"
    first
      | (refine' wpAnyH_take (i := 3) (v := _) ?_ ?_ ?_ ?_ ?_ ?_ ?_ ?_; rotate_left 2; (focus (simp only [List.getElem?_toArray, List.getElem?_cons_succ, List.getElem?_cons_zero]; rfl)); (focus kernel_rfl); (focus kernel_rfl); (focus kernel_rfl); (focus exact (fun _ _ _ h => h)); refine Or.inl ⟨?_, ?_⟩; (focus (go_simp; done)); (focus (intro w hSw; (try dsimp only at hSw); (first | (go_simp; done) | (go_simp; with_reducible rfl)))); (focus assumption); (try simp only [Act.put, List.setIfInBounds_toArray, List.set_cons_zero, List.set_cons_succ]))
      | (refine' wpAnyH_take (i := 3) (v := undef) ?_ ?_ ?_ ?_ ?_ ?_ ?_ ?_; rotate_left 1; (focus (simp only [List.getElem?_toArray, List.getElem?_cons_succ, List.getElem?_cons_zero]; rfl)); (focus kernel_rfl); (focus kernel_rfl); (focus kernel_rfl); (focus exact (fun _ _ _ h => h)); refine Or.inr ⟨?_, rfl⟩; (focus (go_simp; done)); (focus assumption); (try simp only [Act.put, List.setIfInBounds_toArray, List.set_cons_zero, List.set_cons_succ]))
      | (refine wpAnyH_ready (rs := [3]) (by kernel_rfl) (by simp) ?_; refine' AllReadyH.cons ?_ (fun K hK => ?_) AllReadyH.nil; rotate_left; (focus (simp only [List.getElem?_toArray, List.getElem?_cons_succ, List.getElem?_cons_zero]; rfl)); go_simp; (go_at_call 12; refine (iNone_any _).mono ?_; rintro e w4 ⟨rfl, hb⟩); refine hK.out _ _ (by go_split_ands; exact ⟨⟨Beh.cell1 (by assumption) hb (by assumption), Beh.cell1 (by assumption) hb (by assumption)⟩, ⟨Beh.cell2 (by assumption) hb (by assumption), Beh.cell2 (by assumption) hb (by assumption)⟩, Beh.below (by assumption) hb⟩) (fun hHeld => ?_); clear hK K; (try simp only [Act.put, List.setIfInBounds_toArray, List.set_cons_zero, List.set_cons_succ]); clear hb)
      | fail "operation 3"
    first
      | (refine' wpAnyH_take (i := 4) (v := _) ?_ ?_ ?_ ?_ ?_ ?_ ?_ ?_; rotate_left 2; (focus (simp only [List.getElem?_toArray, List.getElem?_cons_succ, List.getElem?_cons_zero]; rfl)); (focus kernel_rfl); (focus kernel_rfl); (focus kernel_rfl); (focus exact (fun _ _ _ h => h)); refine Or.inl ⟨?_, ?_⟩; (focus (go_simp; done)); (focus (intro w hSw; (try dsimp only at hSw); (first | (go_simp; done) | (go_simp; with_reducible rfl)))); (focus assumption); (try simp only [Act.put, List.setIfInBounds_toArray, List.set_cons_zero, List.set_cons_succ]))
      | (refine' wpAnyH_take (i := 4) (v := undef) ?_ ?_ ?_ ?_ ?_ ?_ ?_ ?_; rotate_left 1; (focus (simp only [List.getElem?_toArray, List.getElem?_cons_succ, List.getElem?_cons_zero]; rfl)); (focus kernel_rfl); (focus kernel_rfl); (focus kernel_rfl); (focus exact (fun _ _ _ h => h)); refine Or.inr ⟨?_, rfl⟩; (focus (go_simp; done)); (focus assumption); (try simp only [Act.put, List.setIfInBounds_toArray, List.set_cons_zero, List.set_cons_succ]))
      | (refine wpAnyH_ready (rs := [4]) (by kernel_rfl) (by simp) ?_; refine' AllReadyH.cons ?_ (fun K hK => ?_) AllReadyH.nil; rotate_left; (focus (simp only [List.getElem?_toArray, List.getElem?_cons_succ, List.getElem?_cons_zero]; rfl)); go_simp; (go_at_call 12; refine (iNone_any _).mono ?_; rintro e w4 ⟨rfl, hb⟩); refine hK.out _ _ (by go_split_ands; exact ⟨⟨Beh.cell1 (by assumption) hb (by assumption), Beh.cell1 (by assumption) hb (by assumption)⟩, ⟨Beh.cell2 (by assumption) hb (by assumption), Beh.cell2 (by assumption) hb (by assumption)⟩, Beh.below (by assumption) hb⟩) (fun hHeld => ?_); clear hK K; (try simp only [Act.put, List.setIfInBounds_toArray, List.set_cons_zero, List.set_cons_succ]); clear hb)
      | fail "operation 4"
    first
      | (refine' wpAnyH_take (i := 5) (v := _) ?_ ?_ ?_ ?_ ?_ ?_ ?_ ?_; rotate_left 2; (focus (simp only [List.getElem?_toArray, List.getElem?_cons_succ, List.getElem?_cons_zero]; rfl)); (focus kernel_rfl); (focus kernel_rfl); (focus kernel_rfl); (focus exact (fun _ _ _ h => h)); refine Or.inl ⟨?_, ?_⟩; (focus (go_simp; done)); (focus (intro w hSw; (try dsimp only at hSw); (first | (go_simp; done) | (go_simp; with_reducible rfl)))); (focus assumption); (try simp only [Act.put, List.setIfInBounds_toArray, List.set_cons_zero, List.set_cons_succ]))
      | (refine' wpAnyH_take (i := 5) (v := undef) ?_ ?_ ?_ ?_ ?_ ?_ ?_ ?_; rotate_left 1; (focus (simp only [List.getElem?_toArray, List.getElem?_cons_succ, List.getElem?_cons_zero]; rfl)); (focus kernel_rfl); (focus kernel_rfl); (focus kernel_rfl); (focus exact (fun _ _ _ h => h)); refine Or.inr ⟨?_, rfl⟩; (focus (go_simp; done)); (focus assumption); (try simp only [Act.put, List.setIfInBounds_toArray, List.set_cons_zero, List.set_cons_succ]))
      | (refine wpAnyH_ready (rs := [5]) (by kernel_rfl) (by simp) ?_; refine' AllReadyH.cons ?_ (fun K hK => ?_) AllReadyH.nil; rotate_left; (focus (simp only [List.getElem?_toArray, List.getElem?_cons_succ, List.getElem?_cons_zero]; rfl)); go_simp; (go_at_call 12; refine (iNone_any _).mono ?_; rintro e w4 ⟨rfl, hb⟩); refine hK.out _ _ (by go_split_ands; exact ⟨⟨Beh.cell1 (by assumption) hb (by assumption), Beh.cell1 (by assumption) hb (by assumption)⟩, ⟨Beh.cell2 (by assumption) hb (by assumption), Beh.cell2 (by assumption) hb (by assumption)⟩, Beh.below (by assumption) hb⟩) (fun hHeld => ?_); clear hK K; (try simp only [Act.put, List.setIfInBounds_toArray, List.set_cons_zero, List.set_cons_succ]); clear hb)
      | fail "operation 5"
    first
      | (refine' wpAnyH_take (i := 6) (v := _) ?_ ?_ ?_ ?_ ?_ ?_ ?_ ?_; rotate_left 2; (focus (simp only [List.getElem?_toArray, List.getElem?_cons_succ, List.getElem?_cons_zero]; rfl)); (focus kernel_rfl); (focus kernel_rfl); (focus kernel_rfl); (focus exact (fun _ _ _ h => h)); refine Or.inl ⟨?_, ?_⟩; (focus (go_simp; done)); (focus (intro w hSw; (try dsimp only at hSw); (first | (go_simp; done) | (go_simp; with_reducible rfl)))); (focus assumption); (try simp only [Act.put, List.setIfInBounds_toArray, List.set_cons_zero, List.set_cons_succ]))
      | (refine' wpAnyH_take (i := 6) (v := undef) ?_ ?_ ?_ ?_ ?_ ?_ ?_ ?_; rotate_left 1; (focus (simp only [List.getElem?_toArray, List.getElem?_cons_succ, List.getElem?_cons_zero]; rfl)); (focus kernel_rfl); (focus kernel_rfl); (focus kernel_rfl); (focus exact (fun _ _ _ h => h)); refine Or.inr ⟨?_, rfl⟩; (focus (go_simp; done)); (focus assumption); (try simp only [Act.put, List.setIfInBounds_toArray, List.set_cons_zero, List.set_cons_succ]))
      | (refine wpAnyH_ready (rs := [6]) (by kernel_rfl) (by simp) ?_; refine' AllReadyH.cons ?_ (fun K hK => ?_) AllReadyH.nil; rotate_left; (focus (simp only [List.getElem?_toArray, List.getElem?_cons_succ, List.getElem?_cons_zero]; rfl)); go_simp; (go_at_call 12; refine (iNone_any _).mono ?_; rintro e w4 ⟨rfl, hb⟩); refine hK.out _ _ (by go_split_ands; exact ⟨⟨Beh.cell1 (by assumption) hb (by assumption), Beh.cell1 (by assumption) hb (by assumption)⟩, ⟨Beh.cell2 (by assumption) hb (by assumption), Beh.cell2 (by assumption) hb (by assumption)⟩, Beh.below (by assumption) hb⟩) (fun hHeld => ?_); clear hK K; (try simp only [Act.put, List.setIfInBounds_toArray, List.set_cons_zero, List.set_cons_succ]); clear hb)
      | fail "operation 6"
    first
      | (refine' wpAnyH_take (i := 7) (v := _) ?_ ?_ ?_ ?_ ?_ ?_ ?_ ?_; rotate_left 2; (focus (simp only [List.getElem?_toArray, List.getElem?_cons_succ, List.getElem?_cons_zero]; rfl)); (focus kernel_rfl); (focus kernel_rfl); (focus kernel_rfl); (focus exact (fun _ _ _ h => h)); refine Or.inl ⟨?_, ?_⟩; (focus (go_simp; done)); (focus (intro w hSw; (try dsimp only at hSw); (first | (go_simp; done) | (go_simp; with_reducible rfl)))); (focus assumption); (try simp only [Act.put, List.setIfInBounds_toArray, List.set_cons_zero, List.set_cons_succ]))
      | (refine' wpAnyH_take (i := 7) (v := undef) ?_ ?_ ?_ ?_ ?_ ?_ ?_ ?_; rotate_left 1; (focus (simp only [List.getElem?_toArray, List.getElem?_cons_succ, List.getElem?_cons_zero]; rfl)); (focus kernel_rfl); (focus kernel_rfl); (focus kernel_rfl); (focus exact (fun _ _ _ h => h)); refine Or.inr ⟨?_, rfl⟩; (focus (go_simp; done)); (focus assumption); (try simp only [Act.put, List.setIfInBounds_toArray, List.set_cons_zero, List.set_cons_succ]))
      | (refine wpAnyH_ready (rs := [7]) (by kernel_rfl) (by simp) ?_; refine' AllReadyH.cons ?_ (fun K hK => ?_) AllReadyH.nil; rotate_left; (focus (simp only [List.getElem?_toArray, List.getElem?_cons_succ, List.getElem?_cons_zero]; rfl)); go_simp; (go_at_call 12; refine (iNone_any _).mono ?_; rintro e w4 ⟨rfl, hb⟩); refine hK.out _ _ (by go_split_ands; exact ⟨⟨Beh.cell1 (by assumption) hb (by assumption), Beh.cell1 (by assumption) hb (by assumption)⟩, ⟨Beh.cell2 (by assumption) hb (by assumption), Beh.cell2 (by assumption) hb (by assumption)⟩, Beh.below (by assumption) hb⟩) (fun hHeld => ?_); clear hK K; (try simp only [Act.put, List.setIfInBounds_toArray, List.set_cons_zero, List.set_cons_succ]); clear hb)
      | fail "operation 7"
    refine wpAnyH_done (by kernel_rfl) ?_ _
    obtain ⟨⟨x0, x1⟩, ⟨y0, y1⟩, hB⟩ := hHeld; obtain ⟨hv, hg1, hg2⟩ := id hB
    go_wp2_with fail
    refine (iDo_any _ x.lo x.hi y.lo y.hi ⟨1, 0⟩ (act_non_right HZ.out) _).mono ?_
    rintro e w5 ⟨rfl, hb⟩
    have x0 := Beh.cell1 hB hb x0; have x1 := Beh.cell1 hB hb x1; have y0 := Beh.cell2 hB hb y0; have y1 := Beh.cell2 hB hb y1; have hB := Beh.below hB hb; clear hb; obtain ⟨hv, hg1, hg2⟩ := id hB
    go_wp2_with fail
    refine (iNone_any _).mono ?_
    rintro e w6 ⟨rfl, hb⟩
    have x0 := Beh.cell1 hB hb x0; have x1 := Beh.cell1 hB hb x1; have y0 := Beh.cell2 hB hb y0; have y1 := Beh.cell2 hB hb y1; have hB := Beh.below hB hb; clear hb; obtain ⟨hv, hg1, hg2⟩ := id hB
    go_wp2_with fail
    refine (awake_any _).mono ?_
    rintro e w7 ⟨rfl, hb⟩
    have x0 := Beh.cell1 hB hb x0; have x1 := Beh.cell1 hB hb x1; have y0 := Beh.cell2 hB hb y0; have y1 := Beh.cell2 hB hb y1; have hB := Beh.below hB hb; clear hb; obtain ⟨hv, hg1, hg2⟩ := id hB
    go_wp2
    go_ret
    exact ⟨rfl, hv⟩
  · have he := iv_eql x.lo x.hi 1 0 false (iv_not x (Iv.good_ne gx))
    have he2 := iv_eql y.lo y.hi 1 0 false (iv_not y (Iv.good_ne gy))
    refine wp_region_held_drew (S := (fun w' => (w'.cell? ⟨g1, 0, none⟩ = some (.int .i64 x.lo) ∧ w'.cell? ⟨g1, 1, none⟩ = some (.int .i64 x.hi)) ∧ (w'.cell? ⟨g2, 0, none⟩ = some (.int .i64 y.lo) ∧ w'.cell? ⟨g2, 1, none⟩ = some (.int .i64 y.hi)) ∧ Beh w g1 g2 w')) (by kernel_rfl) (by exact ⟨⟨by simpa using x0, by simpa using x1⟩, ⟨by simpa using y0, by simpa using y1⟩, hB.drew⟩) (fun hHeld => ?_)
    first
      | (refine' wpAnyH_take (i := 0) (v := _) ?_ ?_ ?_ ?_ ?_ ?_ ?_ ?_; rotate_left 2; (focus (simp only [List.getElem?_toArray, List.getElem?_cons_succ, List.getElem?_cons_zero]; rfl)); (focus kernel_rfl); (focus kernel_rfl); (focus kernel_rfl); (focus exact (fun _ _ _ h => h)); refine Or.inl ⟨?_, ?_⟩; (focus (go_simp; done)); (focus (intro w hSw; (try dsimp only at hSw); (first | (go_simp; done) | (go_simp; with_reducible rfl)))); (focus assumption); (try simp only [Act.put, List.setIfInBounds_toArray, List.set_cons_zero, List.set_cons_succ]))
      | (refine' wpAnyH_take (i := 0) (v := undef) ?_ ?_ ?_ ?_ ?_ ?_ ?_ ?_; rotate_left 1; (focus (simp only [List.getElem?_toArray, List.getElem?_cons_succ, List.getElem?_cons_zero]; rfl)); (focus kernel_rfl); (focus kernel_rfl); (focus kernel_rfl); (focus exact (fun _ _ _ h => h)); refine Or.inr ⟨?_, rfl⟩; (focus (go_simp; done)); (focus assumption); (try simp only [Act.put, List.setIfInBounds_toArray, List.set_cons_zero, List.set_cons_succ]))
      | (refine wpAnyH_ready (rs := [0]) (by kernel_rfl) (by simp) ?_; refine' AllReadyH.cons ?_ (fun K hK => ?_) AllReadyH.nil; rotate_left; (focus (simp only [List.getElem?_toArray, List.getElem?_cons_succ, List.getElem?_cons_zero]; rfl)); go_simp; (go_at_call 12; refine (iNone_any _).mono ?_; rintro e w4 ⟨rfl, hb⟩); refine hK.out _ _ (by go_split_ands; exact ⟨⟨Beh.cell1 (by assumption) hb (by assumption), Beh.cell1 (by assumption) hb (by assumption)⟩, ⟨Beh.cell2 (by assumption) hb (by assumption), Beh.cell2 (by assumption) hb (by assumption)⟩, Beh.below (by assumption) hb⟩) (fun hHeld => ?_); clear hK K; (try simp only [Act.put, List.setIfInBounds_toArray, List.set_cons_zero, List.set_cons_succ]); clear hb)
      | fail "operation 0"
    first
      | (refine' wpAnyH_take (i := 1) (v := _) ?_ ?_ ?_ ?_ ?_ ?_ ?_ ?_; rotate_left 2; (focus (simp only [List.getElem?_toArray, List.getElem?_cons_succ, List.getElem?_cons_zero]; rfl)); (focus kernel_rfl); (focus kernel_rfl); (focus kernel_rfl); (focus exact (fun _ _ _ h => h)); refine Or.inl ⟨?_, ?_⟩; (focus (go_simp; done)); (focus (intro w hSw; (try dsimp only at hSw); (first | (go_simp; done) | (go_simp; with_reducible rfl)))); (focus assumption); (try simp only [Act.put, List.setIfInBounds_toArray, List.set_cons_zero, List.set_cons_succ]))
      | (refine' wpAnyH_take (i := 1) (v := undef) ?_ ?_ ?_ ?_ ?_ ?_ ?_ ?_; rotate_left 1; (focus (simp only [List.getElem?_toArray, List.getElem?_cons_succ, List.getElem?_cons_zero]; rfl)); (focus kernel_rfl); (focus kernel_rfl); (focus kernel_rfl); (focus exact (fun _ _ _ h => h)); refine Or.inr ⟨?_, rfl⟩; (focus (go_simp; done)); (focus assumption); (try simp only [Act.put, List.setIfInBounds_toArray, List.set_cons_zero, List.set_cons_succ]))
      | (refine wpAnyH_ready (rs := [1]) (by kernel_rfl) (by simp) ?_; refine' AllReadyH.cons ?_ (fun K hK => ?_) AllReadyH.nil; rotate_left; (focus (simp only [List.getElem?_toArray, List.getElem?_cons_succ, List.getElem?_cons_zero]; rfl)); go_simp; (go_at_call 12; refine (iNone_any _).mono ?_; rintro e w4 ⟨rfl, hb⟩); refine hK.out _ _ (by go_split_ands; exact ⟨⟨Beh.cell1 (by assumption) hb (by assumption), Beh.cell1 (by assumption) hb (by assumption)⟩, ⟨Beh.cell2 (by assumption) hb (by assumption), Beh.cell2 (by assumption) hb (by assumption)⟩, Beh.below (by assumption) hb⟩) (fun hHeld => ?_); clear hK K; (try simp only [Act.put, List.setIfInBounds_toArray, List.set_cons_zero, List.set_cons_succ]); clear hb)
      | fail "operation 1"
    first
      | (refine' wpAnyH_take (i := 2) (v := _) ?_ ?_ ?_ ?_ ?_ ?_ ?_ ?_; rotate_left 2; (focus (simp only [List.getElem?_toArray, List.getElem?_cons_succ, List.getElem?_cons_zero]; rfl)); (focus kernel_rfl); (focus kernel_rfl); (focus kernel_rfl); (focus exact (fun _ _ _ h => h)); refine Or.inl ⟨?_, ?_⟩; (focus (go_simp; done)); (focus (intro w hSw; (try dsimp only at hSw); (first | (go_simp; done) | (go_simp; with_reducible rfl)))); (focus assumption); (try simp only [Act.put, List.setIfInBounds_toArray, List.set_cons_zero, List.set_cons_succ]))
      | (refine' wpAnyH_take (i := 2) (v := undef) ?_ ?_ ?_ ?_ ?_ ?_ ?_ ?_; rotate_left 1; (focus (simp only [List.getElem?_toArray, List.getElem?_cons_succ, List.getElem?_cons_zero]; rfl)); (focus kernel_rfl); (focus kernel_rfl); (focus kernel_rfl); (focus exact (fun _ _ _ h => h)); refine Or.inr ⟨?_, rfl⟩; (focus (go_simp; done)); (focus assumption); (try simp only [Act.put, List.setIfInBounds_toArray, List.set_cons_zero, List.set_cons_succ]))
      | (refine wpAnyH_ready (rs := [2]) (by kernel_rfl) (by simp) ?_; refine' AllReadyH.cons ?_ (fun K hK => ?_) AllReadyH.nil; rotate_left; (focus (simp only [List.getElem?_toArray, List.getElem?_cons_succ, List.getElem?_cons_zero]; rfl)); go_simp; (go_at_call 12; refine (iNone_any _).mono ?_; rintro e w4 ⟨rfl, hb⟩); refine hK.out _ _ (by go_split_ands; exact ⟨⟨Beh.cell1 (by assumption) hb (by assumption), Beh.cell1 (by assumption) hb (by assumption)⟩, ⟨Beh.cell2 (by assumption) hb (by assumption), Beh.cell2 (by assumption) hb (by assumption)⟩, Beh.below (by assumption) hb⟩) (fun hHeld => ?_); clear hK K; (try simp only [Act.put, List.setIfInBounds_toArray, List.set_cons_zero, List.set_cons_succ]); clear hb)
      | fail "operation 2"
    first
      | (refine' wpAnyH_take (i := 3) (v := _) ?_ ?_ ?_ ?_ ?_ ?_ ?_ ?_; rotate_left 2; (focus (simp only [List.getElem?_toArray, List.getElem?_cons_succ, List.getElem?_cons_zero]; rfl)); (focus kernel_rfl); (focus kernel_rfl); (focus kernel_rfl); (focus exact (fun _ _ _ h => h)); refine Or.inl ⟨?_, ?_⟩; (focus (go_simp; done)); (focus (intro w hSw; (try dsimp only at hSw); (first | (go_simp; done) | (go_simp; with_reducible rfl)))); (focus assumption); (try simp only [Act.put, List.setIfInBounds_toArray, List.set_cons_zero, List.set_cons_succ]))
      | (refine' wpAnyH_take (i := 3) (v := undef) ?_ ?_ ?_ ?_ ?_ ?_ ?_ ?_; rotate_left 1; (focus (simp only [List.getElem?_toArray, List.getElem?_cons_succ, List.getElem?_cons_zero]; rfl)); (focus kernel_rfl); (focus kernel_rfl); (focus kernel_rfl); (focus exact (fun _ _ _ h => h)); refine Or.inr ⟨?_, rfl⟩; (focus (go_simp; done)); (focus assumption); (try simp only [Act.put, List.setIfInBounds_toArray, List.set_cons_zero, List.set_cons_succ]))
      | (refine wpAnyH_ready (rs := [3]) (by kernel_rfl) (by simp) ?_; refine' AllReadyH.cons ?_ (fun K hK => ?_) AllReadyH.nil; rotate_left; (focus (simp only [List.getElem?_toArray, List.getElem?_cons_succ, List.getElem?_cons_zero]; rfl)); go_simp; (go_at_call 12; refine (iNone_any _).mono ?_; rintro e w4 ⟨rfl, hb⟩); refine hK.out _ _ (by go_split_ands; exact ⟨⟨Beh.cell1 (by assumption) hb (by assumption), Beh.cell1 (by assumption) hb (by assumption)⟩, ⟨Beh.cell2 (by assumption) hb (by assumption), Beh.cell2 (by assumption) hb (by assumption)⟩, Beh.below (by assumption) hb⟩) (fun hHeld => ?_); clear hK K; (try simp only [Act.put, List.setIfInBounds_toArray, List.set_cons_zero, List.set_cons_succ]); clear hb)
      | fail "operation 3"
    first
      | (refine' wpAnyH_take (i := 4) (v := _) ?_ ?_ ?_ ?_ ?_ ?_ ?_ ?_; rotate_left 2; (focus (simp only [List.getElem?_toArray, List.getElem?_cons_succ, List.getElem?_cons_zero]; rfl)); (focus kernel_rfl); (focus kernel_rfl); (focus kernel_rfl); (focus exact (fun _ _ _ h => h)); refine Or.inl ⟨?_, ?_⟩; (focus (go_simp; done)); (focus (intro w hSw; (try dsimp only at hSw); (first | (go_simp; done) | (go_simp; with_reducible rfl)))); (focus assumption); (try simp only [Act.put, List.setIfInBounds_toArray, List.set_cons_zero, List.set_cons_succ]))
      | (refine' wpAnyH_take (i := 4) (v := undef) ?_ ?_ ?_ ?_ ?_ ?_ ?_ ?_; rotate_left 1; (focus (simp only [List.getElem?_toArray, List.getElem?_cons_succ, List.getElem?_cons_zero]; rfl)); (focus kernel_rfl); (focus kernel_rfl); (focus kernel_rfl); (focus exact (fun _ _ _ h => h)); refine Or.inr ⟨?_, rfl⟩; (focus (go_simp; done)); (focus assumption); (try simp only [Act.put, List.setIfInBounds_toArray, List.set_cons_zero, List.set_cons_succ]))
      | (refine wpAnyH_ready (rs := [4]) (by kernel_rfl) (by simp) ?_; refine' AllReadyH.cons ?_ (fun K hK => ?_) AllReadyH.nil; rotate_left; (focus (simp only [List.getElem?_toArray, List.getElem?_cons_succ, List.getElem?_cons_zero]; rfl)); go_simp; (go_at_call 12; refine (iNone_any _).mono ?_; rintro e w4 ⟨rfl, hb⟩); refine hK.out _ _ (by go_split_ands; exact ⟨⟨Beh.cell1 (by assumption) hb (by assumption), Beh.cell1 (by assumption) hb (by assumption)⟩, ⟨Beh.cell2 (by assumption) hb (by assumption), Beh.cell2 (by assumption) hb (by assumption)⟩, Beh.below (by assumption) hb⟩) (fun hHeld => ?_); clear hK K; (try simp only [Act.put, List.setIfInBounds_toArray, List.set_cons_zero, List.set_cons_succ]); clear hb)
      | fail "operation 4"
    first
      | (refine' wpAnyH_take (i := 5) (v := _) ?_ ?_ ?_ ?_ ?_ ?_ ?_ ?_; rotate_left 2; (focus (simp only [List.getElem?_toArray, List.getElem?_cons_succ, List.getElem?_cons_zero]; rfl)); (focus kernel_rfl); (focus kernel_rfl); (focus kernel_rfl); (focus exact (fun _ _ _ h => h)); refine Or.inl ⟨?_, ?_⟩; (focus (go_simp; done)); (focus (intro w hSw; (try dsimp only at hSw); (first | (go_simp; done) | (go_simp; with_reducible rfl)))); (focus assumption); (try simp only [Act.put, List.setIfInBounds_toArray, List.set_cons_zero, List.set_cons_succ]))
      | (refine' wpAnyH_take (i := 5) (v := undef) ?_ ?_ ?_ ?_ ?_ ?_ ?_ ?_; rotate_left 1; (focus (simp only [List.getElem?_toArray, List.getElem?_cons_succ, List.getElem?_cons_zero]; rfl)); (focus kernel_rfl); (focus kernel_rfl); (focus kernel_rfl); (focus exact (fun _ _ _ h => h)); refine Or.inr ⟨?_, rfl⟩; (focus (go_simp; done)); (focus assumption); (try simp only [Act.put, List.setIfInBounds_toArray, List.set_cons_zero, List.set_cons_succ]))
      | (refine wpAnyH_ready (rs := [5]) (by kernel_rfl) (by simp) ?_; refine' AllReadyH.cons ?_ (fun K hK => ?_) AllReadyH.nil; rotate_left; (focus (simp only [List.getElem?_toArray, List.getElem?_cons_succ, List.getElem?_cons_zero]; rfl)); go_simp; (go_at_call 12; refine (iNone_any _).mono ?_; rintro e w4 ⟨rfl, hb⟩); refine hK.out _ _ (by go_split_ands; exact ⟨⟨Beh.cell1 (by assumption) hb (by assumption), Beh.cell1 (by assumption) hb (by assumption)⟩, ⟨Beh.cell2 (by assumption) hb (by assumption), Beh.cell2 (by assumption) hb (by assumption)⟩, Beh.below (by assumption) hb⟩) (fun hHeld => ?_); clear hK K; (try simp only [Act.put, List.setIfInBounds_toArray, List.set_cons_zero, List.set_cons_succ]); clear hb)
      | fail "operation 5"
    first
      | (refine' wpAnyH_take (i := 6) (v := _) ?_ ?_ ?_ ?_ ?_ ?_ ?_ ?_; rotate_left 2; (focus (simp only [List.getElem?_toArray, List.getElem?_cons_succ, List.getElem?_cons_zero]; rfl)); (focus kernel_rfl); (focus kernel_rfl); (focus kernel_rfl); (focus exact (fun _ _ _ h => h)); refine Or.inl ⟨?_, ?_⟩; (focus (go_simp; done)); (focus (intro w hSw; (try dsimp only at hSw); (first | (go_simp; done) | (go_simp; with_reducible rfl)))); (focus assumption); (try simp only [Act.put, List.setIfInBounds_toArray, List.set_cons_zero, List.set_cons_succ]))
      | (refine' wpAnyH_take (i := 6) (v := undef) ?_ ?_ ?_ ?_ ?_ ?_ ?_ ?_; rotate_left 1; (focus (simp only [List.getElem?_toArray, List.getElem?_cons_succ, List.getElem?_cons_zero]; rfl)); (focus kernel_rfl); (focus kernel_rfl); (focus kernel_rfl); (focus exact (fun _ _ _ h => h)); refine Or.inr ⟨?_, rfl⟩; (focus (go_simp; done)); (focus assumption); (try simp only [Act.put, List.setIfInBounds_toArray, List.set_cons_zero, List.set_cons_succ]))
      | (refine wpAnyH_ready (rs := [6]) (by kernel_rfl) (by simp) ?_; refine' AllReadyH.cons ?_ (fun K hK => ?_) AllReadyH.nil; rotate_left; (focus (simp only [List.getElem?_toArray, List.getElem?_cons_succ, List.getElem?_cons_zero]; rfl)); go_simp; (go_at_call 12; refine (iNone_any _).mono ?_; rintro e w4 ⟨rfl, hb⟩); refine hK.out _ _ (by go_split_ands; exact ⟨⟨Beh.cell1 (by assumption) hb (by assumption), Beh.cell1 (by assumption) hb (by assumption)⟩, ⟨Beh.cell2 (by assumption) hb (by assumption), Beh.cell2 (by assumption) hb (by assumption)⟩, Beh.below (by assumption) hb⟩) (fun hHeld => ?_); clear hK K; (try simp only [Act.put, List.setIfInBounds_toArray, List.set_cons_zero, List.set_cons_succ]); clear hb)
      | fail "operation 6"
    first
      | (refine' wpAnyH_take (i := 7) (v := _) ?_ ?_ ?_ ?_ ?_ ?_ ?_ ?_; rotate_left 2; (focus (simp only [List.getElem?_toArray, List.getElem?_cons_succ, List.getElem?_cons_zero]; rfl)); (focus kernel_rfl); (focus kernel_rfl); (focus kernel_rfl); (focus exact (fun _ _ _ h => h)); refine Or.inl ⟨?_, ?_⟩; (focus (go_simp; done)); (focus (intro w hSw; (try dsimp only at hSw); (first | (go_simp; done) | (go_simp; with_reducible rfl)))); (focus assumption); (try simp only [Act.put, List.setIfInBounds_toArray, List.set_cons_zero, List.set_cons_succ]))
      | (refine' wpAnyH_take (i := 7) (v := undef) ?_ ?_ ?_ ?_ ?_ ?_ ?_ ?_; rotate_left 1; (focus (simp only [List.getElem?_toArray, List.getElem?_cons_succ, List.getElem?_cons_zero]; rfl)); (focus kernel_rfl); (focus kernel_rfl); (focus kernel_rfl); (focus exact (fun _ _ _ h => h)); refine Or.inr ⟨?_, rfl⟩; (focus (go_simp; done)); (focus assumption); (try simp only [Act.put, List.setIfInBounds_toArray, List.set_cons_zero, List.set_cons_succ]))
      | (refine wpAnyH_ready (rs := [7]) (by kernel_rfl) (by simp) ?_; refine' AllReadyH.cons ?_ (fun K hK => ?_) AllReadyH.nil; rotate_left; (focus (simp only [List.getElem?_toArray, List.getElem?_cons_succ, List.getElem?_cons_zero]; rfl)); go_simp; (go_at_call 12; refine (iNone_any _).mono ?_; rintro e w4 ⟨rfl, hb⟩); refine hK.out _ _ (by go_split_ands; exact ⟨⟨Beh.cell1 (by assumption) hb (by assumption), Beh.cell1 (by assumption) hb (by assumption)⟩, ⟨Beh.cell2 (by assumption) hb (by assumption), Beh.cell2 (by assumption) hb (by assumption)⟩, Beh.below (by assumption) hb⟩) (fun hHeld => ?_); clear hK K; (try simp only [Act.put, List.setIfInBounds_toArray, List.set_cons_zero, List.set_cons_succ]); clear hb)
      | fail "operation 7"
    refine wpAnyH_done (by kernel_rfl) ?_ _
    obtain ⟨⟨x0, x1⟩, ⟨y0, y1⟩, hB⟩ := hHeld; obtain ⟨hv, hg1, hg2⟩ := id hB
    have hO : 1 ≤ 1 + o % 14 ∧ 1 + o % 14 ≤ 14 := by omega
    go_wp2_with fail
    refine (iDo_any _ x.lo x.hi y.lo y.hi (Iv.op (1 + o % 14) x.lo x.hi y.lo y.hi) (act_good gx gy) _).mono ?_
    rintro e w5 ⟨rfl, hb⟩
    have x0 := Beh.cell1 hB hb x0; have x1 := Beh.cell1 hB hb x1; have y0 := Beh.cell2 hB hb y0; have y1 := Beh.cell2 hB hb y1; have hB := Beh.below hB hb; clear hb; obtain ⟨hv, hg1, hg2⟩ := id hB
    generalize hzo : Iv.op (1 + o % 14) x.lo x.hi y.lo y.hi = z at *
    have HZO := Lib.hid hzo
    clear hzo
    go_wp2_with fail
    have hb' := (Below.refl w5.heap.size w5).alloc (Nat.le_refl _) (.cells #[.int .i64 z.lo, .int .i64 z.hi] 23)
    have x0 := Beh.cell1 hB hb' x0; have x1 := Beh.cell1 hB hb' x1; have y0 := Beh.cell2 hB hb' y0; have y1 := Beh.cell2 hB hb' y1; have hB := Beh.below hB hb'
    have z0 : (w5.alloc (.cells #[.int .i64 z.lo, .int .i64 z.hi] 23)).cell? ⟨w5.heap.size, 0, none⟩ = some (.int .i64 z.lo) := by simp
    have z1 : (w5.alloc (.cells #[.int .i64 z.lo, .int .i64 z.hi] 23)).cell? ⟨w5.heap.size, 1, none⟩ = some (.int .i64 z.hi) := by simp
    have hB3 : Beh w g1 w5.heap.size (w5.alloc (.cells #[.int .i64 z.lo, .int .i64 z.hi] 23)) := ⟨hB.1, hB.2.1, by simp⟩
    clear hv hg1 hg2 hb'
    generalize w5.alloc (.cells #[.int .i64 z.lo, .int .i64 z.hi] 23) = w6 at *
    generalize w5.heap.size = g3 at *
    refine wp_region_held_drew (S := (fun w' => (w'.cell? ⟨g1, 0, none⟩ = some (.int .i64 x.lo) ∧ w'.cell? ⟨g1, 1, none⟩ = some (.int .i64 x.hi)) ∧ (w'.cell? ⟨g2, 0, none⟩ = some (.int .i64 y.lo) ∧ w'.cell? ⟨g2, 1, none⟩ = some (.int .i64 y.hi)) ∧ (w'.cell? ⟨g3, 0, none⟩ = some (.int .i64 z.lo) ∧ w'.cell? ⟨g3, 1, none⟩ = some (.int .i64 z.hi)) ∧ Beh w g1 g2 w' ∧ Beh w g1 g3 w')) (by kernel_rfl) (by exact ⟨⟨by simpa using x0, by simpa using x1⟩, ⟨by simpa using y0, by simpa using y1⟩, ⟨by simpa using z0, by simpa using z1⟩, hB.drew, hB3.drew⟩) (fun hHeld => ?_)
    clear x0 x1 y0 y1 z0 z1 hB hB3
    refine' wpAnyH_take (i := 0) (v := _) ?_ ?_ ?_ ?_ ?_ ?_ ?_ ?_
    rotate_left 2
    focus (simp only [List.getElem?_toArray, List.getElem?_cons_succ, List.getElem?_cons_zero]; rfl)
    focus kernel_rfl
    focus kernel_rfl
    focus kernel_rfl
    focus exact (fun _ _ _ h => h)
    refine Or.inl ⟨?_, ?_⟩
    focus (go_simp; done)
    focus (intro w hSw; obtain ⟨⟨x0, x1⟩, ⟨y0, y1⟩, ⟨z0, z1⟩, _, _⟩ := hSw; (first | (go_simp; done) | (go_simp; with_reducible rfl)))
    focus assumption
    (try simp only [Act.put, List.setIfInBounds_toArray, List.set_cons_zero, List.set_cons_succ])
    refine' wpAnyH_take (i := 1) (v := _) ?_ ?_ ?_ ?_ ?_ ?_ ?_ ?_
    rotate_left 2
    focus (simp only [List.getElem?_toArray, List.getElem?_cons_succ, List.getElem?_cons_zero]; rfl)
    focus kernel_rfl
    focus kernel_rfl
    focus kernel_rfl
    focus exact (fun _ _ _ h => h)
    refine Or.inl ⟨?_, ?_⟩
    focus (go_simp; done)
    focus (intro w hSw; obtain ⟨⟨x0, x1⟩, ⟨y0, y1⟩, ⟨z0, z1⟩, _, _⟩ := hSw; (first | (go_simp; done) | (go_simp; with_reducible rfl)))
    focus assumption
    (try simp only [Act.put, List.setIfInBounds_toArray, List.set_cons_zero, List.set_cons_succ])
    refine' wpAnyH_take (i := 2) (v := _) ?_ ?_ ?_ ?_ ?_ ?_ ?_ ?_
    rotate_left 2
    focus (simp only [List.getElem?_toArray, List.getElem?_cons_succ, List.getElem?_cons_zero]; rfl)
    focus kernel_rfl
    focus kernel_rfl
    focus kernel_rfl
    focus exact (fun _ _ _ h => h)
    refine Or.inl ⟨?_, ?_⟩
    focus (go_simp; done)
    focus (intro w hSw; obtain ⟨⟨x0, x1⟩, ⟨y0, y1⟩, ⟨z0, z1⟩, _, _⟩ := hSw; (first | (go_simp; done) | (go_simp; with_reducible rfl)))
    focus assumption
    (try simp only [Act.put, List.setIfInBounds_toArray, List.set_cons_zero, List.set_cons_succ])
    refine' wpAnyH_take (i := 3) (v := _) ?_ ?_ ?_ ?_ ?_ ?_ ?_ ?_
    rotate_left 2
    focus (simp only [List.getElem?_toArray, List.getElem?_cons_succ, List.getElem?_cons_zero]; rfl)
    focus kernel_rfl
    focus kernel_rfl
    focus kernel_rfl
    focus exact (fun _ _ _ h => h)
    refine Or.inl ⟨?_, ?_⟩
    focus (go_simp; done)
    focus (intro w hSw; obtain ⟨⟨x0, x1⟩, ⟨y0, y1⟩, ⟨z0, z1⟩, _, _⟩ := hSw; (first | (go_simp; done) | (go_simp; with_reducible rfl)))
    focus assumption
    (try simp only [Act.put, List.setIfInBounds_toArray, List.set_cons_zero, List.set_cons_succ])
    refine' wpAnyH_take (i := 4) (v := _) ?_ ?_ ?_ ?_ ?_ ?_ ?_ ?_
    rotate_left 2
    focus (simp only [List.getElem?_toArray, List.getElem?_cons_succ, List.getElem?_cons_zero]; rfl)
    focus kernel_rfl
    focus kernel_rfl
    focus kernel_rfl
    focus exact (fun _ _ _ h => h)
    refine Or.inl ⟨?_, ?_⟩
    focus (go_simp; done)
    focus (intro w hSw; obtain ⟨⟨x0, x1⟩, ⟨y0, y1⟩, ⟨z0, z1⟩, _, _⟩ := hSw; (first | (go_simp; done) | (go_simp; with_reducible rfl)))
    focus assumption
    (try simp only [Act.put, List.setIfInBounds_toArray, List.set_cons_zero, List.set_cons_succ])
    refine' wpAnyH_take (i := 5) (v := _) ?_ ?_ ?_ ?_ ?_ ?_ ?_ ?_
    rotate_left 2
    focus (simp only [List.getElem?_toArray, List.getElem?_cons_succ, List.getElem?_cons_zero]; rfl)
    focus kernel_rfl
    focus kernel_rfl
    focus kernel_rfl
    focus exact (fun _ _ _ h => h)
    refine Or.inl ⟨?_, ?_⟩
    focus (go_simp; done)
    focus (intro w hSw; obtain ⟨⟨x0, x1⟩, ⟨y0, y1⟩, ⟨z0, z1⟩, _, _⟩ := hSw; (first | (go_simp; done) | (go_simp; with_reducible rfl)))
    focus assumption
    (try simp only [Act.put, List.setIfInBounds_toArray, List.set_cons_zero, List.set_cons_succ])
    refine' wpAnyH_take (i := 7) (v := _) ?_ ?_ ?_ ?_ ?_ ?_ ?_ ?_
    rotate_left 2
    focus (simp only [List.getElem?_toArray, List.getElem?_cons_succ, List.getElem?_cons_zero]; rfl)
    focus kernel_rfl
    focus kernel_rfl
    focus kernel_rfl
    focus exact (fun _ _ _ h => h)
    refine Or.inl ⟨?_, ?_⟩
    focus (go_simp; done)
    focus (intro w hSw; obtain ⟨⟨x0, x1⟩, ⟨y0, y1⟩, ⟨z0, z1⟩, _, _⟩ := hSw; (first | (go_simp; done) | (go_simp; with_reducible rfl)))
    focus assumption
    (try simp only [Act.put, List.setIfInBounds_toArray, List.set_cons_zero, List.set_cons_succ])
    refine' wpAnyH_take (i := 8) (v := _) ?_ ?_ ?_ ?_ ?_ ?_ ?_ ?_
    rotate_left 2
    focus (simp only [List.getElem?_toArray, List.getElem?_cons_succ, List.getElem?_cons_zero]; rfl)
    focus kernel_rfl
    focus kernel_rfl
    focus kernel_rfl
    focus exact (fun _ _ _ h => h)
    refine Or.inl ⟨?_, ?_⟩
    focus (go_simp; done)
    focus (intro w hSw; obtain ⟨⟨x0, x1⟩, ⟨y0, y1⟩, ⟨z0, z1⟩, _, _⟩ := hSw; (first | (go_simp; done) | (go_simp; with_reducible rfl)))
    focus assumption
    (try simp only [Act.put, List.setIfInBounds_toArray, List.set_cons_zero, List.set_cons_succ])
    refine wpAnyH_ready (rs := [6]) (by kernel_rfl) (by simp) ?_
    refine' AllReadyH.cons ?_ (fun K hK => ?_) AllReadyH.nil
    rotate_left
    focus (simp only [List.getElem?_toArray, List.getElem?_cons_succ, List.getElem?_cons_zero]; rfl)
    go_simp
    refine Calls.mono (inside_any x m gx HM.out _) ?_
    rintro e w7 ⟨i, hi, rfl, hb⟩
    obtain ⟨⟨x0, x1⟩, ⟨y0, y1⟩, ⟨z0, z1⟩, hB, hB3⟩ := hHeld
    refine hK.out _ _ ⟨⟨hB.cell1 hb x0, hB.cell1 hb x1⟩, ⟨hB.cell2 hb y0, hB.cell2 hb y1⟩, ⟨hB3.cell2 hb z0, hB3.cell2 hb z1⟩, hB.below hb, hB3.below hb⟩ (fun hHeld => ?_)
    clear hK K hb x0 x1 y0 y1 z0 z1 hB hB3
    (try simp only [Act.put, List.setIfInBounds_toArray, List.set_cons_zero, List.set_cons_succ])
    refine wpAnyH_ready (rs := [9]) (by kernel_rfl) (by simp) ?_
    refine' AllReadyH.cons ?_ (fun K hK => ?_) AllReadyH.nil
    rotate_left
    focus (simp only [List.getElem?_toArray, List.getElem?_cons_succ, List.getElem?_cons_zero]; rfl)
    go_simp
    refine Calls.mono (inside_any y n gy HN.out _) ?_
    rintro e w8 ⟨k, hk, rfl, hb⟩
    obtain ⟨⟨x0, x1⟩, ⟨y0, y1⟩, ⟨z0, z1⟩, hB, hB3⟩ := hHeld
    refine hK.out _ _ ⟨⟨hB.cell1 hb x0, hB.cell1 hb x1⟩, ⟨hB.cell2 hb y0, hB.cell2 hb y1⟩, ⟨hB3.cell2 hb z0, hB3.cell2 hb z1⟩, hB.below hb, hB3.below hb⟩ (fun hHeld => ?_)
    clear hK K hb x0 x1 y0 y1 z0 z1 hB hB3
    (try simp only [Act.put, List.setIfInBounds_toArray, List.set_cons_zero, List.set_cons_succ])
    refine wpAnyH_ready (rs := [10]) (by kernel_rfl) (by simp) ?_
    refine' AllReadyH.cons ?_ (fun K hK => ?_) AllReadyH.nil
    rotate_left
    focus (simp only [List.getElem?_toArray, List.getElem?_cons_succ, List.getElem?_cons_zero]; rfl)
    go_simp
    refine Calls.mono (wdDo_any _ i k _) ?_
    rintro e w9 ⟨rfl, rfl⟩
    refine hK.out _ _ hHeld (fun hHeld => ?_)
    clear hK K
    (try simp only [Act.put, List.setIfInBounds_toArray, List.set_cons_zero, List.set_cons_succ])
    refine' wpAnyH_take (i := 11) (v := _) ?_ ?_ ?_ ?_ ?_ ?_ ?_ ?_
    rotate_left 2
    focus (simp only [List.getElem?_toArray, List.getElem?_cons_succ, List.getElem?_cons_zero]; rfl)
    focus kernel_rfl
    focus kernel_rfl
    focus kernel_rfl
    focus exact (fun _ _ _ h => h)
    refine Or.inl ⟨?_, ?_⟩
    focus (go_simp; done)
    focus (intro w hSw; obtain ⟨⟨x0, x1⟩, ⟨y0, y1⟩, ⟨z0, z1⟩, _, _⟩ := hSw; (first | (go_simp; done) | (go_simp; with_reducible rfl)))
    focus assumption
    (try simp only [Act.put, List.setIfInBounds_toArray, List.set_cons_zero, List.set_cons_succ])
    refine' wpAnyH_take (i := 12) (v := _) ?_ ?_ ?_ ?_ ?_ ?_ ?_ ?_
    rotate_left 2
    focus (simp only [List.getElem?_toArray, List.getElem?_cons_succ, List.getElem?_cons_zero]; rfl)
    focus kernel_rfl
    focus kernel_rfl
    focus kernel_rfl
    focus exact (fun _ _ _ h => h)
    refine Or.inl ⟨?_, ?_⟩
    focus (go_simp; done)
    focus (intro w hSw; obtain ⟨⟨x0, x1⟩, ⟨y0, y1⟩, ⟨z0, z1⟩, _, _⟩ := hSw; (first | (go_simp; done) | (go_simp; with_reducible rfl)))
    focus assumption
    (try simp only [Act.put, List.setIfInBounds_toArray, List.set_cons_zero, List.set_cons_succ])
    refine' wpAnyH_take (i := 13) (v := _) ?_ ?_ ?_ ?_ ?_ ?_ ?_ ?_
    rotate_left 2
    focus (simp only [List.getElem?_toArray, List.getElem?_cons_succ, List.getElem?_cons_zero]; rfl)
    focus kernel_rfl
    focus kernel_rfl
    focus kernel_rfl
    focus exact (fun _ _ _ h => h)
    refine Or.inl ⟨?_, ?_⟩
    focus (go_simp; done)
    focus (intro w hSw; obtain ⟨⟨x0, x1⟩, ⟨y0, y1⟩, ⟨z0, z1⟩, _, _⟩ := hSw; (first | (go_simp; done) | (go_simp; with_reducible rfl)))
    focus assumption
    (try simp only [Act.put, List.setIfInBounds_toArray, List.set_cons_zero, List.set_cons_succ])
    refine' wpAnyH_take (i := 14) (v := _) ?_ ?_ ?_ ?_ ?_ ?_ ?_ ?_
    rotate_left 2
    focus (simp only [List.getElem?_toArray, List.getElem?_cons_succ, List.getElem?_cons_zero]; rfl)
    focus kernel_rfl
    focus kernel_rfl
    focus kernel_rfl
    focus exact (fun _ _ _ h => h)
    refine Or.inl ⟨?_, ?_⟩
    focus (go_simp; done)
    focus (intro w hSw; obtain ⟨⟨x0, x1⟩, ⟨y0, y1⟩, ⟨z0, z1⟩, _, _⟩ := hSw; (first | (go_simp; done) | (go_simp; with_reducible rfl)))
    focus assumption
    (try simp only [Act.put, List.setIfInBounds_toArray, List.set_cons_zero, List.set_cons_succ])
    refine' wpAnyH_take (i := 15) (v := _) ?_ ?_ ?_ ?_ ?_ ?_ ?_ ?_
    rotate_left 2
    focus (simp only [List.getElem?_toArray, List.getElem?_cons_succ, List.getElem?_cons_zero]; rfl)
    focus kernel_rfl
    focus kernel_rfl
    focus kernel_rfl
    focus exact (fun _ _ _ h => h)
    refine Or.inl ⟨?_, ?_⟩
    focus (go_simp; done)
    focus (intro w hSw; obtain ⟨⟨x0, x1⟩, ⟨y0, y1⟩, ⟨z0, z1⟩, _, _⟩ := hSw; (first | (go_simp; done) | (go_simp; with_reducible rfl)))
    focus assumption
    (try simp only [Act.put, List.setIfInBounds_toArray, List.set_cons_zero, List.set_cons_succ])
    refine wpAnyH_done (by kernel_rfl) ?_ _
    obtain ⟨⟨x0, x1⟩, ⟨y0, y1⟩, ⟨z0, z1⟩, hB, hB3⟩ := id hHeld
    have hcov := Iv.sound hO gx.1 hi gx.2.2 gy.1 hk gy.2.2
    rw [HZO.out] at hcov
    have HC := Lib.hid (And.intro (Iv.has_cov hcov) (Iv.ok_Ok (.inr hcov.1)))
    clear hcov hHeld hi hk
    obtain ⟨hv, hg1, hg3⟩ := id hB3
    go_wp2_with fail
    refine (iHas_any z.lo z.hi _ true HC.out.1 _).mono ?_
    rintro e w7 ⟨rfl, hb⟩
    have z0 := Beh.cell2 hB3 hb z0; have z1 := Beh.cell2 hB3 hb z1; have hB3 := Beh.below hB3 hb; clear hb
    go_wp2_with fail
    refine (iValid_any z.lo z.hi true HC.out.2 _).mono ?_
    rintro e w8 ⟨rfl, hb⟩
    have hB3 := Beh.below hB3 hb; clear hb
    go_wp2_with fail
    refine (awake_any _).mono ?_
    rintro e w9 ⟨rfl, hb⟩
    have hB3 := Beh.below hB3 hb; clear hb
    go_wp2
    go_ret
    exact ⟨rfl, hB3.1⟩
end Go.Proofs.Ytdajgopgaklipaa
