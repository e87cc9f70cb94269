/- The walk of the law CongruenceSound: it answers true. No condition. -/
import Derived.Test.YtmdakglbommopaaDoorCgPair
import Derived.Deep.RegionWith
namespace Go.Proofs.YtmdakglbommopaaDoor
open Go.RowKit
set_option linter.unusedVariables false
set_option linter.unusedSimpArgs false
attribute [local go_sem] y_undef
theorem Two.below {w a b : World} {x y : Rs} {g1 g2 : Nat} (h : Two w x y g1 g2 a) (hb : Below a.heap.size a b) : Two w x y g1 g2 b :=
  ⟨h.1.trans (hb.mono h.1.size), ⟨(hb.cell (p := ⟨g1, 0, none⟩) h.2.2.2.1).trans h.2.1.1, (hb.cell (p := ⟨g1, 1, none⟩) h.2.2.2.1).trans h.2.1.2⟩, ⟨(hb.cell (p := ⟨g2, 0, none⟩) h.2.2.2.2).trans h.2.2.1.1, (hb.cell (p := ⟨g2, 1, none⟩) h.2.2.2.2).trans h.2.2.1.2⟩, Nat.lt_of_lt_of_le h.2.2.2.1 hb.size, Nat.lt_of_lt_of_le h.2.2.2.2 hb.size⟩
theorem Two.drew {w a : World} {x y : Rs} {g1 g2 : Nat} (h : Two w x y g1 g2 a) : Two w x y g1 g2 a.drew := h.below (below_drewN _ a 1)
/-- One more residue in a block. -/
def One (z : Rs) (g : Nat) (w' : World) : Prop := (w'.cell? ⟨g, 0, none⟩ = some (.int .i64 z.m) ∧ w'.cell? ⟨g, 1, none⟩ = some (.int .i64 z.r)) ∧ g < w'.heap.size
theorem One.below {z : Rs} {g : Nat} {a b : World} (h : One z g a) (hb : Below a.heap.size a b) : One z g b :=
  ⟨⟨(hb.cell (p := ⟨g, 0, none⟩) h.2).trans h.1.1, (hb.cell (p := ⟨g, 1, none⟩) h.2).trans h.1.2⟩, Nat.lt_of_lt_of_le h.2 hb.size⟩
theorem One.drew {z : Rs} {g : Nat} {a : World} (h : One z g a) : One z g a.drew := h.below (below_drewN _ a 1)
theorem one_new (z : Rs) (a : World) : One z a.heap.size (a.alloc (.cells #[.int .i64 z.m, .int .i64 z.r] 23)) := ⟨⟨by simp, by simp⟩, by simp⟩
set_option maxRecDepth 100000 in
set_option maxHeartbeats 16000000 in
theorem sound_law (o a b h0 h1 m n : Int) (ho : 0 ≤ o ∧ o ≤ 255) (ha : -2147483648 ≤ a ∧ a ≤ 2147483647) (hb : -2147483648 ≤ b ∧ b ≤ 2147483647) (hh0 : 0 ≤ h0 ∧ h0 ≤ 255) (hh1 : 0 ≤ h1 ∧ h1 ≤ 255) (hm : 0 ≤ m ∧ m ≤ 4294967295) (hn : 0 ≤ n ∧ n ≤ 4294967295) (w : World) (htb : Tb w) :
    Calls Tryd.prog 5 #[.int .u8 o, .int .i32 a, .int .i32 b, .agg #[.int .u8 h0, .int .u8 h1], .int .u32 m, .int .u32 n] w fun e w' => e = .returned (.bool true) ∧ Below w.heap.size w w' := by
  have HTb := Lib.hid htb
  clear htb
  have hA := (Ahead.refl w).alloc (.cells #[.int .u8 h0, .int .u8 h1] 27)
  have HX := Lib.hid (of_any a h0 ha hh0)
  have HY := Lib.hid (of_any b h1 hb hh1)
  have HM := Lib.hid hm
  have HN := Lib.hid hn
  obtain ⟨o1, o2⟩ := ho
  have wo : IntKind.i64.wrap (1 + o % 14) = 1 + o % 14 := IntWalk.i64_in _ (by omega)
  have hO : 1 ≤ 1 + o % 14 ∧ 1 + o % 14 ≤ 14 := by omega
  clear ha hb hh0 hh1 hm hn
  have hg := rs_guard
  go_enter Tryd.func5, Tryd.ntmps5
  go_wp2_with fail
  rename_i K1 hK1
  refine' (fun (HK : ∀ (x y : Rs) (g1 g2 : Nat) (w' : World), Rs.F x → Rs.F y → Two w x y g1 g2 w' → K1 { tmps := #[.int .u8 o, .int .i32 a, .int .i32 b, .agg #[.int .u8 h0, .int .u8 h1], .int .u32 m, .int .u32 n, undef, undef, undef, .pointer (some ⟨w.heap.size, 0, none⟩), undef, undef, .bool false, .pointer (some ⟨g1, 0, none⟩), .pointer (some ⟨g2, 0, none⟩), undef, undef, undef, undef, undef, .int .i32 a, .pointer (some ⟨w.heap.size, 0, none⟩), .int .u8 h0, .agg #[.int .i64 (x).m, .int .i64 (x).r], .int .i32 b, .pointer (some ⟨w.heap.size, 1, none⟩), .int .u8 h1, .agg #[.int .i64 (y).m, .int .i64 (y).r], undef, undef, undef, undef, undef, undef, undef, undef, undef, undef, undef, undef, undef, undef, undef, undef, undef, undef, undef, undef, undef, undef, undef, undef, undef, undef, undef, undef, undef, undef, undef, undef, undef, undef, undef, undef, undef, undef, undef, undef, undef, undef, undef, undef, undef, undef, undef, undef, undef, undef, undef, undef, undef, undef, undef, undef, undef, undef, undef, undef, undef, undef, undef], defers := [] } w') => ?_) (fun x y g1 g2 w' hx hy hw' => ?_)
  focus
    clear hK1
    have hI : Inv w h0 h1 none none (w.alloc (.cells #[.int .u8 h0, .int .u8 h1] 27)).drew := ⟨⟨⟨by simp, by simp⟩, hA.drew⟩, trivial, trivial, fun _ _ h => by cases h⟩
    clear hA
    refine wp_region_held_drew (S := fun w' => Arr w h0 h1 w') (by kernel_rfl) hI.1 (fun hHeld => ?_)
    generalize (w.alloc (.cells #[.int .u8 h0, .int .u8 h1] 27)).drew = u0 at *
    refine' wpAnyH_take (i := 0) (v := _) ?_ ?_ ?_ ?_ ?_ ?_ ?_ ?_
    rotate_left 2
    focus (simp only [List.getElem?_toArray, List.getElem?_cons_succ, List.getElem?_cons_zero]; rfl)
    focus kernel_rfl
    focus kernel_rfl
    focus kernel_rfl
    focus exact (fun _ _ _ h => h)
    refine Or.inl ⟨?_, ?_⟩
    focus (go_simp; done)
    focus (intro w hSw; obtain ⟨⟨a0, a1⟩, _⟩ := hSw; (first | (go_simp; done) | (go_simp; with_reducible rfl)))
    focus assumption
    (try simp only [Act.put, List.setIfInBounds_toArray, List.set_cons_zero, List.set_cons_succ])
    refine' wpAnyH_take (i := 1) (v := _) ?_ ?_ ?_ ?_ ?_ ?_ ?_ ?_
    rotate_left 2
    focus (simp only [List.getElem?_toArray, List.getElem?_cons_succ, List.getElem?_cons_zero]; rfl)
    focus kernel_rfl
    focus kernel_rfl
    focus kernel_rfl
    focus exact (fun _ _ _ h => h)
    refine Or.inl ⟨?_, ?_⟩
    focus (go_simp; done)
    focus (intro w hSw; obtain ⟨⟨a0, a1⟩, _⟩ := hSw; (first | (go_simp; done) | (go_simp; with_reducible rfl)))
    focus assumption
    (try simp only [Act.put, List.setIfInBounds_toArray, List.set_cons_zero, List.set_cons_succ])
    refine' wpAnyH_take (i := 2) (v := _) ?_ ?_ ?_ ?_ ?_ ?_ ?_ ?_
    rotate_left 2
    focus (simp only [List.getElem?_toArray, List.getElem?_cons_succ, List.getElem?_cons_zero]; rfl)
    focus kernel_rfl
    focus kernel_rfl
    focus kernel_rfl
    focus exact (fun _ _ _ h => h)
    refine Or.inl ⟨?_, ?_⟩
    focus (go_simp; done)
    focus (intro w hSw; obtain ⟨⟨a0, a1⟩, _⟩ := hSw; (first | (go_simp; done) | (go_simp; with_reducible rfl)))
    focus assumption
    (try simp only [Act.put, List.setIfInBounds_toArray, List.set_cons_zero, List.set_cons_succ])
    refine' wpAnyH_take (i := 4) (v := _) ?_ ?_ ?_ ?_ ?_ ?_ ?_ ?_
    rotate_left 2
    focus (simp only [List.getElem?_toArray, List.getElem?_cons_succ, List.getElem?_cons_zero]; rfl)
    focus kernel_rfl
    focus kernel_rfl
    focus kernel_rfl
    focus exact (fun _ _ _ h => h)
    refine Or.inl ⟨?_, ?_⟩
    focus (go_simp; done)
    focus (intro w hSw; obtain ⟨⟨a0, a1⟩, _⟩ := hSw; (first | (go_simp; done) | (go_simp; with_reducible rfl)))
    focus assumption
    (try simp only [Act.put, List.setIfInBounds_toArray, List.set_cons_zero, List.set_cons_succ])
    refine' wpAnyH_take (i := 5) (v := _) ?_ ?_ ?_ ?_ ?_ ?_ ?_ ?_
    rotate_left 2
    focus (simp only [List.getElem?_toArray, List.getElem?_cons_succ, List.getElem?_cons_zero]; rfl)
    focus kernel_rfl
    focus kernel_rfl
    focus kernel_rfl
    focus exact (fun _ _ _ h => h)
    refine Or.inl ⟨?_, ?_⟩
    focus (go_simp; done)
    focus (intro w hSw; obtain ⟨⟨a0, a1⟩, _⟩ := hSw; (first | (go_simp; done) | (go_simp; with_reducible rfl)))
    focus assumption
    (try simp only [Act.put, List.setIfInBounds_toArray, List.set_cons_zero, List.set_cons_succ])
    refine' wpAnyH_take (i := 6) (v := _) ?_ ?_ ?_ ?_ ?_ ?_ ?_ ?_
    rotate_left 2
    focus (simp only [List.getElem?_toArray, List.getElem?_cons_succ, List.getElem?_cons_zero]; rfl)
    focus kernel_rfl
    focus kernel_rfl
    focus kernel_rfl
    focus exact (fun _ _ _ h => h)
    refine Or.inl ⟨?_, ?_⟩
    focus (go_simp; done)
    focus (intro w hSw; obtain ⟨⟨a0, a1⟩, _⟩ := hSw; (first | (go_simp; done) | (go_simp; with_reducible rfl)))
    focus assumption
    (try simp only [Act.put, List.setIfInBounds_toArray, List.set_cons_zero, List.set_cons_succ])
    refine wpAnyH_ready (rs := [3, 8, 9]) (by kernel_rfl) (by simp) ?_
    refine' AllReadyH.cons ?_ (fun K hK => ?_) ?_
    rotate_left
    focus (simp only [List.getElem?_toArray, List.getElem?_cons_succ, List.getElem?_cons_zero]; rfl)
    focus
      go_simp
      refine Calls.mono (HX.out _) ?_
      rintro e u1 ⟨x, hx, rfl, hb⟩
      replace hI := hI.below hb
      refine hK.out _ _ hI.1 (fun hHeld => ?_)
      clear hK K hb
      (try simp only [Act.put, List.setIfInBounds_toArray, List.set_cons_zero, List.set_cons_succ])
      refine wpAnyH_ready (rs := [7, 8, 9]) (by kernel_rfl) (by simp) ?_
      refine' AllReadyH.cons ?_ (fun K hK => ?_) ?_
      rotate_left
      focus (simp only [List.getElem?_toArray, List.getElem?_cons_succ, List.getElem?_cons_zero]; rfl)
      focus
        go_simp
        refine Calls.mono (HY.out _) ?_
        rintro e u2 ⟨y, hy, rfl, hb⟩
        replace hI := hI.below hb
        refine hK.out _ _ hI.1 (fun hHeld => ?_)
        clear hK K hb
        (try simp only [Act.put, List.setIfInBounds_toArray, List.set_cons_zero, List.set_cons_succ])
        refine wpAnyH_ready (rs := [8, 9]) (by kernel_rfl) (by simp) ?_
        refine' AllReadyH.cons ?_ (fun K hK => ?_) ?_
        rotate_left
        focus (simp only [List.getElem?_toArray, List.getElem?_cons_succ, List.getElem?_cons_zero]; rfl)
        focus
          go_simp
          replace hI := hI.make1
          refine hK.out _ _ hI.1 (fun hHeld => ?_)
          clear hK K
          (try simp only [Act.put, List.setIfInBounds_toArray, List.set_cons_zero, List.set_cons_succ])
          generalize u2.alloc (.cells #[.int .i64 0, .int .i64 0] 23) = u3 at *
          generalize u2.heap.size = g1 at *
          refine wpAnyH_ready (rs := [9]) (by kernel_rfl) (by simp) ?_
          refine' AllReadyH.cons ?_ (fun K hK => ?_) ?_
          rotate_left
          focus (simp only [List.getElem?_toArray, List.getElem?_cons_succ, List.getElem?_cons_zero]; rfl)
          focus
            go_simp
            replace hI := hI.make2
            refine hK.out _ _ hI.1 (fun hHeld => ?_)
            clear hK K
            (try simp only [Act.put, List.setIfInBounds_toArray, List.set_cons_zero, List.set_cons_succ])
            generalize u3.alloc (.cells #[.int .i64 0, .int .i64 0] 23) = u4 at *
            generalize u3.heap.size = g2 at *
            obtain ⟨hI1, ⟨p1, p2, p3, p4, p5⟩, ⟨q1, q2, q3, q4, q5⟩, hne⟩ := hI
            have hne := hne g1 g2 rfl rfl
            refine wpAnyH_ready (rs := [10]) (by kernel_rfl) (by simp) ?_
            refine' AllReadyH.cons ?_ (fun K hK => ?_) AllReadyH.nil
            rotate_left
            focus (simp only [List.getElem?_toArray, List.getElem?_cons_succ, List.getElem?_cons_zero]; rfl)
            go_simp
            have hI2 := hI1.set2 (x := .int .i64 x.m) (y := .int .i64 x.r) p1
            have r1 := set_pair p3 p4 (x := .int .i64 x.m) (y := .int .i64 x.r)
            have q3 := (far2 (o := 0) (o1 := 0) (o2 := 1) (v1 := .int .i64 x.m) (v2 := .int .i64 x.r) hne).trans q3
            have q4 := (far2 (o := 1) (o1 := 0) (o2 := 1) (v1 := .int .i64 x.m) (v2 := .int .i64 x.r) hne).trans q4
            have q5 : ∀ o, ((u4.setCell ⟨g1, 0, none⟩ (.int .i64 x.m)).setCell ⟨g1, 1, none⟩ (.int .i64 x.r)).frozen? ⟨g2, o, none⟩ = false := fun o => by simpa using q5 o
            have s1 : g1 < ((u4.setCell ⟨g1, 0, none⟩ (.int .i64 x.m)).setCell ⟨g1, 1, none⟩ (.int .i64 x.r)).heap.size := by simpa using p2
            have s2 : g2 < ((u4.setCell ⟨g1, 0, none⟩ (.int .i64 x.m)).setCell ⟨g1, 1, none⟩ (.int .i64 x.r)).heap.size := by simpa using q2
            refine hK.out _ _ hI2 (fun hHeld => ?_)
            clear hK K p3 p4 p5 hI1
            (try simp only [Act.put, List.setIfInBounds_toArray, List.set_cons_zero, List.set_cons_succ])
            generalize (u4.setCell ⟨g1, 0, none⟩ (.int .i64 x.m)).setCell ⟨g1, 1, none⟩ (.int .i64 x.r) = v at *
            refine wpAnyH_ready (rs := [11]) (by kernel_rfl) (by simp) ?_
            refine' AllReadyH.cons ?_ (fun K hK => ?_) AllReadyH.nil
            rotate_left
            focus (simp only [List.getElem?_toArray, List.getElem?_cons_succ, List.getElem?_cons_zero]; rfl)
            go_simp
            have hI3 := hI2.set2 (x := .int .i64 y.m) (y := .int .i64 y.r) q1
            refine hK.out _ _ hI3 (fun hHeld => ?_)
            clear hK K
            (try simp only [Act.put, List.setIfInBounds_toArray, List.set_cons_zero, List.set_cons_succ])
            refine wpAnyH_done (by kernel_rfl) ?_ _
            exact HK x y g1 g2 _ hx hy ⟨hI3.2.1, ⟨(far2 (Ne.symm hne)).trans r1.1, (far2 (Ne.symm hne)).trans r1.2⟩, set_pair q3 q4, by simpa using s1, by simpa using s2⟩
          exact AllReadyH.nil
        refine' AllReadyH.cons ?_ (fun K hK => ?_) ?_
        rotate_left
        focus (simp only [List.getElem?_toArray, List.getElem?_cons_succ, List.getElem?_cons_zero]; rfl)
        focus
          go_simp
          replace hI := hI.make2
          refine hK.out _ _ hI.1 (fun hHeld => ?_)
          clear hK K
          (try simp only [Act.put, List.setIfInBounds_toArray, List.set_cons_zero, List.set_cons_succ])
          generalize u2.alloc (.cells #[.int .i64 0, .int .i64 0] 23) = u5 at *
          generalize u2.heap.size = g2 at *
          refine wpAnyH_ready (rs := [8]) (by kernel_rfl) (by simp) ?_
          refine' AllReadyH.cons ?_ (fun K hK => ?_) ?_
          rotate_left
          focus (simp only [List.getElem?_toArray, List.getElem?_cons_succ, List.getElem?_cons_zero]; rfl)
          focus
            go_simp
            replace hI := hI.make1
            refine hK.out _ _ hI.1 (fun hHeld => ?_)
            clear hK K
            (try simp only [Act.put, List.setIfInBounds_toArray, List.set_cons_zero, List.set_cons_succ])
            generalize u5.alloc (.cells #[.int .i64 0, .int .i64 0] 23) = u6 at *
            generalize u5.heap.size = g1 at *
            obtain ⟨hI1, ⟨p1, p2, p3, p4, p5⟩, ⟨q1, q2, q3, q4, q5⟩, hne⟩ := hI
            have hne := hne g1 g2 rfl rfl
            refine wpAnyH_ready (rs := [10]) (by kernel_rfl) (by simp) ?_
            refine' AllReadyH.cons ?_ (fun K hK => ?_) AllReadyH.nil
            rotate_left
            focus (simp only [List.getElem?_toArray, List.getElem?_cons_succ, List.getElem?_cons_zero]; rfl)
            go_simp
            have hI2 := hI1.set2 (x := .int .i64 x.m) (y := .int .i64 x.r) p1
            have r1 := set_pair p3 p4 (x := .int .i64 x.m) (y := .int .i64 x.r)
            have q3 := (far2 (o := 0) (o1 := 0) (o2 := 1) (v1 := .int .i64 x.m) (v2 := .int .i64 x.r) hne).trans q3
            have q4 := (far2 (o := 1) (o1 := 0) (o2 := 1) (v1 := .int .i64 x.m) (v2 := .int .i64 x.r) hne).trans q4
            have q5 : ∀ o, ((u6.setCell ⟨g1, 0, none⟩ (.int .i64 x.m)).setCell ⟨g1, 1, none⟩ (.int .i64 x.r)).frozen? ⟨g2, o, none⟩ = false := fun o => by simpa using q5 o
            have s1 : g1 < ((u6.setCell ⟨g1, 0, none⟩ (.int .i64 x.m)).setCell ⟨g1, 1, none⟩ (.int .i64 x.r)).heap.size := by simpa using p2
            have s2 : g2 < ((u6.setCell ⟨g1, 0, none⟩ (.int .i64 x.m)).setCell ⟨g1, 1, none⟩ (.int .i64 x.r)).heap.size := by simpa using q2
            refine hK.out _ _ hI2 (fun hHeld => ?_)
            clear hK K p3 p4 p5 hI1
            (try simp only [Act.put, List.setIfInBounds_toArray, List.set_cons_zero, List.set_cons_succ])
            generalize (u6.setCell ⟨g1, 0, none⟩ (.int .i64 x.m)).setCell ⟨g1, 1, none⟩ (.int .i64 x.r) = v at *
            refine wpAnyH_ready (rs := [11]) (by kernel_rfl) (by simp) ?_
            refine' AllReadyH.cons ?_ (fun K hK => ?_) AllReadyH.nil
            rotate_left
            focus (simp only [List.getElem?_toArray, List.getElem?_cons_succ, List.getElem?_cons_zero]; rfl)
            go_simp
            have hI3 := hI2.set2 (x := .int .i64 y.m) (y := .int .i64 y.r) q1
            refine hK.out _ _ hI3 (fun hHeld => ?_)
            clear hK K
            (try simp only [Act.put, List.setIfInBounds_toArray, List.set_cons_zero, List.set_cons_succ])
            refine wpAnyH_done (by kernel_rfl) ?_ _
            exact HK x y g1 g2 _ hx hy ⟨hI3.2.1, ⟨(far2 (Ne.symm hne)).trans r1.1, (far2 (Ne.symm hne)).trans r1.2⟩, set_pair q3 q4, by simpa using s1, by simpa using s2⟩
          exact AllReadyH.nil
        exact AllReadyH.nil
      refine' AllReadyH.cons ?_ (fun K hK => ?_) ?_
      rotate_left
      focus (simp only [List.getElem?_toArray, List.getElem?_cons_succ, List.getElem?_cons_zero]; rfl)
      focus
        go_simp
        replace hI := hI.make1
        refine hK.out _ _ hI.1 (fun hHeld => ?_)
        clear hK K
        (try simp only [Act.put, List.setIfInBounds_toArray, List.set_cons_zero, List.set_cons_succ])
        generalize u1.alloc (.cells #[.int .i64 0, .int .i64 0] 23) = u7 at *
        generalize u1.heap.size = g1 at *
        refine wpAnyH_ready (rs := [7, 9]) (by kernel_rfl) (by simp) ?_
        refine' AllReadyH.cons ?_ (fun K hK => ?_) ?_
        rotate_left
        focus (simp only [List.getElem?_toArray, List.getElem?_cons_succ, List.getElem?_cons_zero]; rfl)
        focus
          go_simp
          refine Calls.mono (HY.out _) ?_
          rintro e u8 ⟨y, hy, rfl, hb⟩
          replace hI := hI.below hb
          refine hK.out _ _ hI.1 (fun hHeld => ?_)
          clear hK K hb
          (try simp only [Act.put, List.setIfInBounds_toArray, List.set_cons_zero, List.set_cons_succ])
          refine wpAnyH_ready (rs := [9]) (by kernel_rfl) (by simp) ?_
          refine' AllReadyH.cons ?_ (fun K hK => ?_) ?_
          rotate_left
          focus (simp only [List.getElem?_toArray, List.getElem?_cons_succ, List.getElem?_cons_zero]; rfl)
          focus
            go_simp
            replace hI := hI.make2
            refine hK.out _ _ hI.1 (fun hHeld => ?_)
            clear hK K
            (try simp only [Act.put, List.setIfInBounds_toArray, List.set_cons_zero, List.set_cons_succ])
            generalize u8.alloc (.cells #[.int .i64 0, .int .i64 0] 23) = u9 at *
            generalize u8.heap.size = g2 at *
            obtain ⟨hI1, ⟨p1, p2, p3, p4, p5⟩, ⟨q1, q2, q3, q4, q5⟩, hne⟩ := hI
            have hne := hne g1 g2 rfl rfl
            refine wpAnyH_ready (rs := [10]) (by kernel_rfl) (by simp) ?_
            refine' AllReadyH.cons ?_ (fun K hK => ?_) AllReadyH.nil
            rotate_left
            focus (simp only [List.getElem?_toArray, List.getElem?_cons_succ, List.getElem?_cons_zero]; rfl)
            go_simp
            have hI2 := hI1.set2 (x := .int .i64 x.m) (y := .int .i64 x.r) p1
            have r1 := set_pair p3 p4 (x := .int .i64 x.m) (y := .int .i64 x.r)
            have q3 := (far2 (o := 0) (o1 := 0) (o2 := 1) (v1 := .int .i64 x.m) (v2 := .int .i64 x.r) hne).trans q3
            have q4 := (far2 (o := 1) (o1 := 0) (o2 := 1) (v1 := .int .i64 x.m) (v2 := .int .i64 x.r) hne).trans q4
            have q5 : ∀ o, ((u9.setCell ⟨g1, 0, none⟩ (.int .i64 x.m)).setCell ⟨g1, 1, none⟩ (.int .i64 x.r)).frozen? ⟨g2, o, none⟩ = false := fun o => by simpa using q5 o
            have s1 : g1 < ((u9.setCell ⟨g1, 0, none⟩ (.int .i64 x.m)).setCell ⟨g1, 1, none⟩ (.int .i64 x.r)).heap.size := by simpa using p2
            have s2 : g2 < ((u9.setCell ⟨g1, 0, none⟩ (.int .i64 x.m)).setCell ⟨g1, 1, none⟩ (.int .i64 x.r)).heap.size := by simpa using q2
            refine hK.out _ _ hI2 (fun hHeld => ?_)
            clear hK K p3 p4 p5 hI1
            (try simp only [Act.put, List.setIfInBounds_toArray, List.set_cons_zero, List.set_cons_succ])
            generalize (u9.setCell ⟨g1, 0, none⟩ (.int .i64 x.m)).setCell ⟨g1, 1, none⟩ (.int .i64 x.r) = v at *
            refine wpAnyH_ready (rs := [11]) (by kernel_rfl) (by simp) ?_
            refine' AllReadyH.cons ?_ (fun K hK => ?_) AllReadyH.nil
            rotate_left
            focus (simp only [List.getElem?_toArray, List.getElem?_cons_succ, List.getElem?_cons_zero]; rfl)
            go_simp
            have hI3 := hI2.set2 (x := .int .i64 y.m) (y := .int .i64 y.r) q1
            refine hK.out _ _ hI3 (fun hHeld => ?_)
            clear hK K
            (try simp only [Act.put, List.setIfInBounds_toArray, List.set_cons_zero, List.set_cons_succ])
            refine wpAnyH_done (by kernel_rfl) ?_ _
            exact HK x y g1 g2 _ hx hy ⟨hI3.2.1, ⟨(far2 (Ne.symm hne)).trans r1.1, (far2 (Ne.symm hne)).trans r1.2⟩, set_pair q3 q4, by simpa using s1, by simpa using s2⟩
          exact AllReadyH.nil
        refine' AllReadyH.cons ?_ (fun K hK => ?_) ?_
        rotate_left
        focus (simp only [List.getElem?_toArray, List.getElem?_cons_succ, List.getElem?_cons_zero]; rfl)
        focus
          go_simp
          replace hI := hI.make2
          refine hK.out _ _ hI.1 (fun hHeld => ?_)
          clear hK K
          (try simp only [Act.put, List.setIfInBounds_toArray, List.set_cons_zero, List.set_cons_succ])
          generalize u7.alloc (.cells #[.int .i64 0, .int .i64 0] 23) = u10 at *
          generalize u7.heap.size = g2 at *
          refine wpAnyH_ready (rs := [7]) (by kernel_rfl) (by simp) ?_
          refine' AllReadyH.cons ?_ (fun K hK => ?_) ?_
          rotate_left
          focus (simp only [List.getElem?_toArray, List.getElem?_cons_succ, List.getElem?_cons_zero]; rfl)
          focus
            go_simp
            refine Calls.mono (HY.out _) ?_
            rintro e u11 ⟨y, hy, rfl, hb⟩
            replace hI := hI.below hb
            refine hK.out _ _ hI.1 (fun hHeld => ?_)
            clear hK K hb
            (try simp only [Act.put, List.setIfInBounds_toArray, List.set_cons_zero, List.set_cons_succ])
            obtain ⟨hI1, ⟨p1, p2, p3, p4, p5⟩, ⟨q1, q2, q3, q4, q5⟩, hne⟩ := hI
            have hne := hne g1 g2 rfl rfl
            refine wpAnyH_ready (rs := [10]) (by kernel_rfl) (by simp) ?_
            refine' AllReadyH.cons ?_ (fun K hK => ?_) AllReadyH.nil
            rotate_left
            focus (simp only [List.getElem?_toArray, List.getElem?_cons_succ, List.getElem?_cons_zero]; rfl)
            go_simp
            have hI2 := hI1.set2 (x := .int .i64 x.m) (y := .int .i64 x.r) p1
            have r1 := set_pair p3 p4 (x := .int .i64 x.m) (y := .int .i64 x.r)
            have q3 := (far2 (o := 0) (o1 := 0) (o2 := 1) (v1 := .int .i64 x.m) (v2 := .int .i64 x.r) hne).trans q3
            have q4 := (far2 (o := 1) (o1 := 0) (o2 := 1) (v1 := .int .i64 x.m) (v2 := .int .i64 x.r) hne).trans q4
            have q5 : ∀ o, ((u11.setCell ⟨g1, 0, none⟩ (.int .i64 x.m)).setCell ⟨g1, 1, none⟩ (.int .i64 x.r)).frozen? ⟨g2, o, none⟩ = false := fun o => by simpa using q5 o
            have s1 : g1 < ((u11.setCell ⟨g1, 0, none⟩ (.int .i64 x.m)).setCell ⟨g1, 1, none⟩ (.int .i64 x.r)).heap.size := by simpa using p2
            have s2 : g2 < ((u11.setCell ⟨g1, 0, none⟩ (.int .i64 x.m)).setCell ⟨g1, 1, none⟩ (.int .i64 x.r)).heap.size := by simpa using q2
            refine hK.out _ _ hI2 (fun hHeld => ?_)
            clear hK K p3 p4 p5 hI1
            (try simp only [Act.put, List.setIfInBounds_toArray, List.set_cons_zero, List.set_cons_succ])
            generalize (u11.setCell ⟨g1, 0, none⟩ (.int .i64 x.m)).setCell ⟨g1, 1, none⟩ (.int .i64 x.r) = v at *
            refine wpAnyH_ready (rs := [11]) (by kernel_rfl) (by simp) ?_
            refine' AllReadyH.cons ?_ (fun K hK => ?_) AllReadyH.nil
            rotate_left
            focus (simp only [List.getElem?_toArray, List.getElem?_cons_succ, List.getElem?_cons_zero]; rfl)
            go_simp
            have hI3 := hI2.set2 (x := .int .i64 y.m) (y := .int .i64 y.r) q1
            refine hK.out _ _ hI3 (fun hHeld => ?_)
            clear hK K
            (try simp only [Act.put, List.setIfInBounds_toArray, List.set_cons_zero, List.set_cons_succ])
            refine wpAnyH_done (by kernel_rfl) ?_ _
            exact HK x y g1 g2 _ hx hy ⟨hI3.2.1, ⟨(far2 (Ne.symm hne)).trans r1.1, (far2 (Ne.symm hne)).trans r1.2⟩, set_pair q3 q4, by simpa using s1, by simpa using s2⟩
          exact AllReadyH.nil
        exact AllReadyH.nil
      refine' AllReadyH.cons ?_ (fun K hK => ?_) ?_
      rotate_left
      focus (simp only [List.getElem?_toArray, List.getElem?_cons_succ, List.getElem?_cons_zero]; rfl)
      focus
        go_simp
        replace hI := hI.make2
        refine hK.out _ _ hI.1 (fun hHeld => ?_)
        clear hK K
        (try simp only [Act.put, List.setIfInBounds_toArray, List.set_cons_zero, List.set_cons_succ])
        generalize u1.alloc (.cells #[.int .i64 0, .int .i64 0] 23) = u12 at *
        generalize u1.heap.size = g2 at *
        refine wpAnyH_ready (rs := [7, 8]) (by kernel_rfl) (by simp) ?_
        refine' AllReadyH.cons ?_ (fun K hK => ?_) ?_
        rotate_left
        focus (simp only [List.getElem?_toArray, List.getElem?_cons_succ, List.getElem?_cons_zero]; rfl)
        focus
          go_simp
          refine Calls.mono (HY.out _) ?_
          rintro e u13 ⟨y, hy, rfl, hb⟩
          replace hI := hI.below hb
          refine hK.out _ _ hI.1 (fun hHeld => ?_)
          clear hK K hb
          (try simp only [Act.put, List.setIfInBounds_toArray, List.set_cons_zero, List.set_cons_succ])
          refine wpAnyH_ready (rs := [8]) (by kernel_rfl) (by simp) ?_
          refine' AllReadyH.cons ?_ (fun K hK => ?_) ?_
          rotate_left
          focus (simp only [List.getElem?_toArray, List.getElem?_cons_succ, List.getElem?_cons_zero]; rfl)
          focus
            go_simp
            replace hI := hI.make1
            refine hK.out _ _ hI.1 (fun hHeld => ?_)
            clear hK K
            (try simp only [Act.put, List.setIfInBounds_toArray, List.set_cons_zero, List.set_cons_succ])
            generalize u13.alloc (.cells #[.int .i64 0, .int .i64 0] 23) = u14 at *
            generalize u13.heap.size = g1 at *
            obtain ⟨hI1, ⟨p1, p2, p3, p4, p5⟩, ⟨q1, q2, q3, q4, q5⟩, hne⟩ := hI
            have hne := hne g1 g2 rfl rfl
            refine wpAnyH_ready (rs := [10]) (by kernel_rfl) (by simp) ?_
            refine' AllReadyH.cons ?_ (fun K hK => ?_) AllReadyH.nil
            rotate_left
            focus (simp only [List.getElem?_toArray, List.getElem?_cons_succ, List.getElem?_cons_zero]; rfl)
            go_simp
            have hI2 := hI1.set2 (x := .int .i64 x.m) (y := .int .i64 x.r) p1
            have r1 := set_pair p3 p4 (x := .int .i64 x.m) (y := .int .i64 x.r)
            have q3 := (far2 (o := 0) (o1 := 0) (o2 := 1) (v1 := .int .i64 x.m) (v2 := .int .i64 x.r) hne).trans q3
            have q4 := (far2 (o := 1) (o1 := 0) (o2 := 1) (v1 := .int .i64 x.m) (v2 := .int .i64 x.r) hne).trans q4
            have q5 : ∀ o, ((u14.setCell ⟨g1, 0, none⟩ (.int .i64 x.m)).setCell ⟨g1, 1, none⟩ (.int .i64 x.r)).frozen? ⟨g2, o, none⟩ = false := fun o => by simpa using q5 o
            have s1 : g1 < ((u14.setCell ⟨g1, 0, none⟩ (.int .i64 x.m)).setCell ⟨g1, 1, none⟩ (.int .i64 x.r)).heap.size := by simpa using p2
            have s2 : g2 < ((u14.setCell ⟨g1, 0, none⟩ (.int .i64 x.m)).setCell ⟨g1, 1, none⟩ (.int .i64 x.r)).heap.size := by simpa using q2
            refine hK.out _ _ hI2 (fun hHeld => ?_)
            clear hK K p3 p4 p5 hI1
            (try simp only [Act.put, List.setIfInBounds_toArray, List.set_cons_zero, List.set_cons_succ])
            generalize (u14.setCell ⟨g1, 0, none⟩ (.int .i64 x.m)).setCell ⟨g1, 1, none⟩ (.int .i64 x.r) = v at *
            refine wpAnyH_ready (rs := [11]) (by kernel_rfl) (by simp) ?_
            refine' AllReadyH.cons ?_ (fun K hK => ?_) AllReadyH.nil
            rotate_left
            focus (simp only [List.getElem?_toArray, List.getElem?_cons_succ, List.getElem?_cons_zero]; rfl)
            go_simp
            have hI3 := hI2.set2 (x := .int .i64 y.m) (y := .int .i64 y.r) q1
            refine hK.out _ _ hI3 (fun hHeld => ?_)
            clear hK K
            (try simp only [Act.put, List.setIfInBounds_toArray, List.set_cons_zero, List.set_cons_succ])
            refine wpAnyH_done (by kernel_rfl) ?_ _
            exact HK x y g1 g2 _ hx hy ⟨hI3.2.1, ⟨(far2 (Ne.symm hne)).trans r1.1, (far2 (Ne.symm hne)).trans r1.2⟩, set_pair q3 q4, by simpa using s1, by simpa using s2⟩
          exact AllReadyH.nil
        refine' AllReadyH.cons ?_ (fun K hK => ?_) ?_
        rotate_left
        focus (simp only [List.getElem?_toArray, List.getElem?_cons_succ, List.getElem?_cons_zero]; rfl)
        focus
          go_simp
          replace hI := hI.make1
          refine hK.out _ _ hI.1 (fun hHeld => ?_)
          clear hK K
          (try simp only [Act.put, List.setIfInBounds_toArray, List.set_cons_zero, List.set_cons_succ])
          generalize u12.alloc (.cells #[.int .i64 0, .int .i64 0] 23) = u15 at *
          generalize u12.heap.size = g1 at *
          refine wpAnyH_ready (rs := [7]) (by kernel_rfl) (by simp) ?_
          refine' AllReadyH.cons ?_ (fun K hK => ?_) ?_
          rotate_left
          focus (simp only [List.getElem?_toArray, List.getElem?_cons_succ, List.getElem?_cons_zero]; rfl)
          focus
            go_simp
            refine Calls.mono (HY.out _) ?_
            rintro e u16 ⟨y, hy, rfl, hb⟩
            replace hI := hI.below hb
            refine hK.out _ _ hI.1 (fun hHeld => ?_)
            clear hK K hb
            (try simp only [Act.put, List.setIfInBounds_toArray, List.set_cons_zero, List.set_cons_succ])
            obtain ⟨hI1, ⟨p1, p2, p3, p4, p5⟩, ⟨q1, q2, q3, q4, q5⟩, hne⟩ := hI
            have hne := hne g1 g2 rfl rfl
            refine wpAnyH_ready (rs := [10]) (by kernel_rfl) (by simp) ?_
            refine' AllReadyH.cons ?_ (fun K hK => ?_) AllReadyH.nil
            rotate_left
            focus (simp only [List.getElem?_toArray, List.getElem?_cons_succ, List.getElem?_cons_zero]; rfl)
            go_simp
            have hI2 := hI1.set2 (x := .int .i64 x.m) (y := .int .i64 x.r) p1
            have r1 := set_pair p3 p4 (x := .int .i64 x.m) (y := .int .i64 x.r)
            have q3 := (far2 (o := 0) (o1 := 0) (o2 := 1) (v1 := .int .i64 x.m) (v2 := .int .i64 x.r) hne).trans q3
            have q4 := (far2 (o := 1) (o1 := 0) (o2 := 1) (v1 := .int .i64 x.m) (v2 := .int .i64 x.r) hne).trans q4
            have q5 : ∀ o, ((u16.setCell ⟨g1, 0, none⟩ (.int .i64 x.m)).setCell ⟨g1, 1, none⟩ (.int .i64 x.r)).frozen? ⟨g2, o, none⟩ = false := fun o => by simpa using q5 o
            have s1 : g1 < ((u16.setCell ⟨g1, 0, none⟩ (.int .i64 x.m)).setCell ⟨g1, 1, none⟩ (.int .i64 x.r)).heap.size := by simpa using p2
            have s2 : g2 < ((u16.setCell ⟨g1, 0, none⟩ (.int .i64 x.m)).setCell ⟨g1, 1, none⟩ (.int .i64 x.r)).heap.size := by simpa using q2
            refine hK.out _ _ hI2 (fun hHeld => ?_)
            clear hK K p3 p4 p5 hI1
            (try simp only [Act.put, List.setIfInBounds_toArray, List.set_cons_zero, List.set_cons_succ])
            generalize (u16.setCell ⟨g1, 0, none⟩ (.int .i64 x.m)).setCell ⟨g1, 1, none⟩ (.int .i64 x.r) = v at *
            refine wpAnyH_ready (rs := [11]) (by kernel_rfl) (by simp) ?_
            refine' AllReadyH.cons ?_ (fun K hK => ?_) AllReadyH.nil
            rotate_left
            focus (simp only [List.getElem?_toArray, List.getElem?_cons_succ, List.getElem?_cons_zero]; rfl)
            go_simp
            have hI3 := hI2.set2 (x := .int .i64 y.m) (y := .int .i64 y.r) q1
            refine hK.out _ _ hI3 (fun hHeld => ?_)
            clear hK K
            (try simp only [Act.put, List.setIfInBounds_toArray, List.set_cons_zero, List.set_cons_succ])
            refine wpAnyH_done (by kernel_rfl) ?_ _
            exact HK x y g1 g2 _ hx hy ⟨hI3.2.1, ⟨(far2 (Ne.symm hne)).trans r1.1, (far2 (Ne.symm hne)).trans r1.2⟩, set_pair q3 q4, by simpa using s1, by simpa using s2⟩
          exact AllReadyH.nil
        exact AllReadyH.nil
      exact AllReadyH.nil
    refine' AllReadyH.cons ?_ (fun K hK => ?_) ?_
    rotate_left
    focus (simp only [List.getElem?_toArray, List.getElem?_cons_succ, List.getElem?_cons_zero]; rfl)
    focus
      go_simp
      replace hI := hI.make1
      refine hK.out _ _ hI.1 (fun hHeld => ?_)
      clear hK K
      (try simp only [Act.put, List.setIfInBounds_toArray, List.set_cons_zero, List.set_cons_succ])
      generalize u0.alloc (.cells #[.int .i64 0, .int .i64 0] 23) = u17 at *
      generalize u0.heap.size = g1 at *
      refine wpAnyH_ready (rs := [3, 9]) (by kernel_rfl) (by simp) ?_
      refine' AllReadyH.cons ?_ (fun K hK => ?_) ?_
      rotate_left
      focus (simp only [List.getElem?_toArray, List.getElem?_cons_succ, List.getElem?_cons_zero]; rfl)
      focus
        go_simp
        refine Calls.mono (HX.out _) ?_
        rintro e u18 ⟨x, hx, rfl, hb⟩
        replace hI := hI.below hb
        refine hK.out _ _ hI.1 (fun hHeld => ?_)
        clear hK K hb
        (try simp only [Act.put, List.setIfInBounds_toArray, List.set_cons_zero, List.set_cons_succ])
        refine wpAnyH_ready (rs := [7, 9]) (by kernel_rfl) (by simp) ?_
        refine' AllReadyH.cons ?_ (fun K hK => ?_) ?_
        rotate_left
        focus (simp only [List.getElem?_toArray, List.getElem?_cons_succ, List.getElem?_cons_zero]; rfl)
        focus
          go_simp
          refine Calls.mono (HY.out _) ?_
          rintro e u19 ⟨y, hy, rfl, hb⟩
          replace hI := hI.below hb
          refine hK.out _ _ hI.1 (fun hHeld => ?_)
          clear hK K hb
          (try simp only [Act.put, List.setIfInBounds_toArray, List.set_cons_zero, List.set_cons_succ])
          refine wpAnyH_ready (rs := [9]) (by kernel_rfl) (by simp) ?_
          refine' AllReadyH.cons ?_ (fun K hK => ?_) ?_
          rotate_left
          focus (simp only [List.getElem?_toArray, List.getElem?_cons_succ, List.getElem?_cons_zero]; rfl)
          focus
            go_simp
            replace hI := hI.make2
            refine hK.out _ _ hI.1 (fun hHeld => ?_)
            clear hK K
            (try simp only [Act.put, List.setIfInBounds_toArray, List.set_cons_zero, List.set_cons_succ])
            generalize u19.alloc (.cells #[.int .i64 0, .int .i64 0] 23) = u20 at *
            generalize u19.heap.size = g2 at *
            obtain ⟨hI1, ⟨p1, p2, p3, p4, p5⟩, ⟨q1, q2, q3, q4, q5⟩, hne⟩ := hI
            have hne := hne g1 g2 rfl rfl
            refine wpAnyH_ready (rs := [10]) (by kernel_rfl) (by simp) ?_
            refine' AllReadyH.cons ?_ (fun K hK => ?_) AllReadyH.nil
            rotate_left
            focus (simp only [List.getElem?_toArray, List.getElem?_cons_succ, List.getElem?_cons_zero]; rfl)
            go_simp
            have hI2 := hI1.set2 (x := .int .i64 x.m) (y := .int .i64 x.r) p1
            have r1 := set_pair p3 p4 (x := .int .i64 x.m) (y := .int .i64 x.r)
            have q3 := (far2 (o := 0) (o1 := 0) (o2 := 1) (v1 := .int .i64 x.m) (v2 := .int .i64 x.r) hne).trans q3
            have q4 := (far2 (o := 1) (o1 := 0) (o2 := 1) (v1 := .int .i64 x.m) (v2 := .int .i64 x.r) hne).trans q4
            have q5 : ∀ o, ((u20.setCell ⟨g1, 0, none⟩ (.int .i64 x.m)).setCell ⟨g1, 1, none⟩ (.int .i64 x.r)).frozen? ⟨g2, o, none⟩ = false := fun o => by simpa using q5 o
            have s1 : g1 < ((u20.setCell ⟨g1, 0, none⟩ (.int .i64 x.m)).setCell ⟨g1, 1, none⟩ (.int .i64 x.r)).heap.size := by simpa using p2
            have s2 : g2 < ((u20.setCell ⟨g1, 0, none⟩ (.int .i64 x.m)).setCell ⟨g1, 1, none⟩ (.int .i64 x.r)).heap.size := by simpa using q2
            refine hK.out _ _ hI2 (fun hHeld => ?_)
            clear hK K p3 p4 p5 hI1
            (try simp only [Act.put, List.setIfInBounds_toArray, List.set_cons_zero, List.set_cons_succ])
            generalize (u20.setCell ⟨g1, 0, none⟩ (.int .i64 x.m)).setCell ⟨g1, 1, none⟩ (.int .i64 x.r) = v at *
            refine wpAnyH_ready (rs := [11]) (by kernel_rfl) (by simp) ?_
            refine' AllReadyH.cons ?_ (fun K hK => ?_) AllReadyH.nil
            rotate_left
            focus (simp only [List.getElem?_toArray, List.getElem?_cons_succ, List.getElem?_cons_zero]; rfl)
            go_simp
            have hI3 := hI2.set2 (x := .int .i64 y.m) (y := .int .i64 y.r) q1
            refine hK.out _ _ hI3 (fun hHeld => ?_)
            clear hK K
            (try simp only [Act.put, List.setIfInBounds_toArray, List.set_cons_zero, List.set_cons_succ])
            refine wpAnyH_done (by kernel_rfl) ?_ _
            exact HK x y g1 g2 _ hx hy ⟨hI3.2.1, ⟨(far2 (Ne.symm hne)).trans r1.1, (far2 (Ne.symm hne)).trans r1.2⟩, set_pair q3 q4, by simpa using s1, by simpa using s2⟩
          exact AllReadyH.nil
        refine' AllReadyH.cons ?_ (fun K hK => ?_) ?_
        rotate_left
        focus (simp only [List.getElem?_toArray, List.getElem?_cons_succ, List.getElem?_cons_zero]; rfl)
        focus
          go_simp
          replace hI := hI.make2
          refine hK.out _ _ hI.1 (fun hHeld => ?_)
          clear hK K
          (try simp only [Act.put, List.setIfInBounds_toArray, List.set_cons_zero, List.set_cons_succ])
          generalize u18.alloc (.cells #[.int .i64 0, .int .i64 0] 23) = u21 at *
          generalize u18.heap.size = g2 at *
          refine wpAnyH_ready (rs := [7]) (by kernel_rfl) (by simp) ?_
          refine' AllReadyH.cons ?_ (fun K hK => ?_) ?_
          rotate_left
          focus (simp only [List.getElem?_toArray, List.getElem?_cons_succ, List.getElem?_cons_zero]; rfl)
          focus
            go_simp
            refine Calls.mono (HY.out _) ?_
            rintro e u22 ⟨y, hy, rfl, hb⟩
            replace hI := hI.below hb
            refine hK.out _ _ hI.1 (fun hHeld => ?_)
            clear hK K hb
            (try simp only [Act.put, List.setIfInBounds_toArray, List.set_cons_zero, List.set_cons_succ])
            obtain ⟨hI1, ⟨p1, p2, p3, p4, p5⟩, ⟨q1, q2, q3, q4, q5⟩, hne⟩ := hI
            have hne := hne g1 g2 rfl rfl
            refine wpAnyH_ready (rs := [10]) (by kernel_rfl) (by simp) ?_
            refine' AllReadyH.cons ?_ (fun K hK => ?_) AllReadyH.nil
            rotate_left
            focus (simp only [List.getElem?_toArray, List.getElem?_cons_succ, List.getElem?_cons_zero]; rfl)
            go_simp
            have hI2 := hI1.set2 (x := .int .i64 x.m) (y := .int .i64 x.r) p1
            have r1 := set_pair p3 p4 (x := .int .i64 x.m) (y := .int .i64 x.r)
            have q3 := (far2 (o := 0) (o1 := 0) (o2 := 1) (v1 := .int .i64 x.m) (v2 := .int .i64 x.r) hne).trans q3
            have q4 := (far2 (o := 1) (o1 := 0) (o2 := 1) (v1 := .int .i64 x.m) (v2 := .int .i64 x.r) hne).trans q4
            have q5 : ∀ o, ((u22.setCell ⟨g1, 0, none⟩ (.int .i64 x.m)).setCell ⟨g1, 1, none⟩ (.int .i64 x.r)).frozen? ⟨g2, o, none⟩ = false := fun o => by simpa using q5 o
            have s1 : g1 < ((u22.setCell ⟨g1, 0, none⟩ (.int .i64 x.m)).setCell ⟨g1, 1, none⟩ (.int .i64 x.r)).heap.size := by simpa using p2
            have s2 : g2 < ((u22.setCell ⟨g1, 0, none⟩ (.int .i64 x.m)).setCell ⟨g1, 1, none⟩ (.int .i64 x.r)).heap.size := by simpa using q2
            refine hK.out _ _ hI2 (fun hHeld => ?_)
            clear hK K p3 p4 p5 hI1
            (try simp only [Act.put, List.setIfInBounds_toArray, List.set_cons_zero, List.set_cons_succ])
            generalize (u22.setCell ⟨g1, 0, none⟩ (.int .i64 x.m)).setCell ⟨g1, 1, none⟩ (.int .i64 x.r) = v at *
            refine wpAnyH_ready (rs := [11]) (by kernel_rfl) (by simp) ?_
            refine' AllReadyH.cons ?_ (fun K hK => ?_) AllReadyH.nil
            rotate_left
            focus (simp only [List.getElem?_toArray, List.getElem?_cons_succ, List.getElem?_cons_zero]; rfl)
            go_simp
            have hI3 := hI2.set2 (x := .int .i64 y.m) (y := .int .i64 y.r) q1
            refine hK.out _ _ hI3 (fun hHeld => ?_)
            clear hK K
            (try simp only [Act.put, List.setIfInBounds_toArray, List.set_cons_zero, List.set_cons_succ])
            refine wpAnyH_done (by kernel_rfl) ?_ _
            exact HK x y g1 g2 _ hx hy ⟨hI3.2.1, ⟨(far2 (Ne.symm hne)).trans r1.1, (far2 (Ne.symm hne)).trans r1.2⟩, set_pair q3 q4, by simpa using s1, by simpa using s2⟩
          exact AllReadyH.nil
        exact AllReadyH.nil
      refine' AllReadyH.cons ?_ (fun K hK => ?_) ?_
      rotate_left
      focus (simp only [List.getElem?_toArray, List.getElem?_cons_succ, List.getElem?_cons_zero]; rfl)
      focus
        go_simp
        replace hI := hI.make2
        refine hK.out _ _ hI.1 (fun hHeld => ?_)
        clear hK K
        (try simp only [Act.put, List.setIfInBounds_toArray, List.set_cons_zero, List.set_cons_succ])
        generalize u17.alloc (.cells #[.int .i64 0, .int .i64 0] 23) = u23 at *
        generalize u17.heap.size = g2 at *
        refine wpAnyH_ready (rs := [3]) (by kernel_rfl) (by simp) ?_
        refine' AllReadyH.cons ?_ (fun K hK => ?_) ?_
        rotate_left
        focus (simp only [List.getElem?_toArray, List.getElem?_cons_succ, List.getElem?_cons_zero]; rfl)
        focus
          go_simp
          refine Calls.mono (HX.out _) ?_
          rintro e u24 ⟨x, hx, rfl, hb⟩
          replace hI := hI.below hb
          refine hK.out _ _ hI.1 (fun hHeld => ?_)
          clear hK K hb
          (try simp only [Act.put, List.setIfInBounds_toArray, List.set_cons_zero, List.set_cons_succ])
          refine wpAnyH_ready (rs := [7]) (by kernel_rfl) (by simp) ?_
          refine' AllReadyH.cons ?_ (fun K hK => ?_) ?_
          rotate_left
          focus (simp only [List.getElem?_toArray, List.getElem?_cons_succ, List.getElem?_cons_zero]; rfl)
          focus
            go_simp
            refine Calls.mono (HY.out _) ?_
            rintro e u25 ⟨y, hy, rfl, hb⟩
            replace hI := hI.below hb
            refine hK.out _ _ hI.1 (fun hHeld => ?_)
            clear hK K hb
            (try simp only [Act.put, List.setIfInBounds_toArray, List.set_cons_zero, List.set_cons_succ])
            obtain ⟨hI1, ⟨p1, p2, p3, p4, p5⟩, ⟨q1, q2, q3, q4, q5⟩, hne⟩ := hI
            have hne := hne g1 g2 rfl rfl
            refine wpAnyH_ready (rs := [10]) (by kernel_rfl) (by simp) ?_
            refine' AllReadyH.cons ?_ (fun K hK => ?_) AllReadyH.nil
            rotate_left
            focus (simp only [List.getElem?_toArray, List.getElem?_cons_succ, List.getElem?_cons_zero]; rfl)
            go_simp
            have hI2 := hI1.set2 (x := .int .i64 x.m) (y := .int .i64 x.r) p1
            have r1 := set_pair p3 p4 (x := .int .i64 x.m) (y := .int .i64 x.r)
            have q3 := (far2 (o := 0) (o1 := 0) (o2 := 1) (v1 := .int .i64 x.m) (v2 := .int .i64 x.r) hne).trans q3
            have q4 := (far2 (o := 1) (o1 := 0) (o2 := 1) (v1 := .int .i64 x.m) (v2 := .int .i64 x.r) hne).trans q4
            have q5 : ∀ o, ((u25.setCell ⟨g1, 0, none⟩ (.int .i64 x.m)).setCell ⟨g1, 1, none⟩ (.int .i64 x.r)).frozen? ⟨g2, o, none⟩ = false := fun o => by simpa using q5 o
            have s1 : g1 < ((u25.setCell ⟨g1, 0, none⟩ (.int .i64 x.m)).setCell ⟨g1, 1, none⟩ (.int .i64 x.r)).heap.size := by simpa using p2
            have s2 : g2 < ((u25.setCell ⟨g1, 0, none⟩ (.int .i64 x.m)).setCell ⟨g1, 1, none⟩ (.int .i64 x.r)).heap.size := by simpa using q2
            refine hK.out _ _ hI2 (fun hHeld => ?_)
            clear hK K p3 p4 p5 hI1
            (try simp only [Act.put, List.setIfInBounds_toArray, List.set_cons_zero, List.set_cons_succ])
            generalize (u25.setCell ⟨g1, 0, none⟩ (.int .i64 x.m)).setCell ⟨g1, 1, none⟩ (.int .i64 x.r) = v at *
            refine wpAnyH_ready (rs := [11]) (by kernel_rfl) (by simp) ?_
            refine' AllReadyH.cons ?_ (fun K hK => ?_) AllReadyH.nil
            rotate_left
            focus (simp only [List.getElem?_toArray, List.getElem?_cons_succ, List.getElem?_cons_zero]; rfl)
            go_simp
            have hI3 := hI2.set2 (x := .int .i64 y.m) (y := .int .i64 y.r) q1
            refine hK.out _ _ hI3 (fun hHeld => ?_)
            clear hK K
            (try simp only [Act.put, List.setIfInBounds_toArray, List.set_cons_zero, List.set_cons_succ])
            refine wpAnyH_done (by kernel_rfl) ?_ _
            exact HK x y g1 g2 _ hx hy ⟨hI3.2.1, ⟨(far2 (Ne.symm hne)).trans r1.1, (far2 (Ne.symm hne)).trans r1.2⟩, set_pair q3 q4, by simpa using s1, by simpa using s2⟩
          exact AllReadyH.nil
        exact AllReadyH.nil
      exact AllReadyH.nil
    refine' AllReadyH.cons ?_ (fun K hK => ?_) ?_
    rotate_left
    focus (simp only [List.getElem?_toArray, List.getElem?_cons_succ, List.getElem?_cons_zero]; rfl)
    focus
      go_simp
      replace hI := hI.make2
      refine hK.out _ _ hI.1 (fun hHeld => ?_)
      clear hK K
      (try simp only [Act.put, List.setIfInBounds_toArray, List.set_cons_zero, List.set_cons_succ])
      generalize u0.alloc (.cells #[.int .i64 0, .int .i64 0] 23) = u26 at *
      generalize u0.heap.size = g2 at *
      refine wpAnyH_ready (rs := [3, 8]) (by kernel_rfl) (by simp) ?_
      refine' AllReadyH.cons ?_ (fun K hK => ?_) ?_
      rotate_left
      focus (simp only [List.getElem?_toArray, List.getElem?_cons_succ, List.getElem?_cons_zero]; rfl)
      focus
        go_simp
        refine Calls.mono (HX.out _) ?_
        rintro e u27 ⟨x, hx, rfl, hb⟩
        replace hI := hI.below hb
        refine hK.out _ _ hI.1 (fun hHeld => ?_)
        clear hK K hb
        (try simp only [Act.put, List.setIfInBounds_toArray, List.set_cons_zero, List.set_cons_succ])
        refine wpAnyH_ready (rs := [7, 8]) (by kernel_rfl) (by simp) ?_
        refine' AllReadyH.cons ?_ (fun K hK => ?_) ?_
        rotate_left
        focus (simp only [List.getElem?_toArray, List.getElem?_cons_succ, List.getElem?_cons_zero]; rfl)
        focus
          go_simp
          refine Calls.mono (HY.out _) ?_
          rintro e u28 ⟨y, hy, rfl, hb⟩
          replace hI := hI.below hb
          refine hK.out _ _ hI.1 (fun hHeld => ?_)
          clear hK K hb
          (try simp only [Act.put, List.setIfInBounds_toArray, List.set_cons_zero, List.set_cons_succ])
          refine wpAnyH_ready (rs := [8]) (by kernel_rfl) (by simp) ?_
          refine' AllReadyH.cons ?_ (fun K hK => ?_) ?_
          rotate_left
          focus (simp only [List.getElem?_toArray, List.getElem?_cons_succ, List.getElem?_cons_zero]; rfl)
          focus
            go_simp
            replace hI := hI.make1
            refine hK.out _ _ hI.1 (fun hHeld => ?_)
            clear hK K
            (try simp only [Act.put, List.setIfInBounds_toArray, List.set_cons_zero, List.set_cons_succ])
            generalize u28.alloc (.cells #[.int .i64 0, .int .i64 0] 23) = u29 at *
            generalize u28.heap.size = g1 at *
            obtain ⟨hI1, ⟨p1, p2, p3, p4, p5⟩, ⟨q1, q2, q3, q4, q5⟩, hne⟩ := hI
            have hne := hne g1 g2 rfl rfl
            refine wpAnyH_ready (rs := [10]) (by kernel_rfl) (by simp) ?_
            refine' AllReadyH.cons ?_ (fun K hK => ?_) AllReadyH.nil
            rotate_left
            focus (simp only [List.getElem?_toArray, List.getElem?_cons_succ, List.getElem?_cons_zero]; rfl)
            go_simp
            have hI2 := hI1.set2 (x := .int .i64 x.m) (y := .int .i64 x.r) p1
            have r1 := set_pair p3 p4 (x := .int .i64 x.m) (y := .int .i64 x.r)
            have q3 := (far2 (o := 0) (o1 := 0) (o2 := 1) (v1 := .int .i64 x.m) (v2 := .int .i64 x.r) hne).trans q3
            have q4 := (far2 (o := 1) (o1 := 0) (o2 := 1) (v1 := .int .i64 x.m) (v2 := .int .i64 x.r) hne).trans q4
            have q5 : ∀ o, ((u29.setCell ⟨g1, 0, none⟩ (.int .i64 x.m)).setCell ⟨g1, 1, none⟩ (.int .i64 x.r)).frozen? ⟨g2, o, none⟩ = false := fun o => by simpa using q5 o
            have s1 : g1 < ((u29.setCell ⟨g1, 0, none⟩ (.int .i64 x.m)).setCell ⟨g1, 1, none⟩ (.int .i64 x.r)).heap.size := by simpa using p2
            have s2 : g2 < ((u29.setCell ⟨g1, 0, none⟩ (.int .i64 x.m)).setCell ⟨g1, 1, none⟩ (.int .i64 x.r)).heap.size := by simpa using q2
            refine hK.out _ _ hI2 (fun hHeld => ?_)
            clear hK K p3 p4 p5 hI1
            (try simp only [Act.put, List.setIfInBounds_toArray, List.set_cons_zero, List.set_cons_succ])
            generalize (u29.setCell ⟨g1, 0, none⟩ (.int .i64 x.m)).setCell ⟨g1, 1, none⟩ (.int .i64 x.r) = v at *
            refine wpAnyH_ready (rs := [11]) (by kernel_rfl) (by simp) ?_
            refine' AllReadyH.cons ?_ (fun K hK => ?_) AllReadyH.nil
            rotate_left
            focus (simp only [List.getElem?_toArray, List.getElem?_cons_succ, List.getElem?_cons_zero]; rfl)
            go_simp
            have hI3 := hI2.set2 (x := .int .i64 y.m) (y := .int .i64 y.r) q1
            refine hK.out _ _ hI3 (fun hHeld => ?_)
            clear hK K
            (try simp only [Act.put, List.setIfInBounds_toArray, List.set_cons_zero, List.set_cons_succ])
            refine wpAnyH_done (by kernel_rfl) ?_ _
            exact HK x y g1 g2 _ hx hy ⟨hI3.2.1, ⟨(far2 (Ne.symm hne)).trans r1.1, (far2 (Ne.symm hne)).trans r1.2⟩, set_pair q3 q4, by simpa using s1, by simpa using s2⟩
          exact AllReadyH.nil
        refine' AllReadyH.cons ?_ (fun K hK => ?_) ?_
        rotate_left
        focus (simp only [List.getElem?_toArray, List.getElem?_cons_succ, List.getElem?_cons_zero]; rfl)
        focus
          go_simp
          replace hI := hI.make1
          refine hK.out _ _ hI.1 (fun hHeld => ?_)
          clear hK K
          (try simp only [Act.put, List.setIfInBounds_toArray, List.set_cons_zero, List.set_cons_succ])
          generalize u27.alloc (.cells #[.int .i64 0, .int .i64 0] 23) = u30 at *
          generalize u27.heap.size = g1 at *
          refine wpAnyH_ready (rs := [7]) (by kernel_rfl) (by simp) ?_
          refine' AllReadyH.cons ?_ (fun K hK => ?_) ?_
          rotate_left
          focus (simp only [List.getElem?_toArray, List.getElem?_cons_succ, List.getElem?_cons_zero]; rfl)
          focus
            go_simp
            refine Calls.mono (HY.out _) ?_
            rintro e u31 ⟨y, hy, rfl, hb⟩
            replace hI := hI.below hb
            refine hK.out _ _ hI.1 (fun hHeld => ?_)
            clear hK K hb
            (try simp only [Act.put, List.setIfInBounds_toArray, List.set_cons_zero, List.set_cons_succ])
            obtain ⟨hI1, ⟨p1, p2, p3, p4, p5⟩, ⟨q1, q2, q3, q4, q5⟩, hne⟩ := hI
            have hne := hne g1 g2 rfl rfl
            refine wpAnyH_ready (rs := [10]) (by kernel_rfl) (by simp) ?_
            refine' AllReadyH.cons ?_ (fun K hK => ?_) AllReadyH.nil
            rotate_left
            focus (simp only [List.getElem?_toArray, List.getElem?_cons_succ, List.getElem?_cons_zero]; rfl)
            go_simp
            have hI2 := hI1.set2 (x := .int .i64 x.m) (y := .int .i64 x.r) p1
            have r1 := set_pair p3 p4 (x := .int .i64 x.m) (y := .int .i64 x.r)
            have q3 := (far2 (o := 0) (o1 := 0) (o2 := 1) (v1 := .int .i64 x.m) (v2 := .int .i64 x.r) hne).trans q3
            have q4 := (far2 (o := 1) (o1 := 0) (o2 := 1) (v1 := .int .i64 x.m) (v2 := .int .i64 x.r) hne).trans q4
            have q5 : ∀ o, ((u31.setCell ⟨g1, 0, none⟩ (.int .i64 x.m)).setCell ⟨g1, 1, none⟩ (.int .i64 x.r)).frozen? ⟨g2, o, none⟩ = false := fun o => by simpa using q5 o
            have s1 : g1 < ((u31.setCell ⟨g1, 0, none⟩ (.int .i64 x.m)).setCell ⟨g1, 1, none⟩ (.int .i64 x.r)).heap.size := by simpa using p2
            have s2 : g2 < ((u31.setCell ⟨g1, 0, none⟩ (.int .i64 x.m)).setCell ⟨g1, 1, none⟩ (.int .i64 x.r)).heap.size := by simpa using q2
            refine hK.out _ _ hI2 (fun hHeld => ?_)
            clear hK K p3 p4 p5 hI1
            (try simp only [Act.put, List.setIfInBounds_toArray, List.set_cons_zero, List.set_cons_succ])
            generalize (u31.setCell ⟨g1, 0, none⟩ (.int .i64 x.m)).setCell ⟨g1, 1, none⟩ (.int .i64 x.r) = v at *
            refine wpAnyH_ready (rs := [11]) (by kernel_rfl) (by simp) ?_
            refine' AllReadyH.cons ?_ (fun K hK => ?_) AllReadyH.nil
            rotate_left
            focus (simp only [List.getElem?_toArray, List.getElem?_cons_succ, List.getElem?_cons_zero]; rfl)
            go_simp
            have hI3 := hI2.set2 (x := .int .i64 y.m) (y := .int .i64 y.r) q1
            refine hK.out _ _ hI3 (fun hHeld => ?_)
            clear hK K
            (try simp only [Act.put, List.setIfInBounds_toArray, List.set_cons_zero, List.set_cons_succ])
            refine wpAnyH_done (by kernel_rfl) ?_ _
            exact HK x y g1 g2 _ hx hy ⟨hI3.2.1, ⟨(far2 (Ne.symm hne)).trans r1.1, (far2 (Ne.symm hne)).trans r1.2⟩, set_pair q3 q4, by simpa using s1, by simpa using s2⟩
          exact AllReadyH.nil
        exact AllReadyH.nil
      refine' AllReadyH.cons ?_ (fun K hK => ?_) ?_
      rotate_left
      focus (simp only [List.getElem?_toArray, List.getElem?_cons_succ, List.getElem?_cons_zero]; rfl)
      focus
        go_simp
        replace hI := hI.make1
        refine hK.out _ _ hI.1 (fun hHeld => ?_)
        clear hK K
        (try simp only [Act.put, List.setIfInBounds_toArray, List.set_cons_zero, List.set_cons_succ])
        generalize u26.alloc (.cells #[.int .i64 0, .int .i64 0] 23) = u32 at *
        generalize u26.heap.size = g1 at *
        refine wpAnyH_ready (rs := [3]) (by kernel_rfl) (by simp) ?_
        refine' AllReadyH.cons ?_ (fun K hK => ?_) ?_
        rotate_left
        focus (simp only [List.getElem?_toArray, List.getElem?_cons_succ, List.getElem?_cons_zero]; rfl)
        focus
          go_simp
          refine Calls.mono (HX.out _) ?_
          rintro e u33 ⟨x, hx, rfl, hb⟩
          replace hI := hI.below hb
          refine hK.out _ _ hI.1 (fun hHeld => ?_)
          clear hK K hb
          (try simp only [Act.put, List.setIfInBounds_toArray, List.set_cons_zero, List.set_cons_succ])
          refine wpAnyH_ready (rs := [7]) (by kernel_rfl) (by simp) ?_
          refine' AllReadyH.cons ?_ (fun K hK => ?_) ?_
          rotate_left
          focus (simp only [List.getElem?_toArray, List.getElem?_cons_succ, List.getElem?_cons_zero]; rfl)
          focus
            go_simp
            refine Calls.mono (HY.out _) ?_
            rintro e u34 ⟨y, hy, rfl, hb⟩
            replace hI := hI.below hb
            refine hK.out _ _ hI.1 (fun hHeld => ?_)
            clear hK K hb
            (try simp only [Act.put, List.setIfInBounds_toArray, List.set_cons_zero, List.set_cons_succ])
            obtain ⟨hI1, ⟨p1, p2, p3, p4, p5⟩, ⟨q1, q2, q3, q4, q5⟩, hne⟩ := hI
            have hne := hne g1 g2 rfl rfl
            refine wpAnyH_ready (rs := [10]) (by kernel_rfl) (by simp) ?_
            refine' AllReadyH.cons ?_ (fun K hK => ?_) AllReadyH.nil
            rotate_left
            focus (simp only [List.getElem?_toArray, List.getElem?_cons_succ, List.getElem?_cons_zero]; rfl)
            go_simp
            have hI2 := hI1.set2 (x := .int .i64 x.m) (y := .int .i64 x.r) p1
            have r1 := set_pair p3 p4 (x := .int .i64 x.m) (y := .int .i64 x.r)
            have q3 := (far2 (o := 0) (o1 := 0) (o2 := 1) (v1 := .int .i64 x.m) (v2 := .int .i64 x.r) hne).trans q3
            have q4 := (far2 (o := 1) (o1 := 0) (o2 := 1) (v1 := .int .i64 x.m) (v2 := .int .i64 x.r) hne).trans q4
            have q5 : ∀ o, ((u34.setCell ⟨g1, 0, none⟩ (.int .i64 x.m)).setCell ⟨g1, 1, none⟩ (.int .i64 x.r)).frozen? ⟨g2, o, none⟩ = false := fun o => by simpa using q5 o
            have s1 : g1 < ((u34.setCell ⟨g1, 0, none⟩ (.int .i64 x.m)).setCell ⟨g1, 1, none⟩ (.int .i64 x.r)).heap.size := by simpa using p2
            have s2 : g2 < ((u34.setCell ⟨g1, 0, none⟩ (.int .i64 x.m)).setCell ⟨g1, 1, none⟩ (.int .i64 x.r)).heap.size := by simpa using q2
            refine hK.out _ _ hI2 (fun hHeld => ?_)
            clear hK K p3 p4 p5 hI1
            (try simp only [Act.put, List.setIfInBounds_toArray, List.set_cons_zero, List.set_cons_succ])
            generalize (u34.setCell ⟨g1, 0, none⟩ (.int .i64 x.m)).setCell ⟨g1, 1, none⟩ (.int .i64 x.r) = v at *
            refine wpAnyH_ready (rs := [11]) (by kernel_rfl) (by simp) ?_
            refine' AllReadyH.cons ?_ (fun K hK => ?_) AllReadyH.nil
            rotate_left
            focus (simp only [List.getElem?_toArray, List.getElem?_cons_succ, List.getElem?_cons_zero]; rfl)
            go_simp
            have hI3 := hI2.set2 (x := .int .i64 y.m) (y := .int .i64 y.r) q1
            refine hK.out _ _ hI3 (fun hHeld => ?_)
            clear hK K
            (try simp only [Act.put, List.setIfInBounds_toArray, List.set_cons_zero, List.set_cons_succ])
            refine wpAnyH_done (by kernel_rfl) ?_ _
            exact HK x y g1 g2 _ hx hy ⟨hI3.2.1, ⟨(far2 (Ne.symm hne)).trans r1.1, (far2 (Ne.symm hne)).trans r1.2⟩, set_pair q3 q4, by simpa using s1, by simpa using s2⟩
          exact AllReadyH.nil
        exact AllReadyH.nil
      exact AllReadyH.nil
    exact AllReadyH.nil
  refine hK1 _ _ ?_
  have hT := hw'
  obtain ⟨hv, ⟨x0, x1⟩, ⟨y0, y1⟩, hg1, hg2⟩ := hw'
  clear hK1 hA HX HY
  go_wp2_with fail
  rcases rs_or hx hy with hz | ⟨hx2, hz⟩ | ⟨⟨i, gx⟩, ⟨j, gy⟩⟩
  · skip
    have he := rs_eql x.m x.r (-1) 0 true (rs_is x hz)
    have HZ := Lib.hid hz
    clear hz
    have he3 := rs_eql (-1) 0 (-1) 0 true (by decide)
    clear HM HN
    refine wp_region_held_drew (S := (fun w' => Two w x y g1 g2 w')) (by kernel_rfl) (hT.drew) (fun hHeld => ?_)
    refine' wpAnyH_take (i := 0) (v := _) ?_ ?_ ?_ ?_ ?_ ?_ ?_ ?_
    rotate_left 2
    focus (simp only [List.getElem?_toArray, List.getElem?_cons_succ, List.getElem?_cons_zero]; rfl)
    focus kernel_rfl
    focus kernel_rfl
    focus kernel_rfl
    focus exact (fun _ _ _ h => h)
    refine Or.inl ⟨?_, ?_⟩
    focus (go_simp; done)
    focus (intro w hSw; obtain ⟨_, ⟨x0, x1⟩, ⟨y0, y1⟩, _, _⟩ := hSw; (first | (go_simp; done) | (go_simp; with_reducible rfl)))
    focus assumption
    (try simp only [Act.put, List.setIfInBounds_toArray, List.set_cons_zero, List.set_cons_succ])
    refine wpAnyH_ready (rs := [1]) (by kernel_rfl) (by simp) ?_
    refine' AllReadyH.cons ?_ (fun K hK => ?_) AllReadyH.nil
    rotate_left
    focus (simp only [List.getElem?_toArray, List.getElem?_cons_succ, List.getElem?_cons_zero]; rfl)
    go_simp
    (go_at_call 11; refine (cNone_any _).mono ?_; rintro e w4 ⟨rfl, hb⟩)
    refine hK.out _ _ (Two.below (by assumption) hb) (fun hHeld => ?_)
    clear hK K
    (try simp only [Act.put, List.setIfInBounds_toArray, List.set_cons_zero, List.set_cons_succ])
    clear hb
    refine' wpAnyH_take (i := 2) (v := _) ?_ ?_ ?_ ?_ ?_ ?_ ?_ ?_
    rotate_left 2
    focus (simp only [List.getElem?_toArray, List.getElem?_cons_succ, List.getElem?_cons_zero]; rfl)
    focus kernel_rfl
    focus kernel_rfl
    focus kernel_rfl
    focus exact (fun _ _ _ h => h)
    refine Or.inl ⟨?_, ?_⟩
    focus (go_simp; done)
    focus (intro w hSw; obtain ⟨_, ⟨x0, x1⟩, ⟨y0, y1⟩, _, _⟩ := hSw; (first | (go_simp; done) | (go_simp; with_reducible rfl)))
    focus assumption
    (try simp only [Act.put, List.setIfInBounds_toArray, List.set_cons_zero, List.set_cons_succ])
    refine' wpAnyH_take (i := 3) (v := _) ?_ ?_ ?_ ?_ ?_ ?_ ?_ ?_
    rotate_left 2
    focus (simp only [List.getElem?_toArray, List.getElem?_cons_succ, List.getElem?_cons_zero]; rfl)
    focus kernel_rfl
    focus kernel_rfl
    focus kernel_rfl
    focus exact (fun _ _ _ h => h)
    refine Or.inl ⟨?_, ?_⟩
    focus (go_simp; done)
    focus (intro w hSw; obtain ⟨_, ⟨x0, x1⟩, ⟨y0, y1⟩, _, _⟩ := hSw; (first | (go_simp; done) | (go_simp; with_reducible rfl)))
    focus assumption
    (try simp only [Act.put, List.setIfInBounds_toArray, List.set_cons_zero, List.set_cons_succ])
    refine' wpAnyH_take (i := 4) (v := undef) ?_ ?_ ?_ ?_ ?_ ?_ ?_ ?_
    rotate_left 1
    focus (simp only [List.getElem?_toArray, List.getElem?_cons_succ, List.getElem?_cons_zero]; rfl)
    focus kernel_rfl
    focus kernel_rfl
    focus kernel_rfl
    focus exact (fun _ _ _ h => h)
    refine Or.inr ⟨?_, rfl⟩
    focus (go_simp; done)
    focus assumption
    (try simp only [Act.put, List.setIfInBounds_toArray, List.set_cons_zero, List.set_cons_succ])
    refine' wpAnyH_take (i := 5) (v := undef) ?_ ?_ ?_ ?_ ?_ ?_ ?_ ?_
    rotate_left 1
    focus (simp only [List.getElem?_toArray, List.getElem?_cons_succ, List.getElem?_cons_zero]; rfl)
    focus kernel_rfl
    focus kernel_rfl
    focus kernel_rfl
    focus exact (fun _ _ _ h => h)
    refine Or.inr ⟨?_, rfl⟩
    focus (go_simp; done)
    focus assumption
    (try simp only [Act.put, List.setIfInBounds_toArray, List.set_cons_zero, List.set_cons_succ])
    refine' wpAnyH_take (i := 6) (v := undef) ?_ ?_ ?_ ?_ ?_ ?_ ?_ ?_
    rotate_left 1
    focus (simp only [List.getElem?_toArray, List.getElem?_cons_succ, List.getElem?_cons_zero]; rfl)
    focus kernel_rfl
    focus kernel_rfl
    focus kernel_rfl
    focus exact (fun _ _ _ h => h)
    refine Or.inr ⟨?_, rfl⟩
    focus (go_simp; done)
    focus assumption
    (try simp only [Act.put, List.setIfInBounds_toArray, List.set_cons_zero, List.set_cons_succ])
    refine' wpAnyH_take (i := 7) (v := _) ?_ ?_ ?_ ?_ ?_ ?_ ?_ ?_
    rotate_left 2
    focus (simp only [List.getElem?_toArray, List.getElem?_cons_succ, List.getElem?_cons_zero]; rfl)
    focus kernel_rfl
    focus kernel_rfl
    focus kernel_rfl
    focus exact (fun _ _ _ h => h)
    refine Or.inl ⟨?_, ?_⟩
    focus (go_simp; done)
    focus (intro w hSw; obtain ⟨_, ⟨x0, x1⟩, ⟨y0, y1⟩, _, _⟩ := hSw; (first | (go_simp; done) | (go_simp; with_reducible rfl)))
    focus assumption
    (try simp only [Act.put, List.setIfInBounds_toArray, List.set_cons_zero, List.set_cons_succ])
    refine wpAnyH_done (by kernel_rfl) ?_ _
    clear hT hv x0 x1 y0 y1 hg1 hg2
    have hT := hHeld
    obtain ⟨hv, ⟨x0, x1⟩, ⟨y0, y1⟩, hg1, hg2⟩ := id hT
    go_wp2_with fail
    have hTu := HTb.out.below (hT.1); refine (cDo_any _ x.m x.r y.m y.r ⟨-1, 0⟩ (ract_non_left HZ.out) _ hTu).mono ?_; clear hTu
    rintro e w5 ⟨rfl, hb⟩
    clear hv x0 x1 y0 y1 hg1 hg2
    replace hT := hT.below hb
    obtain ⟨hv, ⟨x0, x1⟩, ⟨y0, y1⟩, hg1, hg2⟩ := id hT
    clear hb
    go_wp2_with fail
    refine (cNone_any _).mono ?_
    rintro e w6 ⟨rfl, hb⟩
    clear hv x0 x1 y0 y1 hg1 hg2
    replace hT := hT.below hb
    obtain ⟨hv, ⟨x0, x1⟩, ⟨y0, y1⟩, hg1, hg2⟩ := id hT
    clear hb
    go_wp2_with fail
    have hTu := HTb.out.below (hT.1); refine (awake_any _ hTu).mono ?_; clear hTu
    rintro e w7 ⟨rfl, hb⟩
    clear hv x0 x1 y0 y1 hg1 hg2
    replace hT := hT.below hb
    obtain ⟨hv, ⟨x0, x1⟩, ⟨y0, y1⟩, hg1, hg2⟩ := id hT
    clear hb
    go_wp2
    go_ret
    exact ⟨rfl, hv⟩
  · skip
    have he := rs_eql x.m x.r (-1) 0 false (rs_not x hx2)
    have he2 := rs_eql y.m y.r (-1) 0 true (rs_is y hz)
    have HZ := Lib.hid hz
    clear hz hx2
    have he3 := rs_eql (-1) 0 (-1) 0 true (by decide)
    clear HM HN
    refine wp_region_held_drew (S := (fun w' => Two w x y g1 g2 w')) (by kernel_rfl) (hT.drew) (fun hHeld => ?_)
    refine' wpAnyH_take (i := 0) (v := _) ?_ ?_ ?_ ?_ ?_ ?_ ?_ ?_
    rotate_left 2
    focus (simp only [List.getElem?_toArray, List.getElem?_cons_succ, List.getElem?_cons_zero]; rfl)
    focus kernel_rfl
    focus kernel_rfl
    focus kernel_rfl
    focus exact (fun _ _ _ h => h)
    refine Or.inl ⟨?_, ?_⟩
    focus (go_simp; done)
    focus (intro w hSw; obtain ⟨_, ⟨x0, x1⟩, ⟨y0, y1⟩, _, _⟩ := hSw; (first | (go_simp; done) | (go_simp; with_reducible rfl)))
    focus assumption
    (try simp only [Act.put, List.setIfInBounds_toArray, List.set_cons_zero, List.set_cons_succ])
    refine wpAnyH_ready (rs := [1]) (by kernel_rfl) (by simp) ?_
    refine' AllReadyH.cons ?_ (fun K hK => ?_) AllReadyH.nil
    rotate_left
    focus (simp only [List.getElem?_toArray, List.getElem?_cons_succ, List.getElem?_cons_zero]; rfl)
    go_simp
    (go_at_call 11; refine (cNone_any _).mono ?_; rintro e w4 ⟨rfl, hb⟩)
    refine hK.out _ _ (Two.below (by assumption) hb) (fun hHeld => ?_)
    clear hK K
    (try simp only [Act.put, List.setIfInBounds_toArray, List.set_cons_zero, List.set_cons_succ])
    clear hb
    refine' wpAnyH_take (i := 2) (v := _) ?_ ?_ ?_ ?_ ?_ ?_ ?_ ?_
    rotate_left 2
    focus (simp only [List.getElem?_toArray, List.getElem?_cons_succ, List.getElem?_cons_zero]; rfl)
    focus kernel_rfl
    focus kernel_rfl
    focus kernel_rfl
    focus exact (fun _ _ _ h => h)
    refine Or.inl ⟨?_, ?_⟩
    focus (go_simp; done)
    focus (intro w hSw; obtain ⟨_, ⟨x0, x1⟩, ⟨y0, y1⟩, _, _⟩ := hSw; (first | (go_simp; done) | (go_simp; with_reducible rfl)))
    focus assumption
    (try simp only [Act.put, List.setIfInBounds_toArray, List.set_cons_zero, List.set_cons_succ])
    refine' wpAnyH_take (i := 3) (v := _) ?_ ?_ ?_ ?_ ?_ ?_ ?_ ?_
    rotate_left 2
    focus (simp only [List.getElem?_toArray, List.getElem?_cons_succ, List.getElem?_cons_zero]; rfl)
    focus kernel_rfl
    focus kernel_rfl
    focus kernel_rfl
    focus exact (fun _ _ _ h => h)
    refine Or.inl ⟨?_, ?_⟩
    focus (go_simp; done)
    focus (intro w hSw; obtain ⟨_, ⟨x0, x1⟩, ⟨y0, y1⟩, _, _⟩ := hSw; (first | (go_simp; done) | (go_simp; with_reducible rfl)))
    focus assumption
    (try simp only [Act.put, List.setIfInBounds_toArray, List.set_cons_zero, List.set_cons_succ])
    refine' wpAnyH_take (i := 4) (v := _) ?_ ?_ ?_ ?_ ?_ ?_ ?_ ?_
    rotate_left 2
    focus (simp only [List.getElem?_toArray, List.getElem?_cons_succ, List.getElem?_cons_zero]; rfl)
    focus kernel_rfl
    focus kernel_rfl
    focus kernel_rfl
    focus exact (fun _ _ _ h => h)
    refine Or.inl ⟨?_, ?_⟩
    focus (go_simp; done)
    focus (intro w hSw; obtain ⟨_, ⟨x0, x1⟩, ⟨y0, y1⟩, _, _⟩ := hSw; (first | (go_simp; done) | (go_simp; with_reducible rfl)))
    focus assumption
    (try simp only [Act.put, List.setIfInBounds_toArray, List.set_cons_zero, List.set_cons_succ])
    refine wpAnyH_ready (rs := [5]) (by kernel_rfl) (by simp) ?_
    refine' AllReadyH.cons ?_ (fun K hK => ?_) AllReadyH.nil
    rotate_left
    focus (simp only [List.getElem?_toArray, List.getElem?_cons_succ, List.getElem?_cons_zero]; rfl)
    go_simp
    (go_at_call 11; refine (cNone_any _).mono ?_; rintro e w4 ⟨rfl, hb⟩)
    refine hK.out _ _ (Two.below (by assumption) hb) (fun hHeld => ?_)
    clear hK K
    (try simp only [Act.put, List.setIfInBounds_toArray, List.set_cons_zero, List.set_cons_succ])
    clear hb
    refine' wpAnyH_take (i := 6) (v := _) ?_ ?_ ?_ ?_ ?_ ?_ ?_ ?_
    rotate_left 2
    focus (simp only [List.getElem?_toArray, List.getElem?_cons_succ, List.getElem?_cons_zero]; rfl)
    focus kernel_rfl
    focus kernel_rfl
    focus kernel_rfl
    focus exact (fun _ _ _ h => h)
    refine Or.inl ⟨?_, ?_⟩
    focus (go_simp; done)
    focus (intro w hSw; obtain ⟨_, ⟨x0, x1⟩, ⟨y0, y1⟩, _, _⟩ := hSw; (first | (go_simp; done) | (go_simp; with_reducible rfl)))
    focus assumption
    (try simp only [Act.put, List.setIfInBounds_toArray, List.set_cons_zero, List.set_cons_succ])
    refine' wpAnyH_take (i := 7) (v := _) ?_ ?_ ?_ ?_ ?_ ?_ ?_ ?_
    rotate_left 2
    focus (simp only [List.getElem?_toArray, List.getElem?_cons_succ, List.getElem?_cons_zero]; rfl)
    focus kernel_rfl
    focus kernel_rfl
    focus kernel_rfl
    focus exact (fun _ _ _ h => h)
    refine Or.inl ⟨?_, ?_⟩
    focus (go_simp; done)
    focus (intro w hSw; obtain ⟨_, ⟨x0, x1⟩, ⟨y0, y1⟩, _, _⟩ := hSw; (first | (go_simp; done) | (go_simp; with_reducible rfl)))
    focus assumption
    (try simp only [Act.put, List.setIfInBounds_toArray, List.set_cons_zero, List.set_cons_succ])
    refine wpAnyH_done (by kernel_rfl) ?_ _
    clear hT hv x0 x1 y0 y1 hg1 hg2
    have hT := hHeld
    obtain ⟨hv, ⟨x0, x1⟩, ⟨y0, y1⟩, hg1, hg2⟩ := id hT
    go_wp2_with fail
    have hTu := HTb.out.below (hT.1); refine (cDo_any _ x.m x.r y.m y.r ⟨-1, 0⟩ (ract_non_right HZ.out) _ hTu).mono ?_; clear hTu
    rintro e w5 ⟨rfl, hb⟩
    clear hv x0 x1 y0 y1 hg1 hg2
    replace hT := hT.below hb
    obtain ⟨hv, ⟨x0, x1⟩, ⟨y0, y1⟩, hg1, hg2⟩ := id hT
    clear hb
    go_wp2_with fail
    refine (cNone_any _).mono ?_
    rintro e w6 ⟨rfl, hb⟩
    clear hv x0 x1 y0 y1 hg1 hg2
    replace hT := hT.below hb
    obtain ⟨hv, ⟨x0, x1⟩, ⟨y0, y1⟩, hg1, hg2⟩ := id hT
    clear hb
    go_wp2_with fail
    have hTu := HTb.out.below (hT.1); refine (awake_any _ hTu).mono ?_; clear hTu
    rintro e w7 ⟨rfl, hb⟩
    clear hv x0 x1 y0 y1 hg1 hg2
    replace hT := hT.below hb
    obtain ⟨hv, ⟨x0, x1⟩, ⟨y0, y1⟩, hg1, hg2⟩ := id hT
    clear hb
    go_wp2
    go_ret
    exact ⟨rfl, hv⟩
  · have he := rs_eql x.m x.r (-1) 0 false (rs_not x gx.ne)
    have he2 := rs_eql y.m y.r (-1) 0 false (rs_not y gy.ne)
    refine wp_region_held_drew (S := (fun w' => Two w x y g1 g2 w')) (by kernel_rfl) (hT.drew) (fun hHeld => ?_)
    refine' wpAnyH_take (i := 0) (v := _) ?_ ?_ ?_ ?_ ?_ ?_ ?_ ?_
    rotate_left 2
    focus (simp only [List.getElem?_toArray, List.getElem?_cons_succ, List.getElem?_cons_zero]; rfl)
    focus kernel_rfl
    focus kernel_rfl
    focus kernel_rfl
    focus exact (fun _ _ _ h => h)
    refine Or.inl ⟨?_, ?_⟩
    focus (go_simp; done)
    focus (intro w hSw; obtain ⟨_, ⟨x0, x1⟩, ⟨y0, y1⟩, _, _⟩ := hSw; (first | (go_simp; done) | (go_simp; with_reducible rfl)))
    focus assumption
    (try simp only [Act.put, List.setIfInBounds_toArray, List.set_cons_zero, List.set_cons_succ])
    refine wpAnyH_ready (rs := [1]) (by kernel_rfl) (by simp) ?_
    refine' AllReadyH.cons ?_ (fun K hK => ?_) AllReadyH.nil
    rotate_left
    focus (simp only [List.getElem?_toArray, List.getElem?_cons_succ, List.getElem?_cons_zero]; rfl)
    go_simp
    (go_at_call 11; refine (cNone_any _).mono ?_; rintro e w4 ⟨rfl, hb⟩)
    refine hK.out _ _ (Two.below (by assumption) hb) (fun hHeld => ?_)
    clear hK K
    (try simp only [Act.put, List.setIfInBounds_toArray, List.set_cons_zero, List.set_cons_succ])
    clear hb
    refine' wpAnyH_take (i := 2) (v := _) ?_ ?_ ?_ ?_ ?_ ?_ ?_ ?_
    rotate_left 2
    focus (simp only [List.getElem?_toArray, List.getElem?_cons_succ, List.getElem?_cons_zero]; rfl)
    focus kernel_rfl
    focus kernel_rfl
    focus kernel_rfl
    focus exact (fun _ _ _ h => h)
    refine Or.inl ⟨?_, ?_⟩
    focus (go_simp; done)
    focus (intro w hSw; obtain ⟨_, ⟨x0, x1⟩, ⟨y0, y1⟩, _, _⟩ := hSw; (first | (go_simp; done) | (go_simp; with_reducible rfl)))
    focus assumption
    (try simp only [Act.put, List.setIfInBounds_toArray, List.set_cons_zero, List.set_cons_succ])
    refine' wpAnyH_take (i := 3) (v := _) ?_ ?_ ?_ ?_ ?_ ?_ ?_ ?_
    rotate_left 2
    focus (simp only [List.getElem?_toArray, List.getElem?_cons_succ, List.getElem?_cons_zero]; rfl)
    focus kernel_rfl
    focus kernel_rfl
    focus kernel_rfl
    focus exact (fun _ _ _ h => h)
    refine Or.inl ⟨?_, ?_⟩
    focus (go_simp; done)
    focus (intro w hSw; obtain ⟨_, ⟨x0, x1⟩, ⟨y0, y1⟩, _, _⟩ := hSw; (first | (go_simp; done) | (go_simp; with_reducible rfl)))
    focus assumption
    (try simp only [Act.put, List.setIfInBounds_toArray, List.set_cons_zero, List.set_cons_succ])
    refine' wpAnyH_take (i := 4) (v := _) ?_ ?_ ?_ ?_ ?_ ?_ ?_ ?_
    rotate_left 2
    focus (simp only [List.getElem?_toArray, List.getElem?_cons_succ, List.getElem?_cons_zero]; rfl)
    focus kernel_rfl
    focus kernel_rfl
    focus kernel_rfl
    focus exact (fun _ _ _ h => h)
    refine Or.inl ⟨?_, ?_⟩
    focus (go_simp; done)
    focus (intro w hSw; obtain ⟨_, ⟨x0, x1⟩, ⟨y0, y1⟩, _, _⟩ := hSw; (first | (go_simp; done) | (go_simp; with_reducible rfl)))
    focus assumption
    (try simp only [Act.put, List.setIfInBounds_toArray, List.set_cons_zero, List.set_cons_succ])
    refine wpAnyH_ready (rs := [5]) (by kernel_rfl) (by simp) ?_
    refine' AllReadyH.cons ?_ (fun K hK => ?_) AllReadyH.nil
    rotate_left
    focus (simp only [List.getElem?_toArray, List.getElem?_cons_succ, List.getElem?_cons_zero]; rfl)
    go_simp
    (go_at_call 11; refine (cNone_any _).mono ?_; rintro e w4 ⟨rfl, hb⟩)
    refine hK.out _ _ (Two.below (by assumption) hb) (fun hHeld => ?_)
    clear hK K
    (try simp only [Act.put, List.setIfInBounds_toArray, List.set_cons_zero, List.set_cons_succ])
    clear hb
    refine' wpAnyH_take (i := 6) (v := _) ?_ ?_ ?_ ?_ ?_ ?_ ?_ ?_
    rotate_left 2
    focus (simp only [List.getElem?_toArray, List.getElem?_cons_succ, List.getElem?_cons_zero]; rfl)
    focus kernel_rfl
    focus kernel_rfl
    focus kernel_rfl
    focus exact (fun _ _ _ h => h)
    refine Or.inl ⟨?_, ?_⟩
    focus (go_simp; done)
    focus (intro w hSw; obtain ⟨_, ⟨x0, x1⟩, ⟨y0, y1⟩, _, _⟩ := hSw; (first | (go_simp; done) | (go_simp; with_reducible rfl)))
    focus assumption
    (try simp only [Act.put, List.setIfInBounds_toArray, List.set_cons_zero, List.set_cons_succ])
    refine' wpAnyH_take (i := 7) (v := _) ?_ ?_ ?_ ?_ ?_ ?_ ?_ ?_
    rotate_left 2
    focus (simp only [List.getElem?_toArray, List.getElem?_cons_succ, List.getElem?_cons_zero]; rfl)
    focus kernel_rfl
    focus kernel_rfl
    focus kernel_rfl
    focus exact (fun _ _ _ h => h)
    refine Or.inl ⟨?_, ?_⟩
    focus (go_simp; done)
    focus (intro w hSw; obtain ⟨_, ⟨x0, x1⟩, ⟨y0, y1⟩, _, _⟩ := hSw; (first | (go_simp; done) | (go_simp; with_reducible rfl)))
    focus assumption
    (try simp only [Act.put, List.setIfInBounds_toArray, List.set_cons_zero, List.set_cons_succ])
    refine wpAnyH_done (by kernel_rfl) ?_ _
    clear hT hv x0 x1 y0 y1 hg1 hg2
    have hT := hHeld
    obtain ⟨hv, ⟨x0, x1⟩, ⟨y0, y1⟩, hg1, hg2⟩ := id hT
    clear he he2
    go_wp2_with fail
    refine wp_region_held_drew (S := (fun w' => Two w x y g1 g2 w')) (by kernel_rfl) (hT.drew) (fun hHeld => ?_)
    refine' wpAnyH_take (i := 0) (v := _) ?_ ?_ ?_ ?_ ?_ ?_ ?_ ?_
    rotate_left 2
    focus (simp only [List.getElem?_toArray, List.getElem?_cons_succ, List.getElem?_cons_zero]; rfl)
    focus kernel_rfl
    focus kernel_rfl
    focus kernel_rfl
    focus exact (fun _ _ _ h => h)
    refine Or.inl ⟨?_, ?_⟩
    focus (go_simp; done)
    focus (intro w hSw; obtain ⟨_, ⟨x0, x1⟩, ⟨y0, y1⟩, _, _⟩ := hSw; (first | (go_simp; done) | (go_simp; with_reducible rfl)))
    focus assumption
    (try simp only [Act.put, List.setIfInBounds_toArray, List.set_cons_zero, List.set_cons_succ])
    refine' wpAnyH_take (i := 1) (v := _) ?_ ?_ ?_ ?_ ?_ ?_ ?_ ?_
    rotate_left 2
    focus (simp only [List.getElem?_toArray, List.getElem?_cons_succ, List.getElem?_cons_zero]; rfl)
    focus kernel_rfl
    focus kernel_rfl
    focus kernel_rfl
    focus exact (fun _ _ _ h => h)
    refine Or.inl ⟨?_, ?_⟩
    focus (go_simp; done)
    focus (intro w hSw; obtain ⟨_, ⟨x0, x1⟩, ⟨y0, y1⟩, _, _⟩ := hSw; (first | (go_simp; done) | (go_simp; with_reducible rfl)))
    focus assumption
    (try simp only [Act.put, List.setIfInBounds_toArray, List.set_cons_zero, List.set_cons_succ])
    refine' wpAnyH_take (i := 3) (v := _) ?_ ?_ ?_ ?_ ?_ ?_ ?_ ?_
    rotate_left 2
    focus (simp only [List.getElem?_toArray, List.getElem?_cons_succ, List.getElem?_cons_zero]; rfl)
    focus kernel_rfl
    focus kernel_rfl
    focus kernel_rfl
    focus exact (fun _ _ _ h => h)
    refine Or.inl ⟨?_, ?_⟩
    focus (go_simp; done)
    focus (intro w hSw; obtain ⟨_, ⟨x0, x1⟩, ⟨y0, y1⟩, _, _⟩ := hSw; (first | (go_simp; done) | (go_simp; with_reducible rfl)))
    focus assumption
    (try simp only [Act.put, List.setIfInBounds_toArray, List.set_cons_zero, List.set_cons_succ])
    refine' wpAnyH_take (i := 4) (v := _) ?_ ?_ ?_ ?_ ?_ ?_ ?_ ?_
    rotate_left 2
    focus (simp only [List.getElem?_toArray, List.getElem?_cons_succ, List.getElem?_cons_zero]; rfl)
    focus kernel_rfl
    focus kernel_rfl
    focus kernel_rfl
    focus exact (fun _ _ _ h => h)
    refine Or.inl ⟨?_, ?_⟩
    focus (go_simp; done)
    focus (intro w hSw; obtain ⟨_, ⟨x0, x1⟩, ⟨y0, y1⟩, _, _⟩ := hSw; (first | (go_simp; done) | (go_simp; with_reducible rfl)))
    focus assumption
    (try simp only [Act.put, List.setIfInBounds_toArray, List.set_cons_zero, List.set_cons_succ])
    refine wpAnyH_ready (rs := [2]) (by kernel_rfl) (by simp) ?_
    refine' AllReadyH.cons ?_ (fun K hK => ?_) AllReadyH.nil
    rotate_left
    focus (simp only [List.getElem?_toArray, List.getElem?_cons_succ, List.getElem?_cons_zero]; rfl)
    go_simp
    (go_at_call 16; refine (member_any x m i gx HM.out _).mono ?_; rintro e w4 ⟨rfl, hb⟩)
    refine hK.out _ _ (Two.below (by assumption) hb) (fun hHeld => ?_)
    clear hK K
    (try simp only [Act.put, List.setIfInBounds_toArray, List.set_cons_zero, List.set_cons_succ])
    clear hb
    refine wpAnyH_ready (rs := [5]) (by kernel_rfl) (by simp) ?_
    refine' AllReadyH.cons ?_ (fun K hK => ?_) AllReadyH.nil
    rotate_left
    focus (simp only [List.getElem?_toArray, List.getElem?_cons_succ, List.getElem?_cons_zero]; rfl)
    go_simp
    (go_at_call 16; refine (member_any y n j gy HN.out _).mono ?_; rintro e w4 ⟨rfl, hb⟩)
    refine hK.out _ _ (Two.below (by assumption) hb) (fun hHeld => ?_)
    clear hK K
    (try simp only [Act.put, List.setIfInBounds_toArray, List.set_cons_zero, List.set_cons_succ])
    clear hb
    refine' wpAnyH_take (i := 6) (v := _) ?_ ?_ ?_ ?_ ?_ ?_ ?_ ?_
    rotate_left 2
    focus (simp only [List.getElem?_toArray, List.getElem?_cons_succ, List.getElem?_cons_zero]; rfl)
    focus kernel_rfl
    focus kernel_rfl
    focus kernel_rfl
    focus exact (fun _ _ _ h => h)
    refine Or.inl ⟨?_, ?_⟩
    focus (go_simp; done)
    focus (intro w hSw; obtain ⟨_, ⟨x0, x1⟩, ⟨y0, y1⟩, _, _⟩ := hSw; (first | (go_simp; done) | (go_simp; with_reducible rfl)))
    focus assumption
    (try simp only [Act.put, List.setIfInBounds_toArray, List.set_cons_zero, List.set_cons_succ])
    refine' wpAnyH_take (i := 7) (v := _) ?_ ?_ ?_ ?_ ?_ ?_ ?_ ?_
    rotate_left 2
    focus (simp only [List.getElem?_toArray, List.getElem?_cons_succ, List.getElem?_cons_zero]; rfl)
    focus kernel_rfl
    focus kernel_rfl
    focus kernel_rfl
    focus exact (fun _ _ _ h => h)
    refine Or.inl ⟨?_, ?_⟩
    focus (go_simp; done)
    focus (intro w hSw; obtain ⟨_, ⟨x0, x1⟩, ⟨y0, y1⟩, _, _⟩ := hSw; (first | (go_simp; done) | (go_simp; with_reducible rfl)))
    focus assumption
    (try simp only [Act.put, List.setIfInBounds_toArray, List.set_cons_zero, List.set_cons_succ])
    refine wpAnyH_done (by kernel_rfl) ?_ _
    clear hT hv x0 x1 y0 y1 hg1 hg2
    have hT := hHeld
    obtain ⟨hv, ⟨x0, x1⟩, ⟨y0, y1⟩, hg1, hg2⟩ := id hT
    obtain ⟨u, hu⟩ : ∃ u, Rs.mem x m = u := ⟨_, rfl⟩
    obtain ⟨v, hv'⟩ : ∃ v, Rs.mem y n = v := ⟨_, rfl⟩
    have hiu := Rs.mem_in gx m
    have hiv := Rs.mem_in gy n
    rw [hu] at hiu
    rw [hv'] at hiv
    have hio := Rs.op_in hO hiu hiv
    have HF := Lib.hid (And.intro (Rs.has_of hiu) (And.intro (Rs.has_of hiv) (And.intro (Rs.has_of hio) (ract_good (o := 1 + o % 14) gx gy))))
    obtain ⟨z, hz⟩ : ∃ z, Rs.op (1 + o % 14) x y = z := ⟨_, rfl⟩
    rw [hz] at hio
    have HG := Lib.hid (hio.choose_spec.1.ok)
    rw [hz] at HF
    rw [hu, hv']
    clear hu hv' hiu hiv hio hz hx hy gx gy HM HN
    go_wp2_with fail
    refine (wdDo_any _ u v _).mono ?_
    rintro e w6 ⟨rfl, rfl⟩
    go_wp2_with fail
    have hTu := HTb.out.below (hT.1); refine (cDo_any _ x.m x.r y.m y.r z HF.out.2.2.2 _ hTu).mono ?_; clear hTu
    rintro e w7 ⟨rfl, hb⟩
    clear hv x0 x1 y0 y1 hg1 hg2
    replace hT := hT.below hb
    obtain ⟨hv, ⟨x0, x1⟩, ⟨y0, y1⟩, hg1, hg2⟩ := id hT
    clear hb
    go_wp2_with fail
    clear hv x0 x1 y0 y1 hg1 hg2
    have hz := one_new z w7
    have hb := (Below.refl w7.heap.size w7).alloc (Nat.le_refl _) (.cells #[.int .i64 z.m, .int .i64 z.r] 23)
    replace hT := hT.below hb
    clear hb
    obtain ⟨hv, ⟨x0, x1⟩, ⟨y0, y1⟩, hg1, hg2⟩ := id hT
    obtain ⟨⟨z0, z1⟩, zg⟩ := id hz
    generalize w7.alloc (.cells #[.int .i64 z.m, .int .i64 z.r] 23) = w8 at *
    generalize w7.heap.size = g3 at *
    go_wp2_with fail
    have hTu := HTb.out.below (hT.1); refine (cHas_any x.m x.r u true HF.out.1 _ hTu).mono ?_; clear hTu
    rintro e w9 ⟨rfl, hb⟩
    clear hv x0 x1 y0 y1 hg1 hg2
    replace hT := hT.below hb
    obtain ⟨hv, ⟨x0, x1⟩, ⟨y0, y1⟩, hg1, hg2⟩ := id hT
    clear z0 z1 zg
    replace hz := One.below hz hb
    obtain ⟨⟨z0, z1⟩, zg⟩ := id hz
    clear hb
    go_wp2_with fail
    have hTu := HTb.out.below (hT.1); refine (cHas_any y.m y.r v true HF.out.2.1 _ hTu).mono ?_; clear hTu
    rintro e w10 ⟨rfl, hb⟩
    clear hv x0 x1 y0 y1 hg1 hg2
    replace hT := hT.below hb
    obtain ⟨hv, ⟨x0, x1⟩, ⟨y0, y1⟩, hg1, hg2⟩ := id hT
    clear z0 z1 zg
    replace hz := One.below hz hb
    obtain ⟨⟨z0, z1⟩, zg⟩ := id hz
    clear hb
    go_wp2_with fail
    have hTu := HTb.out.below (hT.1); refine (cHas_any z.m z.r _ true HF.out.2.2.1 _ hTu).mono ?_; clear hTu
    rintro e w11 ⟨rfl, hb⟩
    clear hv x0 x1 y0 y1 hg1 hg2
    replace hT := hT.below hb
    obtain ⟨hv, ⟨x0, x1⟩, ⟨y0, y1⟩, hg1, hg2⟩ := id hT
    clear z0 z1 zg
    replace hz := One.below hz hb
    obtain ⟨⟨z0, z1⟩, zg⟩ := id hz
    clear hb
    go_wp2_with fail
    have hTu := HTb.out.below (hT.1); refine (cValid_any z.m z.r true HG.out _ hTu).mono ?_; clear hTu
    rintro e w12 ⟨rfl, hb⟩
    clear hv x0 x1 y0 y1 hg1 hg2
    replace hT := hT.below hb
    obtain ⟨hv, ⟨x0, x1⟩, ⟨y0, y1⟩, hg1, hg2⟩ := id hT
    clear z0 z1 zg
    replace hz := One.below hz hb
    obtain ⟨⟨z0, z1⟩, zg⟩ := id hz
    clear hb
    go_wp2_with fail
    have hTu := HTb.out.below (hT.1); refine (awake_any _ hTu).mono ?_; clear hTu
    rintro e w13 ⟨rfl, hb⟩
    clear hv x0 x1 y0 y1 hg1 hg2
    replace hT := hT.below hb
    obtain ⟨hv, ⟨x0, x1⟩, ⟨y0, y1⟩, hg1, hg2⟩ := id hT
    clear z0 z1 zg
    replace hz := One.below hz hb
    obtain ⟨⟨z0, z1⟩, zg⟩ := id hz
    clear hb
    go_wp2
    go_ret
    exact ⟨rfl, hv⟩
end Go.Proofs.YtmdakglbommopaaDoor
