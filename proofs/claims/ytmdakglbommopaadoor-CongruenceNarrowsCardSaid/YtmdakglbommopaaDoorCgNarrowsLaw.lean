/- The walk of the law CongruenceNarrows: it answers true. No condition. -/
import Derived.Test.YtmdakglbommopaaDoorCgPair
import Derived.Test.YtmdakglbommopaaDoorStFresh
import Derived.Deep.RegionWith
namespace Go.Proofs.YtmdakglbommopaaDoor
open Go.RowKit
set_option linter.unusedVariables false
set_option linter.unusedSimpArgs false
attribute [local go_sem] y_undef
theorem Two.below {w a b : World} {x y : Rs} {g1 g2 : Nat} (h : Two w x y g1 g2 a) (hb : Below a.heap.size a b) : Two w x y g1 g2 b :=
  ⟨h.1.trans (hb.mono h.1.size), ⟨(hb.cell (p := ⟨g1, 0, none⟩) h.2.2.2.1).trans h.2.1.1, (hb.cell (p := ⟨g1, 1, none⟩) h.2.2.2.1).trans h.2.1.2⟩, ⟨(hb.cell (p := ⟨g2, 0, none⟩) h.2.2.2.2).trans h.2.2.1.1, (hb.cell (p := ⟨g2, 1, none⟩) h.2.2.2.2).trans h.2.2.1.2⟩, Nat.lt_of_lt_of_le h.2.2.2.1 hb.size, Nat.lt_of_lt_of_le h.2.2.2.2 hb.size⟩
theorem Two.drew {w a : World} {x y : Rs} {g1 g2 : Nat} (h : Two w x y g1 g2 a) : Two w x y g1 g2 a.drew := h.below (below_drewN _ a 1)
set_option maxRecDepth 100000 in
set_option maxHeartbeats 16000000 in
theorem narrows_law (o a b h0 h1 m n c : Int) (ho : 0 ≤ o ∧ o ≤ 255) (ha : -2147483648 ≤ a ∧ a ≤ 2147483647) (hb : -2147483648 ≤ b ∧ b ≤ 2147483647) (hh0 : 0 ≤ h0 ∧ h0 ≤ 255) (hh1 : 0 ≤ h1 ∧ h1 ≤ 255) (hm : 0 ≤ m ∧ m ≤ 4294967295) (hn : 0 ≤ n ∧ n ≤ 4294967295) (hc : -2147483648 ≤ c ∧ c ≤ 2147483647) (w : World) (htb : Tb w) :
    Calls Tryd.prog 7 #[.int .u8 o, .int .i32 a, .int .i32 b, .agg #[.int .u8 h0, .int .u8 h1], .int .u32 m, .int .u32 n, .int .i32 c] w fun e w' => e = .returned (.bool true) ∧ Below w.heap.size w w' := by
  obtain ⟨c0, c1⟩ := hc
  have HTb := Lib.hid htb
  clear htb
  have hA := (Ahead.refl w).alloc (.cells #[.int .u8 h0, .int .u8 h1] 27)
  have HX := Lib.hid (of_any a h0 ha hh0)
  have HY := Lib.hid (of_any b h1 hb hh1)
  have HM := Lib.hid hm
  have HN := Lib.hid hn
  obtain ⟨o1, o2⟩ := ho
  have wo : IntKind.i64.wrap (1 + o % 14) = 1 + o % 14 := IntWalk.i64_in _ (by omega)
  have hO : 1 ≤ 1 + o % 14 ∧ 1 + o % 14 ≤ 14 := by omega
  clear ha hb hh0 hh1 hm hn
  have hg := rs_guard
  go_enter Tryd.func7, Tryd.ntmps7
  go_wp2_with fail
  obtain ⟨u0, hu0⟩ : ∃ u0, (w.alloc (.cells #[.int .u8 h0, .int .u8 h1] 27)).drew = u0 := ⟨_, rfl⟩
  have HU0 := Lib.hid hu0
  have hAD := hA.drew
  rw [hu0] at hAD
  have hAr : Arr w h0 h1 u0 := ⟨by rw [← hu0]; exact ⟨by simp, by simp⟩, hAD⟩
  clear hu0
  have hBase : ∀ u, Bel u0 u → Arr w h0 h1 u := fun u h => hAr.below h
  rename_i K1 hK1
  have HK1 := Lib.hid hK1
  clear hK1
  have hI := fr3_refl u0
  refine wp_region_held_drew (S := (fun w' => Arr w h0 h1 w')) (by kernel_rfl) (by rw [HU0.out]; exact hBase _ hI.bel) (fun hHeld => ?_)
  rw [HU0.out] at hHeld ⊢
  refine' wpAnyH_take (i := 0) (v := _) ?_ ?_ ?_ ?_ ?_ ?_ ?_ ?_
  rotate_left 2
  focus (simp only [List.getElem?_toArray, List.getElem?_cons_succ, List.getElem?_cons_zero]; rfl)
  focus kernel_rfl
  focus kernel_rfl
  focus kernel_rfl
  focus exact (fun _ _ _ h => h)
  refine Or.inl ⟨?_, ?_⟩
  focus (go_simp; done)
  focus (intro w hSw; obtain ⟨⟨a0, a1⟩, _⟩ := hSw; (first | (go_simp; done) | (go_simp; with_reducible rfl)))
  focus assumption
  (try simp only [Act.put, List.setIfInBounds_toArray, List.set_cons_zero, List.set_cons_succ])
  refine' wpAnyH_take (i := 1) (v := _) ?_ ?_ ?_ ?_ ?_ ?_ ?_ ?_
  rotate_left 2
  focus (simp only [List.getElem?_toArray, List.getElem?_cons_succ, List.getElem?_cons_zero]; rfl)
  focus kernel_rfl
  focus kernel_rfl
  focus kernel_rfl
  focus exact (fun _ _ _ h => h)
  refine Or.inl ⟨?_, ?_⟩
  focus (go_simp; done)
  focus (intro w hSw; obtain ⟨⟨a0, a1⟩, _⟩ := hSw; (first | (go_simp; done) | (go_simp; with_reducible rfl)))
  focus assumption
  (try simp only [Act.put, List.setIfInBounds_toArray, List.set_cons_zero, List.set_cons_succ])
  refine' wpAnyH_take (i := 2) (v := _) ?_ ?_ ?_ ?_ ?_ ?_ ?_ ?_
  rotate_left 2
  focus (simp only [List.getElem?_toArray, List.getElem?_cons_succ, List.getElem?_cons_zero]; rfl)
  focus kernel_rfl
  focus kernel_rfl
  focus kernel_rfl
  focus exact (fun _ _ _ h => h)
  refine Or.inl ⟨?_, ?_⟩
  focus (go_simp; done)
  focus (intro w hSw; obtain ⟨⟨a0, a1⟩, _⟩ := hSw; (first | (go_simp; done) | (go_simp; with_reducible rfl)))
  focus assumption
  (try simp only [Act.put, List.setIfInBounds_toArray, List.set_cons_zero, List.set_cons_succ])
  refine' wpAnyH_take (i := 4) (v := _) ?_ ?_ ?_ ?_ ?_ ?_ ?_ ?_
  rotate_left 2
  focus (simp only [List.getElem?_toArray, List.getElem?_cons_succ, List.getElem?_cons_zero]; rfl)
  focus kernel_rfl
  focus kernel_rfl
  focus kernel_rfl
  focus exact (fun _ _ _ h => h)
  refine Or.inl ⟨?_, ?_⟩
  focus (go_simp; done)
  focus (intro w hSw; obtain ⟨⟨a0, a1⟩, _⟩ := hSw; (first | (go_simp; done) | (go_simp; with_reducible rfl)))
  focus assumption
  (try simp only [Act.put, List.setIfInBounds_toArray, List.set_cons_zero, List.set_cons_succ])
  refine' wpAnyH_take (i := 5) (v := _) ?_ ?_ ?_ ?_ ?_ ?_ ?_ ?_
  rotate_left 2
  focus (simp only [List.getElem?_toArray, List.getElem?_cons_succ, List.getElem?_cons_zero]; rfl)
  focus kernel_rfl
  focus kernel_rfl
  focus kernel_rfl
  focus exact (fun _ _ _ h => h)
  refine Or.inl ⟨?_, ?_⟩
  focus (go_simp; done)
  focus (intro w hSw; obtain ⟨⟨a0, a1⟩, _⟩ := hSw; (first | (go_simp; done) | (go_simp; with_reducible rfl)))
  focus assumption
  (try simp only [Act.put, List.setIfInBounds_toArray, List.set_cons_zero, List.set_cons_succ])
  refine' wpAnyH_take (i := 6) (v := _) ?_ ?_ ?_ ?_ ?_ ?_ ?_ ?_
  rotate_left 2
  focus (simp only [List.getElem?_toArray, List.getElem?_cons_succ, List.getElem?_cons_zero]; rfl)
  focus kernel_rfl
  focus kernel_rfl
  focus kernel_rfl
  focus exact (fun _ _ _ h => h)
  refine Or.inl ⟨?_, ?_⟩
  focus (go_simp; done)
  focus (intro w hSw; obtain ⟨⟨a0, a1⟩, _⟩ := hSw; (first | (go_simp; done) | (go_simp; with_reducible rfl)))
  focus assumption
  (try simp only [Act.put, List.setIfInBounds_toArray, List.set_cons_zero, List.set_cons_succ])
  refine' mh4 (Pre := fun (x : Rs) (y : Rs) (g1 : Nat) (g2 : Nat) (w' : World) => Rs.F x ∧ Rs.F y ∧ Fr3 u0 (some g1) (some g2) none w') _ #[true, true, true, true, true, true, true, true, true, true, false, false] _ (fun HK2_201 => ?ha2_201) (fun x y g1 g2 w' hpre => ?hb2_201)
  case' ha2_201 => skip
  refine' mh3 (Pre := fun (x : Rs) (y : Rs) (g2 : Nat) (w' : World) => Rs.F x ∧ Rs.F y ∧ Fr3 u0 none (some g2) none w') _ #[true, true, true, true, true, true, true, true, false, true, false, false] _ (fun HK2_21 => ?ha2_21) (fun x y g2 w' hpre => ?hb2_21)
  case' ha2_21 => skip
  refine' mh3 (Pre := fun (x : Rs) (y : Rs) (g1 : Nat) (w' : World) => Rs.F x ∧ Rs.F y ∧ Fr3 u0 (some g1) none none w') _ #[true, true, true, true, true, true, true, true, true, false, false, false] _ (fun HK2_20 => ?ha2_20) (fun x y g1 w' hpre => ?hb2_20)
  case' ha2_20 => skip
  refine' mh3 (Pre := fun (x : Rs) (g1 : Nat) (g2 : Nat) (w' : World) => Rs.F x ∧ Fr3 u0 (some g1) (some g2) none w') _ #[true, true, true, true, true, true, true, false, true, true, false, false] _ (fun HK2_101 => ?ha2_101) (fun x g1 g2 w' hpre => ?hb2_101)
  case' ha2_101 => skip
  refine' mh2 (Pre := fun (x : Rs) (y : Rs) (w' : World) => Rs.F x ∧ Rs.F y ∧ Fr3 u0 none none none w') _ #[true, true, true, true, true, true, true, true, false, false, false, false] _ (fun HK2_2 => ?ha2_2) (fun x y w' hpre => ?hb2_2)
  case' ha2_2 => skip
  refine' mh2 (Pre := fun (x : Rs) (g2 : Nat) (w' : World) => Rs.F x ∧ Fr3 u0 none (some g2) none w') _ #[true, true, true, true, true, true, true, false, false, true, false, false] _ (fun HK2_11 => ?ha2_11) (fun x g2 w' hpre => ?hb2_11)
  case' ha2_11 => skip
  refine' mh2 (Pre := fun (x : Rs) (g1 : Nat) (w' : World) => Rs.F x ∧ Fr3 u0 (some g1) none none w') _ #[true, true, true, true, true, true, true, false, true, false, false, false] _ (fun HK2_10 => ?ha2_10) (fun x g1 w' hpre => ?hb2_10)
  case' ha2_10 => skip
  refine' mh2 (Pre := fun (g1 : Nat) (g2 : Nat) (w' : World) => Fr3 u0 (some g1) (some g2) none w') _ #[true, true, true, false, true, true, true, false, true, true, false, false] _ (fun HK2_001 => ?ha2_001) (fun g1 g2 w' hpre => ?hb2_001)
  case' ha2_001 => skip
  refine' mh1 (Pre := fun (x : Rs) (w' : World) => Rs.F x ∧ Fr3 u0 none none none w') _ #[true, true, true, true, true, true, true, false, false, false, false, false] _ (fun HK2_1 => ?ha2_1) (fun x w' hpre => ?hb2_1)
  case' ha2_1 => skip
  refine' mh1 (Pre := fun (g2 : Nat) (w' : World) => Fr3 u0 none (some g2) none w') _ #[true, true, true, false, true, true, true, false, false, true, false, false] _ (fun HK2_01 => ?ha2_01) (fun g2 w' hpre => ?hb2_01)
  case' ha2_01 => skip
  refine' mh1 (Pre := fun (g1 : Nat) (w' : World) => Fr3 u0 (some g1) none none w') _ #[true, true, true, false, true, true, true, false, true, false, false, false] _ (fun HK2_00 => ?ha2_00) (fun g1 w' hpre => ?hb2_00)
  case ha2_00 =>
    refine wpAnyH_ready (rs := [3, 8, 9]) (by kernel_rfl) (by simp) ?_
    refine' AllReadyH.cons ?_ (fun K hK => ?_) ?_
    rotate_left
    focus (simp only [List.getElem?_toArray, List.getElem?_cons_succ, List.getElem?_cons_zero]; rfl)
    focus
      go_simp
      (go_at_call 14; refine Calls.mono (HX.out _) ?_; rintro e v ⟨x, hx, rfl, hb⟩)
      replace hI := hI.below hb
      refine hK.out _ _ (hBase _ hI.bel) (fun hHeld => ?_)
      clear hK K hb
      (try simp only [Act.put, List.setIfInBounds_toArray, List.set_cons_zero, List.set_cons_succ])
      refine wpAnyH_listed (listed' := #[true, true, true, true, true, true, true, false, false, false, false, false]) (by kernel_rfl) ?_
      exact HK2_1 x v ⟨hx, hI⟩
    refine' AllReadyH.cons ?_ (fun K hK => ?_) ?_
    rotate_left
    focus (simp only [List.getElem?_toArray, List.getElem?_cons_succ, List.getElem?_cons_zero]; rfl)
    focus
      go_simp
      replace hI := hI.make1 (t := 23)
      refine hK.out _ _ (hBase _ hI.bel) (fun hHeld => ?_)
      clear hK K
      (try simp only [Act.put, List.setIfInBounds_toArray, List.set_cons_zero, List.set_cons_succ])
      generalize u0.alloc (.cells #[.int .i64 0, .int .i64 0] 23) = v at *
      generalize u0.heap.size = g1 at *
      refine wpAnyH_listed (listed' := #[true, true, true, false, true, true, true, false, true, false, false, false]) (by kernel_rfl) ?_
      exact HK2_00 g1 v hI
    refine' AllReadyH.cons ?_ (fun K hK => ?_) ?_
    rotate_left
    focus (simp only [List.getElem?_toArray, List.getElem?_cons_succ, List.getElem?_cons_zero]; rfl)
    focus
      go_simp
      replace hI := hI.make2 (t := 23)
      refine hK.out _ _ (hBase _ hI.bel) (fun hHeld => ?_)
      clear hK K
      (try simp only [Act.put, List.setIfInBounds_toArray, List.set_cons_zero, List.set_cons_succ])
      generalize u0.alloc (.cells #[.int .i64 0, .int .i64 0] 23) = v at *
      generalize u0.heap.size = g2 at *
      refine wpAnyH_listed (listed' := #[true, true, true, false, true, true, true, false, false, true, false, false]) (by kernel_rfl) ?_
      exact HK2_01 g2 v hI
    exact AllReadyH.nil
  case hb2_00 =>
    have hI := hpre
    refine wpAnyH_ready (rs := [3, 9]) (by kernel_rfl) (by simp) ?_
    refine' AllReadyH.cons ?_ (fun K hK => ?_) ?_
    rotate_left
    focus (simp only [List.getElem?_toArray, List.getElem?_cons_succ, List.getElem?_cons_zero]; rfl)
    focus
      go_simp
      (go_at_call 14; refine Calls.mono (HX.out _) ?_; rintro e v ⟨x, hx, rfl, hb⟩)
      replace hI := hI.below hb
      refine hK.out _ _ (hBase _ hI.bel) (fun hHeld => ?_)
      clear hK K hb
      (try simp only [Act.put, List.setIfInBounds_toArray, List.set_cons_zero, List.set_cons_succ])
      refine wpAnyH_listed (listed' := #[true, true, true, true, true, true, true, false, true, false, false, false]) (by kernel_rfl) ?_
      exact HK2_10 x g1 v ⟨hx, hI⟩
    refine' AllReadyH.cons ?_ (fun K hK => ?_) ?_
    rotate_left
    focus (simp only [List.getElem?_toArray, List.getElem?_cons_succ, List.getElem?_cons_zero]; rfl)
    focus
      go_simp
      replace hI := hI.make2 (t := 23)
      refine hK.out _ _ (hBase _ hI.bel) (fun hHeld => ?_)
      clear hK K
      (try simp only [Act.put, List.setIfInBounds_toArray, List.set_cons_zero, List.set_cons_succ])
      generalize w'.alloc (.cells #[.int .i64 0, .int .i64 0] 23) = v at *
      generalize w'.heap.size = g2 at *
      refine wpAnyH_listed (listed' := #[true, true, true, false, true, true, true, false, true, true, false, false]) (by kernel_rfl) ?_
      exact HK2_001 g1 g2 v hI
    exact AllReadyH.nil
  case hb2_01 =>
    have hI := hpre
    refine wpAnyH_ready (rs := [3, 8]) (by kernel_rfl) (by simp) ?_
    refine' AllReadyH.cons ?_ (fun K hK => ?_) ?_
    rotate_left
    focus (simp only [List.getElem?_toArray, List.getElem?_cons_succ, List.getElem?_cons_zero]; rfl)
    focus
      go_simp
      (go_at_call 14; refine Calls.mono (HX.out _) ?_; rintro e v ⟨x, hx, rfl, hb⟩)
      replace hI := hI.below hb
      refine hK.out _ _ (hBase _ hI.bel) (fun hHeld => ?_)
      clear hK K hb
      (try simp only [Act.put, List.setIfInBounds_toArray, List.set_cons_zero, List.set_cons_succ])
      refine wpAnyH_listed (listed' := #[true, true, true, true, true, true, true, false, false, true, false, false]) (by kernel_rfl) ?_
      exact HK2_11 x g2 v ⟨hx, hI⟩
    refine' AllReadyH.cons ?_ (fun K hK => ?_) ?_
    rotate_left
    focus (simp only [List.getElem?_toArray, List.getElem?_cons_succ, List.getElem?_cons_zero]; rfl)
    focus
      go_simp
      replace hI := hI.make1 (t := 23)
      refine hK.out _ _ (hBase _ hI.bel) (fun hHeld => ?_)
      clear hK K
      (try simp only [Act.put, List.setIfInBounds_toArray, List.set_cons_zero, List.set_cons_succ])
      generalize w'.alloc (.cells #[.int .i64 0, .int .i64 0] 23) = v at *
      generalize w'.heap.size = g1 at *
      refine wpAnyH_listed (listed' := #[true, true, true, false, true, true, true, false, true, true, false, false]) (by kernel_rfl) ?_
      exact HK2_001 g1 g2 v hI
    exact AllReadyH.nil
  case hb2_1 =>
    obtain ⟨hx, hI⟩ := hpre
    refine wpAnyH_ready (rs := [7, 8, 9]) (by kernel_rfl) (by simp) ?_
    refine' AllReadyH.cons ?_ (fun K hK => ?_) ?_
    rotate_left
    focus (simp only [List.getElem?_toArray, List.getElem?_cons_succ, List.getElem?_cons_zero]; rfl)
    focus
      go_simp
      (go_at_call 14; refine Calls.mono (HY.out _) ?_; rintro e v ⟨y, hy, rfl, hb⟩)
      replace hI := hI.below hb
      refine hK.out _ _ (hBase _ hI.bel) (fun hHeld => ?_)
      clear hK K hb
      (try simp only [Act.put, List.setIfInBounds_toArray, List.set_cons_zero, List.set_cons_succ])
      refine wpAnyH_listed (listed' := #[true, true, true, true, true, true, true, true, false, false, false, false]) (by kernel_rfl) ?_
      exact HK2_2 x y v ⟨hx, hy, hI⟩
    refine' AllReadyH.cons ?_ (fun K hK => ?_) ?_
    rotate_left
    focus (simp only [List.getElem?_toArray, List.getElem?_cons_succ, List.getElem?_cons_zero]; rfl)
    focus
      go_simp
      replace hI := hI.make1 (t := 23)
      refine hK.out _ _ (hBase _ hI.bel) (fun hHeld => ?_)
      clear hK K
      (try simp only [Act.put, List.setIfInBounds_toArray, List.set_cons_zero, List.set_cons_succ])
      generalize w'.alloc (.cells #[.int .i64 0, .int .i64 0] 23) = v at *
      generalize w'.heap.size = g1 at *
      refine wpAnyH_listed (listed' := #[true, true, true, true, true, true, true, false, true, false, false, false]) (by kernel_rfl) ?_
      exact HK2_10 x g1 v ⟨hx, hI⟩
    refine' AllReadyH.cons ?_ (fun K hK => ?_) ?_
    rotate_left
    focus (simp only [List.getElem?_toArray, List.getElem?_cons_succ, List.getElem?_cons_zero]; rfl)
    focus
      go_simp
      replace hI := hI.make2 (t := 23)
      refine hK.out _ _ (hBase _ hI.bel) (fun hHeld => ?_)
      clear hK K
      (try simp only [Act.put, List.setIfInBounds_toArray, List.set_cons_zero, List.set_cons_succ])
      generalize w'.alloc (.cells #[.int .i64 0, .int .i64 0] 23) = v at *
      generalize w'.heap.size = g2 at *
      refine wpAnyH_listed (listed' := #[true, true, true, true, true, true, true, false, false, true, false, false]) (by kernel_rfl) ?_
      exact HK2_11 x g2 v ⟨hx, hI⟩
    exact AllReadyH.nil
  case hb2_001 =>
    have hI := hpre
    refine wpAnyH_ready (rs := [3]) (by kernel_rfl) (by simp) ?_
    refine' AllReadyH.cons ?_ (fun K hK => ?_) ?_
    rotate_left
    focus (simp only [List.getElem?_toArray, List.getElem?_cons_succ, List.getElem?_cons_zero]; rfl)
    focus
      go_simp
      (go_at_call 14; refine Calls.mono (HX.out _) ?_; rintro e v ⟨x, hx, rfl, hb⟩)
      replace hI := hI.below hb
      refine hK.out _ _ (hBase _ hI.bel) (fun hHeld => ?_)
      clear hK K hb
      (try simp only [Act.put, List.setIfInBounds_toArray, List.set_cons_zero, List.set_cons_succ])
      refine wpAnyH_listed (listed' := #[true, true, true, true, true, true, true, false, true, true, false, false]) (by kernel_rfl) ?_
      exact HK2_101 x g1 g2 v ⟨hx, hI⟩
    exact AllReadyH.nil
  case hb2_10 =>
    obtain ⟨hx, hI⟩ := hpre
    refine wpAnyH_ready (rs := [7, 9]) (by kernel_rfl) (by simp) ?_
    refine' AllReadyH.cons ?_ (fun K hK => ?_) ?_
    rotate_left
    focus (simp only [List.getElem?_toArray, List.getElem?_cons_succ, List.getElem?_cons_zero]; rfl)
    focus
      go_simp
      (go_at_call 14; refine Calls.mono (HY.out _) ?_; rintro e v ⟨y, hy, rfl, hb⟩)
      replace hI := hI.below hb
      refine hK.out _ _ (hBase _ hI.bel) (fun hHeld => ?_)
      clear hK K hb
      (try simp only [Act.put, List.setIfInBounds_toArray, List.set_cons_zero, List.set_cons_succ])
      refine wpAnyH_listed (listed' := #[true, true, true, true, true, true, true, true, true, false, false, false]) (by kernel_rfl) ?_
      exact HK2_20 x y g1 v ⟨hx, hy, hI⟩
    refine' AllReadyH.cons ?_ (fun K hK => ?_) ?_
    rotate_left
    focus (simp only [List.getElem?_toArray, List.getElem?_cons_succ, List.getElem?_cons_zero]; rfl)
    focus
      go_simp
      replace hI := hI.make2 (t := 23)
      refine hK.out _ _ (hBase _ hI.bel) (fun hHeld => ?_)
      clear hK K
      (try simp only [Act.put, List.setIfInBounds_toArray, List.set_cons_zero, List.set_cons_succ])
      generalize w'.alloc (.cells #[.int .i64 0, .int .i64 0] 23) = v at *
      generalize w'.heap.size = g2 at *
      refine wpAnyH_listed (listed' := #[true, true, true, true, true, true, true, false, true, true, false, false]) (by kernel_rfl) ?_
      exact HK2_101 x g1 g2 v ⟨hx, hI⟩
    exact AllReadyH.nil
  case hb2_11 =>
    obtain ⟨hx, hI⟩ := hpre
    refine wpAnyH_ready (rs := [7, 8]) (by kernel_rfl) (by simp) ?_
    refine' AllReadyH.cons ?_ (fun K hK => ?_) ?_
    rotate_left
    focus (simp only [List.getElem?_toArray, List.getElem?_cons_succ, List.getElem?_cons_zero]; rfl)
    focus
      go_simp
      (go_at_call 14; refine Calls.mono (HY.out _) ?_; rintro e v ⟨y, hy, rfl, hb⟩)
      replace hI := hI.below hb
      refine hK.out _ _ (hBase _ hI.bel) (fun hHeld => ?_)
      clear hK K hb
      (try simp only [Act.put, List.setIfInBounds_toArray, List.set_cons_zero, List.set_cons_succ])
      refine wpAnyH_listed (listed' := #[true, true, true, true, true, true, true, true, false, true, false, false]) (by kernel_rfl) ?_
      exact HK2_21 x y g2 v ⟨hx, hy, hI⟩
    refine' AllReadyH.cons ?_ (fun K hK => ?_) ?_
    rotate_left
    focus (simp only [List.getElem?_toArray, List.getElem?_cons_succ, List.getElem?_cons_zero]; rfl)
    focus
      go_simp
      replace hI := hI.make1 (t := 23)
      refine hK.out _ _ (hBase _ hI.bel) (fun hHeld => ?_)
      clear hK K
      (try simp only [Act.put, List.setIfInBounds_toArray, List.set_cons_zero, List.set_cons_succ])
      generalize w'.alloc (.cells #[.int .i64 0, .int .i64 0] 23) = v at *
      generalize w'.heap.size = g1 at *
      refine wpAnyH_listed (listed' := #[true, true, true, true, true, true, true, false, true, true, false, false]) (by kernel_rfl) ?_
      exact HK2_101 x g1 g2 v ⟨hx, hI⟩
    exact AllReadyH.nil
  case hb2_2 =>
    obtain ⟨hx, hy, hI⟩ := hpre
    refine wpAnyH_ready (rs := [8, 9]) (by kernel_rfl) (by simp) ?_
    refine' AllReadyH.cons ?_ (fun K hK => ?_) ?_
    rotate_left
    focus (simp only [List.getElem?_toArray, List.getElem?_cons_succ, List.getElem?_cons_zero]; rfl)
    focus
      go_simp
      replace hI := hI.make1 (t := 23)
      refine hK.out _ _ (hBase _ hI.bel) (fun hHeld => ?_)
      clear hK K
      (try simp only [Act.put, List.setIfInBounds_toArray, List.set_cons_zero, List.set_cons_succ])
      generalize w'.alloc (.cells #[.int .i64 0, .int .i64 0] 23) = v at *
      generalize w'.heap.size = g1 at *
      refine wpAnyH_listed (listed' := #[true, true, true, true, true, true, true, true, true, false, false, false]) (by kernel_rfl) ?_
      exact HK2_20 x y g1 v ⟨hx, hy, hI⟩
    refine' AllReadyH.cons ?_ (fun K hK => ?_) ?_
    rotate_left
    focus (simp only [List.getElem?_toArray, List.getElem?_cons_succ, List.getElem?_cons_zero]; rfl)
    focus
      go_simp
      replace hI := hI.make2 (t := 23)
      refine hK.out _ _ (hBase _ hI.bel) (fun hHeld => ?_)
      clear hK K
      (try simp only [Act.put, List.setIfInBounds_toArray, List.set_cons_zero, List.set_cons_succ])
      generalize w'.alloc (.cells #[.int .i64 0, .int .i64 0] 23) = v at *
      generalize w'.heap.size = g2 at *
      refine wpAnyH_listed (listed' := #[true, true, true, true, true, true, true, true, false, true, false, false]) (by kernel_rfl) ?_
      exact HK2_21 x y g2 v ⟨hx, hy, hI⟩
    exact AllReadyH.nil
  case hb2_101 =>
    obtain ⟨hx, hI⟩ := hpre
    refine wpAnyH_ready (rs := [7]) (by kernel_rfl) (by simp) ?_
    refine' AllReadyH.cons ?_ (fun K hK => ?_) ?_
    rotate_left
    focus (simp only [List.getElem?_toArray, List.getElem?_cons_succ, List.getElem?_cons_zero]; rfl)
    focus
      go_simp
      (go_at_call 14; refine Calls.mono (HY.out _) ?_; rintro e v ⟨y, hy, rfl, hb⟩)
      replace hI := hI.below hb
      refine hK.out _ _ (hBase _ hI.bel) (fun hHeld => ?_)
      clear hK K hb
      (try simp only [Act.put, List.setIfInBounds_toArray, List.set_cons_zero, List.set_cons_succ])
      refine wpAnyH_listed (listed' := #[true, true, true, true, true, true, true, true, true, true, false, false]) (by kernel_rfl) ?_
      exact HK2_201 x y g1 g2 v ⟨hx, hy, hI⟩
    exact AllReadyH.nil
  case hb2_20 =>
    obtain ⟨hx, hy, hI⟩ := hpre
    refine wpAnyH_ready (rs := [9]) (by kernel_rfl) (by simp) ?_
    refine' AllReadyH.cons ?_ (fun K hK => ?_) ?_
    rotate_left
    focus (simp only [List.getElem?_toArray, List.getElem?_cons_succ, List.getElem?_cons_zero]; rfl)
    focus
      go_simp
      replace hI := hI.make2 (t := 23)
      refine hK.out _ _ (hBase _ hI.bel) (fun hHeld => ?_)
      clear hK K
      (try simp only [Act.put, List.setIfInBounds_toArray, List.set_cons_zero, List.set_cons_succ])
      generalize w'.alloc (.cells #[.int .i64 0, .int .i64 0] 23) = v at *
      generalize w'.heap.size = g2 at *
      refine wpAnyH_listed (listed' := #[true, true, true, true, true, true, true, true, true, true, false, false]) (by kernel_rfl) ?_
      exact HK2_201 x y g1 g2 v ⟨hx, hy, hI⟩
    exact AllReadyH.nil
  case hb2_21 =>
    obtain ⟨hx, hy, hI⟩ := hpre
    refine wpAnyH_ready (rs := [8]) (by kernel_rfl) (by simp) ?_
    refine' AllReadyH.cons ?_ (fun K hK => ?_) ?_
    rotate_left
    focus (simp only [List.getElem?_toArray, List.getElem?_cons_succ, List.getElem?_cons_zero]; rfl)
    focus
      go_simp
      replace hI := hI.make1 (t := 23)
      refine hK.out _ _ (hBase _ hI.bel) (fun hHeld => ?_)
      clear hK K
      (try simp only [Act.put, List.setIfInBounds_toArray, List.set_cons_zero, List.set_cons_succ])
      generalize w'.alloc (.cells #[.int .i64 0, .int .i64 0] 23) = v at *
      generalize w'.heap.size = g1 at *
      refine wpAnyH_listed (listed' := #[true, true, true, true, true, true, true, true, true, true, false, false]) (by kernel_rfl) ?_
      exact HK2_201 x y g1 g2 v ⟨hx, hy, hI⟩
    exact AllReadyH.nil
  obtain ⟨hx, hy, hI⟩ := hpre
  obtain ⟨hBl, ⟨a0, l0, c0, d0, f0⟩, ⟨a1, l1, c1, d1, f1⟩, _, hne12, hne13, hne23⟩ := hI
  have n01 := hne12 g1 g2 rfl rfl
  clear hne12 hne13 hne23
  refine wpAnyH_ready (rs := [10]) (by kernel_rfl) (by simp) ?_
  refine' AllReadyH.cons ?_ (fun K hK => ?_) AllReadyH.nil
  rotate_left
  focus (simp only [List.getElem?_toArray, List.getElem?_cons_succ, List.getElem?_cons_zero]; rfl)
  go_simp
  replace hBl : Below _ _ ((w'.setCell ⟨g1, 0, none⟩ (.int .i64 (x.m))).setCell ⟨g1, 1, none⟩ (.int .i64 (x.r))) := (hBl.setCell (p := ⟨g1, 0, none⟩) a0 _).setCell (p := ⟨g1, 1, none⟩) a0 _
  have r0 : Pr (x.m) (x.r) g1 ((w'.setCell ⟨g1, 0, none⟩ (.int .i64 (x.m))).setCell ⟨g1, 1, none⟩ (.int .i64 (x.r))) := pr_set c0 d0 l0
  replace c1 := (far2 (o := 0) (o1 := 0) (o2 := 1) (v1 := .int .i64 (x.m)) (v2 := .int .i64 (x.r)) n01).trans c1
  replace d1 := (far2 (o := 1) (o1 := 0) (o2 := 1) (v1 := .int .i64 (x.m)) (v2 := .int .i64 (x.r)) n01).trans d1
  replace f1 : ∀ o, ((w'.setCell ⟨g1, 0, none⟩ (.int .i64 (x.m))).setCell ⟨g1, 1, none⟩ (.int .i64 (x.r))).frozen? ⟨g2, o, none⟩ = false := fun o => by simpa using f1 o
  replace l1 : g2 < ((w'.setCell ⟨g1, 0, none⟩ (.int .i64 (x.m))).setCell ⟨g1, 1, none⟩ (.int .i64 (x.r))).heap.size := by simpa using l1
  refine hK.out _ _ (hBase _ hBl) (fun hHeld => ?_)
  clear hK K c0 d0 f0 l0
  (try simp only [Act.put, List.setIfInBounds_toArray, List.set_cons_zero, List.set_cons_succ])
  generalize ((w'.setCell ⟨g1, 0, none⟩ (.int .i64 (x.m))).setCell ⟨g1, 1, none⟩ (.int .i64 (x.r))) = v0 at *
  refine wpAnyH_ready (rs := [11]) (by kernel_rfl) (by simp) ?_
  refine' AllReadyH.cons ?_ (fun K hK => ?_) AllReadyH.nil
  rotate_left
  focus (simp only [List.getElem?_toArray, List.getElem?_cons_succ, List.getElem?_cons_zero]; rfl)
  go_simp
  replace hBl : Below _ _ ((v0.setCell ⟨g2, 0, none⟩ (.int .i64 (y.m))).setCell ⟨g2, 1, none⟩ (.int .i64 (y.r))) := (hBl.setCell (p := ⟨g2, 0, none⟩) a1 _).setCell (p := ⟨g2, 1, none⟩) a1 _
  replace r0 := r0.far (x := .int .i64 (y.m)) (y := .int .i64 (y.r)) (Ne.symm n01)
  have r1 : Pr (y.m) (y.r) g2 ((v0.setCell ⟨g2, 0, none⟩ (.int .i64 (y.m))).setCell ⟨g2, 1, none⟩ (.int .i64 (y.r))) := pr_set c1 d1 l1
  refine hK.out _ _ (hBase _ hBl) (fun hHeld => ?_)
  clear hK K c1 d1 f1 l1
  (try simp only [Act.put, List.setIfInBounds_toArray, List.set_cons_zero, List.set_cons_succ])
  generalize ((v0.setCell ⟨g2, 0, none⟩ (.int .i64 (y.m))).setCell ⟨g2, 1, none⟩ (.int .i64 (y.r))) = w'' at *
  refine wpAnyH_done (by kernel_rfl) ?_ _
  refine HK1.out _ _ ?_
  clear HK1 hHeld a0 a1 n01
  have hbT : Bel u0 w'' := hBl
  clear hBl
  have hPg1 := r0
  have hPg2 := r1
  clear r0 r1
  have hT : Two w x y g1 g2 w'' := ⟨(hAD.below hbT).1, hPg1.1, hPg2.1, hPg1.2, hPg2.2⟩
  clear hAr hAD hBase hbT hPg1 hPg2 hA HX HY HU0
  obtain ⟨hv, ⟨x0, x1⟩, ⟨y0, y1⟩, hg1, hg2⟩ := id hT
  go_wp2_with fail
  rcases rs_or hx hy with hz | ⟨hx2, hz⟩ | ⟨⟨i, gx⟩, ⟨j, gy⟩⟩
  · skip
    have he := rs_eql x.m x.r (-1) 0 true (rs_is x hz)
    clear hz
    clear HM HN
    refine wp_region_held_drew (S := (fun w' => Two w x y g1 g2 w')) (by kernel_rfl) (hT.drew) (fun hHeld => ?_)
    refine' wpAnyH_take (i := 0) (v := _) ?_ ?_ ?_ ?_ ?_ ?_ ?_ ?_
    rotate_left 2
    focus (simp only [List.getElem?_toArray, List.getElem?_cons_succ, List.getElem?_cons_zero]; rfl)
    focus kernel_rfl
    focus kernel_rfl
    focus kernel_rfl
    focus exact (fun _ _ _ h => h)
    refine Or.inl ⟨?_, ?_⟩
    focus (go_simp; done)
    focus (intro w hSw; obtain ⟨_, ⟨x0, x1⟩, ⟨y0, y1⟩, _, _⟩ := hSw; (first | (go_simp; done) | (go_simp; with_reducible rfl)))
    focus assumption
    (try simp only [Act.put, List.setIfInBounds_toArray, List.set_cons_zero, List.set_cons_succ])
    refine wpAnyH_ready (rs := [1]) (by kernel_rfl) (by simp) ?_
    refine' AllReadyH.cons ?_ (fun K hK => ?_) AllReadyH.nil
    rotate_left
    focus (simp only [List.getElem?_toArray, List.getElem?_cons_succ, List.getElem?_cons_zero]; rfl)
    go_simp
    (go_at_call 11; refine (cNone_any _).mono ?_; rintro e w4 ⟨rfl, hb⟩)
    refine hK.out _ _ (Two.below (by assumption) hb) (fun hHeld => ?_)
    clear hK K
    (try simp only [Act.put, List.setIfInBounds_toArray, List.set_cons_zero, List.set_cons_succ])
    clear hb
    refine' wpAnyH_take (i := 2) (v := _) ?_ ?_ ?_ ?_ ?_ ?_ ?_ ?_
    rotate_left 2
    focus (simp only [List.getElem?_toArray, List.getElem?_cons_succ, List.getElem?_cons_zero]; rfl)
    focus kernel_rfl
    focus kernel_rfl
    focus kernel_rfl
    focus exact (fun _ _ _ h => h)
    refine Or.inl ⟨?_, ?_⟩
    focus (go_simp; done)
    focus (intro w hSw; obtain ⟨_, ⟨x0, x1⟩, ⟨y0, y1⟩, _, _⟩ := hSw; (first | (go_simp; done) | (go_simp; with_reducible rfl)))
    focus assumption
    (try simp only [Act.put, List.setIfInBounds_toArray, List.set_cons_zero, List.set_cons_succ])
    refine' wpAnyH_take (i := 3) (v := _) ?_ ?_ ?_ ?_ ?_ ?_ ?_ ?_
    rotate_left 2
    focus (simp only [List.getElem?_toArray, List.getElem?_cons_succ, List.getElem?_cons_zero]; rfl)
    focus kernel_rfl
    focus kernel_rfl
    focus kernel_rfl
    focus exact (fun _ _ _ h => h)
    refine Or.inl ⟨?_, ?_⟩
    focus (go_simp; done)
    focus (intro w hSw; obtain ⟨_, ⟨x0, x1⟩, ⟨y0, y1⟩, _, _⟩ := hSw; (first | (go_simp; done) | (go_simp; with_reducible rfl)))
    focus assumption
    (try simp only [Act.put, List.setIfInBounds_toArray, List.set_cons_zero, List.set_cons_succ])
    refine' wpAnyH_take (i := 4) (v := undef) ?_ ?_ ?_ ?_ ?_ ?_ ?_ ?_
    rotate_left 1
    focus (simp only [List.getElem?_toArray, List.getElem?_cons_succ, List.getElem?_cons_zero]; rfl)
    focus kernel_rfl
    focus kernel_rfl
    focus kernel_rfl
    focus exact (fun _ _ _ h => h)
    refine Or.inr ⟨?_, rfl⟩
    focus (go_simp; done)
    focus assumption
    (try simp only [Act.put, List.setIfInBounds_toArray, List.set_cons_zero, List.set_cons_succ])
    refine' wpAnyH_take (i := 5) (v := undef) ?_ ?_ ?_ ?_ ?_ ?_ ?_ ?_
    rotate_left 1
    focus (simp only [List.getElem?_toArray, List.getElem?_cons_succ, List.getElem?_cons_zero]; rfl)
    focus kernel_rfl
    focus kernel_rfl
    focus kernel_rfl
    focus exact (fun _ _ _ h => h)
    refine Or.inr ⟨?_, rfl⟩
    focus (go_simp; done)
    focus assumption
    (try simp only [Act.put, List.setIfInBounds_toArray, List.set_cons_zero, List.set_cons_succ])
    refine' wpAnyH_take (i := 6) (v := undef) ?_ ?_ ?_ ?_ ?_ ?_ ?_ ?_
    rotate_left 1
    focus (simp only [List.getElem?_toArray, List.getElem?_cons_succ, List.getElem?_cons_zero]; rfl)
    focus kernel_rfl
    focus kernel_rfl
    focus kernel_rfl
    focus exact (fun _ _ _ h => h)
    refine Or.inr ⟨?_, rfl⟩
    focus (go_simp; done)
    focus assumption
    (try simp only [Act.put, List.setIfInBounds_toArray, List.set_cons_zero, List.set_cons_succ])
    refine' wpAnyH_take (i := 7) (v := _) ?_ ?_ ?_ ?_ ?_ ?_ ?_ ?_
    rotate_left 2
    focus (simp only [List.getElem?_toArray, List.getElem?_cons_succ, List.getElem?_cons_zero]; rfl)
    focus kernel_rfl
    focus kernel_rfl
    focus kernel_rfl
    focus exact (fun _ _ _ h => h)
    refine Or.inl ⟨?_, ?_⟩
    focus (go_simp; done)
    focus (intro w hSw; obtain ⟨_, ⟨x0, x1⟩, ⟨y0, y1⟩, _, _⟩ := hSw; (first | (go_simp; done) | (go_simp; with_reducible rfl)))
    focus assumption
    (try simp only [Act.put, List.setIfInBounds_toArray, List.set_cons_zero, List.set_cons_succ])
    refine wpAnyH_done (by kernel_rfl) ?_ _
    clear hT hv x0 x1 y0 y1 hg1 hg2
    have hT := hHeld
    obtain ⟨hv, ⟨x0, x1⟩, ⟨y0, y1⟩, hg1, hg2⟩ := id hT
    go_wp2_with fail
    have hTu := HTb.out.below (hT.1); refine (awake_any _ hTu).mono ?_; clear hTu
    rintro e w7 ⟨rfl, hb⟩
    clear hv x0 x1 y0 y1 hg1 hg2
    replace hT := hT.below hb
    obtain ⟨hv, ⟨x0, x1⟩, ⟨y0, y1⟩, hg1, hg2⟩ := id hT
    clear hb
    go_wp2
    go_ret
    exact ⟨rfl, hv⟩
  · skip
    have he := rs_eql x.m x.r (-1) 0 false (rs_not x hx2)
    have he2 := rs_eql y.m y.r (-1) 0 true (rs_is y hz)
    clear hz hx2
    clear HM HN
    refine wp_region_held_drew (S := (fun w' => Two w x y g1 g2 w')) (by kernel_rfl) (hT.drew) (fun hHeld => ?_)
    refine' wpAnyH_take (i := 0) (v := _) ?_ ?_ ?_ ?_ ?_ ?_ ?_ ?_
    rotate_left 2
    focus (simp only [List.getElem?_toArray, List.getElem?_cons_succ, List.getElem?_cons_zero]; rfl)
    focus kernel_rfl
    focus kernel_rfl
    focus kernel_rfl
    focus exact (fun _ _ _ h => h)
    refine Or.inl ⟨?_, ?_⟩
    focus (go_simp; done)
    focus (intro w hSw; obtain ⟨_, ⟨x0, x1⟩, ⟨y0, y1⟩, _, _⟩ := hSw; (first | (go_simp; done) | (go_simp; with_reducible rfl)))
    focus assumption
    (try simp only [Act.put, List.setIfInBounds_toArray, List.set_cons_zero, List.set_cons_succ])
    refine wpAnyH_ready (rs := [1]) (by kernel_rfl) (by simp) ?_
    refine' AllReadyH.cons ?_ (fun K hK => ?_) AllReadyH.nil
    rotate_left
    focus (simp only [List.getElem?_toArray, List.getElem?_cons_succ, List.getElem?_cons_zero]; rfl)
    go_simp
    (go_at_call 11; refine (cNone_any _).mono ?_; rintro e w4 ⟨rfl, hb⟩)
    refine hK.out _ _ (Two.below (by assumption) hb) (fun hHeld => ?_)
    clear hK K
    (try simp only [Act.put, List.setIfInBounds_toArray, List.set_cons_zero, List.set_cons_succ])
    clear hb
    refine' wpAnyH_take (i := 2) (v := _) ?_ ?_ ?_ ?_ ?_ ?_ ?_ ?_
    rotate_left 2
    focus (simp only [List.getElem?_toArray, List.getElem?_cons_succ, List.getElem?_cons_zero]; rfl)
    focus kernel_rfl
    focus kernel_rfl
    focus kernel_rfl
    focus exact (fun _ _ _ h => h)
    refine Or.inl ⟨?_, ?_⟩
    focus (go_simp; done)
    focus (intro w hSw; obtain ⟨_, ⟨x0, x1⟩, ⟨y0, y1⟩, _, _⟩ := hSw; (first | (go_simp; done) | (go_simp; with_reducible rfl)))
    focus assumption
    (try simp only [Act.put, List.setIfInBounds_toArray, List.set_cons_zero, List.set_cons_succ])
    refine' wpAnyH_take (i := 3) (v := _) ?_ ?_ ?_ ?_ ?_ ?_ ?_ ?_
    rotate_left 2
    focus (simp only [List.getElem?_toArray, List.getElem?_cons_succ, List.getElem?_cons_zero]; rfl)
    focus kernel_rfl
    focus kernel_rfl
    focus kernel_rfl
    focus exact (fun _ _ _ h => h)
    refine Or.inl ⟨?_, ?_⟩
    focus (go_simp; done)
    focus (intro w hSw; obtain ⟨_, ⟨x0, x1⟩, ⟨y0, y1⟩, _, _⟩ := hSw; (first | (go_simp; done) | (go_simp; with_reducible rfl)))
    focus assumption
    (try simp only [Act.put, List.setIfInBounds_toArray, List.set_cons_zero, List.set_cons_succ])
    refine' wpAnyH_take (i := 4) (v := _) ?_ ?_ ?_ ?_ ?_ ?_ ?_ ?_
    rotate_left 2
    focus (simp only [List.getElem?_toArray, List.getElem?_cons_succ, List.getElem?_cons_zero]; rfl)
    focus kernel_rfl
    focus kernel_rfl
    focus kernel_rfl
    focus exact (fun _ _ _ h => h)
    refine Or.inl ⟨?_, ?_⟩
    focus (go_simp; done)
    focus (intro w hSw; obtain ⟨_, ⟨x0, x1⟩, ⟨y0, y1⟩, _, _⟩ := hSw; (first | (go_simp; done) | (go_simp; with_reducible rfl)))
    focus assumption
    (try simp only [Act.put, List.setIfInBounds_toArray, List.set_cons_zero, List.set_cons_succ])
    refine wpAnyH_ready (rs := [5]) (by kernel_rfl) (by simp) ?_
    refine' AllReadyH.cons ?_ (fun K hK => ?_) AllReadyH.nil
    rotate_left
    focus (simp only [List.getElem?_toArray, List.getElem?_cons_succ, List.getElem?_cons_zero]; rfl)
    go_simp
    (go_at_call 11; refine (cNone_any _).mono ?_; rintro e w4 ⟨rfl, hb⟩)
    refine hK.out _ _ (Two.below (by assumption) hb) (fun hHeld => ?_)
    clear hK K
    (try simp only [Act.put, List.setIfInBounds_toArray, List.set_cons_zero, List.set_cons_succ])
    clear hb
    refine' wpAnyH_take (i := 6) (v := _) ?_ ?_ ?_ ?_ ?_ ?_ ?_ ?_
    rotate_left 2
    focus (simp only [List.getElem?_toArray, List.getElem?_cons_succ, List.getElem?_cons_zero]; rfl)
    focus kernel_rfl
    focus kernel_rfl
    focus kernel_rfl
    focus exact (fun _ _ _ h => h)
    refine Or.inl ⟨?_, ?_⟩
    focus (go_simp; done)
    focus (intro w hSw; obtain ⟨_, ⟨x0, x1⟩, ⟨y0, y1⟩, _, _⟩ := hSw; (first | (go_simp; done) | (go_simp; with_reducible rfl)))
    focus assumption
    (try simp only [Act.put, List.setIfInBounds_toArray, List.set_cons_zero, List.set_cons_succ])
    refine' wpAnyH_take (i := 7) (v := _) ?_ ?_ ?_ ?_ ?_ ?_ ?_ ?_
    rotate_left 2
    focus (simp only [List.getElem?_toArray, List.getElem?_cons_succ, List.getElem?_cons_zero]; rfl)
    focus kernel_rfl
    focus kernel_rfl
    focus kernel_rfl
    focus exact (fun _ _ _ h => h)
    refine Or.inl ⟨?_, ?_⟩
    focus (go_simp; done)
    focus (intro w hSw; obtain ⟨_, ⟨x0, x1⟩, ⟨y0, y1⟩, _, _⟩ := hSw; (first | (go_simp; done) | (go_simp; with_reducible rfl)))
    focus assumption
    (try simp only [Act.put, List.setIfInBounds_toArray, List.set_cons_zero, List.set_cons_succ])
    refine wpAnyH_done (by kernel_rfl) ?_ _
    clear hT hv x0 x1 y0 y1 hg1 hg2
    have hT := hHeld
    obtain ⟨hv, ⟨x0, x1⟩, ⟨y0, y1⟩, hg1, hg2⟩ := id hT
    go_wp2_with fail
    have hTu := HTb.out.below (hT.1); refine (awake_any _ hTu).mono ?_; clear hTu
    rintro e w7 ⟨rfl, hb⟩
    clear hv x0 x1 y0 y1 hg1 hg2
    replace hT := hT.below hb
    obtain ⟨hv, ⟨x0, x1⟩, ⟨y0, y1⟩, hg1, hg2⟩ := id hT
    clear hb
    go_wp2
    go_ret
    exact ⟨rfl, hv⟩
  · have he := rs_eql x.m x.r (-1) 0 false (rs_not x gx.ne)
    have he2 := rs_eql y.m y.r (-1) 0 false (rs_not y gy.ne)
    refine wp_region_held_drew (S := (fun w' => Two w x y g1 g2 w')) (by kernel_rfl) (hT.drew) (fun hHeld => ?_)
    refine' wpAnyH_take (i := 0) (v := _) ?_ ?_ ?_ ?_ ?_ ?_ ?_ ?_
    rotate_left 2
    focus (simp only [List.getElem?_toArray, List.getElem?_cons_succ, List.getElem?_cons_zero]; rfl)
    focus kernel_rfl
    focus kernel_rfl
    focus kernel_rfl
    focus exact (fun _ _ _ h => h)
    refine Or.inl ⟨?_, ?_⟩
    focus (go_simp; done)
    focus (intro w hSw; obtain ⟨_, ⟨x0, x1⟩, ⟨y0, y1⟩, _, _⟩ := hSw; (first | (go_simp; done) | (go_simp; with_reducible rfl)))
    focus assumption
    (try simp only [Act.put, List.setIfInBounds_toArray, List.set_cons_zero, List.set_cons_succ])
    refine wpAnyH_ready (rs := [1]) (by kernel_rfl) (by simp) ?_
    refine' AllReadyH.cons ?_ (fun K hK => ?_) AllReadyH.nil
    rotate_left
    focus (simp only [List.getElem?_toArray, List.getElem?_cons_succ, List.getElem?_cons_zero]; rfl)
    go_simp
    (go_at_call 11; refine (cNone_any _).mono ?_; rintro e w4 ⟨rfl, hb⟩)
    refine hK.out _ _ (Two.below (by assumption) hb) (fun hHeld => ?_)
    clear hK K
    (try simp only [Act.put, List.setIfInBounds_toArray, List.set_cons_zero, List.set_cons_succ])
    clear hb
    refine' wpAnyH_take (i := 2) (v := _) ?_ ?_ ?_ ?_ ?_ ?_ ?_ ?_
    rotate_left 2
    focus (simp only [List.getElem?_toArray, List.getElem?_cons_succ, List.getElem?_cons_zero]; rfl)
    focus kernel_rfl
    focus kernel_rfl
    focus kernel_rfl
    focus exact (fun _ _ _ h => h)
    refine Or.inl ⟨?_, ?_⟩
    focus (go_simp; done)
    focus (intro w hSw; obtain ⟨_, ⟨x0, x1⟩, ⟨y0, y1⟩, _, _⟩ := hSw; (first | (go_simp; done) | (go_simp; with_reducible rfl)))
    focus assumption
    (try simp only [Act.put, List.setIfInBounds_toArray, List.set_cons_zero, List.set_cons_succ])
    refine' wpAnyH_take (i := 3) (v := _) ?_ ?_ ?_ ?_ ?_ ?_ ?_ ?_
    rotate_left 2
    focus (simp only [List.getElem?_toArray, List.getElem?_cons_succ, List.getElem?_cons_zero]; rfl)
    focus kernel_rfl
    focus kernel_rfl
    focus kernel_rfl
    focus exact (fun _ _ _ h => h)
    refine Or.inl ⟨?_, ?_⟩
    focus (go_simp; done)
    focus (intro w hSw; obtain ⟨_, ⟨x0, x1⟩, ⟨y0, y1⟩, _, _⟩ := hSw; (first | (go_simp; done) | (go_simp; with_reducible rfl)))
    focus assumption
    (try simp only [Act.put, List.setIfInBounds_toArray, List.set_cons_zero, List.set_cons_succ])
    refine' wpAnyH_take (i := 4) (v := _) ?_ ?_ ?_ ?_ ?_ ?_ ?_ ?_
    rotate_left 2
    focus (simp only [List.getElem?_toArray, List.getElem?_cons_succ, List.getElem?_cons_zero]; rfl)
    focus kernel_rfl
    focus kernel_rfl
    focus kernel_rfl
    focus exact (fun _ _ _ h => h)
    refine Or.inl ⟨?_, ?_⟩
    focus (go_simp; done)
    focus (intro w hSw; obtain ⟨_, ⟨x0, x1⟩, ⟨y0, y1⟩, _, _⟩ := hSw; (first | (go_simp; done) | (go_simp; with_reducible rfl)))
    focus assumption
    (try simp only [Act.put, List.setIfInBounds_toArray, List.set_cons_zero, List.set_cons_succ])
    refine wpAnyH_ready (rs := [5]) (by kernel_rfl) (by simp) ?_
    refine' AllReadyH.cons ?_ (fun K hK => ?_) AllReadyH.nil
    rotate_left
    focus (simp only [List.getElem?_toArray, List.getElem?_cons_succ, List.getElem?_cons_zero]; rfl)
    go_simp
    (go_at_call 11; refine (cNone_any _).mono ?_; rintro e w4 ⟨rfl, hb⟩)
    refine hK.out _ _ (Two.below (by assumption) hb) (fun hHeld => ?_)
    clear hK K
    (try simp only [Act.put, List.setIfInBounds_toArray, List.set_cons_zero, List.set_cons_succ])
    clear hb
    refine' wpAnyH_take (i := 6) (v := _) ?_ ?_ ?_ ?_ ?_ ?_ ?_ ?_
    rotate_left 2
    focus (simp only [List.getElem?_toArray, List.getElem?_cons_succ, List.getElem?_cons_zero]; rfl)
    focus kernel_rfl
    focus kernel_rfl
    focus kernel_rfl
    focus exact (fun _ _ _ h => h)
    refine Or.inl ⟨?_, ?_⟩
    focus (go_simp; done)
    focus (intro w hSw; obtain ⟨_, ⟨x0, x1⟩, ⟨y0, y1⟩, _, _⟩ := hSw; (first | (go_simp; done) | (go_simp; with_reducible rfl)))
    focus assumption
    (try simp only [Act.put, List.setIfInBounds_toArray, List.set_cons_zero, List.set_cons_succ])
    refine' wpAnyH_take (i := 7) (v := _) ?_ ?_ ?_ ?_ ?_ ?_ ?_ ?_
    rotate_left 2
    focus (simp only [List.getElem?_toArray, List.getElem?_cons_succ, List.getElem?_cons_zero]; rfl)
    focus kernel_rfl
    focus kernel_rfl
    focus kernel_rfl
    focus exact (fun _ _ _ h => h)
    refine Or.inl ⟨?_, ?_⟩
    focus (go_simp; done)
    focus (intro w hSw; obtain ⟨_, ⟨x0, x1⟩, ⟨y0, y1⟩, _, _⟩ := hSw; (first | (go_simp; done) | (go_simp; with_reducible rfl)))
    focus assumption
    (try simp only [Act.put, List.setIfInBounds_toArray, List.set_cons_zero, List.set_cons_succ])
    refine wpAnyH_done (by kernel_rfl) ?_ _
    clear hT hv x0 x1 y0 y1 hg1 hg2
    have hT := hHeld
    obtain ⟨hv, ⟨x0, x1⟩, ⟨y0, y1⟩, hg1, hg2⟩ := id hT
    clear he he2
    obtain ⟨P, hP⟩ : ∃ P, Rs.sing (Rs.mem x m) = P := ⟨_, rfl⟩
    obtain ⟨Q, hQ⟩ : ∃ Q, Rs.sing (Rs.mem y n) = Q := ⟨_, rfl⟩
    obtain ⟨z1, hz1⟩ : ∃ z, Rs.act (1 + o % 14) P y = z := ⟨_, rfl⟩
    obtain ⟨z2, hz2⟩ : ∃ z, Rs.act (1 + o % 14) x y = z := ⟨_, rfl⟩
    obtain ⟨z3, hz3⟩ : ∃ z, Rs.act (1 + o % 14) x Q = z := ⟨_, rfl⟩
    have sP : Rs.Sb P x := by rw [← hP]; exact (Rs.mem_in gx m).sb
    have sQ : Rs.Sb Q y := by rw [← hQ]; exact (Rs.mem_in gy n).sb
    have gP : Rs.G P 32 := by rw [← hP]; exact Rs.g_sing _
    have gQ : Rs.G Q 32 := by rw [← hQ]; exact Rs.g_sing _
    have l1 : Rs.leq z1 z2 = true := by rw [← hz1, ← hz2, ract_good gP gy, ract_good gx gy]; exact (Rs.op_sb hO sP (Rs.Sb.refl gy)).leq
    have l3 : Rs.leq z3 z2 = true := by rw [← hz3, ← hz2, ract_good gx gQ, ract_good gx gy]; exact (Rs.op_sb hO (Rs.Sb.refl gx) sQ).leq
    have HF := Lib.hid (And.intro hP (And.intro hQ (And.intro sP.leq (And.intro hz1 (And.intro hz2 (And.intro l1 (And.intro hz3 l3)))))))
    obtain ⟨Z, hZe⟩ : ∃ Z, Rs.sing c = Z := ⟨_, rfl⟩
    have gZ : Rs.G Z 32 := by rw [← hZe]; exact Rs.g_sing _
    obtain ⟨z4, hz4⟩ : ∃ z, Rs.act 1 x Z = z := ⟨_, rfl⟩
    have hbk : Rs.act 2 z4 Z = x := by
      obtain ⟨k4, g4⟩ := Rs.op_good (o := 1) gx gZ
      rw [← hz4, ract_good gx gZ, ract_good g4 gZ]
      exact Rs.op_back gx gZ
    have HK9 := Lib.hid (And.intro hZe (And.intro hz4 hbk))
    clear hP hQ hz1 hz2 hz3 sP sQ gP gQ l1 l3 hZe gZ hz4 hbk hx hy
    go_wp2_with fail
    obtain ⟨u0, hu0⟩ : ∃ u0, (w4).drew = u0 := ⟨_, rfl⟩
    have HU0 := Lib.hid hu0
    have hTD := hT.drew
    rw [hu0] at hTD
    clear hu0
    have hBase : ∀ u, Bel u0 u → Two w x y g1 g2 u := fun u h => hTD.below h
    rename_i K1 hK1
    have HK1 := Lib.hid hK1
    clear hK1
    have hI := fr3_refl u0
    refine wp_region_held_drew (S := (fun w' => Two w x y g1 g2 w')) (by kernel_rfl) (by rw [HU0.out]; exact hBase _ hI.bel) (fun hHeld => ?_)
    rw [HU0.out] at hHeld ⊢
    refine' wpAnyH_take (i := 0) (v := _) ?_ ?_ ?_ ?_ ?_ ?_ ?_ ?_
    rotate_left 2
    focus (simp only [List.getElem?_toArray, List.getElem?_cons_succ, List.getElem?_cons_zero]; rfl)
    focus kernel_rfl
    focus kernel_rfl
    focus kernel_rfl
    focus exact (fun _ _ _ h => h)
    refine Or.inl ⟨?_, ?_⟩
    focus (go_simp; done)
    focus (intro w hSw; obtain ⟨_, ⟨x0, x1⟩, ⟨y0, y1⟩, _, _⟩ := hSw; (first | (go_simp; done) | (go_simp; with_reducible rfl)))
    focus assumption
    (try simp only [Act.put, List.setIfInBounds_toArray, List.set_cons_zero, List.set_cons_succ])
    refine' wpAnyH_take (i := 1) (v := _) ?_ ?_ ?_ ?_ ?_ ?_ ?_ ?_
    rotate_left 2
    focus (simp only [List.getElem?_toArray, List.getElem?_cons_succ, List.getElem?_cons_zero]; rfl)
    focus kernel_rfl
    focus kernel_rfl
    focus kernel_rfl
    focus exact (fun _ _ _ h => h)
    refine Or.inl ⟨?_, ?_⟩
    focus (go_simp; done)
    focus (intro w hSw; obtain ⟨_, ⟨x0, x1⟩, ⟨y0, y1⟩, _, _⟩ := hSw; (first | (go_simp; done) | (go_simp; with_reducible rfl)))
    focus assumption
    (try simp only [Act.put, List.setIfInBounds_toArray, List.set_cons_zero, List.set_cons_succ])
    refine' wpAnyH_take (i := 4) (v := _) ?_ ?_ ?_ ?_ ?_ ?_ ?_ ?_
    rotate_left 2
    focus (simp only [List.getElem?_toArray, List.getElem?_cons_succ, List.getElem?_cons_zero]; rfl)
    focus kernel_rfl
    focus kernel_rfl
    focus kernel_rfl
    focus exact (fun _ _ _ h => h)
    refine Or.inl ⟨?_, ?_⟩
    focus (go_simp; done)
    focus (intro w hSw; obtain ⟨_, ⟨x0, x1⟩, ⟨y0, y1⟩, _, _⟩ := hSw; (first | (go_simp; done) | (go_simp; with_reducible rfl)))
    focus assumption
    (try simp only [Act.put, List.setIfInBounds_toArray, List.set_cons_zero, List.set_cons_succ])
    refine' wpAnyH_take (i := 5) (v := _) ?_ ?_ ?_ ?_ ?_ ?_ ?_ ?_
    rotate_left 2
    focus (simp only [List.getElem?_toArray, List.getElem?_cons_succ, List.getElem?_cons_zero]; rfl)
    focus kernel_rfl
    focus kernel_rfl
    focus kernel_rfl
    focus exact (fun _ _ _ h => h)
    refine Or.inl ⟨?_, ?_⟩
    focus (go_simp; done)
    focus (intro w hSw; obtain ⟨_, ⟨x0, x1⟩, ⟨y0, y1⟩, _, _⟩ := hSw; (first | (go_simp; done) | (go_simp; with_reducible rfl)))
    focus assumption
    (try simp only [Act.put, List.setIfInBounds_toArray, List.set_cons_zero, List.set_cons_succ])
    refine' mh2 (Pre := fun (g3 : Nat) (g4 : Nat) (w' : World) => Fr3 u0 (some g3) (some g4) none w') _ #[true, true, true, true, true, true, true, true, true, true, false, false] _ (fun HK1_401 => ?ha1_401) (fun g3 g4 w' hpre => ?hb1_401)
    case' ha1_401 => skip
    refine' mh1 (Pre := fun (g4 : Nat) (w' : World) => Fr3 u0 none (some g4) none w') _ #[true, true, true, true, true, true, true, true, false, true, false, false] _ (fun HK1_41 => ?ha1_41) (fun g4 w' hpre => ?hb1_41)
    case' ha1_41 => skip
    refine' mh1 (Pre := fun (g3 : Nat) (w' : World) => Fr3 u0 (some g3) none none w') _ #[true, true, true, true, true, true, true, true, true, false, false, false] _ (fun HK1_40 => ?ha1_40) (fun g3 w' hpre => ?hb1_40)
    case' ha1_40 => skip
    refine' mh2 (Pre := fun (g3 : Nat) (g4 : Nat) (w' : World) => Fr3 u0 (some g3) (some g4) none w') _ #[true, true, true, true, true, true, true, false, true, true, false, false] _ (fun HK1_301 => ?ha1_301) (fun g3 g4 w' hpre => ?hb1_301)
    case' ha1_301 => skip
    refine' mh0 (Pre := fun (w' : World) => Fr3 u0 none none none w') _ #[true, true, true, true, true, true, true, true, false, false, false, false] _ (fun HK1_4 => ?ha1_4) (fun w' hpre => ?hb1_4)
    case' ha1_4 => skip
    refine' mh1 (Pre := fun (g4 : Nat) (w' : World) => Fr3 u0 none (some g4) none w') _ #[true, true, true, true, true, true, true, false, false, true, false, false] _ (fun HK1_31 => ?ha1_31) (fun g4 w' hpre => ?hb1_31)
    case' ha1_31 => skip
    refine' mh1 (Pre := fun (g3 : Nat) (w' : World) => Fr3 u0 (some g3) none none w') _ #[true, true, true, true, true, true, true, false, true, false, false, false] _ (fun HK1_30 => ?ha1_30) (fun g3 w' hpre => ?hb1_30)
    case' ha1_30 => skip
    refine' mh2 (Pre := fun (g3 : Nat) (g4 : Nat) (w' : World) => Fr3 u0 (some g3) (some g4) none w') _ #[true, true, true, true, true, true, false, false, true, true, false, false] _ (fun HK1_201 => ?ha1_201) (fun g3 g4 w' hpre => ?hb1_201)
    case' ha1_201 => skip
    refine' mh0 (Pre := fun (w' : World) => Fr3 u0 none none none w') _ #[true, true, true, true, true, true, true, false, false, false, false, false] _ (fun HK1_3 => ?ha1_3) (fun w' hpre => ?hb1_3)
    case' ha1_3 => skip
    refine' mh1 (Pre := fun (g4 : Nat) (w' : World) => Fr3 u0 none (some g4) none w') _ #[true, true, true, true, true, true, false, false, false, true, false, false] _ (fun HK1_21 => ?ha1_21) (fun g4 w' hpre => ?hb1_21)
    case' ha1_21 => skip
    refine' mh1 (Pre := fun (g3 : Nat) (w' : World) => Fr3 u0 (some g3) none none w') _ #[true, true, true, true, true, true, false, false, true, false, false, false] _ (fun HK1_20 => ?ha1_20) (fun g3 w' hpre => ?hb1_20)
    case' ha1_20 => skip
    refine' mh2 (Pre := fun (g3 : Nat) (g4 : Nat) (w' : World) => Fr3 u0 (some g3) (some g4) none w') _ #[true, true, true, false, true, true, false, false, true, true, false, false] _ (fun HK1_101 => ?ha1_101) (fun g3 g4 w' hpre => ?hb1_101)
    case' ha1_101 => skip
    refine' mh0 (Pre := fun (w' : World) => Fr3 u0 none none none w') _ #[true, true, true, true, true, true, false, false, false, false, false, false] _ (fun HK1_2 => ?ha1_2) (fun w' hpre => ?hb1_2)
    case' ha1_2 => skip
    refine' mh1 (Pre := fun (g4 : Nat) (w' : World) => Fr3 u0 none (some g4) none w') _ #[true, true, true, false, true, true, false, false, false, true, false, false] _ (fun HK1_11 => ?ha1_11) (fun g4 w' hpre => ?hb1_11)
    case' ha1_11 => skip
    refine' mh1 (Pre := fun (g3 : Nat) (w' : World) => Fr3 u0 (some g3) none none w') _ #[true, true, true, false, true, true, false, false, true, false, false, false] _ (fun HK1_10 => ?ha1_10) (fun g3 w' hpre => ?hb1_10)
    case' ha1_10 => skip
    refine' mh2 (Pre := fun (g3 : Nat) (g4 : Nat) (w' : World) => Fr3 u0 (some g3) (some g4) none w') _ #[true, true, false, false, true, true, false, false, true, true, false, false] _ (fun HK1_001 => ?ha1_001) (fun g3 g4 w' hpre => ?hb1_001)
    case' ha1_001 => skip
    refine' mh0 (Pre := fun (w' : World) => Fr3 u0 none none none w') _ #[true, true, true, false, true, true, false, false, false, false, false, false] _ (fun HK1_1 => ?ha1_1) (fun w' hpre => ?hb1_1)
    case' ha1_1 => skip
    refine' mh1 (Pre := fun (g4 : Nat) (w' : World) => Fr3 u0 none (some g4) none w') _ #[true, true, false, false, true, true, false, false, false, true, false, false] _ (fun HK1_01 => ?ha1_01) (fun g4 w' hpre => ?hb1_01)
    case' ha1_01 => skip
    refine' mh1 (Pre := fun (g3 : Nat) (w' : World) => Fr3 u0 (some g3) none none w') _ #[true, true, false, false, true, true, false, false, true, false, false, false] _ (fun HK1_00 => ?ha1_00) (fun g3 w' hpre => ?hb1_00)
    case ha1_00 =>
      refine wpAnyH_ready (rs := [2, 8, 9]) (by kernel_rfl) (by simp) ?_
      refine' AllReadyH.cons ?_ (fun K hK => ?_) ?_
      rotate_left
      focus (simp only [List.getElem?_toArray, List.getElem?_cons_succ, List.getElem?_cons_zero]; rfl)
      focus
        go_simp
        (go_at_call 16; refine (member_any x m i gx HM.out _).mono ?_; rintro e v ⟨rfl, hb⟩)
        replace hI := hI.below hb
        refine hK.out _ _ (hBase _ hI.bel) (fun hHeld => ?_)
        clear hK K hb
        (try simp only [Act.put, List.setIfInBounds_toArray, List.set_cons_zero, List.set_cons_succ])
        refine wpAnyH_listed (listed' := #[true, true, true, false, true, true, false, false, false, false, false, false]) (by kernel_rfl) ?_
        exact HK1_1  v hI
      refine' AllReadyH.cons ?_ (fun K hK => ?_) ?_
      rotate_left
      focus (simp only [List.getElem?_toArray, List.getElem?_cons_succ, List.getElem?_cons_zero]; rfl)
      focus
        go_simp
        replace hI := hI.make1 (t := 23)
        refine hK.out _ _ (hBase _ hI.bel) (fun hHeld => ?_)
        clear hK K
        (try simp only [Act.put, List.setIfInBounds_toArray, List.set_cons_zero, List.set_cons_succ])
        generalize u0.alloc (.cells #[.int .i64 0, .int .i64 0] 23) = v at *
        generalize u0.heap.size = g3 at *
        refine wpAnyH_listed (listed' := #[true, true, false, false, true, true, false, false, true, false, false, false]) (by kernel_rfl) ?_
        exact HK1_00 g3 v hI
      refine' AllReadyH.cons ?_ (fun K hK => ?_) ?_
      rotate_left
      focus (simp only [List.getElem?_toArray, List.getElem?_cons_succ, List.getElem?_cons_zero]; rfl)
      focus
        go_simp
        replace hI := hI.make2 (t := 23)
        refine hK.out _ _ (hBase _ hI.bel) (fun hHeld => ?_)
        clear hK K
        (try simp only [Act.put, List.setIfInBounds_toArray, List.set_cons_zero, List.set_cons_succ])
        generalize u0.alloc (.cells #[.int .i64 0, .int .i64 0] 23) = v at *
        generalize u0.heap.size = g4 at *
        refine wpAnyH_listed (listed' := #[true, true, false, false, true, true, false, false, false, true, false, false]) (by kernel_rfl) ?_
        exact HK1_01 g4 v hI
      exact AllReadyH.nil
    case hb1_00 =>
      have hI := hpre
      refine wpAnyH_ready (rs := [2, 9]) (by kernel_rfl) (by simp) ?_
      refine' AllReadyH.cons ?_ (fun K hK => ?_) ?_
      rotate_left
      focus (simp only [List.getElem?_toArray, List.getElem?_cons_succ, List.getElem?_cons_zero]; rfl)
      focus
        go_simp
        (go_at_call 16; refine (member_any x m i gx HM.out _).mono ?_; rintro e v ⟨rfl, hb⟩)
        replace hI := hI.below hb
        refine hK.out _ _ (hBase _ hI.bel) (fun hHeld => ?_)
        clear hK K hb
        (try simp only [Act.put, List.setIfInBounds_toArray, List.set_cons_zero, List.set_cons_succ])
        refine wpAnyH_listed (listed' := #[true, true, true, false, true, true, false, false, true, false, false, false]) (by kernel_rfl) ?_
        exact HK1_10 g3 v hI
      refine' AllReadyH.cons ?_ (fun K hK => ?_) ?_
      rotate_left
      focus (simp only [List.getElem?_toArray, List.getElem?_cons_succ, List.getElem?_cons_zero]; rfl)
      focus
        go_simp
        replace hI := hI.make2 (t := 23)
        refine hK.out _ _ (hBase _ hI.bel) (fun hHeld => ?_)
        clear hK K
        (try simp only [Act.put, List.setIfInBounds_toArray, List.set_cons_zero, List.set_cons_succ])
        generalize w'.alloc (.cells #[.int .i64 0, .int .i64 0] 23) = v at *
        generalize w'.heap.size = g4 at *
        refine wpAnyH_listed (listed' := #[true, true, false, false, true, true, false, false, true, true, false, false]) (by kernel_rfl) ?_
        exact HK1_001 g3 g4 v hI
      exact AllReadyH.nil
    case hb1_01 =>
      have hI := hpre
      refine wpAnyH_ready (rs := [2, 8]) (by kernel_rfl) (by simp) ?_
      refine' AllReadyH.cons ?_ (fun K hK => ?_) ?_
      rotate_left
      focus (simp only [List.getElem?_toArray, List.getElem?_cons_succ, List.getElem?_cons_zero]; rfl)
      focus
        go_simp
        (go_at_call 16; refine (member_any x m i gx HM.out _).mono ?_; rintro e v ⟨rfl, hb⟩)
        replace hI := hI.below hb
        refine hK.out _ _ (hBase _ hI.bel) (fun hHeld => ?_)
        clear hK K hb
        (try simp only [Act.put, List.setIfInBounds_toArray, List.set_cons_zero, List.set_cons_succ])
        refine wpAnyH_listed (listed' := #[true, true, true, false, true, true, false, false, false, true, false, false]) (by kernel_rfl) ?_
        exact HK1_11 g4 v hI
      refine' AllReadyH.cons ?_ (fun K hK => ?_) ?_
      rotate_left
      focus (simp only [List.getElem?_toArray, List.getElem?_cons_succ, List.getElem?_cons_zero]; rfl)
      focus
        go_simp
        replace hI := hI.make1 (t := 23)
        refine hK.out _ _ (hBase _ hI.bel) (fun hHeld => ?_)
        clear hK K
        (try simp only [Act.put, List.setIfInBounds_toArray, List.set_cons_zero, List.set_cons_succ])
        generalize w'.alloc (.cells #[.int .i64 0, .int .i64 0] 23) = v at *
        generalize w'.heap.size = g3 at *
        refine wpAnyH_listed (listed' := #[true, true, false, false, true, true, false, false, true, true, false, false]) (by kernel_rfl) ?_
        exact HK1_001 g3 g4 v hI
      exact AllReadyH.nil
    case hb1_1 =>
      have hI := hpre
      refine wpAnyH_ready (rs := [3, 8, 9]) (by kernel_rfl) (by simp) ?_
      refine' AllReadyH.cons ?_ (fun K hK => ?_) ?_
      rotate_left
      focus (simp only [List.getElem?_toArray, List.getElem?_cons_succ, List.getElem?_cons_zero]; rfl)
      focus
        go_simp
        (go_at_call 23; refine (cOf_any _ P HF.out.1 _).mono ?_; rintro e v ⟨rfl, hb⟩)
        replace hI := hI.below hb
        refine hK.out _ _ (hBase _ hI.bel) (fun hHeld => ?_)
        clear hK K hb
        (try simp only [Act.put, List.setIfInBounds_toArray, List.set_cons_zero, List.set_cons_succ])
        refine wpAnyH_listed (listed' := #[true, true, true, true, true, true, false, false, false, false, false, false]) (by kernel_rfl) ?_
        exact HK1_2  v hI
      refine' AllReadyH.cons ?_ (fun K hK => ?_) ?_
      rotate_left
      focus (simp only [List.getElem?_toArray, List.getElem?_cons_succ, List.getElem?_cons_zero]; rfl)
      focus
        go_simp
        replace hI := hI.make1 (t := 23)
        refine hK.out _ _ (hBase _ hI.bel) (fun hHeld => ?_)
        clear hK K
        (try simp only [Act.put, List.setIfInBounds_toArray, List.set_cons_zero, List.set_cons_succ])
        generalize w'.alloc (.cells #[.int .i64 0, .int .i64 0] 23) = v at *
        generalize w'.heap.size = g3 at *
        refine wpAnyH_listed (listed' := #[true, true, true, false, true, true, false, false, true, false, false, false]) (by kernel_rfl) ?_
        exact HK1_10 g3 v hI
      refine' AllReadyH.cons ?_ (fun K hK => ?_) ?_
      rotate_left
      focus (simp only [List.getElem?_toArray, List.getElem?_cons_succ, List.getElem?_cons_zero]; rfl)
      focus
        go_simp
        replace hI := hI.make2 (t := 23)
        refine hK.out _ _ (hBase _ hI.bel) (fun hHeld => ?_)
        clear hK K
        (try simp only [Act.put, List.setIfInBounds_toArray, List.set_cons_zero, List.set_cons_succ])
        generalize w'.alloc (.cells #[.int .i64 0, .int .i64 0] 23) = v at *
        generalize w'.heap.size = g4 at *
        refine wpAnyH_listed (listed' := #[true, true, true, false, true, true, false, false, false, true, false, false]) (by kernel_rfl) ?_
        exact HK1_11 g4 v hI
      exact AllReadyH.nil
    case hb1_001 =>
      have hI := hpre
      refine wpAnyH_ready (rs := [2]) (by kernel_rfl) (by simp) ?_
      refine' AllReadyH.cons ?_ (fun K hK => ?_) ?_
      rotate_left
      focus (simp only [List.getElem?_toArray, List.getElem?_cons_succ, List.getElem?_cons_zero]; rfl)
      focus
        go_simp
        (go_at_call 16; refine (member_any x m i gx HM.out _).mono ?_; rintro e v ⟨rfl, hb⟩)
        replace hI := hI.below hb
        refine hK.out _ _ (hBase _ hI.bel) (fun hHeld => ?_)
        clear hK K hb
        (try simp only [Act.put, List.setIfInBounds_toArray, List.set_cons_zero, List.set_cons_succ])
        refine wpAnyH_listed (listed' := #[true, true, true, false, true, true, false, false, true, true, false, false]) (by kernel_rfl) ?_
        exact HK1_101 g3 g4 v hI
      exact AllReadyH.nil
    case hb1_10 =>
      have hI := hpre
      refine wpAnyH_ready (rs := [3, 9]) (by kernel_rfl) (by simp) ?_
      refine' AllReadyH.cons ?_ (fun K hK => ?_) ?_
      rotate_left
      focus (simp only [List.getElem?_toArray, List.getElem?_cons_succ, List.getElem?_cons_zero]; rfl)
      focus
        go_simp
        (go_at_call 23; refine (cOf_any _ P HF.out.1 _).mono ?_; rintro e v ⟨rfl, hb⟩)
        replace hI := hI.below hb
        refine hK.out _ _ (hBase _ hI.bel) (fun hHeld => ?_)
        clear hK K hb
        (try simp only [Act.put, List.setIfInBounds_toArray, List.set_cons_zero, List.set_cons_succ])
        refine wpAnyH_listed (listed' := #[true, true, true, true, true, true, false, false, true, false, false, false]) (by kernel_rfl) ?_
        exact HK1_20 g3 v hI
      refine' AllReadyH.cons ?_ (fun K hK => ?_) ?_
      rotate_left
      focus (simp only [List.getElem?_toArray, List.getElem?_cons_succ, List.getElem?_cons_zero]; rfl)
      focus
        go_simp
        replace hI := hI.make2 (t := 23)
        refine hK.out _ _ (hBase _ hI.bel) (fun hHeld => ?_)
        clear hK K
        (try simp only [Act.put, List.setIfInBounds_toArray, List.set_cons_zero, List.set_cons_succ])
        generalize w'.alloc (.cells #[.int .i64 0, .int .i64 0] 23) = v at *
        generalize w'.heap.size = g4 at *
        refine wpAnyH_listed (listed' := #[true, true, true, false, true, true, false, false, true, true, false, false]) (by kernel_rfl) ?_
        exact HK1_101 g3 g4 v hI
      exact AllReadyH.nil
    case hb1_11 =>
      have hI := hpre
      refine wpAnyH_ready (rs := [3, 8]) (by kernel_rfl) (by simp) ?_
      refine' AllReadyH.cons ?_ (fun K hK => ?_) ?_
      rotate_left
      focus (simp only [List.getElem?_toArray, List.getElem?_cons_succ, List.getElem?_cons_zero]; rfl)
      focus
        go_simp
        (go_at_call 23; refine (cOf_any _ P HF.out.1 _).mono ?_; rintro e v ⟨rfl, hb⟩)
        replace hI := hI.below hb
        refine hK.out _ _ (hBase _ hI.bel) (fun hHeld => ?_)
        clear hK K hb
        (try simp only [Act.put, List.setIfInBounds_toArray, List.set_cons_zero, List.set_cons_succ])
        refine wpAnyH_listed (listed' := #[true, true, true, true, true, true, false, false, false, true, false, false]) (by kernel_rfl) ?_
        exact HK1_21 g4 v hI
      refine' AllReadyH.cons ?_ (fun K hK => ?_) ?_
      rotate_left
      focus (simp only [List.getElem?_toArray, List.getElem?_cons_succ, List.getElem?_cons_zero]; rfl)
      focus
        go_simp
        replace hI := hI.make1 (t := 23)
        refine hK.out _ _ (hBase _ hI.bel) (fun hHeld => ?_)
        clear hK K
        (try simp only [Act.put, List.setIfInBounds_toArray, List.set_cons_zero, List.set_cons_succ])
        generalize w'.alloc (.cells #[.int .i64 0, .int .i64 0] 23) = v at *
        generalize w'.heap.size = g3 at *
        refine wpAnyH_listed (listed' := #[true, true, true, false, true, true, false, false, true, true, false, false]) (by kernel_rfl) ?_
        exact HK1_101 g3 g4 v hI
      exact AllReadyH.nil
    case hb1_2 =>
      have hI := hpre
      refine wpAnyH_ready (rs := [6, 8, 9]) (by kernel_rfl) (by simp) ?_
      refine' AllReadyH.cons ?_ (fun K hK => ?_) ?_
      rotate_left
      focus (simp only [List.getElem?_toArray, List.getElem?_cons_succ, List.getElem?_cons_zero]; rfl)
      focus
        go_simp
        (go_at_call 16; refine (member_any y n j gy HN.out _).mono ?_; rintro e v ⟨rfl, hb⟩)
        replace hI := hI.below hb
        refine hK.out _ _ (hBase _ hI.bel) (fun hHeld => ?_)
        clear hK K hb
        (try simp only [Act.put, List.setIfInBounds_toArray, List.set_cons_zero, List.set_cons_succ])
        refine wpAnyH_listed (listed' := #[true, true, true, true, true, true, true, false, false, false, false, false]) (by kernel_rfl) ?_
        exact HK1_3  v hI
      refine' AllReadyH.cons ?_ (fun K hK => ?_) ?_
      rotate_left
      focus (simp only [List.getElem?_toArray, List.getElem?_cons_succ, List.getElem?_cons_zero]; rfl)
      focus
        go_simp
        replace hI := hI.make1 (t := 23)
        refine hK.out _ _ (hBase _ hI.bel) (fun hHeld => ?_)
        clear hK K
        (try simp only [Act.put, List.setIfInBounds_toArray, List.set_cons_zero, List.set_cons_succ])
        generalize w'.alloc (.cells #[.int .i64 0, .int .i64 0] 23) = v at *
        generalize w'.heap.size = g3 at *
        refine wpAnyH_listed (listed' := #[true, true, true, true, true, true, false, false, true, false, false, false]) (by kernel_rfl) ?_
        exact HK1_20 g3 v hI
      refine' AllReadyH.cons ?_ (fun K hK => ?_) ?_
      rotate_left
      focus (simp only [List.getElem?_toArray, List.getElem?_cons_succ, List.getElem?_cons_zero]; rfl)
      focus
        go_simp
        replace hI := hI.make2 (t := 23)
        refine hK.out _ _ (hBase _ hI.bel) (fun hHeld => ?_)
        clear hK K
        (try simp only [Act.put, List.setIfInBounds_toArray, List.set_cons_zero, List.set_cons_succ])
        generalize w'.alloc (.cells #[.int .i64 0, .int .i64 0] 23) = v at *
        generalize w'.heap.size = g4 at *
        refine wpAnyH_listed (listed' := #[true, true, true, true, true, true, false, false, false, true, false, false]) (by kernel_rfl) ?_
        exact HK1_21 g4 v hI
      exact AllReadyH.nil
    case hb1_101 =>
      have hI := hpre
      refine wpAnyH_ready (rs := [3]) (by kernel_rfl) (by simp) ?_
      refine' AllReadyH.cons ?_ (fun K hK => ?_) ?_
      rotate_left
      focus (simp only [List.getElem?_toArray, List.getElem?_cons_succ, List.getElem?_cons_zero]; rfl)
      focus
        go_simp
        (go_at_call 23; refine (cOf_any _ P HF.out.1 _).mono ?_; rintro e v ⟨rfl, hb⟩)
        replace hI := hI.below hb
        refine hK.out _ _ (hBase _ hI.bel) (fun hHeld => ?_)
        clear hK K hb
        (try simp only [Act.put, List.setIfInBounds_toArray, List.set_cons_zero, List.set_cons_succ])
        refine wpAnyH_listed (listed' := #[true, true, true, true, true, true, false, false, true, true, false, false]) (by kernel_rfl) ?_
        exact HK1_201 g3 g4 v hI
      exact AllReadyH.nil
    case hb1_20 =>
      have hI := hpre
      refine wpAnyH_ready (rs := [6, 9]) (by kernel_rfl) (by simp) ?_
      refine' AllReadyH.cons ?_ (fun K hK => ?_) ?_
      rotate_left
      focus (simp only [List.getElem?_toArray, List.getElem?_cons_succ, List.getElem?_cons_zero]; rfl)
      focus
        go_simp
        (go_at_call 16; refine (member_any y n j gy HN.out _).mono ?_; rintro e v ⟨rfl, hb⟩)
        replace hI := hI.below hb
        refine hK.out _ _ (hBase _ hI.bel) (fun hHeld => ?_)
        clear hK K hb
        (try simp only [Act.put, List.setIfInBounds_toArray, List.set_cons_zero, List.set_cons_succ])
        refine wpAnyH_listed (listed' := #[true, true, true, true, true, true, true, false, true, false, false, false]) (by kernel_rfl) ?_
        exact HK1_30 g3 v hI
      refine' AllReadyH.cons ?_ (fun K hK => ?_) ?_
      rotate_left
      focus (simp only [List.getElem?_toArray, List.getElem?_cons_succ, List.getElem?_cons_zero]; rfl)
      focus
        go_simp
        replace hI := hI.make2 (t := 23)
        refine hK.out _ _ (hBase _ hI.bel) (fun hHeld => ?_)
        clear hK K
        (try simp only [Act.put, List.setIfInBounds_toArray, List.set_cons_zero, List.set_cons_succ])
        generalize w'.alloc (.cells #[.int .i64 0, .int .i64 0] 23) = v at *
        generalize w'.heap.size = g4 at *
        refine wpAnyH_listed (listed' := #[true, true, true, true, true, true, false, false, true, true, false, false]) (by kernel_rfl) ?_
        exact HK1_201 g3 g4 v hI
      exact AllReadyH.nil
    case hb1_21 =>
      have hI := hpre
      refine wpAnyH_ready (rs := [6, 8]) (by kernel_rfl) (by simp) ?_
      refine' AllReadyH.cons ?_ (fun K hK => ?_) ?_
      rotate_left
      focus (simp only [List.getElem?_toArray, List.getElem?_cons_succ, List.getElem?_cons_zero]; rfl)
      focus
        go_simp
        (go_at_call 16; refine (member_any y n j gy HN.out _).mono ?_; rintro e v ⟨rfl, hb⟩)
        replace hI := hI.below hb
        refine hK.out _ _ (hBase _ hI.bel) (fun hHeld => ?_)
        clear hK K hb
        (try simp only [Act.put, List.setIfInBounds_toArray, List.set_cons_zero, List.set_cons_succ])
        refine wpAnyH_listed (listed' := #[true, true, true, true, true, true, true, false, false, true, false, false]) (by kernel_rfl) ?_
        exact HK1_31 g4 v hI
      refine' AllReadyH.cons ?_ (fun K hK => ?_) ?_
      rotate_left
      focus (simp only [List.getElem?_toArray, List.getElem?_cons_succ, List.getElem?_cons_zero]; rfl)
      focus
        go_simp
        replace hI := hI.make1 (t := 23)
        refine hK.out _ _ (hBase _ hI.bel) (fun hHeld => ?_)
        clear hK K
        (try simp only [Act.put, List.setIfInBounds_toArray, List.set_cons_zero, List.set_cons_succ])
        generalize w'.alloc (.cells #[.int .i64 0, .int .i64 0] 23) = v at *
        generalize w'.heap.size = g3 at *
        refine wpAnyH_listed (listed' := #[true, true, true, true, true, true, false, false, true, true, false, false]) (by kernel_rfl) ?_
        exact HK1_201 g3 g4 v hI
      exact AllReadyH.nil
    case hb1_3 =>
      have hI := hpre
      refine wpAnyH_ready (rs := [7, 8, 9]) (by kernel_rfl) (by simp) ?_
      refine' AllReadyH.cons ?_ (fun K hK => ?_) ?_
      rotate_left
      focus (simp only [List.getElem?_toArray, List.getElem?_cons_succ, List.getElem?_cons_zero]; rfl)
      focus
        go_simp
        (go_at_call 23; refine (cOf_any _ Q HF.out.2.1 _).mono ?_; rintro e v ⟨rfl, hb⟩)
        replace hI := hI.below hb
        refine hK.out _ _ (hBase _ hI.bel) (fun hHeld => ?_)
        clear hK K hb
        (try simp only [Act.put, List.setIfInBounds_toArray, List.set_cons_zero, List.set_cons_succ])
        refine wpAnyH_listed (listed' := #[true, true, true, true, true, true, true, true, false, false, false, false]) (by kernel_rfl) ?_
        exact HK1_4  v hI
      refine' AllReadyH.cons ?_ (fun K hK => ?_) ?_
      rotate_left
      focus (simp only [List.getElem?_toArray, List.getElem?_cons_succ, List.getElem?_cons_zero]; rfl)
      focus
        go_simp
        replace hI := hI.make1 (t := 23)
        refine hK.out _ _ (hBase _ hI.bel) (fun hHeld => ?_)
        clear hK K
        (try simp only [Act.put, List.setIfInBounds_toArray, List.set_cons_zero, List.set_cons_succ])
        generalize w'.alloc (.cells #[.int .i64 0, .int .i64 0] 23) = v at *
        generalize w'.heap.size = g3 at *
        refine wpAnyH_listed (listed' := #[true, true, true, true, true, true, true, false, true, false, false, false]) (by kernel_rfl) ?_
        exact HK1_30 g3 v hI
      refine' AllReadyH.cons ?_ (fun K hK => ?_) ?_
      rotate_left
      focus (simp only [List.getElem?_toArray, List.getElem?_cons_succ, List.getElem?_cons_zero]; rfl)
      focus
        go_simp
        replace hI := hI.make2 (t := 23)
        refine hK.out _ _ (hBase _ hI.bel) (fun hHeld => ?_)
        clear hK K
        (try simp only [Act.put, List.setIfInBounds_toArray, List.set_cons_zero, List.set_cons_succ])
        generalize w'.alloc (.cells #[.int .i64 0, .int .i64 0] 23) = v at *
        generalize w'.heap.size = g4 at *
        refine wpAnyH_listed (listed' := #[true, true, true, true, true, true, true, false, false, true, false, false]) (by kernel_rfl) ?_
        exact HK1_31 g4 v hI
      exact AllReadyH.nil
    case hb1_201 =>
      have hI := hpre
      refine wpAnyH_ready (rs := [6]) (by kernel_rfl) (by simp) ?_
      refine' AllReadyH.cons ?_ (fun K hK => ?_) ?_
      rotate_left
      focus (simp only [List.getElem?_toArray, List.getElem?_cons_succ, List.getElem?_cons_zero]; rfl)
      focus
        go_simp
        (go_at_call 16; refine (member_any y n j gy HN.out _).mono ?_; rintro e v ⟨rfl, hb⟩)
        replace hI := hI.below hb
        refine hK.out _ _ (hBase _ hI.bel) (fun hHeld => ?_)
        clear hK K hb
        (try simp only [Act.put, List.setIfInBounds_toArray, List.set_cons_zero, List.set_cons_succ])
        refine wpAnyH_listed (listed' := #[true, true, true, true, true, true, true, false, true, true, false, false]) (by kernel_rfl) ?_
        exact HK1_301 g3 g4 v hI
      exact AllReadyH.nil
    case hb1_30 =>
      have hI := hpre
      refine wpAnyH_ready (rs := [7, 9]) (by kernel_rfl) (by simp) ?_
      refine' AllReadyH.cons ?_ (fun K hK => ?_) ?_
      rotate_left
      focus (simp only [List.getElem?_toArray, List.getElem?_cons_succ, List.getElem?_cons_zero]; rfl)
      focus
        go_simp
        (go_at_call 23; refine (cOf_any _ Q HF.out.2.1 _).mono ?_; rintro e v ⟨rfl, hb⟩)
        replace hI := hI.below hb
        refine hK.out _ _ (hBase _ hI.bel) (fun hHeld => ?_)
        clear hK K hb
        (try simp only [Act.put, List.setIfInBounds_toArray, List.set_cons_zero, List.set_cons_succ])
        refine wpAnyH_listed (listed' := #[true, true, true, true, true, true, true, true, true, false, false, false]) (by kernel_rfl) ?_
        exact HK1_40 g3 v hI
      refine' AllReadyH.cons ?_ (fun K hK => ?_) ?_
      rotate_left
      focus (simp only [List.getElem?_toArray, List.getElem?_cons_succ, List.getElem?_cons_zero]; rfl)
      focus
        go_simp
        replace hI := hI.make2 (t := 23)
        refine hK.out _ _ (hBase _ hI.bel) (fun hHeld => ?_)
        clear hK K
        (try simp only [Act.put, List.setIfInBounds_toArray, List.set_cons_zero, List.set_cons_succ])
        generalize w'.alloc (.cells #[.int .i64 0, .int .i64 0] 23) = v at *
        generalize w'.heap.size = g4 at *
        refine wpAnyH_listed (listed' := #[true, true, true, true, true, true, true, false, true, true, false, false]) (by kernel_rfl) ?_
        exact HK1_301 g3 g4 v hI
      exact AllReadyH.nil
    case hb1_31 =>
      have hI := hpre
      refine wpAnyH_ready (rs := [7, 8]) (by kernel_rfl) (by simp) ?_
      refine' AllReadyH.cons ?_ (fun K hK => ?_) ?_
      rotate_left
      focus (simp only [List.getElem?_toArray, List.getElem?_cons_succ, List.getElem?_cons_zero]; rfl)
      focus
        go_simp
        (go_at_call 23; refine (cOf_any _ Q HF.out.2.1 _).mono ?_; rintro e v ⟨rfl, hb⟩)
        replace hI := hI.below hb
        refine hK.out _ _ (hBase _ hI.bel) (fun hHeld => ?_)
        clear hK K hb
        (try simp only [Act.put, List.setIfInBounds_toArray, List.set_cons_zero, List.set_cons_succ])
        refine wpAnyH_listed (listed' := #[true, true, true, true, true, true, true, true, false, true, false, false]) (by kernel_rfl) ?_
        exact HK1_41 g4 v hI
      refine' AllReadyH.cons ?_ (fun K hK => ?_) ?_
      rotate_left
      focus (simp only [List.getElem?_toArray, List.getElem?_cons_succ, List.getElem?_cons_zero]; rfl)
      focus
        go_simp
        replace hI := hI.make1 (t := 23)
        refine hK.out _ _ (hBase _ hI.bel) (fun hHeld => ?_)
        clear hK K
        (try simp only [Act.put, List.setIfInBounds_toArray, List.set_cons_zero, List.set_cons_succ])
        generalize w'.alloc (.cells #[.int .i64 0, .int .i64 0] 23) = v at *
        generalize w'.heap.size = g3 at *
        refine wpAnyH_listed (listed' := #[true, true, true, true, true, true, true, false, true, true, false, false]) (by kernel_rfl) ?_
        exact HK1_301 g3 g4 v hI
      exact AllReadyH.nil
    case hb1_4 =>
      have hI := hpre
      refine wpAnyH_ready (rs := [8, 9]) (by kernel_rfl) (by simp) ?_
      refine' AllReadyH.cons ?_ (fun K hK => ?_) ?_
      rotate_left
      focus (simp only [List.getElem?_toArray, List.getElem?_cons_succ, List.getElem?_cons_zero]; rfl)
      focus
        go_simp
        replace hI := hI.make1 (t := 23)
        refine hK.out _ _ (hBase _ hI.bel) (fun hHeld => ?_)
        clear hK K
        (try simp only [Act.put, List.setIfInBounds_toArray, List.set_cons_zero, List.set_cons_succ])
        generalize w'.alloc (.cells #[.int .i64 0, .int .i64 0] 23) = v at *
        generalize w'.heap.size = g3 at *
        refine wpAnyH_listed (listed' := #[true, true, true, true, true, true, true, true, true, false, false, false]) (by kernel_rfl) ?_
        exact HK1_40 g3 v hI
      refine' AllReadyH.cons ?_ (fun K hK => ?_) ?_
      rotate_left
      focus (simp only [List.getElem?_toArray, List.getElem?_cons_succ, List.getElem?_cons_zero]; rfl)
      focus
        go_simp
        replace hI := hI.make2 (t := 23)
        refine hK.out _ _ (hBase _ hI.bel) (fun hHeld => ?_)
        clear hK K
        (try simp only [Act.put, List.setIfInBounds_toArray, List.set_cons_zero, List.set_cons_succ])
        generalize w'.alloc (.cells #[.int .i64 0, .int .i64 0] 23) = v at *
        generalize w'.heap.size = g4 at *
        refine wpAnyH_listed (listed' := #[true, true, true, true, true, true, true, true, false, true, false, false]) (by kernel_rfl) ?_
        exact HK1_41 g4 v hI
      exact AllReadyH.nil
    case hb1_301 =>
      have hI := hpre
      refine wpAnyH_ready (rs := [7]) (by kernel_rfl) (by simp) ?_
      refine' AllReadyH.cons ?_ (fun K hK => ?_) ?_
      rotate_left
      focus (simp only [List.getElem?_toArray, List.getElem?_cons_succ, List.getElem?_cons_zero]; rfl)
      focus
        go_simp
        (go_at_call 23; refine (cOf_any _ Q HF.out.2.1 _).mono ?_; rintro e v ⟨rfl, hb⟩)
        replace hI := hI.below hb
        refine hK.out _ _ (hBase _ hI.bel) (fun hHeld => ?_)
        clear hK K hb
        (try simp only [Act.put, List.setIfInBounds_toArray, List.set_cons_zero, List.set_cons_succ])
        refine wpAnyH_listed (listed' := #[true, true, true, true, true, true, true, true, true, true, false, false]) (by kernel_rfl) ?_
        exact HK1_401 g3 g4 v hI
      exact AllReadyH.nil
    case hb1_40 =>
      have hI := hpre
      refine wpAnyH_ready (rs := [9]) (by kernel_rfl) (by simp) ?_
      refine' AllReadyH.cons ?_ (fun K hK => ?_) ?_
      rotate_left
      focus (simp only [List.getElem?_toArray, List.getElem?_cons_succ, List.getElem?_cons_zero]; rfl)
      focus
        go_simp
        replace hI := hI.make2 (t := 23)
        refine hK.out _ _ (hBase _ hI.bel) (fun hHeld => ?_)
        clear hK K
        (try simp only [Act.put, List.setIfInBounds_toArray, List.set_cons_zero, List.set_cons_succ])
        generalize w'.alloc (.cells #[.int .i64 0, .int .i64 0] 23) = v at *
        generalize w'.heap.size = g4 at *
        refine wpAnyH_listed (listed' := #[true, true, true, true, true, true, true, true, true, true, false, false]) (by kernel_rfl) ?_
        exact HK1_401 g3 g4 v hI
      exact AllReadyH.nil
    case hb1_41 =>
      have hI := hpre
      refine wpAnyH_ready (rs := [8]) (by kernel_rfl) (by simp) ?_
      refine' AllReadyH.cons ?_ (fun K hK => ?_) ?_
      rotate_left
      focus (simp only [List.getElem?_toArray, List.getElem?_cons_succ, List.getElem?_cons_zero]; rfl)
      focus
        go_simp
        replace hI := hI.make1 (t := 23)
        refine hK.out _ _ (hBase _ hI.bel) (fun hHeld => ?_)
        clear hK K
        (try simp only [Act.put, List.setIfInBounds_toArray, List.set_cons_zero, List.set_cons_succ])
        generalize w'.alloc (.cells #[.int .i64 0, .int .i64 0] 23) = v at *
        generalize w'.heap.size = g3 at *
        refine wpAnyH_listed (listed' := #[true, true, true, true, true, true, true, true, true, true, false, false]) (by kernel_rfl) ?_
        exact HK1_401 g3 g4 v hI
      exact AllReadyH.nil
    have hI := hpre
    obtain ⟨hBl, ⟨a0, l0, c0, d0, f0⟩, ⟨a1, l1, c1, d1, f1⟩, _, hne12, hne13, hne23⟩ := hI
    have n01 := hne12 g3 g4 rfl rfl
    clear hne12 hne13 hne23
    refine wpAnyH_ready (rs := [10]) (by kernel_rfl) (by simp) ?_
    refine' AllReadyH.cons ?_ (fun K hK => ?_) AllReadyH.nil
    rotate_left
    focus (simp only [List.getElem?_toArray, List.getElem?_cons_succ, List.getElem?_cons_zero]; rfl)
    go_simp
    replace hBl : Below _ _ ((w'.setCell ⟨g3, 0, none⟩ (.int .i64 (P.m))).setCell ⟨g3, 1, none⟩ (.int .i64 (P.r))) := (hBl.setCell (p := ⟨g3, 0, none⟩) a0 _).setCell (p := ⟨g3, 1, none⟩) a0 _
    have r0 : Pr (P.m) (P.r) g3 ((w'.setCell ⟨g3, 0, none⟩ (.int .i64 (P.m))).setCell ⟨g3, 1, none⟩ (.int .i64 (P.r))) := pr_set c0 d0 l0
    replace c1 := (far2 (o := 0) (o1 := 0) (o2 := 1) (v1 := .int .i64 (P.m)) (v2 := .int .i64 (P.r)) n01).trans c1
    replace d1 := (far2 (o := 1) (o1 := 0) (o2 := 1) (v1 := .int .i64 (P.m)) (v2 := .int .i64 (P.r)) n01).trans d1
    replace f1 : ∀ o, ((w'.setCell ⟨g3, 0, none⟩ (.int .i64 (P.m))).setCell ⟨g3, 1, none⟩ (.int .i64 (P.r))).frozen? ⟨g4, o, none⟩ = false := fun o => by simpa using f1 o
    replace l1 : g4 < ((w'.setCell ⟨g3, 0, none⟩ (.int .i64 (P.m))).setCell ⟨g3, 1, none⟩ (.int .i64 (P.r))).heap.size := by simpa using l1
    refine hK.out _ _ (hBase _ hBl) (fun hHeld => ?_)
    clear hK K c0 d0 f0 l0
    (try simp only [Act.put, List.setIfInBounds_toArray, List.set_cons_zero, List.set_cons_succ])
    generalize ((w'.setCell ⟨g3, 0, none⟩ (.int .i64 (P.m))).setCell ⟨g3, 1, none⟩ (.int .i64 (P.r))) = v0 at *
    refine wpAnyH_ready (rs := [11]) (by kernel_rfl) (by simp) ?_
    refine' AllReadyH.cons ?_ (fun K hK => ?_) AllReadyH.nil
    rotate_left
    focus (simp only [List.getElem?_toArray, List.getElem?_cons_succ, List.getElem?_cons_zero]; rfl)
    go_simp
    replace hBl : Below _ _ ((v0.setCell ⟨g4, 0, none⟩ (.int .i64 (Q.m))).setCell ⟨g4, 1, none⟩ (.int .i64 (Q.r))) := (hBl.setCell (p := ⟨g4, 0, none⟩) a1 _).setCell (p := ⟨g4, 1, none⟩) a1 _
    replace r0 := r0.far (x := .int .i64 (Q.m)) (y := .int .i64 (Q.r)) (Ne.symm n01)
    have r1 : Pr (Q.m) (Q.r) g4 ((v0.setCell ⟨g4, 0, none⟩ (.int .i64 (Q.m))).setCell ⟨g4, 1, none⟩ (.int .i64 (Q.r))) := pr_set c1 d1 l1
    refine hK.out _ _ (hBase _ hBl) (fun hHeld => ?_)
    clear hK K c1 d1 f1 l1
    (try simp only [Act.put, List.setIfInBounds_toArray, List.set_cons_zero, List.set_cons_succ])
    generalize ((v0.setCell ⟨g4, 0, none⟩ (.int .i64 (Q.m))).setCell ⟨g4, 1, none⟩ (.int .i64 (Q.r))) = w'' at *
    refine wpAnyH_done (by kernel_rfl) ?_ _
    refine HK1.out _ _ ?_
    clear HK1 hHeld a0 a1 n01
    have hbT : Bel u0 w'' := hBl
    clear hBl
    have hPg3 := r0
    have hPg4 := r1
    clear r0 r1
    clear hT
    have hT := hBase _ hbT
    clear hv x0 x1 y0 y1 hg1 hg2
    obtain ⟨hv, ⟨x0, x1⟩, ⟨y0, y1⟩, hg1, hg2⟩ := id hT
    have hP := hPg3
    have hQ := hPg4
    clear hPg3 hPg4 hTD hBase hbT HM HN gx gy HU0
    go_wp2_with fail
    refine wp_region_held_drew (S := (fun w' => Two w x y g1 g2 w' ∧ Pr P.m P.r g3 w' ∧ Pr Q.m Q.r g4 w')) (by kernel_rfl) (⟨hT.drew, hP.drew, hQ.drew⟩) (fun hHeld => ?_)
    refine' wpAnyH_take (i := 0) (v := _) ?_ ?_ ?_ ?_ ?_ ?_ ?_ ?_
    rotate_left 2
    focus (simp only [List.getElem?_toArray, List.getElem?_cons_succ, List.getElem?_cons_zero]; rfl)
    focus kernel_rfl
    focus kernel_rfl
    focus kernel_rfl
    focus exact (fun _ _ _ h => h)
    refine Or.inl ⟨?_, ?_⟩
    focus (go_simp; done)
    focus (intro w hSw; obtain ⟨⟨_, ⟨x0, x1⟩, ⟨y0, y1⟩, _, _⟩, ⟨⟨p0, p1⟩, _⟩, ⟨q0, q1⟩, _⟩ := hSw; (first | (go_simp; done) | (go_simp; with_reducible rfl)))
    focus assumption
    (try simp only [Act.put, List.setIfInBounds_toArray, List.set_cons_zero, List.set_cons_succ])
    refine' wpAnyH_take (i := 1) (v := _) ?_ ?_ ?_ ?_ ?_ ?_ ?_ ?_
    rotate_left 2
    focus (simp only [List.getElem?_toArray, List.getElem?_cons_succ, List.getElem?_cons_zero]; rfl)
    focus kernel_rfl
    focus kernel_rfl
    focus kernel_rfl
    focus exact (fun _ _ _ h => h)
    refine Or.inl ⟨?_, ?_⟩
    focus (go_simp; done)
    focus (intro w hSw; obtain ⟨⟨_, ⟨x0, x1⟩, ⟨y0, y1⟩, _, _⟩, ⟨⟨p0, p1⟩, _⟩, ⟨q0, q1⟩, _⟩ := hSw; (first | (go_simp; done) | (go_simp; with_reducible rfl)))
    focus assumption
    (try simp only [Act.put, List.setIfInBounds_toArray, List.set_cons_zero, List.set_cons_succ])
    refine wpAnyH_ready (rs := [2]) (by kernel_rfl) (by simp) ?_
    refine' AllReadyH.cons ?_ (fun K hK => ?_) AllReadyH.nil
    rotate_left
    focus (simp only [List.getElem?_toArray, List.getElem?_cons_succ, List.getElem?_cons_zero]; rfl)
    go_simp
    (go_at_call 22; have hTu := HTb.out.below (hHeld.1.1); refine (cLeq_any P.m P.r x.m x.r true HF.out.2.2.1 _ hTu).mono ?_; clear hTu; rintro e w4 ⟨rfl, hb⟩)
    refine hK.out _ _ (⟨hHeld.1.below hb, hHeld.2.1.below hb, hHeld.2.2.below hb⟩) (fun hHeld => ?_)
    clear hK K
    (try simp only [Act.put, List.setIfInBounds_toArray, List.set_cons_zero, List.set_cons_succ])
    clear hb
    refine' wpAnyH_take (i := 3) (v := _) ?_ ?_ ?_ ?_ ?_ ?_ ?_ ?_
    rotate_left 2
    focus (simp only [List.getElem?_toArray, List.getElem?_cons_succ, List.getElem?_cons_zero]; rfl)
    focus kernel_rfl
    focus kernel_rfl
    focus kernel_rfl
    focus exact (fun _ _ _ h => h)
    refine Or.inl ⟨?_, ?_⟩
    focus (go_simp; done)
    focus (intro w hSw; obtain ⟨⟨_, ⟨x0, x1⟩, ⟨y0, y1⟩, _, _⟩, ⟨⟨p0, p1⟩, _⟩, ⟨q0, q1⟩, _⟩ := hSw; (first | (go_simp; done) | (go_simp; with_reducible rfl)))
    focus assumption
    (try simp only [Act.put, List.setIfInBounds_toArray, List.set_cons_zero, List.set_cons_succ])
    refine' wpAnyH_take (i := 4) (v := _) ?_ ?_ ?_ ?_ ?_ ?_ ?_ ?_
    rotate_left 2
    focus (simp only [List.getElem?_toArray, List.getElem?_cons_succ, List.getElem?_cons_zero]; rfl)
    focus kernel_rfl
    focus kernel_rfl
    focus kernel_rfl
    focus exact (fun _ _ _ h => h)
    refine Or.inl ⟨?_, ?_⟩
    focus (go_simp; done)
    focus (intro w hSw; obtain ⟨⟨_, ⟨x0, x1⟩, ⟨y0, y1⟩, _, _⟩, ⟨⟨p0, p1⟩, _⟩, ⟨q0, q1⟩, _⟩ := hSw; (first | (go_simp; done) | (go_simp; with_reducible rfl)))
    focus assumption
    (try simp only [Act.put, List.setIfInBounds_toArray, List.set_cons_zero, List.set_cons_succ])
    refine' wpAnyH_take (i := 5) (v := _) ?_ ?_ ?_ ?_ ?_ ?_ ?_ ?_
    rotate_left 2
    focus (simp only [List.getElem?_toArray, List.getElem?_cons_succ, List.getElem?_cons_zero]; rfl)
    focus kernel_rfl
    focus kernel_rfl
    focus kernel_rfl
    focus exact (fun _ _ _ h => h)
    refine Or.inl ⟨?_, ?_⟩
    focus (go_simp; done)
    focus (intro w hSw; obtain ⟨⟨_, ⟨x0, x1⟩, ⟨y0, y1⟩, _, _⟩, ⟨⟨p0, p1⟩, _⟩, ⟨q0, q1⟩, _⟩ := hSw; (first | (go_simp; done) | (go_simp; with_reducible rfl)))
    focus assumption
    (try simp only [Act.put, List.setIfInBounds_toArray, List.set_cons_zero, List.set_cons_succ])
    refine' wpAnyH_take (i := 6) (v := _) ?_ ?_ ?_ ?_ ?_ ?_ ?_ ?_
    rotate_left 2
    focus (simp only [List.getElem?_toArray, List.getElem?_cons_succ, List.getElem?_cons_zero]; rfl)
    focus kernel_rfl
    focus kernel_rfl
    focus kernel_rfl
    focus exact (fun _ _ _ h => h)
    refine Or.inl ⟨?_, ?_⟩
    focus (go_simp; done)
    focus (intro w hSw; obtain ⟨⟨_, ⟨x0, x1⟩, ⟨y0, y1⟩, _, _⟩, ⟨⟨p0, p1⟩, _⟩, ⟨q0, q1⟩, _⟩ := hSw; (first | (go_simp; done) | (go_simp; with_reducible rfl)))
    focus assumption
    (try simp only [Act.put, List.setIfInBounds_toArray, List.set_cons_zero, List.set_cons_succ])
    refine' wpAnyH_take (i := 7) (v := _) ?_ ?_ ?_ ?_ ?_ ?_ ?_ ?_
    rotate_left 2
    focus (simp only [List.getElem?_toArray, List.getElem?_cons_succ, List.getElem?_cons_zero]; rfl)
    focus kernel_rfl
    focus kernel_rfl
    focus kernel_rfl
    focus exact (fun _ _ _ h => h)
    refine Or.inl ⟨?_, ?_⟩
    focus (go_simp; done)
    focus (intro w hSw; obtain ⟨⟨_, ⟨x0, x1⟩, ⟨y0, y1⟩, _, _⟩, ⟨⟨p0, p1⟩, _⟩, ⟨q0, q1⟩, _⟩ := hSw; (first | (go_simp; done) | (go_simp; with_reducible rfl)))
    focus assumption
    (try simp only [Act.put, List.setIfInBounds_toArray, List.set_cons_zero, List.set_cons_succ])
    refine' wpAnyH_take (i := 9) (v := _) ?_ ?_ ?_ ?_ ?_ ?_ ?_ ?_
    rotate_left 2
    focus (simp only [List.getElem?_toArray, List.getElem?_cons_succ, List.getElem?_cons_zero]; rfl)
    focus kernel_rfl
    focus kernel_rfl
    focus kernel_rfl
    focus exact (fun _ _ _ h => h)
    refine Or.inl ⟨?_, ?_⟩
    focus (go_simp; done)
    focus (intro w hSw; obtain ⟨⟨_, ⟨x0, x1⟩, ⟨y0, y1⟩, _, _⟩, ⟨⟨p0, p1⟩, _⟩, ⟨q0, q1⟩, _⟩ := hSw; (first | (go_simp; done) | (go_simp; with_reducible rfl)))
    focus assumption
    (try simp only [Act.put, List.setIfInBounds_toArray, List.set_cons_zero, List.set_cons_succ])
    refine' wpAnyH_take (i := 10) (v := _) ?_ ?_ ?_ ?_ ?_ ?_ ?_ ?_
    rotate_left 2
    focus (simp only [List.getElem?_toArray, List.getElem?_cons_succ, List.getElem?_cons_zero]; rfl)
    focus kernel_rfl
    focus kernel_rfl
    focus kernel_rfl
    focus exact (fun _ _ _ h => h)
    refine Or.inl ⟨?_, ?_⟩
    focus (go_simp; done)
    focus (intro w hSw; obtain ⟨⟨_, ⟨x0, x1⟩, ⟨y0, y1⟩, _, _⟩, ⟨⟨p0, p1⟩, _⟩, ⟨q0, q1⟩, _⟩ := hSw; (first | (go_simp; done) | (go_simp; with_reducible rfl)))
    focus assumption
    (try simp only [Act.put, List.setIfInBounds_toArray, List.set_cons_zero, List.set_cons_succ])
    refine' wpAnyH_take (i := 11) (v := _) ?_ ?_ ?_ ?_ ?_ ?_ ?_ ?_
    rotate_left 2
    focus (simp only [List.getElem?_toArray, List.getElem?_cons_succ, List.getElem?_cons_zero]; rfl)
    focus kernel_rfl
    focus kernel_rfl
    focus kernel_rfl
    focus exact (fun _ _ _ h => h)
    refine Or.inl ⟨?_, ?_⟩
    focus (go_simp; done)
    focus (intro w hSw; obtain ⟨⟨_, ⟨x0, x1⟩, ⟨y0, y1⟩, _, _⟩, ⟨⟨p0, p1⟩, _⟩, ⟨q0, q1⟩, _⟩ := hSw; (first | (go_simp; done) | (go_simp; with_reducible rfl)))
    focus assumption
    (try simp only [Act.put, List.setIfInBounds_toArray, List.set_cons_zero, List.set_cons_succ])
    refine wpAnyH_ready (rs := [8]) (by kernel_rfl) (by simp) ?_
    refine' AllReadyH.cons ?_ (fun K hK => ?_) AllReadyH.nil
    rotate_left
    focus (simp only [List.getElem?_toArray, List.getElem?_cons_succ, List.getElem?_cons_zero]; rfl)
    go_simp
    (go_at_call 15; have hTu := HTb.out.below (hHeld.1.1); refine (cDo_any _ P.m P.r y.m y.r z1 HF.out.2.2.2.1 _ hTu).mono ?_; clear hTu; rintro e w4 ⟨rfl, hb⟩)
    refine hK.out _ _ (⟨hHeld.1.below hb, hHeld.2.1.below hb, hHeld.2.2.below hb⟩) (fun hHeld => ?_)
    clear hK K
    (try simp only [Act.put, List.setIfInBounds_toArray, List.set_cons_zero, List.set_cons_succ])
    clear hb
    refine wpAnyH_ready (rs := [12]) (by kernel_rfl) (by simp) ?_
    refine' AllReadyH.cons ?_ (fun K hK => ?_) AllReadyH.nil
    rotate_left
    focus (simp only [List.getElem?_toArray, List.getElem?_cons_succ, List.getElem?_cons_zero]; rfl)
    go_simp
    (go_at_call 15; have hTu := HTb.out.below (hHeld.1.1); refine (cDo_any _ x.m x.r y.m y.r z2 HF.out.2.2.2.2.1 _ hTu).mono ?_; clear hTu; rintro e w4 ⟨rfl, hb⟩)
    refine hK.out _ _ (⟨hHeld.1.below hb, hHeld.2.1.below hb, hHeld.2.2.below hb⟩) (fun hHeld => ?_)
    clear hK K
    (try simp only [Act.put, List.setIfInBounds_toArray, List.set_cons_zero, List.set_cons_succ])
    clear hb
    refine wpAnyH_ready (rs := [13]) (by kernel_rfl) (by simp) ?_
    refine' AllReadyH.cons ?_ (fun K hK => ?_) AllReadyH.nil
    rotate_left
    focus (simp only [List.getElem?_toArray, List.getElem?_cons_succ, List.getElem?_cons_zero]; rfl)
    go_simp
    (go_at_call 22; have hTu := HTb.out.below (hHeld.1.1); refine (cLeq_any z1.m z1.r z2.m z2.r true HF.out.2.2.2.2.2.1 _ hTu).mono ?_; clear hTu; rintro e w4 ⟨rfl, hb⟩)
    refine hK.out _ _ (⟨hHeld.1.below hb, hHeld.2.1.below hb, hHeld.2.2.below hb⟩) (fun hHeld => ?_)
    clear hK K
    (try simp only [Act.put, List.setIfInBounds_toArray, List.set_cons_zero, List.set_cons_succ])
    clear hb
    refine' wpAnyH_take (i := 14) (v := _) ?_ ?_ ?_ ?_ ?_ ?_ ?_ ?_
    rotate_left 2
    focus (simp only [List.getElem?_toArray, List.getElem?_cons_succ, List.getElem?_cons_zero]; rfl)
    focus kernel_rfl
    focus kernel_rfl
    focus kernel_rfl
    focus exact (fun _ _ _ h => h)
    refine Or.inl ⟨?_, ?_⟩
    focus (go_simp; done)
    focus (intro w hSw; obtain ⟨⟨_, ⟨x0, x1⟩, ⟨y0, y1⟩, _, _⟩, ⟨⟨p0, p1⟩, _⟩, ⟨q0, q1⟩, _⟩ := hSw; (first | (go_simp; done) | (go_simp; with_reducible rfl)))
    focus assumption
    (try simp only [Act.put, List.setIfInBounds_toArray, List.set_cons_zero, List.set_cons_succ])
    refine' wpAnyH_take (i := 15) (v := _) ?_ ?_ ?_ ?_ ?_ ?_ ?_ ?_
    rotate_left 2
    focus (simp only [List.getElem?_toArray, List.getElem?_cons_succ, List.getElem?_cons_zero]; rfl)
    focus kernel_rfl
    focus kernel_rfl
    focus kernel_rfl
    focus exact (fun _ _ _ h => h)
    refine Or.inl ⟨?_, ?_⟩
    focus (go_simp; done)
    focus (intro w hSw; obtain ⟨⟨_, ⟨x0, x1⟩, ⟨y0, y1⟩, _, _⟩, ⟨⟨p0, p1⟩, _⟩, ⟨q0, q1⟩, _⟩ := hSw; (first | (go_simp; done) | (go_simp; with_reducible rfl)))
    focus assumption
    (try simp only [Act.put, List.setIfInBounds_toArray, List.set_cons_zero, List.set_cons_succ])
    refine' wpAnyH_take (i := 16) (v := _) ?_ ?_ ?_ ?_ ?_ ?_ ?_ ?_
    rotate_left 2
    focus (simp only [List.getElem?_toArray, List.getElem?_cons_succ, List.getElem?_cons_zero]; rfl)
    focus kernel_rfl
    focus kernel_rfl
    focus kernel_rfl
    focus exact (fun _ _ _ h => h)
    refine Or.inl ⟨?_, ?_⟩
    focus (go_simp; done)
    focus (intro w hSw; obtain ⟨⟨_, ⟨x0, x1⟩, ⟨y0, y1⟩, _, _⟩, ⟨⟨p0, p1⟩, _⟩, ⟨q0, q1⟩, _⟩ := hSw; (first | (go_simp; done) | (go_simp; with_reducible rfl)))
    focus assumption
    (try simp only [Act.put, List.setIfInBounds_toArray, List.set_cons_zero, List.set_cons_succ])
    refine' wpAnyH_take (i := 17) (v := _) ?_ ?_ ?_ ?_ ?_ ?_ ?_ ?_
    rotate_left 2
    focus (simp only [List.getElem?_toArray, List.getElem?_cons_succ, List.getElem?_cons_zero]; rfl)
    focus kernel_rfl
    focus kernel_rfl
    focus kernel_rfl
    focus exact (fun _ _ _ h => h)
    refine Or.inl ⟨?_, ?_⟩
    focus (go_simp; done)
    focus (intro w hSw; obtain ⟨⟨_, ⟨x0, x1⟩, ⟨y0, y1⟩, _, _⟩, ⟨⟨p0, p1⟩, _⟩, ⟨q0, q1⟩, _⟩ := hSw; (first | (go_simp; done) | (go_simp; with_reducible rfl)))
    focus assumption
    (try simp only [Act.put, List.setIfInBounds_toArray, List.set_cons_zero, List.set_cons_succ])
    refine' wpAnyH_take (i := 18) (v := _) ?_ ?_ ?_ ?_ ?_ ?_ ?_ ?_
    rotate_left 2
    focus (simp only [List.getElem?_toArray, List.getElem?_cons_succ, List.getElem?_cons_zero]; rfl)
    focus kernel_rfl
    focus kernel_rfl
    focus kernel_rfl
    focus exact (fun _ _ _ h => h)
    refine Or.inl ⟨?_, ?_⟩
    focus (go_simp; done)
    focus (intro w hSw; obtain ⟨⟨_, ⟨x0, x1⟩, ⟨y0, y1⟩, _, _⟩, ⟨⟨p0, p1⟩, _⟩, ⟨q0, q1⟩, _⟩ := hSw; (first | (go_simp; done) | (go_simp; with_reducible rfl)))
    focus assumption
    (try simp only [Act.put, List.setIfInBounds_toArray, List.set_cons_zero, List.set_cons_succ])
    refine' wpAnyH_take (i := 19) (v := _) ?_ ?_ ?_ ?_ ?_ ?_ ?_ ?_
    rotate_left 2
    focus (simp only [List.getElem?_toArray, List.getElem?_cons_succ, List.getElem?_cons_zero]; rfl)
    focus kernel_rfl
    focus kernel_rfl
    focus kernel_rfl
    focus exact (fun _ _ _ h => h)
    refine Or.inl ⟨?_, ?_⟩
    focus (go_simp; done)
    focus (intro w hSw; obtain ⟨⟨_, ⟨x0, x1⟩, ⟨y0, y1⟩, _, _⟩, ⟨⟨p0, p1⟩, _⟩, ⟨q0, q1⟩, _⟩ := hSw; (first | (go_simp; done) | (go_simp; with_reducible rfl)))
    focus assumption
    (try simp only [Act.put, List.setIfInBounds_toArray, List.set_cons_zero, List.set_cons_succ])
    refine' wpAnyH_take (i := 21) (v := _) ?_ ?_ ?_ ?_ ?_ ?_ ?_ ?_
    rotate_left 2
    focus (simp only [List.getElem?_toArray, List.getElem?_cons_succ, List.getElem?_cons_zero]; rfl)
    focus kernel_rfl
    focus kernel_rfl
    focus kernel_rfl
    focus exact (fun _ _ _ h => h)
    refine Or.inl ⟨?_, ?_⟩
    focus (go_simp; done)
    focus (intro w hSw; obtain ⟨⟨_, ⟨x0, x1⟩, ⟨y0, y1⟩, _, _⟩, ⟨⟨p0, p1⟩, _⟩, ⟨q0, q1⟩, _⟩ := hSw; (first | (go_simp; done) | (go_simp; with_reducible rfl)))
    focus assumption
    (try simp only [Act.put, List.setIfInBounds_toArray, List.set_cons_zero, List.set_cons_succ])
    refine' wpAnyH_take (i := 22) (v := _) ?_ ?_ ?_ ?_ ?_ ?_ ?_ ?_
    rotate_left 2
    focus (simp only [List.getElem?_toArray, List.getElem?_cons_succ, List.getElem?_cons_zero]; rfl)
    focus kernel_rfl
    focus kernel_rfl
    focus kernel_rfl
    focus exact (fun _ _ _ h => h)
    refine Or.inl ⟨?_, ?_⟩
    focus (go_simp; done)
    focus (intro w hSw; obtain ⟨⟨_, ⟨x0, x1⟩, ⟨y0, y1⟩, _, _⟩, ⟨⟨p0, p1⟩, _⟩, ⟨q0, q1⟩, _⟩ := hSw; (first | (go_simp; done) | (go_simp; with_reducible rfl)))
    focus assumption
    (try simp only [Act.put, List.setIfInBounds_toArray, List.set_cons_zero, List.set_cons_succ])
    refine' wpAnyH_take (i := 23) (v := _) ?_ ?_ ?_ ?_ ?_ ?_ ?_ ?_
    rotate_left 2
    focus (simp only [List.getElem?_toArray, List.getElem?_cons_succ, List.getElem?_cons_zero]; rfl)
    focus kernel_rfl
    focus kernel_rfl
    focus kernel_rfl
    focus exact (fun _ _ _ h => h)
    refine Or.inl ⟨?_, ?_⟩
    focus (go_simp; done)
    focus (intro w hSw; obtain ⟨⟨_, ⟨x0, x1⟩, ⟨y0, y1⟩, _, _⟩, ⟨⟨p0, p1⟩, _⟩, ⟨q0, q1⟩, _⟩ := hSw; (first | (go_simp; done) | (go_simp; with_reducible rfl)))
    focus assumption
    (try simp only [Act.put, List.setIfInBounds_toArray, List.set_cons_zero, List.set_cons_succ])
    refine wpAnyH_ready (rs := [20]) (by kernel_rfl) (by simp) ?_
    refine' AllReadyH.cons ?_ (fun K hK => ?_) AllReadyH.nil
    rotate_left
    focus (simp only [List.getElem?_toArray, List.getElem?_cons_succ, List.getElem?_cons_zero]; rfl)
    go_simp
    (go_at_call 15; have hTu := HTb.out.below (hHeld.1.1); refine (cDo_any _ x.m x.r Q.m Q.r z3 HF.out.2.2.2.2.2.2.1 _ hTu).mono ?_; clear hTu; rintro e w4 ⟨rfl, hb⟩)
    refine hK.out _ _ (⟨hHeld.1.below hb, hHeld.2.1.below hb, hHeld.2.2.below hb⟩) (fun hHeld => ?_)
    clear hK K
    (try simp only [Act.put, List.setIfInBounds_toArray, List.set_cons_zero, List.set_cons_succ])
    clear hb
    refine wpAnyH_ready (rs := [24]) (by kernel_rfl) (by simp) ?_
    refine' AllReadyH.cons ?_ (fun K hK => ?_) AllReadyH.nil
    rotate_left
    focus (simp only [List.getElem?_toArray, List.getElem?_cons_succ, List.getElem?_cons_zero]; rfl)
    go_simp
    (go_at_call 15; have hTu := HTb.out.below (hHeld.1.1); refine (cDo_any _ x.m x.r y.m y.r z2 HF.out.2.2.2.2.1 _ hTu).mono ?_; clear hTu; rintro e w4 ⟨rfl, hb⟩)
    refine hK.out _ _ (⟨hHeld.1.below hb, hHeld.2.1.below hb, hHeld.2.2.below hb⟩) (fun hHeld => ?_)
    clear hK K
    (try simp only [Act.put, List.setIfInBounds_toArray, List.set_cons_zero, List.set_cons_succ])
    clear hb
    refine wpAnyH_ready (rs := [25]) (by kernel_rfl) (by simp) ?_
    refine' AllReadyH.cons ?_ (fun K hK => ?_) AllReadyH.nil
    rotate_left
    focus (simp only [List.getElem?_toArray, List.getElem?_cons_succ, List.getElem?_cons_zero]; rfl)
    go_simp
    (go_at_call 22; have hTu := HTb.out.below (hHeld.1.1); refine (cLeq_any z3.m z3.r z2.m z2.r true HF.out.2.2.2.2.2.2.2 _ hTu).mono ?_; clear hTu; rintro e w4 ⟨rfl, hb⟩)
    refine hK.out _ _ (⟨hHeld.1.below hb, hHeld.2.1.below hb, hHeld.2.2.below hb⟩) (fun hHeld => ?_)
    clear hK K
    (try simp only [Act.put, List.setIfInBounds_toArray, List.set_cons_zero, List.set_cons_succ])
    clear hb
    refine' wpAnyH_take (i := 26) (v := _) ?_ ?_ ?_ ?_ ?_ ?_ ?_ ?_
    rotate_left 2
    focus (simp only [List.getElem?_toArray, List.getElem?_cons_succ, List.getElem?_cons_zero]; rfl)
    focus kernel_rfl
    focus kernel_rfl
    focus kernel_rfl
    focus exact (fun _ _ _ h => h)
    refine Or.inl ⟨?_, ?_⟩
    focus (go_simp; done)
    focus (intro w hSw; obtain ⟨⟨_, ⟨x0, x1⟩, ⟨y0, y1⟩, _, _⟩, ⟨⟨p0, p1⟩, _⟩, ⟨q0, q1⟩, _⟩ := hSw; (first | (go_simp; done) | (go_simp; with_reducible rfl)))
    focus assumption
    (try simp only [Act.put, List.setIfInBounds_toArray, List.set_cons_zero, List.set_cons_succ])
    refine' wpAnyH_take (i := 27) (v := _) ?_ ?_ ?_ ?_ ?_ ?_ ?_ ?_
    rotate_left 2
    focus (simp only [List.getElem?_toArray, List.getElem?_cons_succ, List.getElem?_cons_zero]; rfl)
    focus kernel_rfl
    focus kernel_rfl
    focus kernel_rfl
    focus exact (fun _ _ _ h => h)
    refine Or.inl ⟨?_, ?_⟩
    focus (go_simp; done)
    focus (intro w hSw; obtain ⟨⟨_, ⟨x0, x1⟩, ⟨y0, y1⟩, _, _⟩, ⟨⟨p0, p1⟩, _⟩, ⟨q0, q1⟩, _⟩ := hSw; (first | (go_simp; done) | (go_simp; with_reducible rfl)))
    focus assumption
    (try simp only [Act.put, List.setIfInBounds_toArray, List.set_cons_zero, List.set_cons_succ])
    refine wpAnyH_done (by kernel_rfl) ?_ _
    clear hT hv x0 x1 y0 y1 hg1 hg2 hP hQ
    obtain ⟨hT, hP, hQ⟩ := hHeld
    obtain ⟨hv, ⟨x0, x1⟩, ⟨y0, y1⟩, hg1, hg2⟩ := id hT
    clear hP hQ
    go_wp2_with fail
    refine (cOf_any _ Z HK9.out.1 _).mono ?_
    rintro e w5 ⟨rfl, hb⟩
    clear hv x0 x1 y0 y1 hg1 hg2
    replace hT := hT.below hb
    clear hb
    obtain ⟨hv, ⟨x0, x1⟩, ⟨y0, y1⟩, hg1, hg2⟩ := id hT
    go_wp2_with fail
    have hZ := pr_new Z.m Z.r w5 23
    have hb := (Below.refl w5.heap.size w5).alloc (Nat.le_refl _) (.cells #[.int .i64 Z.m, .int .i64 Z.r] 23)
    clear hv x0 x1 y0 y1 hg1 hg2
    replace hT := hT.below hb
    clear hb
    generalize w5.alloc (.cells #[.int .i64 Z.m, .int .i64 Z.r] 23) = w6 at *
    generalize w5.heap.size = g5 at *
    obtain ⟨hv, ⟨x0, x1⟩, ⟨y0, y1⟩, hg1, hg2⟩ := id hT
    have he9 := rs_eql x.m x.r x.m x.r true (by simp)
    refine wp_region_held_drew (S := (fun w' => Two w x y g1 g2 w' ∧ Pr Z.m Z.r g5 w')) (by kernel_rfl) (⟨hT.drew, hZ.drew⟩) (fun hHeld => ?_)
    refine' wpAnyH_take (i := 0) (v := _) ?_ ?_ ?_ ?_ ?_ ?_ ?_ ?_
    rotate_left 2
    focus (simp only [List.getElem?_toArray, List.getElem?_cons_succ, List.getElem?_cons_zero]; rfl)
    focus kernel_rfl
    focus kernel_rfl
    focus kernel_rfl
    focus exact (fun _ _ _ h => h)
    refine Or.inl ⟨?_, ?_⟩
    focus (go_simp; done)
    focus (intro w hSw; obtain ⟨⟨_, ⟨x0, x1⟩, ⟨y0, y1⟩, _, _⟩, ⟨z0, z1⟩, _⟩ := hSw; (first | (go_simp; done) | (go_simp; with_reducible rfl)))
    focus assumption
    (try simp only [Act.put, List.setIfInBounds_toArray, List.set_cons_zero, List.set_cons_succ])
    refine' wpAnyH_take (i := 1) (v := _) ?_ ?_ ?_ ?_ ?_ ?_ ?_ ?_
    rotate_left 2
    focus (simp only [List.getElem?_toArray, List.getElem?_cons_succ, List.getElem?_cons_zero]; rfl)
    focus kernel_rfl
    focus kernel_rfl
    focus kernel_rfl
    focus exact (fun _ _ _ h => h)
    refine Or.inl ⟨?_, ?_⟩
    focus (go_simp; done)
    focus (intro w hSw; obtain ⟨⟨_, ⟨x0, x1⟩, ⟨y0, y1⟩, _, _⟩, ⟨z0, z1⟩, _⟩ := hSw; (first | (go_simp; done) | (go_simp; with_reducible rfl)))
    focus assumption
    (try simp only [Act.put, List.setIfInBounds_toArray, List.set_cons_zero, List.set_cons_succ])
    refine' wpAnyH_take (i := 3) (v := _) ?_ ?_ ?_ ?_ ?_ ?_ ?_ ?_
    rotate_left 2
    focus (simp only [List.getElem?_toArray, List.getElem?_cons_succ, List.getElem?_cons_zero]; rfl)
    focus kernel_rfl
    focus kernel_rfl
    focus kernel_rfl
    focus exact (fun _ _ _ h => h)
    refine Or.inl ⟨?_, ?_⟩
    focus (go_simp; done)
    focus (intro w hSw; obtain ⟨⟨_, ⟨x0, x1⟩, ⟨y0, y1⟩, _, _⟩, ⟨z0, z1⟩, _⟩ := hSw; (first | (go_simp; done) | (go_simp; with_reducible rfl)))
    focus assumption
    (try simp only [Act.put, List.setIfInBounds_toArray, List.set_cons_zero, List.set_cons_succ])
    refine' wpAnyH_take (i := 5) (v := _) ?_ ?_ ?_ ?_ ?_ ?_ ?_ ?_
    rotate_left 2
    focus (simp only [List.getElem?_toArray, List.getElem?_cons_succ, List.getElem?_cons_zero]; rfl)
    focus kernel_rfl
    focus kernel_rfl
    focus kernel_rfl
    focus exact (fun _ _ _ h => h)
    refine Or.inl ⟨?_, ?_⟩
    focus (go_simp; done)
    focus (intro w hSw; obtain ⟨⟨_, ⟨x0, x1⟩, ⟨y0, y1⟩, _, _⟩, ⟨z0, z1⟩, _⟩ := hSw; (first | (go_simp; done) | (go_simp; with_reducible rfl)))
    focus assumption
    (try simp only [Act.put, List.setIfInBounds_toArray, List.set_cons_zero, List.set_cons_succ])
    refine wpAnyH_ready (rs := [2]) (by kernel_rfl) (by simp) ?_
    refine' AllReadyH.cons ?_ (fun K hK => ?_) AllReadyH.nil
    rotate_left
    focus (simp only [List.getElem?_toArray, List.getElem?_cons_succ, List.getElem?_cons_zero]; rfl)
    go_simp
    (go_at_call 15; have hTu := HTb.out.below (hHeld.1.1); refine (cDo_any 1 x.m x.r Z.m Z.r z4 HK9.out.2.1 _ hTu).mono ?_; clear hTu; rintro e w4 ⟨rfl, hb⟩)
    refine hK.out _ _ (⟨hHeld.1.below hb, hHeld.2.below hb⟩) (fun hHeld => ?_)
    clear hK K
    (try simp only [Act.put, List.setIfInBounds_toArray, List.set_cons_zero, List.set_cons_succ])
    clear hb
    refine wpAnyH_ready (rs := [4]) (by kernel_rfl) (by simp) ?_
    refine' AllReadyH.cons ?_ (fun K hK => ?_) AllReadyH.nil
    rotate_left
    focus (simp only [List.getElem?_toArray, List.getElem?_cons_succ, List.getElem?_cons_zero]; rfl)
    go_simp
    (go_at_call 15; have hTu := HTb.out.below (hHeld.1.1); refine (cDo_any 2 z4.m z4.r Z.m Z.r x HK9.out.2.2 _ hTu).mono ?_; clear hTu; rintro e w4 ⟨rfl, hb⟩)
    refine hK.out _ _ (⟨hHeld.1.below hb, hHeld.2.below hb⟩) (fun hHeld => ?_)
    clear hK K
    (try simp only [Act.put, List.setIfInBounds_toArray, List.set_cons_zero, List.set_cons_succ])
    clear hb
    refine' wpAnyH_take (i := 6) (v := _) ?_ ?_ ?_ ?_ ?_ ?_ ?_ ?_
    rotate_left 2
    focus (simp only [List.getElem?_toArray, List.getElem?_cons_succ, List.getElem?_cons_zero]; rfl)
    focus kernel_rfl
    focus kernel_rfl
    focus kernel_rfl
    focus exact (fun _ _ _ h => h)
    refine Or.inl ⟨?_, ?_⟩
    focus (go_simp; done)
    focus (intro w hSw; obtain ⟨⟨_, ⟨x0, x1⟩, ⟨y0, y1⟩, _, _⟩, ⟨z0, z1⟩, _⟩ := hSw; (first | (go_simp; done) | (go_simp; with_reducible rfl)))
    focus assumption
    (try simp only [Act.put, List.setIfInBounds_toArray, List.set_cons_zero, List.set_cons_succ])
    refine' wpAnyH_take (i := 7) (v := _) ?_ ?_ ?_ ?_ ?_ ?_ ?_ ?_
    rotate_left 2
    focus (simp only [List.getElem?_toArray, List.getElem?_cons_succ, List.getElem?_cons_zero]; rfl)
    focus kernel_rfl
    focus kernel_rfl
    focus kernel_rfl
    focus exact (fun _ _ _ h => h)
    refine Or.inl ⟨?_, ?_⟩
    focus (go_simp; done)
    focus (intro w hSw; obtain ⟨⟨_, ⟨x0, x1⟩, ⟨y0, y1⟩, _, _⟩, ⟨z0, z1⟩, _⟩ := hSw; (first | (go_simp; done) | (go_simp; with_reducible rfl)))
    focus assumption
    (try simp only [Act.put, List.setIfInBounds_toArray, List.set_cons_zero, List.set_cons_succ])
    refine wpAnyH_ready (rs := [8]) (by kernel_rfl) (by simp) ?_
    refine' AllReadyH.cons ?_ (fun K hK => ?_) AllReadyH.nil
    rotate_left
    focus (simp only [List.getElem?_toArray, List.getElem?_cons_succ, List.getElem?_cons_zero]; rfl)
    go_simp
    (go_at_call 13; have hTu := HTb.out.below (hHeld.1.1); refine (awake_any _ hTu).mono ?_; clear hTu; rintro e w4 ⟨rfl, hb⟩)
    refine hK.out _ _ (⟨hHeld.1.below hb, hHeld.2.below hb⟩) (fun hHeld => ?_)
    clear hK K
    (try simp only [Act.put, List.setIfInBounds_toArray, List.set_cons_zero, List.set_cons_succ])
    clear hb
    refine' wpAnyH_take (i := 9) (v := _) ?_ ?_ ?_ ?_ ?_ ?_ ?_ ?_
    rotate_left 2
    focus (simp only [List.getElem?_toArray, List.getElem?_cons_succ, List.getElem?_cons_zero]; rfl)
    focus kernel_rfl
    focus kernel_rfl
    focus kernel_rfl
    focus exact (fun _ _ _ h => h)
    refine Or.inl ⟨?_, ?_⟩
    focus (go_simp; done)
    focus (intro w hSw; obtain ⟨⟨_, ⟨x0, x1⟩, ⟨y0, y1⟩, _, _⟩, ⟨z0, z1⟩, _⟩ := hSw; (first | (go_simp; done) | (go_simp; with_reducible rfl)))
    focus assumption
    (try simp only [Act.put, List.setIfInBounds_toArray, List.set_cons_zero, List.set_cons_succ])
    refine' wpAnyH_take (i := 10) (v := _) ?_ ?_ ?_ ?_ ?_ ?_ ?_ ?_
    rotate_left 2
    focus (simp only [List.getElem?_toArray, List.getElem?_cons_succ, List.getElem?_cons_zero]; rfl)
    focus kernel_rfl
    focus kernel_rfl
    focus kernel_rfl
    focus exact (fun _ _ _ h => h)
    refine Or.inl ⟨?_, ?_⟩
    focus (go_simp; done)
    focus (intro w hSw; obtain ⟨⟨_, ⟨x0, x1⟩, ⟨y0, y1⟩, _, _⟩, ⟨z0, z1⟩, _⟩ := hSw; (first | (go_simp; done) | (go_simp; with_reducible rfl)))
    focus assumption
    (try simp only [Act.put, List.setIfInBounds_toArray, List.set_cons_zero, List.set_cons_succ])
    refine wpAnyH_done (by kernel_rfl) ?_ _
    go_wp2
    go_ret
    exact ⟨rfl, hHeld.1.1⟩
end Go.Proofs.YtmdakglbommopaaDoor
