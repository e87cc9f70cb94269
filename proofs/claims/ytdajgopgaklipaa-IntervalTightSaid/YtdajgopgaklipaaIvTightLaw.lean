/- The walk of the law IntervalTight: it answers true. No condition. -/
import Derived.Test.YtdajgopgaklipaaIvPair
import Derived.Test.YtdajgopgaklipaaIvTight
import Derived.Test.YtdajgopgaklipaaStFresh
import Derived.Deep.RegionWith
namespace Go.Proofs.Ytdajgopgaklipaa
open Go.RowKit
set_option linter.unusedVariables false
set_option linter.unusedSimpArgs false
attribute [local go_sem] y_undef
theorem Two.below {w a b : World} {x y : Iv} {g1 g2 : Nat} (h : Two w x y g1 g2 a) (hb : Below a.heap.size a b) : Two w x y g1 g2 b :=
  ⟨h.1.trans (hb.mono h.1.size), ⟨(hb.cell (p := ⟨g1, 0, none⟩) h.2.2.2.1).trans h.2.1.1, (hb.cell (p := ⟨g1, 1, none⟩) h.2.2.2.1).trans h.2.1.2⟩, ⟨(hb.cell (p := ⟨g2, 0, none⟩) h.2.2.2.2).trans h.2.2.1.1, (hb.cell (p := ⟨g2, 1, none⟩) h.2.2.2.2).trans h.2.2.1.2⟩, Nat.lt_of_lt_of_le h.2.2.2.1 hb.size, Nat.lt_of_lt_of_le h.2.2.2.2 hb.size⟩
theorem Two.drew {w a : World} {x y : Iv} {g1 g2 : Nat} (h : Two w x y g1 g2 a) : Two w x y g1 g2 a.drew := h.below (below_drewN _ a 1)
theorem run_max2 (a b : Int) (ts : Array TypeId) (t : TypeId) (w : World) : (Builtin.max_ ts t #[.int .i64 a, .int .i64 b]).run Try.prog w = .ok (.int .i64 (max a b)) w := by
  simp [Builtin.max_, Builtin.max2]
  simp only [Int.max_def]
  repeat' split
  all_goals first | rfl | omega
/-- What a test of two ends asks: not in the range, or one end is no word, or both are words and the result's ends are these. -/
theorem three (p q : Bool) : p = false ∨ (p = true ∧ q = false) ∨ (p = true ∧ q = true) := by cases p <;> cases q <;> simp
set_option maxRecDepth 100000 in
set_option maxHeartbeats 32000000 in
theorem tight_law (o a b c d h0 h1 m n : Int) (ho : 0 ≤ o ∧ o ≤ 255) (ha : -2147483648 ≤ a ∧ a ≤ 2147483647) (hb : -2147483648 ≤ b ∧ b ≤ 2147483647) (hc : -2147483648 ≤ c ∧ c ≤ 2147483647) (hd : -2147483648 ≤ d ∧ d ≤ 2147483647)
    (hh0 : 0 ≤ h0 ∧ h0 ≤ 255) (hh1 : 0 ≤ h1 ∧ h1 ≤ 255) (hm : 0 ≤ m ∧ m ≤ 4294967295) (hn : 0 ≤ n ∧ n ≤ 4294967295) (w : World) :
    Calls Try.prog 8 #[.int .u8 o, .int .i32 a, .int .i32 b, .int .i32 c, .int .i32 d, .agg #[.int .u8 h0, .int .u8 h1], .int .u32 m, .int .u32 n] w fun e w' => e = .returned (.bool true) ∧ Below w.heap.size w w' := by
  have hA := (Ahead.refl w).alloc (.cells #[.int .u8 h0, .int .u8 h1] 27)
  have HX := Lib.hid (of_any a b h0 ha hb hh0)
  have HY := Lib.hid (of_any c d h1 hc hd hh1)
  have HM := Lib.hid hm
  have HN := Lib.hid hn
  obtain ⟨o1, o2⟩ := ho
  clear ha hb hc hd hh0 hh1 hm hn
  have hg := iv_guard
  have hmax := run_max2
  go_enter Try.func8, Try.ntmps8
  go_wp2_with fail
  obtain ⟨u0, hu0⟩ : ∃ u0, (w.alloc (.cells #[.int .u8 h0, .int .u8 h1] 27)).drew = u0 := ⟨_, rfl⟩
  have HU0 := Lib.hid hu0
  have hAD := hA.drew
  rw [hu0] at hAD
  have hAr : Arr w h0 h1 u0 := ⟨by rw [← hu0]; exact ⟨by simp, by simp⟩, hAD⟩
  clear hu0
  have hBase : ∀ u, Bel u0 u → Arr w h0 h1 u := fun u h => hAr.below h
  rename_i K1 hK1
  have HK1 := Lib.hid hK1
  clear hK1
  have hI := fr3_refl u0
  refine wp_region_held_drew (S := (fun w' => Arr w h0 h1 w')) (by kernel_rfl) (by rw [HU0.out]; exact hBase _ hI.bel) (fun hHeld => ?_)
  rw [HU0.out] at hHeld ⊢
  refine' wpAnyH_take (i := 0) (v := _) ?_ ?_ ?_ ?_ ?_ ?_ ?_ ?_
  rotate_left 2
  focus (simp only [List.getElem?_toArray, List.getElem?_cons_succ, List.getElem?_cons_zero]; rfl)
  focus kernel_rfl
  focus kernel_rfl
  focus kernel_rfl
  focus exact (fun _ _ _ h => h)
  refine Or.inl ⟨?_, ?_⟩
  focus (go_simp; done)
  focus (intro w hSw; obtain ⟨⟨a0, a1⟩, _⟩ := hSw; (first | (go_simp; done) | (go_simp; with_reducible rfl)))
  focus assumption
  (try simp only [Act.put, List.setIfInBounds_toArray, List.set_cons_zero, List.set_cons_succ])
  refine' wpAnyH_take (i := 1) (v := _) ?_ ?_ ?_ ?_ ?_ ?_ ?_ ?_
  rotate_left 2
  focus (simp only [List.getElem?_toArray, List.getElem?_cons_succ, List.getElem?_cons_zero]; rfl)
  focus kernel_rfl
  focus kernel_rfl
  focus kernel_rfl
  focus exact (fun _ _ _ h => h)
  refine Or.inl ⟨?_, ?_⟩
  focus (go_simp; done)
  focus (intro w hSw; obtain ⟨⟨a0, a1⟩, _⟩ := hSw; (first | (go_simp; done) | (go_simp; with_reducible rfl)))
  focus assumption
  (try simp only [Act.put, List.setIfInBounds_toArray, List.set_cons_zero, List.set_cons_succ])
  refine' wpAnyH_take (i := 2) (v := _) ?_ ?_ ?_ ?_ ?_ ?_ ?_ ?_
  rotate_left 2
  focus (simp only [List.getElem?_toArray, List.getElem?_cons_succ, List.getElem?_cons_zero]; rfl)
  focus kernel_rfl
  focus kernel_rfl
  focus kernel_rfl
  focus exact (fun _ _ _ h => h)
  refine Or.inl ⟨?_, ?_⟩
  focus (go_simp; done)
  focus (intro w hSw; obtain ⟨⟨a0, a1⟩, _⟩ := hSw; (first | (go_simp; done) | (go_simp; with_reducible rfl)))
  focus assumption
  (try simp only [Act.put, List.setIfInBounds_toArray, List.set_cons_zero, List.set_cons_succ])
  refine' wpAnyH_take (i := 3) (v := _) ?_ ?_ ?_ ?_ ?_ ?_ ?_ ?_
  rotate_left 2
  focus (simp only [List.getElem?_toArray, List.getElem?_cons_succ, List.getElem?_cons_zero]; rfl)
  focus kernel_rfl
  focus kernel_rfl
  focus kernel_rfl
  focus exact (fun _ _ _ h => h)
  refine Or.inl ⟨?_, ?_⟩
  focus (go_simp; done)
  focus (intro w hSw; obtain ⟨⟨a0, a1⟩, _⟩ := hSw; (first | (go_simp; done) | (go_simp; with_reducible rfl)))
  focus assumption
  (try simp only [Act.put, List.setIfInBounds_toArray, List.set_cons_zero, List.set_cons_succ])
  refine' wpAnyH_take (i := 5) (v := _) ?_ ?_ ?_ ?_ ?_ ?_ ?_ ?_
  rotate_left 2
  focus (simp only [List.getElem?_toArray, List.getElem?_cons_succ, List.getElem?_cons_zero]; rfl)
  focus kernel_rfl
  focus kernel_rfl
  focus kernel_rfl
  focus exact (fun _ _ _ h => h)
  refine Or.inl ⟨?_, ?_⟩
  focus (go_simp; done)
  focus (intro w hSw; obtain ⟨⟨a0, a1⟩, _⟩ := hSw; (first | (go_simp; done) | (go_simp; with_reducible rfl)))
  focus assumption
  (try simp only [Act.put, List.setIfInBounds_toArray, List.set_cons_zero, List.set_cons_succ])
  refine' wpAnyH_take (i := 6) (v := _) ?_ ?_ ?_ ?_ ?_ ?_ ?_ ?_
  rotate_left 2
  focus (simp only [List.getElem?_toArray, List.getElem?_cons_succ, List.getElem?_cons_zero]; rfl)
  focus kernel_rfl
  focus kernel_rfl
  focus kernel_rfl
  focus exact (fun _ _ _ h => h)
  refine Or.inl ⟨?_, ?_⟩
  focus (go_simp; done)
  focus (intro w hSw; obtain ⟨⟨a0, a1⟩, _⟩ := hSw; (first | (go_simp; done) | (go_simp; with_reducible rfl)))
  focus assumption
  (try simp only [Act.put, List.setIfInBounds_toArray, List.set_cons_zero, List.set_cons_succ])
  refine' wpAnyH_take (i := 7) (v := _) ?_ ?_ ?_ ?_ ?_ ?_ ?_ ?_
  rotate_left 2
  focus (simp only [List.getElem?_toArray, List.getElem?_cons_succ, List.getElem?_cons_zero]; rfl)
  focus kernel_rfl
  focus kernel_rfl
  focus kernel_rfl
  focus exact (fun _ _ _ h => h)
  refine Or.inl ⟨?_, ?_⟩
  focus (go_simp; done)
  focus (intro w hSw; obtain ⟨⟨a0, a1⟩, _⟩ := hSw; (first | (go_simp; done) | (go_simp; with_reducible rfl)))
  focus assumption
  (try simp only [Act.put, List.setIfInBounds_toArray, List.set_cons_zero, List.set_cons_succ])
  refine' wpAnyH_take (i := 8) (v := _) ?_ ?_ ?_ ?_ ?_ ?_ ?_ ?_
  rotate_left 2
  focus (simp only [List.getElem?_toArray, List.getElem?_cons_succ, List.getElem?_cons_zero]; rfl)
  focus kernel_rfl
  focus kernel_rfl
  focus kernel_rfl
  focus exact (fun _ _ _ h => h)
  refine Or.inl ⟨?_, ?_⟩
  focus (go_simp; done)
  focus (intro w hSw; obtain ⟨⟨a0, a1⟩, _⟩ := hSw; (first | (go_simp; done) | (go_simp; with_reducible rfl)))
  focus assumption
  (try simp only [Act.put, List.setIfInBounds_toArray, List.set_cons_zero, List.set_cons_succ])
  refine' mh4 (Pre := fun (x : Iv) (y : Iv) (g1 : Nat) (g2 : Nat) (w' : World) => Iv.Ok x ∧ Iv.Ok y ∧ Fr3 u0 (some g1) (some g2) none w') _ #[true, true, true, true, true, true, true, true, true, true, true, true, false, false] _ (fun HK1_201 => ?ha1_201) (fun x y g1 g2 w' hpre => ?hb1_201)
  case' ha1_201 => skip
  refine' mh3 (Pre := fun (x : Iv) (y : Iv) (g2 : Nat) (w' : World) => Iv.Ok x ∧ Iv.Ok y ∧ Fr3 u0 none (some g2) none w') _ #[true, true, true, true, true, true, true, true, true, true, false, true, false, false] _ (fun HK1_21 => ?ha1_21) (fun x y g2 w' hpre => ?hb1_21)
  case' ha1_21 => skip
  refine' mh3 (Pre := fun (x : Iv) (y : Iv) (g1 : Nat) (w' : World) => Iv.Ok x ∧ Iv.Ok y ∧ Fr3 u0 (some g1) none none w') _ #[true, true, true, true, true, true, true, true, true, true, true, false, false, false] _ (fun HK1_20 => ?ha1_20) (fun x y g1 w' hpre => ?hb1_20)
  case' ha1_20 => skip
  refine' mh3 (Pre := fun (x : Iv) (g1 : Nat) (g2 : Nat) (w' : World) => Iv.Ok x ∧ Fr3 u0 (some g1) (some g2) none w') _ #[true, true, true, true, true, true, true, true, true, false, true, true, false, false] _ (fun HK1_101 => ?ha1_101) (fun x g1 g2 w' hpre => ?hb1_101)
  case' ha1_101 => skip
  refine' mh2 (Pre := fun (x : Iv) (y : Iv) (w' : World) => Iv.Ok x ∧ Iv.Ok y ∧ Fr3 u0 none none none w') _ #[true, true, true, true, true, true, true, true, true, true, false, false, false, false] _ (fun HK1_2 => ?ha1_2) (fun x y w' hpre => ?hb1_2)
  case' ha1_2 => skip
  refine' mh2 (Pre := fun (x : Iv) (g2 : Nat) (w' : World) => Iv.Ok x ∧ Fr3 u0 none (some g2) none w') _ #[true, true, true, true, true, true, true, true, true, false, false, true, false, false] _ (fun HK1_11 => ?ha1_11) (fun x g2 w' hpre => ?hb1_11)
  case' ha1_11 => skip
  refine' mh2 (Pre := fun (x : Iv) (g1 : Nat) (w' : World) => Iv.Ok x ∧ Fr3 u0 (some g1) none none w') _ #[true, true, true, true, true, true, true, true, true, false, true, false, false, false] _ (fun HK1_10 => ?ha1_10) (fun x g1 w' hpre => ?hb1_10)
  case' ha1_10 => skip
  refine' mh2 (Pre := fun (g1 : Nat) (g2 : Nat) (w' : World) => Fr3 u0 (some g1) (some g2) none w') _ #[true, true, true, true, false, true, true, true, true, false, true, true, false, false] _ (fun HK1_001 => ?ha1_001) (fun g1 g2 w' hpre => ?hb1_001)
  case' ha1_001 => skip
  refine' mh1 (Pre := fun (x : Iv) (w' : World) => Iv.Ok x ∧ Fr3 u0 none none none w') _ #[true, true, true, true, true, true, true, true, true, false, false, false, false, false] _ (fun HK1_1 => ?ha1_1) (fun x w' hpre => ?hb1_1)
  case' ha1_1 => skip
  refine' mh1 (Pre := fun (g2 : Nat) (w' : World) => Fr3 u0 none (some g2) none w') _ #[true, true, true, true, false, true, true, true, true, false, false, true, false, false] _ (fun HK1_01 => ?ha1_01) (fun g2 w' hpre => ?hb1_01)
  case' ha1_01 => skip
  refine' mh1 (Pre := fun (g1 : Nat) (w' : World) => Fr3 u0 (some g1) none none w') _ #[true, true, true, true, false, true, true, true, true, false, true, false, false, false] _ (fun HK1_00 => ?ha1_00) (fun g1 w' hpre => ?hb1_00)
  case ha1_00 =>
    refine wpAnyH_ready (rs := [4, 10, 11]) (by kernel_rfl) (by simp) ?_
    refine' AllReadyH.cons ?_ (fun K hK => ?_) ?_
    rotate_left
    focus (simp only [List.getElem?_toArray, List.getElem?_cons_succ, List.getElem?_cons_zero]; rfl)
    focus
      go_simp
      (go_at_call 15; refine Calls.mono (HX.out _) ?_; rintro e v ⟨x, hx, rfl, hb⟩)
      replace hI := hI.below hb
      refine hK.out _ _ (hBase _ hI.bel) (fun hHeld => ?_)
      clear hK K hb
      (try simp only [Act.put, List.setIfInBounds_toArray, List.set_cons_zero, List.set_cons_succ])
      refine wpAnyH_listed (listed' := #[true, true, true, true, true, true, true, true, true, false, false, false, false, false]) (by kernel_rfl) ?_
      exact HK1_1 x v ⟨hx, hI⟩
    refine' AllReadyH.cons ?_ (fun K hK => ?_) ?_
    rotate_left
    focus (simp only [List.getElem?_toArray, List.getElem?_cons_succ, List.getElem?_cons_zero]; rfl)
    focus
      go_simp
      replace hI := hI.make1 (t := 23)
      refine hK.out _ _ (hBase _ hI.bel) (fun hHeld => ?_)
      clear hK K
      (try simp only [Act.put, List.setIfInBounds_toArray, List.set_cons_zero, List.set_cons_succ])
      generalize u0.alloc (.cells #[.int .i64 0, .int .i64 0] 23) = v at *
      generalize u0.heap.size = g1 at *
      refine wpAnyH_listed (listed' := #[true, true, true, true, false, true, true, true, true, false, true, false, false, false]) (by kernel_rfl) ?_
      exact HK1_00 g1 v hI
    refine' AllReadyH.cons ?_ (fun K hK => ?_) ?_
    rotate_left
    focus (simp only [List.getElem?_toArray, List.getElem?_cons_succ, List.getElem?_cons_zero]; rfl)
    focus
      go_simp
      replace hI := hI.make2 (t := 23)
      refine hK.out _ _ (hBase _ hI.bel) (fun hHeld => ?_)
      clear hK K
      (try simp only [Act.put, List.setIfInBounds_toArray, List.set_cons_zero, List.set_cons_succ])
      generalize u0.alloc (.cells #[.int .i64 0, .int .i64 0] 23) = v at *
      generalize u0.heap.size = g2 at *
      refine wpAnyH_listed (listed' := #[true, true, true, true, false, true, true, true, true, false, false, true, false, false]) (by kernel_rfl) ?_
      exact HK1_01 g2 v hI
    exact AllReadyH.nil
  case hb1_00 =>
    have hI := hpre
    refine wpAnyH_ready (rs := [4, 11]) (by kernel_rfl) (by simp) ?_
    refine' AllReadyH.cons ?_ (fun K hK => ?_) ?_
    rotate_left
    focus (simp only [List.getElem?_toArray, List.getElem?_cons_succ, List.getElem?_cons_zero]; rfl)
    focus
      go_simp
      (go_at_call 15; refine Calls.mono (HX.out _) ?_; rintro e v ⟨x, hx, rfl, hb⟩)
      replace hI := hI.below hb
      refine hK.out _ _ (hBase _ hI.bel) (fun hHeld => ?_)
      clear hK K hb
      (try simp only [Act.put, List.setIfInBounds_toArray, List.set_cons_zero, List.set_cons_succ])
      refine wpAnyH_listed (listed' := #[true, true, true, true, true, true, true, true, true, false, true, false, false, false]) (by kernel_rfl) ?_
      exact HK1_10 x g1 v ⟨hx, hI⟩
    refine' AllReadyH.cons ?_ (fun K hK => ?_) ?_
    rotate_left
    focus (simp only [List.getElem?_toArray, List.getElem?_cons_succ, List.getElem?_cons_zero]; rfl)
    focus
      go_simp
      replace hI := hI.make2 (t := 23)
      refine hK.out _ _ (hBase _ hI.bel) (fun hHeld => ?_)
      clear hK K
      (try simp only [Act.put, List.setIfInBounds_toArray, List.set_cons_zero, List.set_cons_succ])
      generalize w'.alloc (.cells #[.int .i64 0, .int .i64 0] 23) = v at *
      generalize w'.heap.size = g2 at *
      refine wpAnyH_listed (listed' := #[true, true, true, true, false, true, true, true, true, false, true, true, false, false]) (by kernel_rfl) ?_
      exact HK1_001 g1 g2 v hI
    exact AllReadyH.nil
  case hb1_01 =>
    have hI := hpre
    refine wpAnyH_ready (rs := [4, 10]) (by kernel_rfl) (by simp) ?_
    refine' AllReadyH.cons ?_ (fun K hK => ?_) ?_
    rotate_left
    focus (simp only [List.getElem?_toArray, List.getElem?_cons_succ, List.getElem?_cons_zero]; rfl)
    focus
      go_simp
      (go_at_call 15; refine Calls.mono (HX.out _) ?_; rintro e v ⟨x, hx, rfl, hb⟩)
      replace hI := hI.below hb
      refine hK.out _ _ (hBase _ hI.bel) (fun hHeld => ?_)
      clear hK K hb
      (try simp only [Act.put, List.setIfInBounds_toArray, List.set_cons_zero, List.set_cons_succ])
      refine wpAnyH_listed (listed' := #[true, true, true, true, true, true, true, true, true, false, false, true, false, false]) (by kernel_rfl) ?_
      exact HK1_11 x g2 v ⟨hx, hI⟩
    refine' AllReadyH.cons ?_ (fun K hK => ?_) ?_
    rotate_left
    focus (simp only [List.getElem?_toArray, List.getElem?_cons_succ, List.getElem?_cons_zero]; rfl)
    focus
      go_simp
      replace hI := hI.make1 (t := 23)
      refine hK.out _ _ (hBase _ hI.bel) (fun hHeld => ?_)
      clear hK K
      (try simp only [Act.put, List.setIfInBounds_toArray, List.set_cons_zero, List.set_cons_succ])
      generalize w'.alloc (.cells #[.int .i64 0, .int .i64 0] 23) = v at *
      generalize w'.heap.size = g1 at *
      refine wpAnyH_listed (listed' := #[true, true, true, true, false, true, true, true, true, false, true, true, false, false]) (by kernel_rfl) ?_
      exact HK1_001 g1 g2 v hI
    exact AllReadyH.nil
  case hb1_1 =>
    obtain ⟨hx, hI⟩ := hpre
    refine wpAnyH_ready (rs := [9, 10, 11]) (by kernel_rfl) (by simp) ?_
    refine' AllReadyH.cons ?_ (fun K hK => ?_) ?_
    rotate_left
    focus (simp only [List.getElem?_toArray, List.getElem?_cons_succ, List.getElem?_cons_zero]; rfl)
    focus
      go_simp
      (go_at_call 15; refine Calls.mono (HY.out _) ?_; rintro e v ⟨y, hy, rfl, hb⟩)
      replace hI := hI.below hb
      refine hK.out _ _ (hBase _ hI.bel) (fun hHeld => ?_)
      clear hK K hb
      (try simp only [Act.put, List.setIfInBounds_toArray, List.set_cons_zero, List.set_cons_succ])
      refine wpAnyH_listed (listed' := #[true, true, true, true, true, true, true, true, true, true, false, false, false, false]) (by kernel_rfl) ?_
      exact HK1_2 x y v ⟨hx, hy, hI⟩
    refine' AllReadyH.cons ?_ (fun K hK => ?_) ?_
    rotate_left
    focus (simp only [List.getElem?_toArray, List.getElem?_cons_succ, List.getElem?_cons_zero]; rfl)
    focus
      go_simp
      replace hI := hI.make1 (t := 23)
      refine hK.out _ _ (hBase _ hI.bel) (fun hHeld => ?_)
      clear hK K
      (try simp only [Act.put, List.setIfInBounds_toArray, List.set_cons_zero, List.set_cons_succ])
      generalize w'.alloc (.cells #[.int .i64 0, .int .i64 0] 23) = v at *
      generalize w'.heap.size = g1 at *
      refine wpAnyH_listed (listed' := #[true, true, true, true, true, true, true, true, true, false, true, false, false, false]) (by kernel_rfl) ?_
      exact HK1_10 x g1 v ⟨hx, hI⟩
    refine' AllReadyH.cons ?_ (fun K hK => ?_) ?_
    rotate_left
    focus (simp only [List.getElem?_toArray, List.getElem?_cons_succ, List.getElem?_cons_zero]; rfl)
    focus
      go_simp
      replace hI := hI.make2 (t := 23)
      refine hK.out _ _ (hBase _ hI.bel) (fun hHeld => ?_)
      clear hK K
      (try simp only [Act.put, List.setIfInBounds_toArray, List.set_cons_zero, List.set_cons_succ])
      generalize w'.alloc (.cells #[.int .i64 0, .int .i64 0] 23) = v at *
      generalize w'.heap.size = g2 at *
      refine wpAnyH_listed (listed' := #[true, true, true, true, true, true, true, true, true, false, false, true, false, false]) (by kernel_rfl) ?_
      exact HK1_11 x g2 v ⟨hx, hI⟩
    exact AllReadyH.nil
  case hb1_001 =>
    have hI := hpre
    refine wpAnyH_ready (rs := [4]) (by kernel_rfl) (by simp) ?_
    refine' AllReadyH.cons ?_ (fun K hK => ?_) ?_
    rotate_left
    focus (simp only [List.getElem?_toArray, List.getElem?_cons_succ, List.getElem?_cons_zero]; rfl)
    focus
      go_simp
      (go_at_call 15; refine Calls.mono (HX.out _) ?_; rintro e v ⟨x, hx, rfl, hb⟩)
      replace hI := hI.below hb
      refine hK.out _ _ (hBase _ hI.bel) (fun hHeld => ?_)
      clear hK K hb
      (try simp only [Act.put, List.setIfInBounds_toArray, List.set_cons_zero, List.set_cons_succ])
      refine wpAnyH_listed (listed' := #[true, true, true, true, true, true, true, true, true, false, true, true, false, false]) (by kernel_rfl) ?_
      exact HK1_101 x g1 g2 v ⟨hx, hI⟩
    exact AllReadyH.nil
  case hb1_10 =>
    obtain ⟨hx, hI⟩ := hpre
    refine wpAnyH_ready (rs := [9, 11]) (by kernel_rfl) (by simp) ?_
    refine' AllReadyH.cons ?_ (fun K hK => ?_) ?_
    rotate_left
    focus (simp only [List.getElem?_toArray, List.getElem?_cons_succ, List.getElem?_cons_zero]; rfl)
    focus
      go_simp
      (go_at_call 15; refine Calls.mono (HY.out _) ?_; rintro e v ⟨y, hy, rfl, hb⟩)
      replace hI := hI.below hb
      refine hK.out _ _ (hBase _ hI.bel) (fun hHeld => ?_)
      clear hK K hb
      (try simp only [Act.put, List.setIfInBounds_toArray, List.set_cons_zero, List.set_cons_succ])
      refine wpAnyH_listed (listed' := #[true, true, true, true, true, true, true, true, true, true, true, false, false, false]) (by kernel_rfl) ?_
      exact HK1_20 x y g1 v ⟨hx, hy, hI⟩
    refine' AllReadyH.cons ?_ (fun K hK => ?_) ?_
    rotate_left
    focus (simp only [List.getElem?_toArray, List.getElem?_cons_succ, List.getElem?_cons_zero]; rfl)
    focus
      go_simp
      replace hI := hI.make2 (t := 23)
      refine hK.out _ _ (hBase _ hI.bel) (fun hHeld => ?_)
      clear hK K
      (try simp only [Act.put, List.setIfInBounds_toArray, List.set_cons_zero, List.set_cons_succ])
      generalize w'.alloc (.cells #[.int .i64 0, .int .i64 0] 23) = v at *
      generalize w'.heap.size = g2 at *
      refine wpAnyH_listed (listed' := #[true, true, true, true, true, true, true, true, true, false, true, true, false, false]) (by kernel_rfl) ?_
      exact HK1_101 x g1 g2 v ⟨hx, hI⟩
    exact AllReadyH.nil
  case hb1_11 =>
    obtain ⟨hx, hI⟩ := hpre
    refine wpAnyH_ready (rs := [9, 10]) (by kernel_rfl) (by simp) ?_
    refine' AllReadyH.cons ?_ (fun K hK => ?_) ?_
    rotate_left
    focus (simp only [List.getElem?_toArray, List.getElem?_cons_succ, List.getElem?_cons_zero]; rfl)
    focus
      go_simp
      (go_at_call 15; refine Calls.mono (HY.out _) ?_; rintro e v ⟨y, hy, rfl, hb⟩)
      replace hI := hI.below hb
      refine hK.out _ _ (hBase _ hI.bel) (fun hHeld => ?_)
      clear hK K hb
      (try simp only [Act.put, List.setIfInBounds_toArray, List.set_cons_zero, List.set_cons_succ])
      refine wpAnyH_listed (listed' := #[true, true, true, true, true, true, true, true, true, true, false, true, false, false]) (by kernel_rfl) ?_
      exact HK1_21 x y g2 v ⟨hx, hy, hI⟩
    refine' AllReadyH.cons ?_ (fun K hK => ?_) ?_
    rotate_left
    focus (simp only [List.getElem?_toArray, List.getElem?_cons_succ, List.getElem?_cons_zero]; rfl)
    focus
      go_simp
      replace hI := hI.make1 (t := 23)
      refine hK.out _ _ (hBase _ hI.bel) (fun hHeld => ?_)
      clear hK K
      (try simp only [Act.put, List.setIfInBounds_toArray, List.set_cons_zero, List.set_cons_succ])
      generalize w'.alloc (.cells #[.int .i64 0, .int .i64 0] 23) = v at *
      generalize w'.heap.size = g1 at *
      refine wpAnyH_listed (listed' := #[true, true, true, true, true, true, true, true, true, false, true, true, false, false]) (by kernel_rfl) ?_
      exact HK1_101 x g1 g2 v ⟨hx, hI⟩
    exact AllReadyH.nil
  case hb1_2 =>
    obtain ⟨hx, hy, hI⟩ := hpre
    refine wpAnyH_ready (rs := [10, 11]) (by kernel_rfl) (by simp) ?_
    refine' AllReadyH.cons ?_ (fun K hK => ?_) ?_
    rotate_left
    focus (simp only [List.getElem?_toArray, List.getElem?_cons_succ, List.getElem?_cons_zero]; rfl)
    focus
      go_simp
      replace hI := hI.make1 (t := 23)
      refine hK.out _ _ (hBase _ hI.bel) (fun hHeld => ?_)
      clear hK K
      (try simp only [Act.put, List.setIfInBounds_toArray, List.set_cons_zero, List.set_cons_succ])
      generalize w'.alloc (.cells #[.int .i64 0, .int .i64 0] 23) = v at *
      generalize w'.heap.size = g1 at *
      refine wpAnyH_listed (listed' := #[true, true, true, true, true, true, true, true, true, true, true, false, false, false]) (by kernel_rfl) ?_
      exact HK1_20 x y g1 v ⟨hx, hy, hI⟩
    refine' AllReadyH.cons ?_ (fun K hK => ?_) ?_
    rotate_left
    focus (simp only [List.getElem?_toArray, List.getElem?_cons_succ, List.getElem?_cons_zero]; rfl)
    focus
      go_simp
      replace hI := hI.make2 (t := 23)
      refine hK.out _ _ (hBase _ hI.bel) (fun hHeld => ?_)
      clear hK K
      (try simp only [Act.put, List.setIfInBounds_toArray, List.set_cons_zero, List.set_cons_succ])
      generalize w'.alloc (.cells #[.int .i64 0, .int .i64 0] 23) = v at *
      generalize w'.heap.size = g2 at *
      refine wpAnyH_listed (listed' := #[true, true, true, true, true, true, true, true, true, true, false, true, false, false]) (by kernel_rfl) ?_
      exact HK1_21 x y g2 v ⟨hx, hy, hI⟩
    exact AllReadyH.nil
  case hb1_101 =>
    obtain ⟨hx, hI⟩ := hpre
    refine wpAnyH_ready (rs := [9]) (by kernel_rfl) (by simp) ?_
    refine' AllReadyH.cons ?_ (fun K hK => ?_) ?_
    rotate_left
    focus (simp only [List.getElem?_toArray, List.getElem?_cons_succ, List.getElem?_cons_zero]; rfl)
    focus
      go_simp
      (go_at_call 15; refine Calls.mono (HY.out _) ?_; rintro e v ⟨y, hy, rfl, hb⟩)
      replace hI := hI.below hb
      refine hK.out _ _ (hBase _ hI.bel) (fun hHeld => ?_)
      clear hK K hb
      (try simp only [Act.put, List.setIfInBounds_toArray, List.set_cons_zero, List.set_cons_succ])
      refine wpAnyH_listed (listed' := #[true, true, true, true, true, true, true, true, true, true, true, true, false, false]) (by kernel_rfl) ?_
      exact HK1_201 x y g1 g2 v ⟨hx, hy, hI⟩
    exact AllReadyH.nil
  case hb1_20 =>
    obtain ⟨hx, hy, hI⟩ := hpre
    refine wpAnyH_ready (rs := [11]) (by kernel_rfl) (by simp) ?_
    refine' AllReadyH.cons ?_ (fun K hK => ?_) ?_
    rotate_left
    focus (simp only [List.getElem?_toArray, List.getElem?_cons_succ, List.getElem?_cons_zero]; rfl)
    focus
      go_simp
      replace hI := hI.make2 (t := 23)
      refine hK.out _ _ (hBase _ hI.bel) (fun hHeld => ?_)
      clear hK K
      (try simp only [Act.put, List.setIfInBounds_toArray, List.set_cons_zero, List.set_cons_succ])
      generalize w'.alloc (.cells #[.int .i64 0, .int .i64 0] 23) = v at *
      generalize w'.heap.size = g2 at *
      refine wpAnyH_listed (listed' := #[true, true, true, true, true, true, true, true, true, true, true, true, false, false]) (by kernel_rfl) ?_
      exact HK1_201 x y g1 g2 v ⟨hx, hy, hI⟩
    exact AllReadyH.nil
  case hb1_21 =>
    obtain ⟨hx, hy, hI⟩ := hpre
    refine wpAnyH_ready (rs := [10]) (by kernel_rfl) (by simp) ?_
    refine' AllReadyH.cons ?_ (fun K hK => ?_) ?_
    rotate_left
    focus (simp only [List.getElem?_toArray, List.getElem?_cons_succ, List.getElem?_cons_zero]; rfl)
    focus
      go_simp
      replace hI := hI.make1 (t := 23)
      refine hK.out _ _ (hBase _ hI.bel) (fun hHeld => ?_)
      clear hK K
      (try simp only [Act.put, List.setIfInBounds_toArray, List.set_cons_zero, List.set_cons_succ])
      generalize w'.alloc (.cells #[.int .i64 0, .int .i64 0] 23) = v at *
      generalize w'.heap.size = g1 at *
      refine wpAnyH_listed (listed' := #[true, true, true, true, true, true, true, true, true, true, true, true, false, false]) (by kernel_rfl) ?_
      exact HK1_201 x y g1 g2 v ⟨hx, hy, hI⟩
    exact AllReadyH.nil
  obtain ⟨hx, hy, hI⟩ := hpre
  obtain ⟨hBl, ⟨a0, l0, c0, d0, f0⟩, ⟨a1, l1, c1, d1, f1⟩, _, hne12, hne13, hne23⟩ := hI
  have n01 := hne12 g1 g2 rfl rfl
  clear hne12 hne13 hne23
  refine wpAnyH_ready (rs := [12]) (by kernel_rfl) (by simp) ?_
  refine' AllReadyH.cons ?_ (fun K hK => ?_) AllReadyH.nil
  rotate_left
  focus (simp only [List.getElem?_toArray, List.getElem?_cons_succ, List.getElem?_cons_zero]; rfl)
  go_simp
  replace hBl : Below _ _ ((w'.setCell ⟨g1, 0, none⟩ (.int .i64 (x.lo))).setCell ⟨g1, 1, none⟩ (.int .i64 (x.hi))) := (hBl.setCell (p := ⟨g1, 0, none⟩) a0 _).setCell (p := ⟨g1, 1, none⟩) a0 _
  have r0 : Pr (x.lo) (x.hi) g1 ((w'.setCell ⟨g1, 0, none⟩ (.int .i64 (x.lo))).setCell ⟨g1, 1, none⟩ (.int .i64 (x.hi))) := pr_set c0 d0 l0
  replace c1 := (far2 (o := 0) (o1 := 0) (o2 := 1) (v1 := .int .i64 (x.lo)) (v2 := .int .i64 (x.hi)) n01).trans c1
  replace d1 := (far2 (o := 1) (o1 := 0) (o2 := 1) (v1 := .int .i64 (x.lo)) (v2 := .int .i64 (x.hi)) n01).trans d1
  replace f1 : ∀ o, ((w'.setCell ⟨g1, 0, none⟩ (.int .i64 (x.lo))).setCell ⟨g1, 1, none⟩ (.int .i64 (x.hi))).frozen? ⟨g2, o, none⟩ = false := fun o => by simpa using f1 o
  replace l1 : g2 < ((w'.setCell ⟨g1, 0, none⟩ (.int .i64 (x.lo))).setCell ⟨g1, 1, none⟩ (.int .i64 (x.hi))).heap.size := by simpa using l1
  refine hK.out _ _ (hBase _ hBl) (fun hHeld => ?_)
  clear hK K c0 d0 f0 l0
  (try simp only [Act.put, List.setIfInBounds_toArray, List.set_cons_zero, List.set_cons_succ])
  generalize ((w'.setCell ⟨g1, 0, none⟩ (.int .i64 (x.lo))).setCell ⟨g1, 1, none⟩ (.int .i64 (x.hi))) = v0 at *
  refine wpAnyH_ready (rs := [13]) (by kernel_rfl) (by simp) ?_
  refine' AllReadyH.cons ?_ (fun K hK => ?_) AllReadyH.nil
  rotate_left
  focus (simp only [List.getElem?_toArray, List.getElem?_cons_succ, List.getElem?_cons_zero]; rfl)
  go_simp
  replace hBl : Below _ _ ((v0.setCell ⟨g2, 0, none⟩ (.int .i64 (y.lo))).setCell ⟨g2, 1, none⟩ (.int .i64 (y.hi))) := (hBl.setCell (p := ⟨g2, 0, none⟩) a1 _).setCell (p := ⟨g2, 1, none⟩) a1 _
  replace r0 := r0.far (x := .int .i64 (y.lo)) (y := .int .i64 (y.hi)) (Ne.symm n01)
  have r1 : Pr (y.lo) (y.hi) g2 ((v0.setCell ⟨g2, 0, none⟩ (.int .i64 (y.lo))).setCell ⟨g2, 1, none⟩ (.int .i64 (y.hi))) := pr_set c1 d1 l1
  refine hK.out _ _ (hBase _ hBl) (fun hHeld => ?_)
  clear hK K c1 d1 f1 l1
  (try simp only [Act.put, List.setIfInBounds_toArray, List.set_cons_zero, List.set_cons_succ])
  generalize ((v0.setCell ⟨g2, 0, none⟩ (.int .i64 (y.lo))).setCell ⟨g2, 1, none⟩ (.int .i64 (y.hi))) = w'' at *
  refine wpAnyH_done (by kernel_rfl) ?_ _
  refine HK1.out _ _ ?_
  clear HK1 hHeld a0 a1 n01
  have hbT : Bel u0 w'' := hBl
  clear hBl
  have hPg1 := r0
  have hPg2 := r1
  clear r0 r1
  have hT : Two w x y g1 g2 w'' := ⟨(hAD.below hbT).1, hPg1.1, hPg2.1, hPg1.2, hPg2.2⟩
  clear hAr hAD hBase hbT hPg1 hPg2 hA HX HY HU0
  obtain ⟨hv, ⟨x0, x1⟩, ⟨y0, y1⟩, hg1, hg2⟩ := id hT
  go_wp2_with fail
  rcases none_or hx hy with hz | ⟨hx2, hz⟩ | ⟨gx, gy⟩
  · skip
    have he := iv_eql x.lo x.hi 1 0 true (iv_is x hz)
    clear hz
    clear HM HN
    refine wp_region_held_drew (S := (fun w' => Two w x y g1 g2 w')) (by kernel_rfl) (hT.drew) (fun hHeld => ?_)
    refine' wpAnyH_take (i := 0) (v := _) ?_ ?_ ?_ ?_ ?_ ?_ ?_ ?_
    rotate_left 2
    focus (simp only [List.getElem?_toArray, List.getElem?_cons_succ, List.getElem?_cons_zero]; rfl)
    focus kernel_rfl
    focus kernel_rfl
    focus kernel_rfl
    focus exact (fun _ _ _ h => h)
    refine Or.inl ⟨?_, ?_⟩
    focus (go_simp; done)
    focus (intro w hSw; obtain ⟨_, ⟨x0, x1⟩, ⟨y0, y1⟩, _, _⟩ := hSw; (first | (go_simp; done) | (go_simp; with_reducible rfl)))
    focus assumption
    (try simp only [Act.put, List.setIfInBounds_toArray, List.set_cons_zero, List.set_cons_succ])
    refine wpAnyH_ready (rs := [1]) (by kernel_rfl) (by simp) ?_
    refine' AllReadyH.cons ?_ (fun K hK => ?_) AllReadyH.nil
    rotate_left
    focus (simp only [List.getElem?_toArray, List.getElem?_cons_succ, List.getElem?_cons_zero]; rfl)
    go_simp
    (go_at_call 12; refine (iNone_any _).mono ?_; rintro e w4 ⟨rfl, hb⟩)
    refine hK.out _ _ (Two.below hHeld hb) (fun hHeld => ?_)
    clear hK K
    (try simp only [Act.put, List.setIfInBounds_toArray, List.set_cons_zero, List.set_cons_succ])
    clear hb
    refine' wpAnyH_take (i := 2) (v := _) ?_ ?_ ?_ ?_ ?_ ?_ ?_ ?_
    rotate_left 2
    focus (simp only [List.getElem?_toArray, List.getElem?_cons_succ, List.getElem?_cons_zero]; rfl)
    focus kernel_rfl
    focus kernel_rfl
    focus kernel_rfl
    focus exact (fun _ _ _ h => h)
    refine Or.inl ⟨?_, ?_⟩
    focus (go_simp; done)
    focus (intro w hSw; obtain ⟨_, ⟨x0, x1⟩, ⟨y0, y1⟩, _, _⟩ := hSw; (first | (go_simp; done) | (go_simp; with_reducible rfl)))
    focus assumption
    (try simp only [Act.put, List.setIfInBounds_toArray, List.set_cons_zero, List.set_cons_succ])
    refine' wpAnyH_take (i := 3) (v := _) ?_ ?_ ?_ ?_ ?_ ?_ ?_ ?_
    rotate_left 2
    focus (simp only [List.getElem?_toArray, List.getElem?_cons_succ, List.getElem?_cons_zero]; rfl)
    focus kernel_rfl
    focus kernel_rfl
    focus kernel_rfl
    focus exact (fun _ _ _ h => h)
    refine Or.inl ⟨?_, ?_⟩
    focus (go_simp; done)
    focus (intro w hSw; obtain ⟨_, ⟨x0, x1⟩, ⟨y0, y1⟩, _, _⟩ := hSw; (first | (go_simp; done) | (go_simp; with_reducible rfl)))
    focus assumption
    (try simp only [Act.put, List.setIfInBounds_toArray, List.set_cons_zero, List.set_cons_succ])
    refine' wpAnyH_take (i := 4) (v := undef) ?_ ?_ ?_ ?_ ?_ ?_ ?_ ?_
    rotate_left 1
    focus (simp only [List.getElem?_toArray, List.getElem?_cons_succ, List.getElem?_cons_zero]; rfl)
    focus kernel_rfl
    focus kernel_rfl
    focus kernel_rfl
    focus exact (fun _ _ _ h => h)
    refine Or.inr ⟨?_, rfl⟩
    focus (go_simp; done)
    focus assumption
    (try simp only [Act.put, List.setIfInBounds_toArray, List.set_cons_zero, List.set_cons_succ])
    refine' wpAnyH_take (i := 5) (v := undef) ?_ ?_ ?_ ?_ ?_ ?_ ?_ ?_
    rotate_left 1
    focus (simp only [List.getElem?_toArray, List.getElem?_cons_succ, List.getElem?_cons_zero]; rfl)
    focus kernel_rfl
    focus kernel_rfl
    focus kernel_rfl
    focus exact (fun _ _ _ h => h)
    refine Or.inr ⟨?_, rfl⟩
    focus (go_simp; done)
    focus assumption
    (try simp only [Act.put, List.setIfInBounds_toArray, List.set_cons_zero, List.set_cons_succ])
    refine' wpAnyH_take (i := 6) (v := undef) ?_ ?_ ?_ ?_ ?_ ?_ ?_ ?_
    rotate_left 1
    focus (simp only [List.getElem?_toArray, List.getElem?_cons_succ, List.getElem?_cons_zero]; rfl)
    focus kernel_rfl
    focus kernel_rfl
    focus kernel_rfl
    focus exact (fun _ _ _ h => h)
    refine Or.inr ⟨?_, rfl⟩
    focus (go_simp; done)
    focus assumption
    (try simp only [Act.put, List.setIfInBounds_toArray, List.set_cons_zero, List.set_cons_succ])
    refine' wpAnyH_take (i := 7) (v := _) ?_ ?_ ?_ ?_ ?_ ?_ ?_ ?_
    rotate_left 2
    focus (simp only [List.getElem?_toArray, List.getElem?_cons_succ, List.getElem?_cons_zero]; rfl)
    focus kernel_rfl
    focus kernel_rfl
    focus kernel_rfl
    focus exact (fun _ _ _ h => h)
    refine Or.inl ⟨?_, ?_⟩
    focus (go_simp; done)
    focus (intro w hSw; obtain ⟨_, ⟨x0, x1⟩, ⟨y0, y1⟩, _, _⟩ := hSw; (first | (go_simp; done) | (go_simp; with_reducible rfl)))
    focus assumption
    (try simp only [Act.put, List.setIfInBounds_toArray, List.set_cons_zero, List.set_cons_succ])
    refine wpAnyH_done (by kernel_rfl) ?_ _
    clear hT
    clear hv x0 x1 y0 y1 hg1 hg2
    have hT := hHeld
    obtain ⟨hv, ⟨x0, x1⟩, ⟨y0, y1⟩, hg1, hg2⟩ := id hT
    go_wp2_with fail
    refine (awake_any _).mono ?_
    rintro e w7 ⟨rfl, hb⟩
    clear hv x0 x1 y0 y1 hg1 hg2
    replace hT := hT.below hb
    obtain ⟨hv, ⟨x0, x1⟩, ⟨y0, y1⟩, hg1, hg2⟩ := id hT
    clear hb
    go_wp2
    go_ret
    exact ⟨rfl, hv⟩
  · skip
    have he := iv_eql x.lo x.hi 1 0 false (iv_not x hx2)
    have he2 := iv_eql y.lo y.hi 1 0 true (iv_is y hz)
    clear hz hx2
    clear HM HN
    refine wp_region_held_drew (S := (fun w' => Two w x y g1 g2 w')) (by kernel_rfl) (hT.drew) (fun hHeld => ?_)
    refine' wpAnyH_take (i := 0) (v := _) ?_ ?_ ?_ ?_ ?_ ?_ ?_ ?_
    rotate_left 2
    focus (simp only [List.getElem?_toArray, List.getElem?_cons_succ, List.getElem?_cons_zero]; rfl)
    focus kernel_rfl
    focus kernel_rfl
    focus kernel_rfl
    focus exact (fun _ _ _ h => h)
    refine Or.inl ⟨?_, ?_⟩
    focus (go_simp; done)
    focus (intro w hSw; obtain ⟨_, ⟨x0, x1⟩, ⟨y0, y1⟩, _, _⟩ := hSw; (first | (go_simp; done) | (go_simp; with_reducible rfl)))
    focus assumption
    (try simp only [Act.put, List.setIfInBounds_toArray, List.set_cons_zero, List.set_cons_succ])
    refine wpAnyH_ready (rs := [1]) (by kernel_rfl) (by simp) ?_
    refine' AllReadyH.cons ?_ (fun K hK => ?_) AllReadyH.nil
    rotate_left
    focus (simp only [List.getElem?_toArray, List.getElem?_cons_succ, List.getElem?_cons_zero]; rfl)
    go_simp
    (go_at_call 12; refine (iNone_any _).mono ?_; rintro e w4 ⟨rfl, hb⟩)
    refine hK.out _ _ (Two.below hHeld hb) (fun hHeld => ?_)
    clear hK K
    (try simp only [Act.put, List.setIfInBounds_toArray, List.set_cons_zero, List.set_cons_succ])
    clear hb
    refine' wpAnyH_take (i := 2) (v := _) ?_ ?_ ?_ ?_ ?_ ?_ ?_ ?_
    rotate_left 2
    focus (simp only [List.getElem?_toArray, List.getElem?_cons_succ, List.getElem?_cons_zero]; rfl)
    focus kernel_rfl
    focus kernel_rfl
    focus kernel_rfl
    focus exact (fun _ _ _ h => h)
    refine Or.inl ⟨?_, ?_⟩
    focus (go_simp; done)
    focus (intro w hSw; obtain ⟨_, ⟨x0, x1⟩, ⟨y0, y1⟩, _, _⟩ := hSw; (first | (go_simp; done) | (go_simp; with_reducible rfl)))
    focus assumption
    (try simp only [Act.put, List.setIfInBounds_toArray, List.set_cons_zero, List.set_cons_succ])
    refine' wpAnyH_take (i := 3) (v := _) ?_ ?_ ?_ ?_ ?_ ?_ ?_ ?_
    rotate_left 2
    focus (simp only [List.getElem?_toArray, List.getElem?_cons_succ, List.getElem?_cons_zero]; rfl)
    focus kernel_rfl
    focus kernel_rfl
    focus kernel_rfl
    focus exact (fun _ _ _ h => h)
    refine Or.inl ⟨?_, ?_⟩
    focus (go_simp; done)
    focus (intro w hSw; obtain ⟨_, ⟨x0, x1⟩, ⟨y0, y1⟩, _, _⟩ := hSw; (first | (go_simp; done) | (go_simp; with_reducible rfl)))
    focus assumption
    (try simp only [Act.put, List.setIfInBounds_toArray, List.set_cons_zero, List.set_cons_succ])
    refine' wpAnyH_take (i := 4) (v := _) ?_ ?_ ?_ ?_ ?_ ?_ ?_ ?_
    rotate_left 2
    focus (simp only [List.getElem?_toArray, List.getElem?_cons_succ, List.getElem?_cons_zero]; rfl)
    focus kernel_rfl
    focus kernel_rfl
    focus kernel_rfl
    focus exact (fun _ _ _ h => h)
    refine Or.inl ⟨?_, ?_⟩
    focus (go_simp; done)
    focus (intro w hSw; obtain ⟨_, ⟨x0, x1⟩, ⟨y0, y1⟩, _, _⟩ := hSw; (first | (go_simp; done) | (go_simp; with_reducible rfl)))
    focus assumption
    (try simp only [Act.put, List.setIfInBounds_toArray, List.set_cons_zero, List.set_cons_succ])
    refine wpAnyH_ready (rs := [5]) (by kernel_rfl) (by simp) ?_
    refine' AllReadyH.cons ?_ (fun K hK => ?_) AllReadyH.nil
    rotate_left
    focus (simp only [List.getElem?_toArray, List.getElem?_cons_succ, List.getElem?_cons_zero]; rfl)
    go_simp
    (go_at_call 12; refine (iNone_any _).mono ?_; rintro e w4 ⟨rfl, hb⟩)
    refine hK.out _ _ (Two.below hHeld hb) (fun hHeld => ?_)
    clear hK K
    (try simp only [Act.put, List.setIfInBounds_toArray, List.set_cons_zero, List.set_cons_succ])
    clear hb
    refine' wpAnyH_take (i := 6) (v := _) ?_ ?_ ?_ ?_ ?_ ?_ ?_ ?_
    rotate_left 2
    focus (simp only [List.getElem?_toArray, List.getElem?_cons_succ, List.getElem?_cons_zero]; rfl)
    focus kernel_rfl
    focus kernel_rfl
    focus kernel_rfl
    focus exact (fun _ _ _ h => h)
    refine Or.inl ⟨?_, ?_⟩
    focus (go_simp; done)
    focus (intro w hSw; obtain ⟨_, ⟨x0, x1⟩, ⟨y0, y1⟩, _, _⟩ := hSw; (first | (go_simp; done) | (go_simp; with_reducible rfl)))
    focus assumption
    (try simp only [Act.put, List.setIfInBounds_toArray, List.set_cons_zero, List.set_cons_succ])
    refine' wpAnyH_take (i := 7) (v := _) ?_ ?_ ?_ ?_ ?_ ?_ ?_ ?_
    rotate_left 2
    focus (simp only [List.getElem?_toArray, List.getElem?_cons_succ, List.getElem?_cons_zero]; rfl)
    focus kernel_rfl
    focus kernel_rfl
    focus kernel_rfl
    focus exact (fun _ _ _ h => h)
    refine Or.inl ⟨?_, ?_⟩
    focus (go_simp; done)
    focus (intro w hSw; obtain ⟨_, ⟨x0, x1⟩, ⟨y0, y1⟩, _, _⟩ := hSw; (first | (go_simp; done) | (go_simp; with_reducible rfl)))
    focus assumption
    (try simp only [Act.put, List.setIfInBounds_toArray, List.set_cons_zero, List.set_cons_succ])
    refine wpAnyH_done (by kernel_rfl) ?_ _
    clear hT
    clear hv x0 x1 y0 y1 hg1 hg2
    have hT := hHeld
    obtain ⟨hv, ⟨x0, x1⟩, ⟨y0, y1⟩, hg1, hg2⟩ := id hT
    go_wp2_with fail
    refine (awake_any _).mono ?_
    rintro e w7 ⟨rfl, hb⟩
    clear hv x0 x1 y0 y1 hg1 hg2
    replace hT := hT.below hb
    obtain ⟨hv, ⟨x0, x1⟩, ⟨y0, y1⟩, hg1, hg2⟩ := id hT
    clear hb
    go_wp2
    go_ret
    exact ⟨rfl, hv⟩
  · have he := iv_eql x.lo x.hi 1 0 false (iv_not x (Iv.good_ne gx))
    have he2 := iv_eql y.lo y.hi 1 0 false (iv_not y (Iv.good_ne gy))
    refine wp_region_held_drew (S := (fun w' => Two w x y g1 g2 w')) (by kernel_rfl) (hT.drew) (fun hHeld => ?_)
    refine' wpAnyH_take (i := 0) (v := _) ?_ ?_ ?_ ?_ ?_ ?_ ?_ ?_
    rotate_left 2
    focus (simp only [List.getElem?_toArray, List.getElem?_cons_succ, List.getElem?_cons_zero]; rfl)
    focus kernel_rfl
    focus kernel_rfl
    focus kernel_rfl
    focus exact (fun _ _ _ h => h)
    refine Or.inl ⟨?_, ?_⟩
    focus (go_simp; done)
    focus (intro w hSw; obtain ⟨_, ⟨x0, x1⟩, ⟨y0, y1⟩, _, _⟩ := hSw; (first | (go_simp; done) | (go_simp; with_reducible rfl)))
    focus assumption
    (try simp only [Act.put, List.setIfInBounds_toArray, List.set_cons_zero, List.set_cons_succ])
    refine wpAnyH_ready (rs := [1]) (by kernel_rfl) (by simp) ?_
    refine' AllReadyH.cons ?_ (fun K hK => ?_) AllReadyH.nil
    rotate_left
    focus (simp only [List.getElem?_toArray, List.getElem?_cons_succ, List.getElem?_cons_zero]; rfl)
    go_simp
    (go_at_call 12; refine (iNone_any _).mono ?_; rintro e w4 ⟨rfl, hb⟩)
    refine hK.out _ _ (Two.below hHeld hb) (fun hHeld => ?_)
    clear hK K
    (try simp only [Act.put, List.setIfInBounds_toArray, List.set_cons_zero, List.set_cons_succ])
    clear hb
    refine' wpAnyH_take (i := 2) (v := _) ?_ ?_ ?_ ?_ ?_ ?_ ?_ ?_
    rotate_left 2
    focus (simp only [List.getElem?_toArray, List.getElem?_cons_succ, List.getElem?_cons_zero]; rfl)
    focus kernel_rfl
    focus kernel_rfl
    focus kernel_rfl
    focus exact (fun _ _ _ h => h)
    refine Or.inl ⟨?_, ?_⟩
    focus (go_simp; done)
    focus (intro w hSw; obtain ⟨_, ⟨x0, x1⟩, ⟨y0, y1⟩, _, _⟩ := hSw; (first | (go_simp; done) | (go_simp; with_reducible rfl)))
    focus assumption
    (try simp only [Act.put, List.setIfInBounds_toArray, List.set_cons_zero, List.set_cons_succ])
    refine' wpAnyH_take (i := 3) (v := _) ?_ ?_ ?_ ?_ ?_ ?_ ?_ ?_
    rotate_left 2
    focus (simp only [List.getElem?_toArray, List.getElem?_cons_succ, List.getElem?_cons_zero]; rfl)
    focus kernel_rfl
    focus kernel_rfl
    focus kernel_rfl
    focus exact (fun _ _ _ h => h)
    refine Or.inl ⟨?_, ?_⟩
    focus (go_simp; done)
    focus (intro w hSw; obtain ⟨_, ⟨x0, x1⟩, ⟨y0, y1⟩, _, _⟩ := hSw; (first | (go_simp; done) | (go_simp; with_reducible rfl)))
    focus assumption
    (try simp only [Act.put, List.setIfInBounds_toArray, List.set_cons_zero, List.set_cons_succ])
    refine' wpAnyH_take (i := 4) (v := _) ?_ ?_ ?_ ?_ ?_ ?_ ?_ ?_
    rotate_left 2
    focus (simp only [List.getElem?_toArray, List.getElem?_cons_succ, List.getElem?_cons_zero]; rfl)
    focus kernel_rfl
    focus kernel_rfl
    focus kernel_rfl
    focus exact (fun _ _ _ h => h)
    refine Or.inl ⟨?_, ?_⟩
    focus (go_simp; done)
    focus (intro w hSw; obtain ⟨_, ⟨x0, x1⟩, ⟨y0, y1⟩, _, _⟩ := hSw; (first | (go_simp; done) | (go_simp; with_reducible rfl)))
    focus assumption
    (try simp only [Act.put, List.setIfInBounds_toArray, List.set_cons_zero, List.set_cons_succ])
    refine wpAnyH_ready (rs := [5]) (by kernel_rfl) (by simp) ?_
    refine' AllReadyH.cons ?_ (fun K hK => ?_) AllReadyH.nil
    rotate_left
    focus (simp only [List.getElem?_toArray, List.getElem?_cons_succ, List.getElem?_cons_zero]; rfl)
    go_simp
    (go_at_call 12; refine (iNone_any _).mono ?_; rintro e w4 ⟨rfl, hb⟩)
    refine hK.out _ _ (Two.below hHeld hb) (fun hHeld => ?_)
    clear hK K
    (try simp only [Act.put, List.setIfInBounds_toArray, List.set_cons_zero, List.set_cons_succ])
    clear hb
    refine' wpAnyH_take (i := 6) (v := _) ?_ ?_ ?_ ?_ ?_ ?_ ?_ ?_
    rotate_left 2
    focus (simp only [List.getElem?_toArray, List.getElem?_cons_succ, List.getElem?_cons_zero]; rfl)
    focus kernel_rfl
    focus kernel_rfl
    focus kernel_rfl
    focus exact (fun _ _ _ h => h)
    refine Or.inl ⟨?_, ?_⟩
    focus (go_simp; done)
    focus (intro w hSw; obtain ⟨_, ⟨x0, x1⟩, ⟨y0, y1⟩, _, _⟩ := hSw; (first | (go_simp; done) | (go_simp; with_reducible rfl)))
    focus assumption
    (try simp only [Act.put, List.setIfInBounds_toArray, List.set_cons_zero, List.set_cons_succ])
    refine' wpAnyH_take (i := 7) (v := _) ?_ ?_ ?_ ?_ ?_ ?_ ?_ ?_
    rotate_left 2
    focus (simp only [List.getElem?_toArray, List.getElem?_cons_succ, List.getElem?_cons_zero]; rfl)
    focus kernel_rfl
    focus kernel_rfl
    focus kernel_rfl
    focus exact (fun _ _ _ h => h)
    refine Or.inl ⟨?_, ?_⟩
    focus (go_simp; done)
    focus (intro w hSw; obtain ⟨_, ⟨x0, x1⟩, ⟨y0, y1⟩, _, _⟩ := hSw; (first | (go_simp; done) | (go_simp; with_reducible rfl)))
    focus assumption
    (try simp only [Act.put, List.setIfInBounds_toArray, List.set_cons_zero, List.set_cons_succ])
    refine wpAnyH_done (by kernel_rfl) ?_ _
    clear hT
    clear hv x0 x1 y0 y1 hg1 hg2
    have hT := hHeld
    obtain ⟨hv, ⟨x0, x1⟩, ⟨y0, y1⟩, hg1, hg2⟩ := id hT
    clear he he2
    obtain ⟨s, hs⟩ : ∃ s, Iv.act 1 x y = s := ⟨_, rfl⟩
    obtain ⟨t, ht⟩ : ∃ t, Iv.act 2 x y = t := ⟨_, rfl⟩
    have HF := Lib.hid (And.intro hs (And.intro ht trivial))
    have HSa := Lib.hid (fun (h1 : -2147483648 ≤ x.lo + y.lo) (h2 : x.hi + y.hi < 2147483648) => (by rw [← hs]; exact Iv.act_add gx gy h1 h2 : s = ⟨x.lo + y.lo, x.hi + y.hi⟩))
    have HTa := Lib.hid (fun (h1 : -2147483648 ≤ x.lo - y.hi) (h2 : x.hi - y.lo < 2147483648) => (by rw [← ht]; exact Iv.act_sub gx gy h1 h2 : t = ⟨x.lo - y.hi, x.hi - y.lo⟩))
    obtain ⟨lx1, lx2, lx3⟩ := id gx
    obtain ⟨ly1, ly2, ly3⟩ := id gy
    have GX := Lib.hid gx
    have GY := Lib.hid gy
    clear hs ht hx hy gx gy
    go_wp2_with fail
    obtain ⟨u0, hu0⟩ : ∃ u0, (w4).drew = u0 := ⟨_, rfl⟩
    have HU0 := Lib.hid hu0
    have hTD := hT.drew
    rw [hu0] at hTD
    clear hu0
    have hBase : ∀ u, Bel u0 u → Two w x y g1 g2 u := fun u h => hTD.below h
    rename_i K1 hK1
    have HK1 := Lib.hid hK1
    clear hK1
    have hI := fr3_refl u0
    refine wp_region_held_drew (S := (fun w' => Two w x y g1 g2 w')) (by kernel_rfl) (by rw [HU0.out]; exact hBase _ hI.bel) (fun hHeld => ?_)
    rw [HU0.out] at hHeld ⊢
    refine' wpAnyH_take (i := 0) (v := _) ?_ ?_ ?_ ?_ ?_ ?_ ?_ ?_
    rotate_left 2
    focus (simp only [List.getElem?_toArray, List.getElem?_cons_succ, List.getElem?_cons_zero]; rfl)
    focus kernel_rfl
    focus kernel_rfl
    focus kernel_rfl
    focus exact (fun _ _ _ h => h)
    refine Or.inl ⟨?_, ?_⟩
    focus (go_simp; done)
    focus (intro w hSw; obtain ⟨_, ⟨x0, x1⟩, ⟨y0, y1⟩, _, _⟩ := hSw; (first | (go_simp; done) | (go_simp; with_reducible rfl)))
    focus assumption
    (try simp only [Act.put, List.setIfInBounds_toArray, List.set_cons_zero, List.set_cons_succ])
    refine' wpAnyH_take (i := 1) (v := _) ?_ ?_ ?_ ?_ ?_ ?_ ?_ ?_
    rotate_left 2
    focus (simp only [List.getElem?_toArray, List.getElem?_cons_succ, List.getElem?_cons_zero]; rfl)
    focus kernel_rfl
    focus kernel_rfl
    focus kernel_rfl
    focus exact (fun _ _ _ h => h)
    refine Or.inl ⟨?_, ?_⟩
    focus (go_simp; done)
    focus (intro w hSw; obtain ⟨_, ⟨x0, x1⟩, ⟨y0, y1⟩, _, _⟩ := hSw; (first | (go_simp; done) | (go_simp; with_reducible rfl)))
    focus assumption
    (try simp only [Act.put, List.setIfInBounds_toArray, List.set_cons_zero, List.set_cons_succ])
    refine' wpAnyH_take (i := 3) (v := _) ?_ ?_ ?_ ?_ ?_ ?_ ?_ ?_
    rotate_left 2
    focus (simp only [List.getElem?_toArray, List.getElem?_cons_succ, List.getElem?_cons_zero]; rfl)
    focus kernel_rfl
    focus kernel_rfl
    focus kernel_rfl
    focus exact (fun _ _ _ h => h)
    refine Or.inl ⟨?_, ?_⟩
    focus (go_simp; done)
    focus (intro w hSw; obtain ⟨_, ⟨x0, x1⟩, ⟨y0, y1⟩, _, _⟩ := hSw; (first | (go_simp; done) | (go_simp; with_reducible rfl)))
    focus assumption
    (try simp only [Act.put, List.setIfInBounds_toArray, List.set_cons_zero, List.set_cons_succ])
    refine' wpAnyH_take (i := 4) (v := _) ?_ ?_ ?_ ?_ ?_ ?_ ?_ ?_
    rotate_left 2
    focus (simp only [List.getElem?_toArray, List.getElem?_cons_succ, List.getElem?_cons_zero]; rfl)
    focus kernel_rfl
    focus kernel_rfl
    focus kernel_rfl
    focus exact (fun _ _ _ h => h)
    refine Or.inl ⟨?_, ?_⟩
    focus (go_simp; done)
    focus (intro w hSw; obtain ⟨_, ⟨x0, x1⟩, ⟨y0, y1⟩, _, _⟩ := hSw; (first | (go_simp; done) | (go_simp; with_reducible rfl)))
    focus assumption
    (try simp only [Act.put, List.setIfInBounds_toArray, List.set_cons_zero, List.set_cons_succ])
    refine' mh2 (Pre := fun (g3 : Nat) (g4 : Nat) (w' : World) => Fr3 u0 (some g3) (some g4) none w') _ #[true, true, true, true, true, true, true, true, false, false] _ (fun HK2_201 => ?ha2_201) (fun g3 g4 w' hpre => ?hb2_201)
    case' ha2_201 => skip
    refine' mh1 (Pre := fun (g4 : Nat) (w' : World) => Fr3 u0 none (some g4) none w') _ #[true, true, true, true, true, true, false, true, false, false] _ (fun HK2_21 => ?ha2_21) (fun g4 w' hpre => ?hb2_21)
    case' ha2_21 => skip
    refine' mh1 (Pre := fun (g3 : Nat) (w' : World) => Fr3 u0 (some g3) none none w') _ #[true, true, true, true, true, true, true, false, false, false] _ (fun HK2_20 => ?ha2_20) (fun g3 w' hpre => ?hb2_20)
    case' ha2_20 => skip
    refine' mh2 (Pre := fun (g3 : Nat) (g4 : Nat) (w' : World) => Fr3 u0 (some g3) (some g4) none w') _ #[true, true, true, true, true, false, true, true, false, false] _ (fun HK2_101 => ?ha2_101) (fun g3 g4 w' hpre => ?hb2_101)
    case' ha2_101 => skip
    refine' mh0 (Pre := fun (w' : World) => Fr3 u0 none none none w') _ #[true, true, true, true, true, true, false, false, false, false] _ (fun HK2_2 => ?ha2_2) (fun w' hpre => ?hb2_2)
    case' ha2_2 => skip
    refine' mh1 (Pre := fun (g4 : Nat) (w' : World) => Fr3 u0 none (some g4) none w') _ #[true, true, true, true, true, false, false, true, false, false] _ (fun HK2_11 => ?ha2_11) (fun g4 w' hpre => ?hb2_11)
    case' ha2_11 => skip
    refine' mh1 (Pre := fun (g3 : Nat) (w' : World) => Fr3 u0 (some g3) none none w') _ #[true, true, true, true, true, false, true, false, false, false] _ (fun HK2_10 => ?ha2_10) (fun g3 w' hpre => ?hb2_10)
    case' ha2_10 => skip
    refine' mh2 (Pre := fun (g3 : Nat) (g4 : Nat) (w' : World) => Fr3 u0 (some g3) (some g4) none w') _ #[true, true, false, true, true, false, true, true, false, false] _ (fun HK2_001 => ?ha2_001) (fun g3 g4 w' hpre => ?hb2_001)
    case' ha2_001 => skip
    refine' mh0 (Pre := fun (w' : World) => Fr3 u0 none none none w') _ #[true, true, true, true, true, false, false, false, false, false] _ (fun HK2_1 => ?ha2_1) (fun w' hpre => ?hb2_1)
    case' ha2_1 => skip
    refine' mh1 (Pre := fun (g4 : Nat) (w' : World) => Fr3 u0 none (some g4) none w') _ #[true, true, false, true, true, false, false, true, false, false] _ (fun HK2_01 => ?ha2_01) (fun g4 w' hpre => ?hb2_01)
    case' ha2_01 => skip
    refine' mh1 (Pre := fun (g3 : Nat) (w' : World) => Fr3 u0 (some g3) none none w') _ #[true, true, false, true, true, false, true, false, false, false] _ (fun HK2_00 => ?ha2_00) (fun g3 w' hpre => ?hb2_00)
    case ha2_00 =>
      refine wpAnyH_ready (rs := [2, 6, 7]) (by kernel_rfl) (by simp) ?_
      refine' AllReadyH.cons ?_ (fun K hK => ?_) ?_
      rotate_left
      focus (simp only [List.getElem?_toArray, List.getElem?_cons_succ, List.getElem?_cons_zero]; rfl)
      focus
        go_simp
        (go_at_call 16; refine (iDo_any 1 x.lo x.hi y.lo y.hi s HF.out.1 _).mono ?_; rintro e v ⟨rfl, hb⟩)
        replace hI := hI.below hb
        refine hK.out _ _ (hBase _ hI.bel) (fun hHeld => ?_)
        clear hK K hb
        (try simp only [Act.put, List.setIfInBounds_toArray, List.set_cons_zero, List.set_cons_succ])
        refine wpAnyH_listed (listed' := #[true, true, true, true, true, false, false, false, false, false]) (by kernel_rfl) ?_
        exact HK2_1  v hI
      refine' AllReadyH.cons ?_ (fun K hK => ?_) ?_
      rotate_left
      focus (simp only [List.getElem?_toArray, List.getElem?_cons_succ, List.getElem?_cons_zero]; rfl)
      focus
        go_simp
        replace hI := hI.make1 (t := 23)
        refine hK.out _ _ (hBase _ hI.bel) (fun hHeld => ?_)
        clear hK K
        (try simp only [Act.put, List.setIfInBounds_toArray, List.set_cons_zero, List.set_cons_succ])
        generalize u0.alloc (.cells #[.int .i64 0, .int .i64 0] 23) = v at *
        generalize u0.heap.size = g3 at *
        refine wpAnyH_listed (listed' := #[true, true, false, true, true, false, true, false, false, false]) (by kernel_rfl) ?_
        exact HK2_00 g3 v hI
      refine' AllReadyH.cons ?_ (fun K hK => ?_) ?_
      rotate_left
      focus (simp only [List.getElem?_toArray, List.getElem?_cons_succ, List.getElem?_cons_zero]; rfl)
      focus
        go_simp
        replace hI := hI.make2 (t := 23)
        refine hK.out _ _ (hBase _ hI.bel) (fun hHeld => ?_)
        clear hK K
        (try simp only [Act.put, List.setIfInBounds_toArray, List.set_cons_zero, List.set_cons_succ])
        generalize u0.alloc (.cells #[.int .i64 0, .int .i64 0] 23) = v at *
        generalize u0.heap.size = g4 at *
        refine wpAnyH_listed (listed' := #[true, true, false, true, true, false, false, true, false, false]) (by kernel_rfl) ?_
        exact HK2_01 g4 v hI
      exact AllReadyH.nil
    case hb2_00 =>
      have hI := hpre
      refine wpAnyH_ready (rs := [2, 7]) (by kernel_rfl) (by simp) ?_
      refine' AllReadyH.cons ?_ (fun K hK => ?_) ?_
      rotate_left
      focus (simp only [List.getElem?_toArray, List.getElem?_cons_succ, List.getElem?_cons_zero]; rfl)
      focus
        go_simp
        (go_at_call 16; refine (iDo_any 1 x.lo x.hi y.lo y.hi s HF.out.1 _).mono ?_; rintro e v ⟨rfl, hb⟩)
        replace hI := hI.below hb
        refine hK.out _ _ (hBase _ hI.bel) (fun hHeld => ?_)
        clear hK K hb
        (try simp only [Act.put, List.setIfInBounds_toArray, List.set_cons_zero, List.set_cons_succ])
        refine wpAnyH_listed (listed' := #[true, true, true, true, true, false, true, false, false, false]) (by kernel_rfl) ?_
        exact HK2_10 g3 v hI
      refine' AllReadyH.cons ?_ (fun K hK => ?_) ?_
      rotate_left
      focus (simp only [List.getElem?_toArray, List.getElem?_cons_succ, List.getElem?_cons_zero]; rfl)
      focus
        go_simp
        replace hI := hI.make2 (t := 23)
        refine hK.out _ _ (hBase _ hI.bel) (fun hHeld => ?_)
        clear hK K
        (try simp only [Act.put, List.setIfInBounds_toArray, List.set_cons_zero, List.set_cons_succ])
        generalize w'.alloc (.cells #[.int .i64 0, .int .i64 0] 23) = v at *
        generalize w'.heap.size = g4 at *
        refine wpAnyH_listed (listed' := #[true, true, false, true, true, false, true, true, false, false]) (by kernel_rfl) ?_
        exact HK2_001 g3 g4 v hI
      exact AllReadyH.nil
    case hb2_01 =>
      have hI := hpre
      refine wpAnyH_ready (rs := [2, 6]) (by kernel_rfl) (by simp) ?_
      refine' AllReadyH.cons ?_ (fun K hK => ?_) ?_
      rotate_left
      focus (simp only [List.getElem?_toArray, List.getElem?_cons_succ, List.getElem?_cons_zero]; rfl)
      focus
        go_simp
        (go_at_call 16; refine (iDo_any 1 x.lo x.hi y.lo y.hi s HF.out.1 _).mono ?_; rintro e v ⟨rfl, hb⟩)
        replace hI := hI.below hb
        refine hK.out _ _ (hBase _ hI.bel) (fun hHeld => ?_)
        clear hK K hb
        (try simp only [Act.put, List.setIfInBounds_toArray, List.set_cons_zero, List.set_cons_succ])
        refine wpAnyH_listed (listed' := #[true, true, true, true, true, false, false, true, false, false]) (by kernel_rfl) ?_
        exact HK2_11 g4 v hI
      refine' AllReadyH.cons ?_ (fun K hK => ?_) ?_
      rotate_left
      focus (simp only [List.getElem?_toArray, List.getElem?_cons_succ, List.getElem?_cons_zero]; rfl)
      focus
        go_simp
        replace hI := hI.make1 (t := 23)
        refine hK.out _ _ (hBase _ hI.bel) (fun hHeld => ?_)
        clear hK K
        (try simp only [Act.put, List.setIfInBounds_toArray, List.set_cons_zero, List.set_cons_succ])
        generalize w'.alloc (.cells #[.int .i64 0, .int .i64 0] 23) = v at *
        generalize w'.heap.size = g3 at *
        refine wpAnyH_listed (listed' := #[true, true, false, true, true, false, true, true, false, false]) (by kernel_rfl) ?_
        exact HK2_001 g3 g4 v hI
      exact AllReadyH.nil
    case hb2_1 =>
      have hI := hpre
      refine wpAnyH_ready (rs := [5, 6, 7]) (by kernel_rfl) (by simp) ?_
      refine' AllReadyH.cons ?_ (fun K hK => ?_) ?_
      rotate_left
      focus (simp only [List.getElem?_toArray, List.getElem?_cons_succ, List.getElem?_cons_zero]; rfl)
      focus
        go_simp
        (go_at_call 16; refine (iDo_any 2 x.lo x.hi y.lo y.hi t HF.out.2.1 _).mono ?_; rintro e v ⟨rfl, hb⟩)
        replace hI := hI.below hb
        refine hK.out _ _ (hBase _ hI.bel) (fun hHeld => ?_)
        clear hK K hb
        (try simp only [Act.put, List.setIfInBounds_toArray, List.set_cons_zero, List.set_cons_succ])
        refine wpAnyH_listed (listed' := #[true, true, true, true, true, true, false, false, false, false]) (by kernel_rfl) ?_
        exact HK2_2  v hI
      refine' AllReadyH.cons ?_ (fun K hK => ?_) ?_
      rotate_left
      focus (simp only [List.getElem?_toArray, List.getElem?_cons_succ, List.getElem?_cons_zero]; rfl)
      focus
        go_simp
        replace hI := hI.make1 (t := 23)
        refine hK.out _ _ (hBase _ hI.bel) (fun hHeld => ?_)
        clear hK K
        (try simp only [Act.put, List.setIfInBounds_toArray, List.set_cons_zero, List.set_cons_succ])
        generalize w'.alloc (.cells #[.int .i64 0, .int .i64 0] 23) = v at *
        generalize w'.heap.size = g3 at *
        refine wpAnyH_listed (listed' := #[true, true, true, true, true, false, true, false, false, false]) (by kernel_rfl) ?_
        exact HK2_10 g3 v hI
      refine' AllReadyH.cons ?_ (fun K hK => ?_) ?_
      rotate_left
      focus (simp only [List.getElem?_toArray, List.getElem?_cons_succ, List.getElem?_cons_zero]; rfl)
      focus
        go_simp
        replace hI := hI.make2 (t := 23)
        refine hK.out _ _ (hBase _ hI.bel) (fun hHeld => ?_)
        clear hK K
        (try simp only [Act.put, List.setIfInBounds_toArray, List.set_cons_zero, List.set_cons_succ])
        generalize w'.alloc (.cells #[.int .i64 0, .int .i64 0] 23) = v at *
        generalize w'.heap.size = g4 at *
        refine wpAnyH_listed (listed' := #[true, true, true, true, true, false, false, true, false, false]) (by kernel_rfl) ?_
        exact HK2_11 g4 v hI
      exact AllReadyH.nil
    case hb2_001 =>
      have hI := hpre
      refine wpAnyH_ready (rs := [2]) (by kernel_rfl) (by simp) ?_
      refine' AllReadyH.cons ?_ (fun K hK => ?_) ?_
      rotate_left
      focus (simp only [List.getElem?_toArray, List.getElem?_cons_succ, List.getElem?_cons_zero]; rfl)
      focus
        go_simp
        (go_at_call 16; refine (iDo_any 1 x.lo x.hi y.lo y.hi s HF.out.1 _).mono ?_; rintro e v ⟨rfl, hb⟩)
        replace hI := hI.below hb
        refine hK.out _ _ (hBase _ hI.bel) (fun hHeld => ?_)
        clear hK K hb
        (try simp only [Act.put, List.setIfInBounds_toArray, List.set_cons_zero, List.set_cons_succ])
        refine wpAnyH_listed (listed' := #[true, true, true, true, true, false, true, true, false, false]) (by kernel_rfl) ?_
        exact HK2_101 g3 g4 v hI
      exact AllReadyH.nil
    case hb2_10 =>
      have hI := hpre
      refine wpAnyH_ready (rs := [5, 7]) (by kernel_rfl) (by simp) ?_
      refine' AllReadyH.cons ?_ (fun K hK => ?_) ?_
      rotate_left
      focus (simp only [List.getElem?_toArray, List.getElem?_cons_succ, List.getElem?_cons_zero]; rfl)
      focus
        go_simp
        (go_at_call 16; refine (iDo_any 2 x.lo x.hi y.lo y.hi t HF.out.2.1 _).mono ?_; rintro e v ⟨rfl, hb⟩)
        replace hI := hI.below hb
        refine hK.out _ _ (hBase _ hI.bel) (fun hHeld => ?_)
        clear hK K hb
        (try simp only [Act.put, List.setIfInBounds_toArray, List.set_cons_zero, List.set_cons_succ])
        refine wpAnyH_listed (listed' := #[true, true, true, true, true, true, true, false, false, false]) (by kernel_rfl) ?_
        exact HK2_20 g3 v hI
      refine' AllReadyH.cons ?_ (fun K hK => ?_) ?_
      rotate_left
      focus (simp only [List.getElem?_toArray, List.getElem?_cons_succ, List.getElem?_cons_zero]; rfl)
      focus
        go_simp
        replace hI := hI.make2 (t := 23)
        refine hK.out _ _ (hBase _ hI.bel) (fun hHeld => ?_)
        clear hK K
        (try simp only [Act.put, List.setIfInBounds_toArray, List.set_cons_zero, List.set_cons_succ])
        generalize w'.alloc (.cells #[.int .i64 0, .int .i64 0] 23) = v at *
        generalize w'.heap.size = g4 at *
        refine wpAnyH_listed (listed' := #[true, true, true, true, true, false, true, true, false, false]) (by kernel_rfl) ?_
        exact HK2_101 g3 g4 v hI
      exact AllReadyH.nil
    case hb2_11 =>
      have hI := hpre
      refine wpAnyH_ready (rs := [5, 6]) (by kernel_rfl) (by simp) ?_
      refine' AllReadyH.cons ?_ (fun K hK => ?_) ?_
      rotate_left
      focus (simp only [List.getElem?_toArray, List.getElem?_cons_succ, List.getElem?_cons_zero]; rfl)
      focus
        go_simp
        (go_at_call 16; refine (iDo_any 2 x.lo x.hi y.lo y.hi t HF.out.2.1 _).mono ?_; rintro e v ⟨rfl, hb⟩)
        replace hI := hI.below hb
        refine hK.out _ _ (hBase _ hI.bel) (fun hHeld => ?_)
        clear hK K hb
        (try simp only [Act.put, List.setIfInBounds_toArray, List.set_cons_zero, List.set_cons_succ])
        refine wpAnyH_listed (listed' := #[true, true, true, true, true, true, false, true, false, false]) (by kernel_rfl) ?_
        exact HK2_21 g4 v hI
      refine' AllReadyH.cons ?_ (fun K hK => ?_) ?_
      rotate_left
      focus (simp only [List.getElem?_toArray, List.getElem?_cons_succ, List.getElem?_cons_zero]; rfl)
      focus
        go_simp
        replace hI := hI.make1 (t := 23)
        refine hK.out _ _ (hBase _ hI.bel) (fun hHeld => ?_)
        clear hK K
        (try simp only [Act.put, List.setIfInBounds_toArray, List.set_cons_zero, List.set_cons_succ])
        generalize w'.alloc (.cells #[.int .i64 0, .int .i64 0] 23) = v at *
        generalize w'.heap.size = g3 at *
        refine wpAnyH_listed (listed' := #[true, true, true, true, true, false, true, true, false, false]) (by kernel_rfl) ?_
        exact HK2_101 g3 g4 v hI
      exact AllReadyH.nil
    case hb2_2 =>
      have hI := hpre
      refine wpAnyH_ready (rs := [6, 7]) (by kernel_rfl) (by simp) ?_
      refine' AllReadyH.cons ?_ (fun K hK => ?_) ?_
      rotate_left
      focus (simp only [List.getElem?_toArray, List.getElem?_cons_succ, List.getElem?_cons_zero]; rfl)
      focus
        go_simp
        replace hI := hI.make1 (t := 23)
        refine hK.out _ _ (hBase _ hI.bel) (fun hHeld => ?_)
        clear hK K
        (try simp only [Act.put, List.setIfInBounds_toArray, List.set_cons_zero, List.set_cons_succ])
        generalize w'.alloc (.cells #[.int .i64 0, .int .i64 0] 23) = v at *
        generalize w'.heap.size = g3 at *
        refine wpAnyH_listed (listed' := #[true, true, true, true, true, true, true, false, false, false]) (by kernel_rfl) ?_
        exact HK2_20 g3 v hI
      refine' AllReadyH.cons ?_ (fun K hK => ?_) ?_
      rotate_left
      focus (simp only [List.getElem?_toArray, List.getElem?_cons_succ, List.getElem?_cons_zero]; rfl)
      focus
        go_simp
        replace hI := hI.make2 (t := 23)
        refine hK.out _ _ (hBase _ hI.bel) (fun hHeld => ?_)
        clear hK K
        (try simp only [Act.put, List.setIfInBounds_toArray, List.set_cons_zero, List.set_cons_succ])
        generalize w'.alloc (.cells #[.int .i64 0, .int .i64 0] 23) = v at *
        generalize w'.heap.size = g4 at *
        refine wpAnyH_listed (listed' := #[true, true, true, true, true, true, false, true, false, false]) (by kernel_rfl) ?_
        exact HK2_21 g4 v hI
      exact AllReadyH.nil
    case hb2_101 =>
      have hI := hpre
      refine wpAnyH_ready (rs := [5]) (by kernel_rfl) (by simp) ?_
      refine' AllReadyH.cons ?_ (fun K hK => ?_) ?_
      rotate_left
      focus (simp only [List.getElem?_toArray, List.getElem?_cons_succ, List.getElem?_cons_zero]; rfl)
      focus
        go_simp
        (go_at_call 16; refine (iDo_any 2 x.lo x.hi y.lo y.hi t HF.out.2.1 _).mono ?_; rintro e v ⟨rfl, hb⟩)
        replace hI := hI.below hb
        refine hK.out _ _ (hBase _ hI.bel) (fun hHeld => ?_)
        clear hK K hb
        (try simp only [Act.put, List.setIfInBounds_toArray, List.set_cons_zero, List.set_cons_succ])
        refine wpAnyH_listed (listed' := #[true, true, true, true, true, true, true, true, false, false]) (by kernel_rfl) ?_
        exact HK2_201 g3 g4 v hI
      exact AllReadyH.nil
    case hb2_20 =>
      have hI := hpre
      refine wpAnyH_ready (rs := [7]) (by kernel_rfl) (by simp) ?_
      refine' AllReadyH.cons ?_ (fun K hK => ?_) ?_
      rotate_left
      focus (simp only [List.getElem?_toArray, List.getElem?_cons_succ, List.getElem?_cons_zero]; rfl)
      focus
        go_simp
        replace hI := hI.make2 (t := 23)
        refine hK.out _ _ (hBase _ hI.bel) (fun hHeld => ?_)
        clear hK K
        (try simp only [Act.put, List.setIfInBounds_toArray, List.set_cons_zero, List.set_cons_succ])
        generalize w'.alloc (.cells #[.int .i64 0, .int .i64 0] 23) = v at *
        generalize w'.heap.size = g4 at *
        refine wpAnyH_listed (listed' := #[true, true, true, true, true, true, true, true, false, false]) (by kernel_rfl) ?_
        exact HK2_201 g3 g4 v hI
      exact AllReadyH.nil
    case hb2_21 =>
      have hI := hpre
      refine wpAnyH_ready (rs := [6]) (by kernel_rfl) (by simp) ?_
      refine' AllReadyH.cons ?_ (fun K hK => ?_) ?_
      rotate_left
      focus (simp only [List.getElem?_toArray, List.getElem?_cons_succ, List.getElem?_cons_zero]; rfl)
      focus
        go_simp
        replace hI := hI.make1 (t := 23)
        refine hK.out _ _ (hBase _ hI.bel) (fun hHeld => ?_)
        clear hK K
        (try simp only [Act.put, List.setIfInBounds_toArray, List.set_cons_zero, List.set_cons_succ])
        generalize w'.alloc (.cells #[.int .i64 0, .int .i64 0] 23) = v at *
        generalize w'.heap.size = g3 at *
        refine wpAnyH_listed (listed' := #[true, true, true, true, true, true, true, true, false, false]) (by kernel_rfl) ?_
        exact HK2_201 g3 g4 v hI
      exact AllReadyH.nil
    have hI := hpre
    obtain ⟨hBl, ⟨a0, l0, c0, d0, f0⟩, ⟨a1, l1, c1, d1, f1⟩, _, hne12, hne13, hne23⟩ := hI
    have n01 := hne12 g3 g4 rfl rfl
    clear hne12 hne13 hne23
    refine wpAnyH_ready (rs := [8]) (by kernel_rfl) (by simp) ?_
    refine' AllReadyH.cons ?_ (fun K hK => ?_) AllReadyH.nil
    rotate_left
    focus (simp only [List.getElem?_toArray, List.getElem?_cons_succ, List.getElem?_cons_zero]; rfl)
    go_simp
    replace hBl : Below _ _ ((w'.setCell ⟨g3, 0, none⟩ (.int .i64 (s.lo))).setCell ⟨g3, 1, none⟩ (.int .i64 (s.hi))) := (hBl.setCell (p := ⟨g3, 0, none⟩) a0 _).setCell (p := ⟨g3, 1, none⟩) a0 _
    have r0 : Pr (s.lo) (s.hi) g3 ((w'.setCell ⟨g3, 0, none⟩ (.int .i64 (s.lo))).setCell ⟨g3, 1, none⟩ (.int .i64 (s.hi))) := pr_set c0 d0 l0
    replace c1 := (far2 (o := 0) (o1 := 0) (o2 := 1) (v1 := .int .i64 (s.lo)) (v2 := .int .i64 (s.hi)) n01).trans c1
    replace d1 := (far2 (o := 1) (o1 := 0) (o2 := 1) (v1 := .int .i64 (s.lo)) (v2 := .int .i64 (s.hi)) n01).trans d1
    replace f1 : ∀ o, ((w'.setCell ⟨g3, 0, none⟩ (.int .i64 (s.lo))).setCell ⟨g3, 1, none⟩ (.int .i64 (s.hi))).frozen? ⟨g4, o, none⟩ = false := fun o => by simpa using f1 o
    replace l1 : g4 < ((w'.setCell ⟨g3, 0, none⟩ (.int .i64 (s.lo))).setCell ⟨g3, 1, none⟩ (.int .i64 (s.hi))).heap.size := by simpa using l1
    refine hK.out _ _ (hBase _ hBl) (fun hHeld => ?_)
    clear hK K c0 d0 f0 l0
    (try simp only [Act.put, List.setIfInBounds_toArray, List.set_cons_zero, List.set_cons_succ])
    generalize ((w'.setCell ⟨g3, 0, none⟩ (.int .i64 (s.lo))).setCell ⟨g3, 1, none⟩ (.int .i64 (s.hi))) = v0 at *
    refine wpAnyH_ready (rs := [9]) (by kernel_rfl) (by simp) ?_
    refine' AllReadyH.cons ?_ (fun K hK => ?_) AllReadyH.nil
    rotate_left
    focus (simp only [List.getElem?_toArray, List.getElem?_cons_succ, List.getElem?_cons_zero]; rfl)
    go_simp
    replace hBl : Below _ _ ((v0.setCell ⟨g4, 0, none⟩ (.int .i64 (t.lo))).setCell ⟨g4, 1, none⟩ (.int .i64 (t.hi))) := (hBl.setCell (p := ⟨g4, 0, none⟩) a1 _).setCell (p := ⟨g4, 1, none⟩) a1 _
    replace r0 := r0.far (x := .int .i64 (t.lo)) (y := .int .i64 (t.hi)) (Ne.symm n01)
    have r1 : Pr (t.lo) (t.hi) g4 ((v0.setCell ⟨g4, 0, none⟩ (.int .i64 (t.lo))).setCell ⟨g4, 1, none⟩ (.int .i64 (t.hi))) := pr_set c1 d1 l1
    refine hK.out _ _ (hBase _ hBl) (fun hHeld => ?_)
    clear hK K c1 d1 f1 l1
    (try simp only [Act.put, List.setIfInBounds_toArray, List.set_cons_zero, List.set_cons_succ])
    generalize ((v0.setCell ⟨g4, 0, none⟩ (.int .i64 (t.lo))).setCell ⟨g4, 1, none⟩ (.int .i64 (t.hi))) = w'' at *
    refine wpAnyH_done (by kernel_rfl) ?_ _
    refine HK1.out _ _ ?_
    clear HK1 hHeld a0 a1 n01
    have hbT : Bel u0 w'' := hBl
    clear hBl
    have hPg3 := r0
    have hPg4 := r1
    clear r0 r1
    clear hT
    have hT := hBase _ hbT
    clear hv x0 x1 y0 y1 hg1 hg2
    obtain ⟨hv, ⟨x0, x1⟩, ⟨y0, y1⟩, hg1, hg2⟩ := id hT
    clear hTD hBase hbT HU0
    obtain ⟨⟨s0, s1⟩, sg⟩ := id hPg3
    obtain ⟨⟨t0, t1⟩, tg⟩ := id hPg4
    have w1 : IntKind.i64.wrap (x.lo + y.lo) = x.lo + y.lo := IntWalk.i64_in _ (by omega)
    have w2 : IntKind.i64.wrap (x.hi + y.hi) = x.hi + y.hi := IntWalk.i64_in _ (by omega)
    have w3 : IntKind.i64.wrap (x.lo - y.hi) = x.lo - y.hi := IntWalk.i64_in _ (by omega)
    have w4' : IntKind.i64.wrap (x.hi - y.lo) = x.hi - y.lo := IntWalk.i64_in _ (by omega)
    have wo : IntKind.i64.wrap (1 + o % 14) = 1 + o % 14 := IntWalk.i64_in _ (by omega)
    obtain ⟨e1, q1⟩ : ∃ e, decide (-2147483648 ≤ x.lo + y.lo) = e := ⟨_, rfl⟩
    obtain ⟨e2, q2⟩ : ∃ e, decide (x.hi + y.hi < 2147483648) = e := ⟨_, rfl⟩
    obtain ⟨e3, q3⟩ : ∃ e, decide (-2147483648 ≤ x.lo - y.hi) = e := ⟨_, rfl⟩
    obtain ⟨e4, q4⟩ : ∃ e, decide (x.hi - y.lo < 2147483648) = e := ⟨_, rfl⟩
    have hs1 : e1 = true → e2 = true → (s.lo != x.lo + y.lo) = false ∧ (s.hi != x.hi + y.hi) = false := fun h h' => by
      rw [HSa.out (of_decide_eq_true (q1.trans h)) (of_decide_eq_true (q2.trans h'))]; simp
    have ht1 : e3 = true → e4 = true → (t.lo != x.lo - y.hi) = false ∧ (t.hi != x.hi - y.lo) = false := fun h h' => by
      rw [HTa.out (of_decide_eq_true (q3.trans h)) (of_decide_eq_true (q4.trans h'))]; simp
    have hcase : (e1 = false ∨ (e1 = true ∧ e2 = false) ∨ (e1 = true ∧ e2 = true)) ∧ (e3 = false ∨ (e3 = true ∧ e4 = false) ∨ (e3 = true ∧ e4 = true)) := ⟨three e1 e2, three e3 e4⟩
    obtain ⟨hc1, hc2⟩ := hcase
    rcases hc1 with rfl | ⟨rfl, rfl⟩ | ⟨rfl, rfl⟩ <;> rcases hc2 with rfl | ⟨rfl, rfl⟩ | ⟨rfl, rfl⟩
    all_goals
      (try (obtain ⟨hs2, hs3⟩ := hs1 rfl rfl))
      (try (obtain ⟨ht2, ht3⟩ := ht1 rfl rfl))
      clear hs1 ht1 HSa HTa
    case' inl.inl =>
      repeat (refine wp_seq_k (fun K hKs => ?_))
      refine wp_region_var (fun OPS hOPS => ?_)
      have d6 : (OPS[6]?).bind (·.dst) = some 57 := by (rw [hOPS]; kernel_rfl)
      have d14 : (OPS[14]?).bind (·.dst) = some 65 := by (rw [hOPS]; kernel_rfl)
      have d23 : (OPS[23]?).bind (·.dst) = some 74 := by (rw [hOPS]; kernel_rfl)
      have d34 : (OPS[34]?).bind (·.dst) = some 85 := by (rw [hOPS]; kernel_rfl)
      have d41 : (OPS[41]?).bind (·.dst) = some 92 := by (rw [hOPS]; kernel_rfl)
      have d49 : (OPS[49]?).bind (·.dst) = some 100 := by (rw [hOPS]; kernel_rfl)
      have d58 : (OPS[58]?).bind (·.dst) = some 109 := by (rw [hOPS]; kernel_rfl)
      clear hOPS
      refine wpList_plain rfl (fun K hK => ?_)
      go_simp
      refine hK _ _ ?_
      clear hK K
      (try simp only [Act.put, List.setIfInBounds_toArray, List.set_cons_zero, List.set_cons_succ])
      refine wpList_plain rfl (fun K hK => ?_)
      go_simp
      refine hK _ _ ?_
      clear hK K
      (try simp only [Act.put, List.setIfInBounds_toArray, List.set_cons_zero, List.set_cons_succ])
      refine wpList_plain rfl (fun K hK => ?_)
      go_simp
      refine hK _ _ ?_
      clear hK K
      (try simp only [Act.put, List.setIfInBounds_toArray, List.set_cons_zero, List.set_cons_succ])
      refine wpList_plain rfl (fun K hK => ?_)
      go_simp
      refine hK _ _ ?_
      clear hK K
      (try simp only [Act.put, List.setIfInBounds_toArray, List.set_cons_zero, List.set_cons_succ])
      refine wpList_plain rfl (fun K hK => ?_)
      go_simp
      refine hK _ _ ?_
      clear hK K
      (try simp only [Act.put, List.setIfInBounds_toArray, List.set_cons_zero, List.set_cons_succ])
      refine wpList_plain rfl (fun K hK => ?_)
      go_simp
      refine hK _ _ ?_
      clear hK K
      (try simp only [Act.put, List.setIfInBounds_toArray, List.set_cons_zero, List.set_cons_succ])
      refine wpList_plain rfl (fun K hK => ?_)
      go_simp
      refine hK _ _ ?_
      clear hK K
      (try simp only [Act.put, List.setIfInBounds_toArray, List.set_cons_zero, List.set_cons_succ])
      refine wpList_pass (wanted_no rfl d6 rfl rfl) (by kernel_rfl) ?_
      refine wpList_pass (wanted_no rfl d6 rfl rfl) (by kernel_rfl) ?_
      refine wpList_pass (wanted_no rfl d6 rfl rfl) (by kernel_rfl) ?_
      refine wpList_pass (wanted_no rfl d6 rfl rfl) (by kernel_rfl) ?_
      refine wpList_pass (wanted_no rfl d6 rfl rfl) (by kernel_rfl) ?_
      refine wpList_pass (wanted_no rfl d6 rfl rfl) (by kernel_rfl) ?_
      refine wpList_plain rfl (fun K hK => ?_)
      go_simp
      refine hK _ _ ?_
      clear hK K
      (try simp only [Act.put, List.setIfInBounds_toArray, List.set_cons_zero, List.set_cons_succ])
      refine wpList_plain rfl (fun K hK => ?_)
      go_simp
      refine hK _ _ ?_
      clear hK K
      (try simp only [Act.put, List.setIfInBounds_toArray, List.set_cons_zero, List.set_cons_succ])
      refine wpList_pass (wanted_no rfl d14 rfl rfl) (by kernel_rfl) ?_
      refine wpList_pass (wanted_no rfl d14 rfl rfl) (by kernel_rfl) ?_
      refine wpList_pass (wanted_no rfl d14 rfl rfl) (by kernel_rfl) ?_
      refine wpList_pass (wanted_no rfl d14 rfl rfl) (by kernel_rfl) ?_
      refine wpList_pass (wanted_no rfl d14 rfl rfl) (by kernel_rfl) ?_
      refine wpList_pass (wanted_no rfl d14 rfl rfl) (by kernel_rfl) ?_
      refine wpList_pass (wanted_no rfl d14 rfl rfl) (by kernel_rfl) ?_
      refine wpList_pass (wanted_no rfl d14 rfl rfl) (by kernel_rfl) ?_
      refine wpList_pass (wanted_no rfl d14 rfl rfl) (by kernel_rfl) ?_
      refine wpList_pass (wanted_undef rfl d23 rfl) (by kernel_rfl) ?_
      refine wpList_pass (wanted_undef rfl d23 rfl) (by kernel_rfl) ?_
      refine wpList_pass (wanted_undef rfl d23 rfl) (by kernel_rfl) ?_
      refine wpList_pass (wanted_undef rfl d23 rfl) (by kernel_rfl) ?_
      refine wpList_pass (wanted_undef rfl d23 rfl) (by kernel_rfl) ?_
      refine wpList_pass (wanted_undef rfl d23 rfl) (by kernel_rfl) ?_
      refine wpList_pass (wanted_undef rfl d23 rfl) (by kernel_rfl) ?_
      refine wpList_pass (wanted_undef rfl d23 rfl) (by kernel_rfl) ?_
      refine wpList_pass (wanted_no rfl d14 rfl rfl) (by kernel_rfl) ?_
      refine wpList_plain rfl (fun K hK => ?_)
      go_simp
      refine hK _ _ ?_
      clear hK K
      (try simp only [Act.put, List.setIfInBounds_toArray, List.set_cons_zero, List.set_cons_succ])
      refine wpList_plain rfl (fun K hK => ?_)
      go_simp
      refine hK _ _ ?_
      clear hK K
      (try simp only [Act.put, List.setIfInBounds_toArray, List.set_cons_zero, List.set_cons_succ])
      refine wpList_take (wanted_yes rfl d34 rfl rfl) (fun K hK => ?_)
      go_simp
      refine hK _ _ ?_
      clear hK K
      (try simp only [Act.put, List.setIfInBounds_toArray, List.set_cons_zero, List.set_cons_succ])
      refine wpList_take (wanted_yes rfl d34 rfl rfl) (fun K hK => ?_)
      go_simp
      refine hK _ _ ?_
      clear hK K
      (try simp only [Act.put, List.setIfInBounds_toArray, List.set_cons_zero, List.set_cons_succ])
      refine wpList_take (wanted_yes rfl d34 rfl rfl) (fun K hK => ?_)
      go_simp
      refine hK _ _ ?_
      clear hK K
      (try simp only [Act.put, List.setIfInBounds_toArray, List.set_cons_zero, List.set_cons_succ])
      refine wpList_take (wanted_yes rfl d34 rfl rfl) (fun K hK => ?_)
      go_simp
      refine hK _ _ ?_
      clear hK K
      (try simp only [Act.put, List.setIfInBounds_toArray, List.set_cons_zero, List.set_cons_succ])
      refine wpList_take (wanted_yes rfl d34 rfl rfl) (fun K hK => ?_)
      go_simp
      refine hK _ _ ?_
      clear hK K
      (try simp only [Act.put, List.setIfInBounds_toArray, List.set_cons_zero, List.set_cons_succ])
      refine wpList_take (wanted_yes rfl d34 rfl rfl) (fun K hK => ?_)
      go_simp
      refine hK _ _ ?_
      clear hK K
      (try simp only [Act.put, List.setIfInBounds_toArray, List.set_cons_zero, List.set_cons_succ])
      refine wpList_take (wanted_yes rfl d34 rfl rfl) (fun K hK => ?_)
      go_simp
      refine hK _ _ ?_
      clear hK K
      (try simp only [Act.put, List.setIfInBounds_toArray, List.set_cons_zero, List.set_cons_succ])
      refine wpList_pass (wanted_no rfl d41 rfl rfl) (by kernel_rfl) ?_
      refine wpList_pass (wanted_no rfl d41 rfl rfl) (by kernel_rfl) ?_
      refine wpList_pass (wanted_no rfl d41 rfl rfl) (by kernel_rfl) ?_
      refine wpList_pass (wanted_no rfl d41 rfl rfl) (by kernel_rfl) ?_
      refine wpList_pass (wanted_no rfl d41 rfl rfl) (by kernel_rfl) ?_
      refine wpList_pass (wanted_no rfl d41 rfl rfl) (by kernel_rfl) ?_
      refine wpList_take (wanted_yes rfl d34 rfl rfl) (fun K hK => ?_)
      go_simp
      refine hK _ _ ?_
      clear hK K
      (try simp only [Act.put, List.setIfInBounds_toArray, List.set_cons_zero, List.set_cons_succ])
      refine wpList_take (wanted_yes rfl d34 rfl rfl) (fun K hK => ?_)
      go_simp
      refine hK _ _ ?_
      clear hK K
      (try simp only [Act.put, List.setIfInBounds_toArray, List.set_cons_zero, List.set_cons_succ])
      refine wpList_pass (wanted_no rfl d49 rfl rfl) (by kernel_rfl) ?_
      refine wpList_pass (wanted_no rfl d49 rfl rfl) (by kernel_rfl) ?_
      refine wpList_pass (wanted_no rfl d49 rfl rfl) (by kernel_rfl) ?_
      refine wpList_pass (wanted_no rfl d49 rfl rfl) (by kernel_rfl) ?_
      refine wpList_pass (wanted_no rfl d49 rfl rfl) (by kernel_rfl) ?_
      refine wpList_pass (wanted_no rfl d49 rfl rfl) (by kernel_rfl) ?_
      refine wpList_pass (wanted_no rfl d49 rfl rfl) (by kernel_rfl) ?_
      refine wpList_pass (wanted_no rfl d49 rfl rfl) (by kernel_rfl) ?_
      refine wpList_pass (wanted_no rfl d49 rfl rfl) (by kernel_rfl) ?_
      refine wpList_pass (wanted_undef rfl d58 rfl) (by kernel_rfl) ?_
      refine wpList_pass (wanted_undef rfl d58 rfl) (by kernel_rfl) ?_
      refine wpList_pass (wanted_undef rfl d58 rfl) (by kernel_rfl) ?_
      refine wpList_pass (wanted_undef rfl d58 rfl) (by kernel_rfl) ?_
      refine wpList_pass (wanted_undef rfl d58 rfl) (by kernel_rfl) ?_
      refine wpList_pass (wanted_undef rfl d58 rfl) (by kernel_rfl) ?_
      refine wpList_pass (wanted_undef rfl d58 rfl) (by kernel_rfl) ?_
      refine wpList_pass (wanted_undef rfl d58 rfl) (by kernel_rfl) ?_
      refine wpList_pass (wanted_no rfl d49 rfl rfl) (by kernel_rfl) ?_
      refine wpList_take (wanted_yes rfl d34 rfl rfl) (fun K hK => ?_)
      go_simp
      refine hK _ _ ?_
      clear hK K
      (try simp only [Act.put, List.setIfInBounds_toArray, List.set_cons_zero, List.set_cons_succ])
      refine wpList_plain rfl (fun K hK => ?_)
      go_simp
      refine hK _ _ ?_
      clear hK K
      (try simp only [Act.put, List.setIfInBounds_toArray, List.set_cons_zero, List.set_cons_succ])
      refine wpList_nil ?_
      refine hKs _ _ ?_
    case' inl.inr.inl =>
      repeat (refine wp_seq_k (fun K hKs => ?_))
      refine wp_region_var (fun OPS hOPS => ?_)
      have d6 : (OPS[6]?).bind (·.dst) = some 57 := by (rw [hOPS]; kernel_rfl)
      have d14 : (OPS[14]?).bind (·.dst) = some 65 := by (rw [hOPS]; kernel_rfl)
      have d23 : (OPS[23]?).bind (·.dst) = some 74 := by (rw [hOPS]; kernel_rfl)
      have d34 : (OPS[34]?).bind (·.dst) = some 85 := by (rw [hOPS]; kernel_rfl)
      have d41 : (OPS[41]?).bind (·.dst) = some 92 := by (rw [hOPS]; kernel_rfl)
      have d49 : (OPS[49]?).bind (·.dst) = some 100 := by (rw [hOPS]; kernel_rfl)
      have d58 : (OPS[58]?).bind (·.dst) = some 109 := by (rw [hOPS]; kernel_rfl)
      clear hOPS
      refine wpList_plain rfl (fun K hK => ?_)
      go_simp
      refine hK _ _ ?_
      clear hK K
      (try simp only [Act.put, List.setIfInBounds_toArray, List.set_cons_zero, List.set_cons_succ])
      refine wpList_plain rfl (fun K hK => ?_)
      go_simp
      refine hK _ _ ?_
      clear hK K
      (try simp only [Act.put, List.setIfInBounds_toArray, List.set_cons_zero, List.set_cons_succ])
      refine wpList_plain rfl (fun K hK => ?_)
      go_simp
      refine hK _ _ ?_
      clear hK K
      (try simp only [Act.put, List.setIfInBounds_toArray, List.set_cons_zero, List.set_cons_succ])
      refine wpList_plain rfl (fun K hK => ?_)
      go_simp
      refine hK _ _ ?_
      clear hK K
      (try simp only [Act.put, List.setIfInBounds_toArray, List.set_cons_zero, List.set_cons_succ])
      refine wpList_plain rfl (fun K hK => ?_)
      go_simp
      refine hK _ _ ?_
      clear hK K
      (try simp only [Act.put, List.setIfInBounds_toArray, List.set_cons_zero, List.set_cons_succ])
      refine wpList_plain rfl (fun K hK => ?_)
      go_simp
      refine hK _ _ ?_
      clear hK K
      (try simp only [Act.put, List.setIfInBounds_toArray, List.set_cons_zero, List.set_cons_succ])
      refine wpList_plain rfl (fun K hK => ?_)
      go_simp
      refine hK _ _ ?_
      clear hK K
      (try simp only [Act.put, List.setIfInBounds_toArray, List.set_cons_zero, List.set_cons_succ])
      refine wpList_pass (wanted_no rfl d6 rfl rfl) (by kernel_rfl) ?_
      refine wpList_pass (wanted_no rfl d6 rfl rfl) (by kernel_rfl) ?_
      refine wpList_pass (wanted_no rfl d6 rfl rfl) (by kernel_rfl) ?_
      refine wpList_pass (wanted_no rfl d6 rfl rfl) (by kernel_rfl) ?_
      refine wpList_pass (wanted_no rfl d6 rfl rfl) (by kernel_rfl) ?_
      refine wpList_pass (wanted_no rfl d6 rfl rfl) (by kernel_rfl) ?_
      refine wpList_plain rfl (fun K hK => ?_)
      go_simp
      refine hK _ _ ?_
      clear hK K
      (try simp only [Act.put, List.setIfInBounds_toArray, List.set_cons_zero, List.set_cons_succ])
      refine wpList_plain rfl (fun K hK => ?_)
      go_simp
      refine hK _ _ ?_
      clear hK K
      (try simp only [Act.put, List.setIfInBounds_toArray, List.set_cons_zero, List.set_cons_succ])
      refine wpList_pass (wanted_no rfl d14 rfl rfl) (by kernel_rfl) ?_
      refine wpList_pass (wanted_no rfl d14 rfl rfl) (by kernel_rfl) ?_
      refine wpList_pass (wanted_no rfl d14 rfl rfl) (by kernel_rfl) ?_
      refine wpList_pass (wanted_no rfl d14 rfl rfl) (by kernel_rfl) ?_
      refine wpList_pass (wanted_no rfl d14 rfl rfl) (by kernel_rfl) ?_
      refine wpList_pass (wanted_no rfl d14 rfl rfl) (by kernel_rfl) ?_
      refine wpList_pass (wanted_no rfl d14 rfl rfl) (by kernel_rfl) ?_
      refine wpList_pass (wanted_no rfl d14 rfl rfl) (by kernel_rfl) ?_
      refine wpList_pass (wanted_no rfl d14 rfl rfl) (by kernel_rfl) ?_
      refine wpList_pass (wanted_undef rfl d23 rfl) (by kernel_rfl) ?_
      refine wpList_pass (wanted_undef rfl d23 rfl) (by kernel_rfl) ?_
      refine wpList_pass (wanted_undef rfl d23 rfl) (by kernel_rfl) ?_
      refine wpList_pass (wanted_undef rfl d23 rfl) (by kernel_rfl) ?_
      refine wpList_pass (wanted_undef rfl d23 rfl) (by kernel_rfl) ?_
      refine wpList_pass (wanted_undef rfl d23 rfl) (by kernel_rfl) ?_
      refine wpList_pass (wanted_undef rfl d23 rfl) (by kernel_rfl) ?_
      refine wpList_pass (wanted_undef rfl d23 rfl) (by kernel_rfl) ?_
      refine wpList_pass (wanted_no rfl d14 rfl rfl) (by kernel_rfl) ?_
      refine wpList_plain rfl (fun K hK => ?_)
      go_simp
      refine hK _ _ ?_
      clear hK K
      (try simp only [Act.put, List.setIfInBounds_toArray, List.set_cons_zero, List.set_cons_succ])
      refine wpList_plain rfl (fun K hK => ?_)
      go_simp
      refine hK _ _ ?_
      clear hK K
      (try simp only [Act.put, List.setIfInBounds_toArray, List.set_cons_zero, List.set_cons_succ])
      refine wpList_take (wanted_yes rfl d34 rfl rfl) (fun K hK => ?_)
      go_simp
      refine hK _ _ ?_
      clear hK K
      (try simp only [Act.put, List.setIfInBounds_toArray, List.set_cons_zero, List.set_cons_succ])
      refine wpList_take (wanted_yes rfl d34 rfl rfl) (fun K hK => ?_)
      go_simp
      refine hK _ _ ?_
      clear hK K
      (try simp only [Act.put, List.setIfInBounds_toArray, List.set_cons_zero, List.set_cons_succ])
      refine wpList_take (wanted_yes rfl d34 rfl rfl) (fun K hK => ?_)
      go_simp
      refine hK _ _ ?_
      clear hK K
      (try simp only [Act.put, List.setIfInBounds_toArray, List.set_cons_zero, List.set_cons_succ])
      refine wpList_take (wanted_yes rfl d34 rfl rfl) (fun K hK => ?_)
      go_simp
      refine hK _ _ ?_
      clear hK K
      (try simp only [Act.put, List.setIfInBounds_toArray, List.set_cons_zero, List.set_cons_succ])
      refine wpList_take (wanted_yes rfl d34 rfl rfl) (fun K hK => ?_)
      go_simp
      refine hK _ _ ?_
      clear hK K
      (try simp only [Act.put, List.setIfInBounds_toArray, List.set_cons_zero, List.set_cons_succ])
      refine wpList_take (wanted_yes rfl d34 rfl rfl) (fun K hK => ?_)
      go_simp
      refine hK _ _ ?_
      clear hK K
      (try simp only [Act.put, List.setIfInBounds_toArray, List.set_cons_zero, List.set_cons_succ])
      refine wpList_take (wanted_yes rfl d34 rfl rfl) (fun K hK => ?_)
      go_simp
      refine hK _ _ ?_
      clear hK K
      (try simp only [Act.put, List.setIfInBounds_toArray, List.set_cons_zero, List.set_cons_succ])
      refine wpList_take (wanted_yes rfl d41 rfl rfl) (fun K hK => ?_)
      go_simp
      refine hK _ _ ?_
      clear hK K
      (try simp only [Act.put, List.setIfInBounds_toArray, List.set_cons_zero, List.set_cons_succ])
      refine wpList_take (wanted_yes rfl d41 rfl rfl) (fun K hK => ?_)
      go_simp
      refine hK _ _ ?_
      clear hK K
      (try simp only [Act.put, List.setIfInBounds_toArray, List.set_cons_zero, List.set_cons_succ])
      refine wpList_take (wanted_yes rfl d41 rfl rfl) (fun K hK => ?_)
      go_simp
      refine hK _ _ ?_
      clear hK K
      (try simp only [Act.put, List.setIfInBounds_toArray, List.set_cons_zero, List.set_cons_succ])
      refine wpList_take (wanted_yes rfl d41 rfl rfl) (fun K hK => ?_)
      go_simp
      refine hK _ _ ?_
      clear hK K
      (try simp only [Act.put, List.setIfInBounds_toArray, List.set_cons_zero, List.set_cons_succ])
      refine wpList_take (wanted_yes rfl d41 rfl rfl) (fun K hK => ?_)
      go_simp
      refine hK _ _ ?_
      clear hK K
      (try simp only [Act.put, List.setIfInBounds_toArray, List.set_cons_zero, List.set_cons_succ])
      refine wpList_take (wanted_yes rfl d41 rfl rfl) (fun K hK => ?_)
      go_simp
      refine hK _ _ ?_
      clear hK K
      (try simp only [Act.put, List.setIfInBounds_toArray, List.set_cons_zero, List.set_cons_succ])
      refine wpList_take (wanted_yes rfl d34 rfl rfl) (fun K hK => ?_)
      go_simp
      refine hK _ _ ?_
      clear hK K
      (try simp only [Act.put, List.setIfInBounds_toArray, List.set_cons_zero, List.set_cons_succ])
      refine wpList_take (wanted_yes rfl d34 rfl rfl) (fun K hK => ?_)
      go_simp
      refine hK _ _ ?_
      clear hK K
      (try simp only [Act.put, List.setIfInBounds_toArray, List.set_cons_zero, List.set_cons_succ])
      refine wpList_pass (wanted_no rfl d49 rfl rfl) (by kernel_rfl) ?_
      refine wpList_pass (wanted_no rfl d49 rfl rfl) (by kernel_rfl) ?_
      refine wpList_pass (wanted_no rfl d49 rfl rfl) (by kernel_rfl) ?_
      refine wpList_pass (wanted_no rfl d49 rfl rfl) (by kernel_rfl) ?_
      refine wpList_pass (wanted_no rfl d49 rfl rfl) (by kernel_rfl) ?_
      refine wpList_pass (wanted_no rfl d49 rfl rfl) (by kernel_rfl) ?_
      refine wpList_pass (wanted_no rfl d49 rfl rfl) (by kernel_rfl) ?_
      refine wpList_pass (wanted_no rfl d49 rfl rfl) (by kernel_rfl) ?_
      refine wpList_pass (wanted_no rfl d49 rfl rfl) (by kernel_rfl) ?_
      refine wpList_pass (wanted_undef rfl d58 rfl) (by kernel_rfl) ?_
      refine wpList_pass (wanted_undef rfl d58 rfl) (by kernel_rfl) ?_
      refine wpList_pass (wanted_undef rfl d58 rfl) (by kernel_rfl) ?_
      refine wpList_pass (wanted_undef rfl d58 rfl) (by kernel_rfl) ?_
      refine wpList_pass (wanted_undef rfl d58 rfl) (by kernel_rfl) ?_
      refine wpList_pass (wanted_undef rfl d58 rfl) (by kernel_rfl) ?_
      refine wpList_pass (wanted_undef rfl d58 rfl) (by kernel_rfl) ?_
      refine wpList_pass (wanted_undef rfl d58 rfl) (by kernel_rfl) ?_
      refine wpList_pass (wanted_no rfl d49 rfl rfl) (by kernel_rfl) ?_
      refine wpList_take (wanted_yes rfl d34 rfl rfl) (fun K hK => ?_)
      go_simp
      refine hK _ _ ?_
      clear hK K
      (try simp only [Act.put, List.setIfInBounds_toArray, List.set_cons_zero, List.set_cons_succ])
      refine wpList_plain rfl (fun K hK => ?_)
      go_simp
      refine hK _ _ ?_
      clear hK K
      (try simp only [Act.put, List.setIfInBounds_toArray, List.set_cons_zero, List.set_cons_succ])
      refine wpList_nil ?_
      refine hKs _ _ ?_
    case' inl.inr.inr =>
      repeat (refine wp_seq_k (fun K hKs => ?_))
      refine wp_region_var (fun OPS hOPS => ?_)
      have d6 : (OPS[6]?).bind (·.dst) = some 57 := by (rw [hOPS]; kernel_rfl)
      have d14 : (OPS[14]?).bind (·.dst) = some 65 := by (rw [hOPS]; kernel_rfl)
      have d23 : (OPS[23]?).bind (·.dst) = some 74 := by (rw [hOPS]; kernel_rfl)
      have d34 : (OPS[34]?).bind (·.dst) = some 85 := by (rw [hOPS]; kernel_rfl)
      have d41 : (OPS[41]?).bind (·.dst) = some 92 := by (rw [hOPS]; kernel_rfl)
      have d49 : (OPS[49]?).bind (·.dst) = some 100 := by (rw [hOPS]; kernel_rfl)
      have d58 : (OPS[58]?).bind (·.dst) = some 109 := by (rw [hOPS]; kernel_rfl)
      clear hOPS
      refine wpList_plain rfl (fun K hK => ?_)
      go_simp
      refine hK _ _ ?_
      clear hK K
      (try simp only [Act.put, List.setIfInBounds_toArray, List.set_cons_zero, List.set_cons_succ])
      refine wpList_plain rfl (fun K hK => ?_)
      go_simp
      refine hK _ _ ?_
      clear hK K
      (try simp only [Act.put, List.setIfInBounds_toArray, List.set_cons_zero, List.set_cons_succ])
      refine wpList_plain rfl (fun K hK => ?_)
      go_simp
      refine hK _ _ ?_
      clear hK K
      (try simp only [Act.put, List.setIfInBounds_toArray, List.set_cons_zero, List.set_cons_succ])
      refine wpList_plain rfl (fun K hK => ?_)
      go_simp
      refine hK _ _ ?_
      clear hK K
      (try simp only [Act.put, List.setIfInBounds_toArray, List.set_cons_zero, List.set_cons_succ])
      refine wpList_plain rfl (fun K hK => ?_)
      go_simp
      refine hK _ _ ?_
      clear hK K
      (try simp only [Act.put, List.setIfInBounds_toArray, List.set_cons_zero, List.set_cons_succ])
      refine wpList_plain rfl (fun K hK => ?_)
      go_simp
      refine hK _ _ ?_
      clear hK K
      (try simp only [Act.put, List.setIfInBounds_toArray, List.set_cons_zero, List.set_cons_succ])
      refine wpList_plain rfl (fun K hK => ?_)
      go_simp
      refine hK _ _ ?_
      clear hK K
      (try simp only [Act.put, List.setIfInBounds_toArray, List.set_cons_zero, List.set_cons_succ])
      refine wpList_pass (wanted_no rfl d6 rfl rfl) (by kernel_rfl) ?_
      refine wpList_pass (wanted_no rfl d6 rfl rfl) (by kernel_rfl) ?_
      refine wpList_pass (wanted_no rfl d6 rfl rfl) (by kernel_rfl) ?_
      refine wpList_pass (wanted_no rfl d6 rfl rfl) (by kernel_rfl) ?_
      refine wpList_pass (wanted_no rfl d6 rfl rfl) (by kernel_rfl) ?_
      refine wpList_pass (wanted_no rfl d6 rfl rfl) (by kernel_rfl) ?_
      refine wpList_plain rfl (fun K hK => ?_)
      go_simp
      refine hK _ _ ?_
      clear hK K
      (try simp only [Act.put, List.setIfInBounds_toArray, List.set_cons_zero, List.set_cons_succ])
      refine wpList_plain rfl (fun K hK => ?_)
      go_simp
      refine hK _ _ ?_
      clear hK K
      (try simp only [Act.put, List.setIfInBounds_toArray, List.set_cons_zero, List.set_cons_succ])
      refine wpList_pass (wanted_no rfl d14 rfl rfl) (by kernel_rfl) ?_
      refine wpList_pass (wanted_no rfl d14 rfl rfl) (by kernel_rfl) ?_
      refine wpList_pass (wanted_no rfl d14 rfl rfl) (by kernel_rfl) ?_
      refine wpList_pass (wanted_no rfl d14 rfl rfl) (by kernel_rfl) ?_
      refine wpList_pass (wanted_no rfl d14 rfl rfl) (by kernel_rfl) ?_
      refine wpList_pass (wanted_no rfl d14 rfl rfl) (by kernel_rfl) ?_
      refine wpList_pass (wanted_no rfl d14 rfl rfl) (by kernel_rfl) ?_
      refine wpList_pass (wanted_no rfl d14 rfl rfl) (by kernel_rfl) ?_
      refine wpList_pass (wanted_no rfl d14 rfl rfl) (by kernel_rfl) ?_
      refine wpList_pass (wanted_undef rfl d23 rfl) (by kernel_rfl) ?_
      refine wpList_pass (wanted_undef rfl d23 rfl) (by kernel_rfl) ?_
      refine wpList_pass (wanted_undef rfl d23 rfl) (by kernel_rfl) ?_
      refine wpList_pass (wanted_undef rfl d23 rfl) (by kernel_rfl) ?_
      refine wpList_pass (wanted_undef rfl d23 rfl) (by kernel_rfl) ?_
      refine wpList_pass (wanted_undef rfl d23 rfl) (by kernel_rfl) ?_
      refine wpList_pass (wanted_undef rfl d23 rfl) (by kernel_rfl) ?_
      refine wpList_pass (wanted_undef rfl d23 rfl) (by kernel_rfl) ?_
      refine wpList_pass (wanted_no rfl d14 rfl rfl) (by kernel_rfl) ?_
      refine wpList_plain rfl (fun K hK => ?_)
      go_simp
      refine hK _ _ ?_
      clear hK K
      (try simp only [Act.put, List.setIfInBounds_toArray, List.set_cons_zero, List.set_cons_succ])
      refine wpList_plain rfl (fun K hK => ?_)
      go_simp
      refine hK _ _ ?_
      clear hK K
      (try simp only [Act.put, List.setIfInBounds_toArray, List.set_cons_zero, List.set_cons_succ])
      refine wpList_take (wanted_yes rfl d34 rfl rfl) (fun K hK => ?_)
      go_simp
      refine hK _ _ ?_
      clear hK K
      (try simp only [Act.put, List.setIfInBounds_toArray, List.set_cons_zero, List.set_cons_succ])
      refine wpList_take (wanted_yes rfl d34 rfl rfl) (fun K hK => ?_)
      go_simp
      refine hK _ _ ?_
      clear hK K
      (try simp only [Act.put, List.setIfInBounds_toArray, List.set_cons_zero, List.set_cons_succ])
      refine wpList_take (wanted_yes rfl d34 rfl rfl) (fun K hK => ?_)
      go_simp
      refine hK _ _ ?_
      clear hK K
      (try simp only [Act.put, List.setIfInBounds_toArray, List.set_cons_zero, List.set_cons_succ])
      refine wpList_take (wanted_yes rfl d34 rfl rfl) (fun K hK => ?_)
      go_simp
      refine hK _ _ ?_
      clear hK K
      (try simp only [Act.put, List.setIfInBounds_toArray, List.set_cons_zero, List.set_cons_succ])
      refine wpList_take (wanted_yes rfl d34 rfl rfl) (fun K hK => ?_)
      go_simp
      refine hK _ _ ?_
      clear hK K
      (try simp only [Act.put, List.setIfInBounds_toArray, List.set_cons_zero, List.set_cons_succ])
      refine wpList_take (wanted_yes rfl d34 rfl rfl) (fun K hK => ?_)
      go_simp
      refine hK _ _ ?_
      clear hK K
      (try simp only [Act.put, List.setIfInBounds_toArray, List.set_cons_zero, List.set_cons_succ])
      refine wpList_take (wanted_yes rfl d34 rfl rfl) (fun K hK => ?_)
      go_simp
      refine hK _ _ ?_
      clear hK K
      (try simp only [Act.put, List.setIfInBounds_toArray, List.set_cons_zero, List.set_cons_succ])
      refine wpList_take (wanted_yes rfl d41 rfl rfl) (fun K hK => ?_)
      go_simp
      refine hK _ _ ?_
      clear hK K
      (try simp only [Act.put, List.setIfInBounds_toArray, List.set_cons_zero, List.set_cons_succ])
      refine wpList_take (wanted_yes rfl d41 rfl rfl) (fun K hK => ?_)
      go_simp
      refine hK _ _ ?_
      clear hK K
      (try simp only [Act.put, List.setIfInBounds_toArray, List.set_cons_zero, List.set_cons_succ])
      refine wpList_take (wanted_yes rfl d41 rfl rfl) (fun K hK => ?_)
      go_simp
      refine hK _ _ ?_
      clear hK K
      (try simp only [Act.put, List.setIfInBounds_toArray, List.set_cons_zero, List.set_cons_succ])
      refine wpList_take (wanted_yes rfl d41 rfl rfl) (fun K hK => ?_)
      go_simp
      refine hK _ _ ?_
      clear hK K
      (try simp only [Act.put, List.setIfInBounds_toArray, List.set_cons_zero, List.set_cons_succ])
      refine wpList_take (wanted_yes rfl d41 rfl rfl) (fun K hK => ?_)
      go_simp
      refine hK _ _ ?_
      clear hK K
      (try simp only [Act.put, List.setIfInBounds_toArray, List.set_cons_zero, List.set_cons_succ])
      refine wpList_take (wanted_yes rfl d41 rfl rfl) (fun K hK => ?_)
      go_simp
      refine hK _ _ ?_
      clear hK K
      (try simp only [Act.put, List.setIfInBounds_toArray, List.set_cons_zero, List.set_cons_succ])
      refine wpList_take (wanted_yes rfl d34 rfl rfl) (fun K hK => ?_)
      go_simp
      refine hK _ _ ?_
      clear hK K
      (try simp only [Act.put, List.setIfInBounds_toArray, List.set_cons_zero, List.set_cons_succ])
      refine wpList_take (wanted_yes rfl d34 rfl rfl) (fun K hK => ?_)
      go_simp
      refine hK _ _ ?_
      clear hK K
      (try simp only [Act.put, List.setIfInBounds_toArray, List.set_cons_zero, List.set_cons_succ])
      refine wpList_take (wanted_yes rfl d49 rfl rfl) (fun K hK => ?_)
      go_simp
      refine hK _ _ ?_
      clear hK K
      (try simp only [Act.put, List.setIfInBounds_toArray, List.set_cons_zero, List.set_cons_succ])
      refine wpList_take (wanted_yes rfl d49 rfl rfl) (fun K hK => ?_)
      go_simp
      refine hK _ _ ?_
      clear hK K
      (try simp only [Act.put, List.setIfInBounds_toArray, List.set_cons_zero, List.set_cons_succ])
      refine wpList_take (wanted_yes rfl d49 rfl rfl) (fun K hK => ?_)
      go_simp
      refine hK _ _ ?_
      clear hK K
      (try simp only [Act.put, List.setIfInBounds_toArray, List.set_cons_zero, List.set_cons_succ])
      refine wpList_take (wanted_yes rfl d49 rfl rfl) (fun K hK => ?_)
      go_simp
      refine hK _ _ ?_
      clear hK K
      (try simp only [Act.put, List.setIfInBounds_toArray, List.set_cons_zero, List.set_cons_succ])
      refine wpList_take (wanted_yes rfl d49 rfl rfl) (fun K hK => ?_)
      go_simp
      refine hK _ _ ?_
      clear hK K
      (try simp only [Act.put, List.setIfInBounds_toArray, List.set_cons_zero, List.set_cons_succ])
      refine wpList_take (wanted_yes rfl d49 rfl rfl) (fun K hK => ?_)
      go_simp
      refine hK _ _ ?_
      clear hK K
      (try simp only [Act.put, List.setIfInBounds_toArray, List.set_cons_zero, List.set_cons_succ])
      refine wpList_take (wanted_yes rfl d49 rfl rfl) (fun K hK => ?_)
      go_simp
      refine hK _ _ ?_
      clear hK K
      (try simp only [Act.put, List.setIfInBounds_toArray, List.set_cons_zero, List.set_cons_succ])
      refine wpList_take (wanted_yes rfl d49 rfl rfl) (fun K hK => ?_)
      go_simp
      refine hK _ _ ?_
      clear hK K
      (try simp only [Act.put, List.setIfInBounds_toArray, List.set_cons_zero, List.set_cons_succ])
      refine wpList_take (wanted_yes rfl d49 rfl rfl) (fun K hK => ?_)
      go_simp
      refine hK _ _ ?_
      clear hK K
      (try simp only [Act.put, List.setIfInBounds_toArray, List.set_cons_zero, List.set_cons_succ])
      refine wpList_take (wanted_yes rfl d58 rfl rfl) (fun K hK => ?_)
      go_simp
      refine hK _ _ ?_
      clear hK K
      (try simp only [Act.put, List.setIfInBounds_toArray, List.set_cons_zero, List.set_cons_succ])
      refine wpList_take (wanted_yes rfl d58 rfl rfl) (fun K hK => ?_)
      go_simp
      refine hK _ _ ?_
      clear hK K
      (try simp only [Act.put, List.setIfInBounds_toArray, List.set_cons_zero, List.set_cons_succ])
      refine wpList_take (wanted_yes rfl d58 rfl rfl) (fun K hK => ?_)
      go_simp
      refine hK _ _ ?_
      clear hK K
      (try simp only [Act.put, List.setIfInBounds_toArray, List.set_cons_zero, List.set_cons_succ])
      refine wpList_take (wanted_yes rfl d58 rfl rfl) (fun K hK => ?_)
      go_simp
      refine hK _ _ ?_
      clear hK K
      (try simp only [Act.put, List.setIfInBounds_toArray, List.set_cons_zero, List.set_cons_succ])
      refine wpList_take (wanted_yes rfl d58 rfl rfl) (fun K hK => ?_)
      go_simp
      refine hK _ _ ?_
      clear hK K
      (try simp only [Act.put, List.setIfInBounds_toArray, List.set_cons_zero, List.set_cons_succ])
      refine wpList_take (wanted_yes rfl d58 rfl rfl) (fun K hK => ?_)
      go_simp
      refine hK _ _ ?_
      clear hK K
      (try simp only [Act.put, List.setIfInBounds_toArray, List.set_cons_zero, List.set_cons_succ])
      refine wpList_take (wanted_yes rfl d58 rfl rfl) (fun K hK => ?_)
      go_simp
      refine hK _ _ ?_
      clear hK K
      (try simp only [Act.put, List.setIfInBounds_toArray, List.set_cons_zero, List.set_cons_succ])
      refine wpList_take (wanted_yes rfl d58 rfl rfl) (fun K hK => ?_)
      go_simp
      refine hK _ _ ?_
      clear hK K
      (try simp only [Act.put, List.setIfInBounds_toArray, List.set_cons_zero, List.set_cons_succ])
      refine wpList_take (wanted_yes rfl d49 rfl rfl) (fun K hK => ?_)
      go_simp
      refine hK _ _ ?_
      clear hK K
      (try simp only [Act.put, List.setIfInBounds_toArray, List.set_cons_zero, List.set_cons_succ])
      refine wpList_take (wanted_yes rfl d34 rfl rfl) (fun K hK => ?_)
      go_simp
      refine hK _ _ ?_
      clear hK K
      (try simp only [Act.put, List.setIfInBounds_toArray, List.set_cons_zero, List.set_cons_succ])
      refine wpList_plain rfl (fun K hK => ?_)
      go_simp
      refine hK _ _ ?_
      clear hK K
      (try simp only [Act.put, List.setIfInBounds_toArray, List.set_cons_zero, List.set_cons_succ])
      refine wpList_nil ?_
      refine hKs _ _ ?_
    case' inr.inl.inl =>
      repeat (refine wp_seq_k (fun K hKs => ?_))
      refine wp_region_var (fun OPS hOPS => ?_)
      have d6 : (OPS[6]?).bind (·.dst) = some 57 := by (rw [hOPS]; kernel_rfl)
      have d14 : (OPS[14]?).bind (·.dst) = some 65 := by (rw [hOPS]; kernel_rfl)
      have d23 : (OPS[23]?).bind (·.dst) = some 74 := by (rw [hOPS]; kernel_rfl)
      have d34 : (OPS[34]?).bind (·.dst) = some 85 := by (rw [hOPS]; kernel_rfl)
      have d41 : (OPS[41]?).bind (·.dst) = some 92 := by (rw [hOPS]; kernel_rfl)
      have d49 : (OPS[49]?).bind (·.dst) = some 100 := by (rw [hOPS]; kernel_rfl)
      have d58 : (OPS[58]?).bind (·.dst) = some 109 := by (rw [hOPS]; kernel_rfl)
      clear hOPS
      refine wpList_plain rfl (fun K hK => ?_)
      go_simp
      refine hK _ _ ?_
      clear hK K
      (try simp only [Act.put, List.setIfInBounds_toArray, List.set_cons_zero, List.set_cons_succ])
      refine wpList_plain rfl (fun K hK => ?_)
      go_simp
      refine hK _ _ ?_
      clear hK K
      (try simp only [Act.put, List.setIfInBounds_toArray, List.set_cons_zero, List.set_cons_succ])
      refine wpList_plain rfl (fun K hK => ?_)
      go_simp
      refine hK _ _ ?_
      clear hK K
      (try simp only [Act.put, List.setIfInBounds_toArray, List.set_cons_zero, List.set_cons_succ])
      refine wpList_plain rfl (fun K hK => ?_)
      go_simp
      refine hK _ _ ?_
      clear hK K
      (try simp only [Act.put, List.setIfInBounds_toArray, List.set_cons_zero, List.set_cons_succ])
      refine wpList_plain rfl (fun K hK => ?_)
      go_simp
      refine hK _ _ ?_
      clear hK K
      (try simp only [Act.put, List.setIfInBounds_toArray, List.set_cons_zero, List.set_cons_succ])
      refine wpList_plain rfl (fun K hK => ?_)
      go_simp
      refine hK _ _ ?_
      clear hK K
      (try simp only [Act.put, List.setIfInBounds_toArray, List.set_cons_zero, List.set_cons_succ])
      refine wpList_plain rfl (fun K hK => ?_)
      go_simp
      refine hK _ _ ?_
      clear hK K
      (try simp only [Act.put, List.setIfInBounds_toArray, List.set_cons_zero, List.set_cons_succ])
      refine wpList_take (wanted_yes rfl d6 rfl rfl) (fun K hK => ?_)
      go_simp
      refine hK _ _ ?_
      clear hK K
      (try simp only [Act.put, List.setIfInBounds_toArray, List.set_cons_zero, List.set_cons_succ])
      refine wpList_take (wanted_yes rfl d6 rfl rfl) (fun K hK => ?_)
      go_simp
      refine hK _ _ ?_
      clear hK K
      (try simp only [Act.put, List.setIfInBounds_toArray, List.set_cons_zero, List.set_cons_succ])
      refine wpList_take (wanted_yes rfl d6 rfl rfl) (fun K hK => ?_)
      go_simp
      refine hK _ _ ?_
      clear hK K
      (try simp only [Act.put, List.setIfInBounds_toArray, List.set_cons_zero, List.set_cons_succ])
      refine wpList_take (wanted_yes rfl d6 rfl rfl) (fun K hK => ?_)
      go_simp
      refine hK _ _ ?_
      clear hK K
      (try simp only [Act.put, List.setIfInBounds_toArray, List.set_cons_zero, List.set_cons_succ])
      refine wpList_take (wanted_yes rfl d6 rfl rfl) (fun K hK => ?_)
      go_simp
      refine hK _ _ ?_
      clear hK K
      (try simp only [Act.put, List.setIfInBounds_toArray, List.set_cons_zero, List.set_cons_succ])
      refine wpList_take (wanted_yes rfl d6 rfl rfl) (fun K hK => ?_)
      go_simp
      refine hK _ _ ?_
      clear hK K
      (try simp only [Act.put, List.setIfInBounds_toArray, List.set_cons_zero, List.set_cons_succ])
      refine wpList_plain rfl (fun K hK => ?_)
      go_simp
      refine hK _ _ ?_
      clear hK K
      (try simp only [Act.put, List.setIfInBounds_toArray, List.set_cons_zero, List.set_cons_succ])
      refine wpList_plain rfl (fun K hK => ?_)
      go_simp
      refine hK _ _ ?_
      clear hK K
      (try simp only [Act.put, List.setIfInBounds_toArray, List.set_cons_zero, List.set_cons_succ])
      refine wpList_pass (wanted_no rfl d14 rfl rfl) (by kernel_rfl) ?_
      refine wpList_pass (wanted_no rfl d14 rfl rfl) (by kernel_rfl) ?_
      refine wpList_pass (wanted_no rfl d14 rfl rfl) (by kernel_rfl) ?_
      refine wpList_pass (wanted_no rfl d14 rfl rfl) (by kernel_rfl) ?_
      refine wpList_pass (wanted_no rfl d14 rfl rfl) (by kernel_rfl) ?_
      refine wpList_pass (wanted_no rfl d14 rfl rfl) (by kernel_rfl) ?_
      refine wpList_pass (wanted_no rfl d14 rfl rfl) (by kernel_rfl) ?_
      refine wpList_pass (wanted_no rfl d14 rfl rfl) (by kernel_rfl) ?_
      refine wpList_pass (wanted_no rfl d14 rfl rfl) (by kernel_rfl) ?_
      refine wpList_pass (wanted_undef rfl d23 rfl) (by kernel_rfl) ?_
      refine wpList_pass (wanted_undef rfl d23 rfl) (by kernel_rfl) ?_
      refine wpList_pass (wanted_undef rfl d23 rfl) (by kernel_rfl) ?_
      refine wpList_pass (wanted_undef rfl d23 rfl) (by kernel_rfl) ?_
      refine wpList_pass (wanted_undef rfl d23 rfl) (by kernel_rfl) ?_
      refine wpList_pass (wanted_undef rfl d23 rfl) (by kernel_rfl) ?_
      refine wpList_pass (wanted_undef rfl d23 rfl) (by kernel_rfl) ?_
      refine wpList_pass (wanted_undef rfl d23 rfl) (by kernel_rfl) ?_
      refine wpList_pass (wanted_no rfl d14 rfl rfl) (by kernel_rfl) ?_
      refine wpList_plain rfl (fun K hK => ?_)
      go_simp
      refine hK _ _ ?_
      clear hK K
      (try simp only [Act.put, List.setIfInBounds_toArray, List.set_cons_zero, List.set_cons_succ])
      refine wpList_plain rfl (fun K hK => ?_)
      go_simp
      refine hK _ _ ?_
      clear hK K
      (try simp only [Act.put, List.setIfInBounds_toArray, List.set_cons_zero, List.set_cons_succ])
      refine wpList_take (wanted_yes rfl d34 rfl rfl) (fun K hK => ?_)
      go_simp
      refine hK _ _ ?_
      clear hK K
      (try simp only [Act.put, List.setIfInBounds_toArray, List.set_cons_zero, List.set_cons_succ])
      refine wpList_take (wanted_yes rfl d34 rfl rfl) (fun K hK => ?_)
      go_simp
      refine hK _ _ ?_
      clear hK K
      (try simp only [Act.put, List.setIfInBounds_toArray, List.set_cons_zero, List.set_cons_succ])
      refine wpList_take (wanted_yes rfl d34 rfl rfl) (fun K hK => ?_)
      go_simp
      refine hK _ _ ?_
      clear hK K
      (try simp only [Act.put, List.setIfInBounds_toArray, List.set_cons_zero, List.set_cons_succ])
      refine wpList_take (wanted_yes rfl d34 rfl rfl) (fun K hK => ?_)
      go_simp
      refine hK _ _ ?_
      clear hK K
      (try simp only [Act.put, List.setIfInBounds_toArray, List.set_cons_zero, List.set_cons_succ])
      refine wpList_take (wanted_yes rfl d34 rfl rfl) (fun K hK => ?_)
      go_simp
      refine hK _ _ ?_
      clear hK K
      (try simp only [Act.put, List.setIfInBounds_toArray, List.set_cons_zero, List.set_cons_succ])
      refine wpList_take (wanted_yes rfl d34 rfl rfl) (fun K hK => ?_)
      go_simp
      refine hK _ _ ?_
      clear hK K
      (try simp only [Act.put, List.setIfInBounds_toArray, List.set_cons_zero, List.set_cons_succ])
      refine wpList_take (wanted_yes rfl d34 rfl rfl) (fun K hK => ?_)
      go_simp
      refine hK _ _ ?_
      clear hK K
      (try simp only [Act.put, List.setIfInBounds_toArray, List.set_cons_zero, List.set_cons_succ])
      refine wpList_pass (wanted_no rfl d41 rfl rfl) (by kernel_rfl) ?_
      refine wpList_pass (wanted_no rfl d41 rfl rfl) (by kernel_rfl) ?_
      refine wpList_pass (wanted_no rfl d41 rfl rfl) (by kernel_rfl) ?_
      refine wpList_pass (wanted_no rfl d41 rfl rfl) (by kernel_rfl) ?_
      refine wpList_pass (wanted_no rfl d41 rfl rfl) (by kernel_rfl) ?_
      refine wpList_pass (wanted_no rfl d41 rfl rfl) (by kernel_rfl) ?_
      refine wpList_take (wanted_yes rfl d34 rfl rfl) (fun K hK => ?_)
      go_simp
      refine hK _ _ ?_
      clear hK K
      (try simp only [Act.put, List.setIfInBounds_toArray, List.set_cons_zero, List.set_cons_succ])
      refine wpList_take (wanted_yes rfl d34 rfl rfl) (fun K hK => ?_)
      go_simp
      refine hK _ _ ?_
      clear hK K
      (try simp only [Act.put, List.setIfInBounds_toArray, List.set_cons_zero, List.set_cons_succ])
      refine wpList_pass (wanted_no rfl d49 rfl rfl) (by kernel_rfl) ?_
      refine wpList_pass (wanted_no rfl d49 rfl rfl) (by kernel_rfl) ?_
      refine wpList_pass (wanted_no rfl d49 rfl rfl) (by kernel_rfl) ?_
      refine wpList_pass (wanted_no rfl d49 rfl rfl) (by kernel_rfl) ?_
      refine wpList_pass (wanted_no rfl d49 rfl rfl) (by kernel_rfl) ?_
      refine wpList_pass (wanted_no rfl d49 rfl rfl) (by kernel_rfl) ?_
      refine wpList_pass (wanted_no rfl d49 rfl rfl) (by kernel_rfl) ?_
      refine wpList_pass (wanted_no rfl d49 rfl rfl) (by kernel_rfl) ?_
      refine wpList_pass (wanted_no rfl d49 rfl rfl) (by kernel_rfl) ?_
      refine wpList_pass (wanted_undef rfl d58 rfl) (by kernel_rfl) ?_
      refine wpList_pass (wanted_undef rfl d58 rfl) (by kernel_rfl) ?_
      refine wpList_pass (wanted_undef rfl d58 rfl) (by kernel_rfl) ?_
      refine wpList_pass (wanted_undef rfl d58 rfl) (by kernel_rfl) ?_
      refine wpList_pass (wanted_undef rfl d58 rfl) (by kernel_rfl) ?_
      refine wpList_pass (wanted_undef rfl d58 rfl) (by kernel_rfl) ?_
      refine wpList_pass (wanted_undef rfl d58 rfl) (by kernel_rfl) ?_
      refine wpList_pass (wanted_undef rfl d58 rfl) (by kernel_rfl) ?_
      refine wpList_pass (wanted_no rfl d49 rfl rfl) (by kernel_rfl) ?_
      refine wpList_take (wanted_yes rfl d34 rfl rfl) (fun K hK => ?_)
      go_simp
      refine hK _ _ ?_
      clear hK K
      (try simp only [Act.put, List.setIfInBounds_toArray, List.set_cons_zero, List.set_cons_succ])
      refine wpList_plain rfl (fun K hK => ?_)
      go_simp
      refine hK _ _ ?_
      clear hK K
      (try simp only [Act.put, List.setIfInBounds_toArray, List.set_cons_zero, List.set_cons_succ])
      refine wpList_nil ?_
      refine hKs _ _ ?_
    case' inr.inl.inr.inl =>
      repeat (refine wp_seq_k (fun K hKs => ?_))
      refine wp_region_var (fun OPS hOPS => ?_)
      have d6 : (OPS[6]?).bind (·.dst) = some 57 := by (rw [hOPS]; kernel_rfl)
      have d14 : (OPS[14]?).bind (·.dst) = some 65 := by (rw [hOPS]; kernel_rfl)
      have d23 : (OPS[23]?).bind (·.dst) = some 74 := by (rw [hOPS]; kernel_rfl)
      have d34 : (OPS[34]?).bind (·.dst) = some 85 := by (rw [hOPS]; kernel_rfl)
      have d41 : (OPS[41]?).bind (·.dst) = some 92 := by (rw [hOPS]; kernel_rfl)
      have d49 : (OPS[49]?).bind (·.dst) = some 100 := by (rw [hOPS]; kernel_rfl)
      have d58 : (OPS[58]?).bind (·.dst) = some 109 := by (rw [hOPS]; kernel_rfl)
      clear hOPS
      refine wpList_plain rfl (fun K hK => ?_)
      go_simp
      refine hK _ _ ?_
      clear hK K
      (try simp only [Act.put, List.setIfInBounds_toArray, List.set_cons_zero, List.set_cons_succ])
      refine wpList_plain rfl (fun K hK => ?_)
      go_simp
      refine hK _ _ ?_
      clear hK K
      (try simp only [Act.put, List.setIfInBounds_toArray, List.set_cons_zero, List.set_cons_succ])
      refine wpList_plain rfl (fun K hK => ?_)
      go_simp
      refine hK _ _ ?_
      clear hK K
      (try simp only [Act.put, List.setIfInBounds_toArray, List.set_cons_zero, List.set_cons_succ])
      refine wpList_plain rfl (fun K hK => ?_)
      go_simp
      refine hK _ _ ?_
      clear hK K
      (try simp only [Act.put, List.setIfInBounds_toArray, List.set_cons_zero, List.set_cons_succ])
      refine wpList_plain rfl (fun K hK => ?_)
      go_simp
      refine hK _ _ ?_
      clear hK K
      (try simp only [Act.put, List.setIfInBounds_toArray, List.set_cons_zero, List.set_cons_succ])
      refine wpList_plain rfl (fun K hK => ?_)
      go_simp
      refine hK _ _ ?_
      clear hK K
      (try simp only [Act.put, List.setIfInBounds_toArray, List.set_cons_zero, List.set_cons_succ])
      refine wpList_plain rfl (fun K hK => ?_)
      go_simp
      refine hK _ _ ?_
      clear hK K
      (try simp only [Act.put, List.setIfInBounds_toArray, List.set_cons_zero, List.set_cons_succ])
      refine wpList_take (wanted_yes rfl d6 rfl rfl) (fun K hK => ?_)
      go_simp
      refine hK _ _ ?_
      clear hK K
      (try simp only [Act.put, List.setIfInBounds_toArray, List.set_cons_zero, List.set_cons_succ])
      refine wpList_take (wanted_yes rfl d6 rfl rfl) (fun K hK => ?_)
      go_simp
      refine hK _ _ ?_
      clear hK K
      (try simp only [Act.put, List.setIfInBounds_toArray, List.set_cons_zero, List.set_cons_succ])
      refine wpList_take (wanted_yes rfl d6 rfl rfl) (fun K hK => ?_)
      go_simp
      refine hK _ _ ?_
      clear hK K
      (try simp only [Act.put, List.setIfInBounds_toArray, List.set_cons_zero, List.set_cons_succ])
      refine wpList_take (wanted_yes rfl d6 rfl rfl) (fun K hK => ?_)
      go_simp
      refine hK _ _ ?_
      clear hK K
      (try simp only [Act.put, List.setIfInBounds_toArray, List.set_cons_zero, List.set_cons_succ])
      refine wpList_take (wanted_yes rfl d6 rfl rfl) (fun K hK => ?_)
      go_simp
      refine hK _ _ ?_
      clear hK K
      (try simp only [Act.put, List.setIfInBounds_toArray, List.set_cons_zero, List.set_cons_succ])
      refine wpList_take (wanted_yes rfl d6 rfl rfl) (fun K hK => ?_)
      go_simp
      refine hK _ _ ?_
      clear hK K
      (try simp only [Act.put, List.setIfInBounds_toArray, List.set_cons_zero, List.set_cons_succ])
      refine wpList_plain rfl (fun K hK => ?_)
      go_simp
      refine hK _ _ ?_
      clear hK K
      (try simp only [Act.put, List.setIfInBounds_toArray, List.set_cons_zero, List.set_cons_succ])
      refine wpList_plain rfl (fun K hK => ?_)
      go_simp
      refine hK _ _ ?_
      clear hK K
      (try simp only [Act.put, List.setIfInBounds_toArray, List.set_cons_zero, List.set_cons_succ])
      refine wpList_pass (wanted_no rfl d14 rfl rfl) (by kernel_rfl) ?_
      refine wpList_pass (wanted_no rfl d14 rfl rfl) (by kernel_rfl) ?_
      refine wpList_pass (wanted_no rfl d14 rfl rfl) (by kernel_rfl) ?_
      refine wpList_pass (wanted_no rfl d14 rfl rfl) (by kernel_rfl) ?_
      refine wpList_pass (wanted_no rfl d14 rfl rfl) (by kernel_rfl) ?_
      refine wpList_pass (wanted_no rfl d14 rfl rfl) (by kernel_rfl) ?_
      refine wpList_pass (wanted_no rfl d14 rfl rfl) (by kernel_rfl) ?_
      refine wpList_pass (wanted_no rfl d14 rfl rfl) (by kernel_rfl) ?_
      refine wpList_pass (wanted_no rfl d14 rfl rfl) (by kernel_rfl) ?_
      refine wpList_pass (wanted_undef rfl d23 rfl) (by kernel_rfl) ?_
      refine wpList_pass (wanted_undef rfl d23 rfl) (by kernel_rfl) ?_
      refine wpList_pass (wanted_undef rfl d23 rfl) (by kernel_rfl) ?_
      refine wpList_pass (wanted_undef rfl d23 rfl) (by kernel_rfl) ?_
      refine wpList_pass (wanted_undef rfl d23 rfl) (by kernel_rfl) ?_
      refine wpList_pass (wanted_undef rfl d23 rfl) (by kernel_rfl) ?_
      refine wpList_pass (wanted_undef rfl d23 rfl) (by kernel_rfl) ?_
      refine wpList_pass (wanted_undef rfl d23 rfl) (by kernel_rfl) ?_
      refine wpList_pass (wanted_no rfl d14 rfl rfl) (by kernel_rfl) ?_
      refine wpList_plain rfl (fun K hK => ?_)
      go_simp
      refine hK _ _ ?_
      clear hK K
      (try simp only [Act.put, List.setIfInBounds_toArray, List.set_cons_zero, List.set_cons_succ])
      refine wpList_plain rfl (fun K hK => ?_)
      go_simp
      refine hK _ _ ?_
      clear hK K
      (try simp only [Act.put, List.setIfInBounds_toArray, List.set_cons_zero, List.set_cons_succ])
      refine wpList_take (wanted_yes rfl d34 rfl rfl) (fun K hK => ?_)
      go_simp
      refine hK _ _ ?_
      clear hK K
      (try simp only [Act.put, List.setIfInBounds_toArray, List.set_cons_zero, List.set_cons_succ])
      refine wpList_take (wanted_yes rfl d34 rfl rfl) (fun K hK => ?_)
      go_simp
      refine hK _ _ ?_
      clear hK K
      (try simp only [Act.put, List.setIfInBounds_toArray, List.set_cons_zero, List.set_cons_succ])
      refine wpList_take (wanted_yes rfl d34 rfl rfl) (fun K hK => ?_)
      go_simp
      refine hK _ _ ?_
      clear hK K
      (try simp only [Act.put, List.setIfInBounds_toArray, List.set_cons_zero, List.set_cons_succ])
      refine wpList_take (wanted_yes rfl d34 rfl rfl) (fun K hK => ?_)
      go_simp
      refine hK _ _ ?_
      clear hK K
      (try simp only [Act.put, List.setIfInBounds_toArray, List.set_cons_zero, List.set_cons_succ])
      refine wpList_take (wanted_yes rfl d34 rfl rfl) (fun K hK => ?_)
      go_simp
      refine hK _ _ ?_
      clear hK K
      (try simp only [Act.put, List.setIfInBounds_toArray, List.set_cons_zero, List.set_cons_succ])
      refine wpList_take (wanted_yes rfl d34 rfl rfl) (fun K hK => ?_)
      go_simp
      refine hK _ _ ?_
      clear hK K
      (try simp only [Act.put, List.setIfInBounds_toArray, List.set_cons_zero, List.set_cons_succ])
      refine wpList_take (wanted_yes rfl d34 rfl rfl) (fun K hK => ?_)
      go_simp
      refine hK _ _ ?_
      clear hK K
      (try simp only [Act.put, List.setIfInBounds_toArray, List.set_cons_zero, List.set_cons_succ])
      refine wpList_take (wanted_yes rfl d41 rfl rfl) (fun K hK => ?_)
      go_simp
      refine hK _ _ ?_
      clear hK K
      (try simp only [Act.put, List.setIfInBounds_toArray, List.set_cons_zero, List.set_cons_succ])
      refine wpList_take (wanted_yes rfl d41 rfl rfl) (fun K hK => ?_)
      go_simp
      refine hK _ _ ?_
      clear hK K
      (try simp only [Act.put, List.setIfInBounds_toArray, List.set_cons_zero, List.set_cons_succ])
      refine wpList_take (wanted_yes rfl d41 rfl rfl) (fun K hK => ?_)
      go_simp
      refine hK _ _ ?_
      clear hK K
      (try simp only [Act.put, List.setIfInBounds_toArray, List.set_cons_zero, List.set_cons_succ])
      refine wpList_take (wanted_yes rfl d41 rfl rfl) (fun K hK => ?_)
      go_simp
      refine hK _ _ ?_
      clear hK K
      (try simp only [Act.put, List.setIfInBounds_toArray, List.set_cons_zero, List.set_cons_succ])
      refine wpList_take (wanted_yes rfl d41 rfl rfl) (fun K hK => ?_)
      go_simp
      refine hK _ _ ?_
      clear hK K
      (try simp only [Act.put, List.setIfInBounds_toArray, List.set_cons_zero, List.set_cons_succ])
      refine wpList_take (wanted_yes rfl d41 rfl rfl) (fun K hK => ?_)
      go_simp
      refine hK _ _ ?_
      clear hK K
      (try simp only [Act.put, List.setIfInBounds_toArray, List.set_cons_zero, List.set_cons_succ])
      refine wpList_take (wanted_yes rfl d34 rfl rfl) (fun K hK => ?_)
      go_simp
      refine hK _ _ ?_
      clear hK K
      (try simp only [Act.put, List.setIfInBounds_toArray, List.set_cons_zero, List.set_cons_succ])
      refine wpList_take (wanted_yes rfl d34 rfl rfl) (fun K hK => ?_)
      go_simp
      refine hK _ _ ?_
      clear hK K
      (try simp only [Act.put, List.setIfInBounds_toArray, List.set_cons_zero, List.set_cons_succ])
      refine wpList_pass (wanted_no rfl d49 rfl rfl) (by kernel_rfl) ?_
      refine wpList_pass (wanted_no rfl d49 rfl rfl) (by kernel_rfl) ?_
      refine wpList_pass (wanted_no rfl d49 rfl rfl) (by kernel_rfl) ?_
      refine wpList_pass (wanted_no rfl d49 rfl rfl) (by kernel_rfl) ?_
      refine wpList_pass (wanted_no rfl d49 rfl rfl) (by kernel_rfl) ?_
      refine wpList_pass (wanted_no rfl d49 rfl rfl) (by kernel_rfl) ?_
      refine wpList_pass (wanted_no rfl d49 rfl rfl) (by kernel_rfl) ?_
      refine wpList_pass (wanted_no rfl d49 rfl rfl) (by kernel_rfl) ?_
      refine wpList_pass (wanted_no rfl d49 rfl rfl) (by kernel_rfl) ?_
      refine wpList_pass (wanted_undef rfl d58 rfl) (by kernel_rfl) ?_
      refine wpList_pass (wanted_undef rfl d58 rfl) (by kernel_rfl) ?_
      refine wpList_pass (wanted_undef rfl d58 rfl) (by kernel_rfl) ?_
      refine wpList_pass (wanted_undef rfl d58 rfl) (by kernel_rfl) ?_
      refine wpList_pass (wanted_undef rfl d58 rfl) (by kernel_rfl) ?_
      refine wpList_pass (wanted_undef rfl d58 rfl) (by kernel_rfl) ?_
      refine wpList_pass (wanted_undef rfl d58 rfl) (by kernel_rfl) ?_
      refine wpList_pass (wanted_undef rfl d58 rfl) (by kernel_rfl) ?_
      refine wpList_pass (wanted_no rfl d49 rfl rfl) (by kernel_rfl) ?_
      refine wpList_take (wanted_yes rfl d34 rfl rfl) (fun K hK => ?_)
      go_simp
      refine hK _ _ ?_
      clear hK K
      (try simp only [Act.put, List.setIfInBounds_toArray, List.set_cons_zero, List.set_cons_succ])
      refine wpList_plain rfl (fun K hK => ?_)
      go_simp
      refine hK _ _ ?_
      clear hK K
      (try simp only [Act.put, List.setIfInBounds_toArray, List.set_cons_zero, List.set_cons_succ])
      refine wpList_nil ?_
      refine hKs _ _ ?_
    case' inr.inl.inr.inr =>
      repeat (refine wp_seq_k (fun K hKs => ?_))
      refine wp_region_var (fun OPS hOPS => ?_)
      have d6 : (OPS[6]?).bind (·.dst) = some 57 := by (rw [hOPS]; kernel_rfl)
      have d14 : (OPS[14]?).bind (·.dst) = some 65 := by (rw [hOPS]; kernel_rfl)
      have d23 : (OPS[23]?).bind (·.dst) = some 74 := by (rw [hOPS]; kernel_rfl)
      have d34 : (OPS[34]?).bind (·.dst) = some 85 := by (rw [hOPS]; kernel_rfl)
      have d41 : (OPS[41]?).bind (·.dst) = some 92 := by (rw [hOPS]; kernel_rfl)
      have d49 : (OPS[49]?).bind (·.dst) = some 100 := by (rw [hOPS]; kernel_rfl)
      have d58 : (OPS[58]?).bind (·.dst) = some 109 := by (rw [hOPS]; kernel_rfl)
      clear hOPS
      refine wpList_plain rfl (fun K hK => ?_)
      go_simp
      refine hK _ _ ?_
      clear hK K
      (try simp only [Act.put, List.setIfInBounds_toArray, List.set_cons_zero, List.set_cons_succ])
      refine wpList_plain rfl (fun K hK => ?_)
      go_simp
      refine hK _ _ ?_
      clear hK K
      (try simp only [Act.put, List.setIfInBounds_toArray, List.set_cons_zero, List.set_cons_succ])
      refine wpList_plain rfl (fun K hK => ?_)
      go_simp
      refine hK _ _ ?_
      clear hK K
      (try simp only [Act.put, List.setIfInBounds_toArray, List.set_cons_zero, List.set_cons_succ])
      refine wpList_plain rfl (fun K hK => ?_)
      go_simp
      refine hK _ _ ?_
      clear hK K
      (try simp only [Act.put, List.setIfInBounds_toArray, List.set_cons_zero, List.set_cons_succ])
      refine wpList_plain rfl (fun K hK => ?_)
      go_simp
      refine hK _ _ ?_
      clear hK K
      (try simp only [Act.put, List.setIfInBounds_toArray, List.set_cons_zero, List.set_cons_succ])
      refine wpList_plain rfl (fun K hK => ?_)
      go_simp
      refine hK _ _ ?_
      clear hK K
      (try simp only [Act.put, List.setIfInBounds_toArray, List.set_cons_zero, List.set_cons_succ])
      refine wpList_plain rfl (fun K hK => ?_)
      go_simp
      refine hK _ _ ?_
      clear hK K
      (try simp only [Act.put, List.setIfInBounds_toArray, List.set_cons_zero, List.set_cons_succ])
      refine wpList_take (wanted_yes rfl d6 rfl rfl) (fun K hK => ?_)
      go_simp
      refine hK _ _ ?_
      clear hK K
      (try simp only [Act.put, List.setIfInBounds_toArray, List.set_cons_zero, List.set_cons_succ])
      refine wpList_take (wanted_yes rfl d6 rfl rfl) (fun K hK => ?_)
      go_simp
      refine hK _ _ ?_
      clear hK K
      (try simp only [Act.put, List.setIfInBounds_toArray, List.set_cons_zero, List.set_cons_succ])
      refine wpList_take (wanted_yes rfl d6 rfl rfl) (fun K hK => ?_)
      go_simp
      refine hK _ _ ?_
      clear hK K
      (try simp only [Act.put, List.setIfInBounds_toArray, List.set_cons_zero, List.set_cons_succ])
      refine wpList_take (wanted_yes rfl d6 rfl rfl) (fun K hK => ?_)
      go_simp
      refine hK _ _ ?_
      clear hK K
      (try simp only [Act.put, List.setIfInBounds_toArray, List.set_cons_zero, List.set_cons_succ])
      refine wpList_take (wanted_yes rfl d6 rfl rfl) (fun K hK => ?_)
      go_simp
      refine hK _ _ ?_
      clear hK K
      (try simp only [Act.put, List.setIfInBounds_toArray, List.set_cons_zero, List.set_cons_succ])
      refine wpList_take (wanted_yes rfl d6 rfl rfl) (fun K hK => ?_)
      go_simp
      refine hK _ _ ?_
      clear hK K
      (try simp only [Act.put, List.setIfInBounds_toArray, List.set_cons_zero, List.set_cons_succ])
      refine wpList_plain rfl (fun K hK => ?_)
      go_simp
      refine hK _ _ ?_
      clear hK K
      (try simp only [Act.put, List.setIfInBounds_toArray, List.set_cons_zero, List.set_cons_succ])
      refine wpList_plain rfl (fun K hK => ?_)
      go_simp
      refine hK _ _ ?_
      clear hK K
      (try simp only [Act.put, List.setIfInBounds_toArray, List.set_cons_zero, List.set_cons_succ])
      refine wpList_pass (wanted_no rfl d14 rfl rfl) (by kernel_rfl) ?_
      refine wpList_pass (wanted_no rfl d14 rfl rfl) (by kernel_rfl) ?_
      refine wpList_pass (wanted_no rfl d14 rfl rfl) (by kernel_rfl) ?_
      refine wpList_pass (wanted_no rfl d14 rfl rfl) (by kernel_rfl) ?_
      refine wpList_pass (wanted_no rfl d14 rfl rfl) (by kernel_rfl) ?_
      refine wpList_pass (wanted_no rfl d14 rfl rfl) (by kernel_rfl) ?_
      refine wpList_pass (wanted_no rfl d14 rfl rfl) (by kernel_rfl) ?_
      refine wpList_pass (wanted_no rfl d14 rfl rfl) (by kernel_rfl) ?_
      refine wpList_pass (wanted_no rfl d14 rfl rfl) (by kernel_rfl) ?_
      refine wpList_pass (wanted_undef rfl d23 rfl) (by kernel_rfl) ?_
      refine wpList_pass (wanted_undef rfl d23 rfl) (by kernel_rfl) ?_
      refine wpList_pass (wanted_undef rfl d23 rfl) (by kernel_rfl) ?_
      refine wpList_pass (wanted_undef rfl d23 rfl) (by kernel_rfl) ?_
      refine wpList_pass (wanted_undef rfl d23 rfl) (by kernel_rfl) ?_
      refine wpList_pass (wanted_undef rfl d23 rfl) (by kernel_rfl) ?_
      refine wpList_pass (wanted_undef rfl d23 rfl) (by kernel_rfl) ?_
      refine wpList_pass (wanted_undef rfl d23 rfl) (by kernel_rfl) ?_
      refine wpList_pass (wanted_no rfl d14 rfl rfl) (by kernel_rfl) ?_
      refine wpList_plain rfl (fun K hK => ?_)
      go_simp
      refine hK _ _ ?_
      clear hK K
      (try simp only [Act.put, List.setIfInBounds_toArray, List.set_cons_zero, List.set_cons_succ])
      refine wpList_plain rfl (fun K hK => ?_)
      go_simp
      refine hK _ _ ?_
      clear hK K
      (try simp only [Act.put, List.setIfInBounds_toArray, List.set_cons_zero, List.set_cons_succ])
      refine wpList_take (wanted_yes rfl d34 rfl rfl) (fun K hK => ?_)
      go_simp
      refine hK _ _ ?_
      clear hK K
      (try simp only [Act.put, List.setIfInBounds_toArray, List.set_cons_zero, List.set_cons_succ])
      refine wpList_take (wanted_yes rfl d34 rfl rfl) (fun K hK => ?_)
      go_simp
      refine hK _ _ ?_
      clear hK K
      (try simp only [Act.put, List.setIfInBounds_toArray, List.set_cons_zero, List.set_cons_succ])
      refine wpList_take (wanted_yes rfl d34 rfl rfl) (fun K hK => ?_)
      go_simp
      refine hK _ _ ?_
      clear hK K
      (try simp only [Act.put, List.setIfInBounds_toArray, List.set_cons_zero, List.set_cons_succ])
      refine wpList_take (wanted_yes rfl d34 rfl rfl) (fun K hK => ?_)
      go_simp
      refine hK _ _ ?_
      clear hK K
      (try simp only [Act.put, List.setIfInBounds_toArray, List.set_cons_zero, List.set_cons_succ])
      refine wpList_take (wanted_yes rfl d34 rfl rfl) (fun K hK => ?_)
      go_simp
      refine hK _ _ ?_
      clear hK K
      (try simp only [Act.put, List.setIfInBounds_toArray, List.set_cons_zero, List.set_cons_succ])
      refine wpList_take (wanted_yes rfl d34 rfl rfl) (fun K hK => ?_)
      go_simp
      refine hK _ _ ?_
      clear hK K
      (try simp only [Act.put, List.setIfInBounds_toArray, List.set_cons_zero, List.set_cons_succ])
      refine wpList_take (wanted_yes rfl d34 rfl rfl) (fun K hK => ?_)
      go_simp
      refine hK _ _ ?_
      clear hK K
      (try simp only [Act.put, List.setIfInBounds_toArray, List.set_cons_zero, List.set_cons_succ])
      refine wpList_take (wanted_yes rfl d41 rfl rfl) (fun K hK => ?_)
      go_simp
      refine hK _ _ ?_
      clear hK K
      (try simp only [Act.put, List.setIfInBounds_toArray, List.set_cons_zero, List.set_cons_succ])
      refine wpList_take (wanted_yes rfl d41 rfl rfl) (fun K hK => ?_)
      go_simp
      refine hK _ _ ?_
      clear hK K
      (try simp only [Act.put, List.setIfInBounds_toArray, List.set_cons_zero, List.set_cons_succ])
      refine wpList_take (wanted_yes rfl d41 rfl rfl) (fun K hK => ?_)
      go_simp
      refine hK _ _ ?_
      clear hK K
      (try simp only [Act.put, List.setIfInBounds_toArray, List.set_cons_zero, List.set_cons_succ])
      refine wpList_take (wanted_yes rfl d41 rfl rfl) (fun K hK => ?_)
      go_simp
      refine hK _ _ ?_
      clear hK K
      (try simp only [Act.put, List.setIfInBounds_toArray, List.set_cons_zero, List.set_cons_succ])
      refine wpList_take (wanted_yes rfl d41 rfl rfl) (fun K hK => ?_)
      go_simp
      refine hK _ _ ?_
      clear hK K
      (try simp only [Act.put, List.setIfInBounds_toArray, List.set_cons_zero, List.set_cons_succ])
      refine wpList_take (wanted_yes rfl d41 rfl rfl) (fun K hK => ?_)
      go_simp
      refine hK _ _ ?_
      clear hK K
      (try simp only [Act.put, List.setIfInBounds_toArray, List.set_cons_zero, List.set_cons_succ])
      refine wpList_take (wanted_yes rfl d34 rfl rfl) (fun K hK => ?_)
      go_simp
      refine hK _ _ ?_
      clear hK K
      (try simp only [Act.put, List.setIfInBounds_toArray, List.set_cons_zero, List.set_cons_succ])
      refine wpList_take (wanted_yes rfl d34 rfl rfl) (fun K hK => ?_)
      go_simp
      refine hK _ _ ?_
      clear hK K
      (try simp only [Act.put, List.setIfInBounds_toArray, List.set_cons_zero, List.set_cons_succ])
      refine wpList_take (wanted_yes rfl d49 rfl rfl) (fun K hK => ?_)
      go_simp
      refine hK _ _ ?_
      clear hK K
      (try simp only [Act.put, List.setIfInBounds_toArray, List.set_cons_zero, List.set_cons_succ])
      refine wpList_take (wanted_yes rfl d49 rfl rfl) (fun K hK => ?_)
      go_simp
      refine hK _ _ ?_
      clear hK K
      (try simp only [Act.put, List.setIfInBounds_toArray, List.set_cons_zero, List.set_cons_succ])
      refine wpList_take (wanted_yes rfl d49 rfl rfl) (fun K hK => ?_)
      go_simp
      refine hK _ _ ?_
      clear hK K
      (try simp only [Act.put, List.setIfInBounds_toArray, List.set_cons_zero, List.set_cons_succ])
      refine wpList_take (wanted_yes rfl d49 rfl rfl) (fun K hK => ?_)
      go_simp
      refine hK _ _ ?_
      clear hK K
      (try simp only [Act.put, List.setIfInBounds_toArray, List.set_cons_zero, List.set_cons_succ])
      refine wpList_take (wanted_yes rfl d49 rfl rfl) (fun K hK => ?_)
      go_simp
      refine hK _ _ ?_
      clear hK K
      (try simp only [Act.put, List.setIfInBounds_toArray, List.set_cons_zero, List.set_cons_succ])
      refine wpList_take (wanted_yes rfl d49 rfl rfl) (fun K hK => ?_)
      go_simp
      refine hK _ _ ?_
      clear hK K
      (try simp only [Act.put, List.setIfInBounds_toArray, List.set_cons_zero, List.set_cons_succ])
      refine wpList_take (wanted_yes rfl d49 rfl rfl) (fun K hK => ?_)
      go_simp
      refine hK _ _ ?_
      clear hK K
      (try simp only [Act.put, List.setIfInBounds_toArray, List.set_cons_zero, List.set_cons_succ])
      refine wpList_take (wanted_yes rfl d49 rfl rfl) (fun K hK => ?_)
      go_simp
      refine hK _ _ ?_
      clear hK K
      (try simp only [Act.put, List.setIfInBounds_toArray, List.set_cons_zero, List.set_cons_succ])
      refine wpList_take (wanted_yes rfl d49 rfl rfl) (fun K hK => ?_)
      go_simp
      refine hK _ _ ?_
      clear hK K
      (try simp only [Act.put, List.setIfInBounds_toArray, List.set_cons_zero, List.set_cons_succ])
      refine wpList_take (wanted_yes rfl d58 rfl rfl) (fun K hK => ?_)
      go_simp
      refine hK _ _ ?_
      clear hK K
      (try simp only [Act.put, List.setIfInBounds_toArray, List.set_cons_zero, List.set_cons_succ])
      refine wpList_take (wanted_yes rfl d58 rfl rfl) (fun K hK => ?_)
      go_simp
      refine hK _ _ ?_
      clear hK K
      (try simp only [Act.put, List.setIfInBounds_toArray, List.set_cons_zero, List.set_cons_succ])
      refine wpList_take (wanted_yes rfl d58 rfl rfl) (fun K hK => ?_)
      go_simp
      refine hK _ _ ?_
      clear hK K
      (try simp only [Act.put, List.setIfInBounds_toArray, List.set_cons_zero, List.set_cons_succ])
      refine wpList_take (wanted_yes rfl d58 rfl rfl) (fun K hK => ?_)
      go_simp
      refine hK _ _ ?_
      clear hK K
      (try simp only [Act.put, List.setIfInBounds_toArray, List.set_cons_zero, List.set_cons_succ])
      refine wpList_take (wanted_yes rfl d58 rfl rfl) (fun K hK => ?_)
      go_simp
      refine hK _ _ ?_
      clear hK K
      (try simp only [Act.put, List.setIfInBounds_toArray, List.set_cons_zero, List.set_cons_succ])
      refine wpList_take (wanted_yes rfl d58 rfl rfl) (fun K hK => ?_)
      go_simp
      refine hK _ _ ?_
      clear hK K
      (try simp only [Act.put, List.setIfInBounds_toArray, List.set_cons_zero, List.set_cons_succ])
      refine wpList_take (wanted_yes rfl d58 rfl rfl) (fun K hK => ?_)
      go_simp
      refine hK _ _ ?_
      clear hK K
      (try simp only [Act.put, List.setIfInBounds_toArray, List.set_cons_zero, List.set_cons_succ])
      refine wpList_take (wanted_yes rfl d58 rfl rfl) (fun K hK => ?_)
      go_simp
      refine hK _ _ ?_
      clear hK K
      (try simp only [Act.put, List.setIfInBounds_toArray, List.set_cons_zero, List.set_cons_succ])
      refine wpList_take (wanted_yes rfl d49 rfl rfl) (fun K hK => ?_)
      go_simp
      refine hK _ _ ?_
      clear hK K
      (try simp only [Act.put, List.setIfInBounds_toArray, List.set_cons_zero, List.set_cons_succ])
      refine wpList_take (wanted_yes rfl d34 rfl rfl) (fun K hK => ?_)
      go_simp
      refine hK _ _ ?_
      clear hK K
      (try simp only [Act.put, List.setIfInBounds_toArray, List.set_cons_zero, List.set_cons_succ])
      refine wpList_plain rfl (fun K hK => ?_)
      go_simp
      refine hK _ _ ?_
      clear hK K
      (try simp only [Act.put, List.setIfInBounds_toArray, List.set_cons_zero, List.set_cons_succ])
      refine wpList_nil ?_
      refine hKs _ _ ?_
    case' inr.inr.inl =>
      repeat (refine wp_seq_k (fun K hKs => ?_))
      refine wp_region_var (fun OPS hOPS => ?_)
      have d6 : (OPS[6]?).bind (·.dst) = some 57 := by (rw [hOPS]; kernel_rfl)
      have d14 : (OPS[14]?).bind (·.dst) = some 65 := by (rw [hOPS]; kernel_rfl)
      have d23 : (OPS[23]?).bind (·.dst) = some 74 := by (rw [hOPS]; kernel_rfl)
      have d34 : (OPS[34]?).bind (·.dst) = some 85 := by (rw [hOPS]; kernel_rfl)
      have d41 : (OPS[41]?).bind (·.dst) = some 92 := by (rw [hOPS]; kernel_rfl)
      have d49 : (OPS[49]?).bind (·.dst) = some 100 := by (rw [hOPS]; kernel_rfl)
      have d58 : (OPS[58]?).bind (·.dst) = some 109 := by (rw [hOPS]; kernel_rfl)
      clear hOPS
      refine wpList_plain rfl (fun K hK => ?_)
      go_simp
      refine hK _ _ ?_
      clear hK K
      (try simp only [Act.put, List.setIfInBounds_toArray, List.set_cons_zero, List.set_cons_succ])
      refine wpList_plain rfl (fun K hK => ?_)
      go_simp
      refine hK _ _ ?_
      clear hK K
      (try simp only [Act.put, List.setIfInBounds_toArray, List.set_cons_zero, List.set_cons_succ])
      refine wpList_plain rfl (fun K hK => ?_)
      go_simp
      refine hK _ _ ?_
      clear hK K
      (try simp only [Act.put, List.setIfInBounds_toArray, List.set_cons_zero, List.set_cons_succ])
      refine wpList_plain rfl (fun K hK => ?_)
      go_simp
      refine hK _ _ ?_
      clear hK K
      (try simp only [Act.put, List.setIfInBounds_toArray, List.set_cons_zero, List.set_cons_succ])
      refine wpList_plain rfl (fun K hK => ?_)
      go_simp
      refine hK _ _ ?_
      clear hK K
      (try simp only [Act.put, List.setIfInBounds_toArray, List.set_cons_zero, List.set_cons_succ])
      refine wpList_plain rfl (fun K hK => ?_)
      go_simp
      refine hK _ _ ?_
      clear hK K
      (try simp only [Act.put, List.setIfInBounds_toArray, List.set_cons_zero, List.set_cons_succ])
      refine wpList_plain rfl (fun K hK => ?_)
      go_simp
      refine hK _ _ ?_
      clear hK K
      (try simp only [Act.put, List.setIfInBounds_toArray, List.set_cons_zero, List.set_cons_succ])
      refine wpList_take (wanted_yes rfl d6 rfl rfl) (fun K hK => ?_)
      go_simp
      refine hK _ _ ?_
      clear hK K
      (try simp only [Act.put, List.setIfInBounds_toArray, List.set_cons_zero, List.set_cons_succ])
      refine wpList_take (wanted_yes rfl d6 rfl rfl) (fun K hK => ?_)
      go_simp
      refine hK _ _ ?_
      clear hK K
      (try simp only [Act.put, List.setIfInBounds_toArray, List.set_cons_zero, List.set_cons_succ])
      refine wpList_take (wanted_yes rfl d6 rfl rfl) (fun K hK => ?_)
      go_simp
      refine hK _ _ ?_
      clear hK K
      (try simp only [Act.put, List.setIfInBounds_toArray, List.set_cons_zero, List.set_cons_succ])
      refine wpList_take (wanted_yes rfl d6 rfl rfl) (fun K hK => ?_)
      go_simp
      refine hK _ _ ?_
      clear hK K
      (try simp only [Act.put, List.setIfInBounds_toArray, List.set_cons_zero, List.set_cons_succ])
      refine wpList_take (wanted_yes rfl d6 rfl rfl) (fun K hK => ?_)
      go_simp
      refine hK _ _ ?_
      clear hK K
      (try simp only [Act.put, List.setIfInBounds_toArray, List.set_cons_zero, List.set_cons_succ])
      refine wpList_take (wanted_yes rfl d6 rfl rfl) (fun K hK => ?_)
      go_simp
      refine hK _ _ ?_
      clear hK K
      (try simp only [Act.put, List.setIfInBounds_toArray, List.set_cons_zero, List.set_cons_succ])
      refine wpList_plain rfl (fun K hK => ?_)
      go_simp
      refine hK _ _ ?_
      clear hK K
      (try simp only [Act.put, List.setIfInBounds_toArray, List.set_cons_zero, List.set_cons_succ])
      refine wpList_plain rfl (fun K hK => ?_)
      go_simp
      refine hK _ _ ?_
      clear hK K
      (try simp only [Act.put, List.setIfInBounds_toArray, List.set_cons_zero, List.set_cons_succ])
      refine wpList_take (wanted_yes rfl d14 rfl rfl) (fun K hK => ?_)
      go_simp
      refine hK _ _ ?_
      clear hK K
      (try simp only [Act.put, List.setIfInBounds_toArray, List.set_cons_zero, List.set_cons_succ])
      refine wpList_take (wanted_yes rfl d14 rfl rfl) (fun K hK => ?_)
      go_simp
      refine hK _ _ ?_
      clear hK K
      (try simp only [Act.put, List.setIfInBounds_toArray, List.set_cons_zero, List.set_cons_succ])
      refine wpList_take (wanted_yes rfl d14 rfl rfl) (fun K hK => ?_)
      go_simp
      refine hK _ _ ?_
      clear hK K
      (try simp only [Act.put, List.setIfInBounds_toArray, List.set_cons_zero, List.set_cons_succ])
      refine wpList_take (wanted_yes rfl d14 rfl rfl) (fun K hK => ?_)
      go_simp
      refine hK _ _ ?_
      clear hK K
      (try simp only [Act.put, List.setIfInBounds_toArray, List.set_cons_zero, List.set_cons_succ])
      refine wpList_take (wanted_yes rfl d14 rfl rfl) (fun K hK => ?_)
      go_simp
      refine hK _ _ ?_
      clear hK K
      (try simp only [Act.put, List.setIfInBounds_toArray, List.set_cons_zero, List.set_cons_succ])
      refine wpList_take (wanted_yes rfl d14 rfl rfl) (fun K hK => ?_)
      go_simp
      refine hK _ _ ?_
      clear hK K
      (try simp only [Act.put, List.setIfInBounds_toArray, List.set_cons_zero, List.set_cons_succ])
      refine wpList_take (wanted_yes rfl d14 rfl rfl) (fun K hK => ?_)
      go_simp
      refine hK _ _ ?_
      clear hK K
      (try simp only [Act.put, List.setIfInBounds_toArray, List.set_cons_zero, List.set_cons_succ])
      refine wpList_take (wanted_yes rfl d14 rfl rfl) (fun K hK => ?_)
      go_simp
      refine hK _ _ ?_
      clear hK K
      (try simp only [Act.put, List.setIfInBounds_toArray, List.set_cons_zero, List.set_cons_succ])
      refine wpList_take (wanted_yes rfl d14 rfl rfl) (fun K hK => ?_)
      go_simp
      refine hK _ _ ?_
      clear hK K
      (try simp only [Act.put, List.setIfInBounds_toArray, List.set_cons_zero, List.set_cons_succ])
      refine wpList_take (wanted_yes rfl d23 rfl rfl) (fun K hK => ?_)
      go_simp
      refine hK _ _ ?_
      clear hK K
      (try simp only [Act.put, List.setIfInBounds_toArray, List.set_cons_zero, List.set_cons_succ])
      refine wpList_take (wanted_yes rfl d23 rfl rfl) (fun K hK => ?_)
      go_simp
      refine hK _ _ ?_
      clear hK K
      (try simp only [Act.put, List.setIfInBounds_toArray, List.set_cons_zero, List.set_cons_succ])
      refine wpList_take (wanted_yes rfl d23 rfl rfl) (fun K hK => ?_)
      go_simp
      refine hK _ _ ?_
      clear hK K
      (try simp only [Act.put, List.setIfInBounds_toArray, List.set_cons_zero, List.set_cons_succ])
      refine wpList_take (wanted_yes rfl d23 rfl rfl) (fun K hK => ?_)
      go_simp
      refine hK _ _ ?_
      clear hK K
      (try simp only [Act.put, List.setIfInBounds_toArray, List.set_cons_zero, List.set_cons_succ])
      refine wpList_take (wanted_yes rfl d23 rfl rfl) (fun K hK => ?_)
      go_simp
      refine hK _ _ ?_
      clear hK K
      (try simp only [Act.put, List.setIfInBounds_toArray, List.set_cons_zero, List.set_cons_succ])
      refine wpList_take (wanted_yes rfl d23 rfl rfl) (fun K hK => ?_)
      go_simp
      refine hK _ _ ?_
      clear hK K
      (try simp only [Act.put, List.setIfInBounds_toArray, List.set_cons_zero, List.set_cons_succ])
      refine wpList_take (wanted_yes rfl d23 rfl rfl) (fun K hK => ?_)
      go_simp
      refine hK _ _ ?_
      clear hK K
      (try simp only [Act.put, List.setIfInBounds_toArray, List.set_cons_zero, List.set_cons_succ])
      refine wpList_take (wanted_yes rfl d23 rfl rfl) (fun K hK => ?_)
      go_simp
      refine hK _ _ ?_
      clear hK K
      (try simp only [Act.put, List.setIfInBounds_toArray, List.set_cons_zero, List.set_cons_succ])
      refine wpList_take (wanted_yes rfl d14 rfl rfl) (fun K hK => ?_)
      go_simp
      refine hK _ _ ?_
      clear hK K
      (try simp only [Act.put, List.setIfInBounds_toArray, List.set_cons_zero, List.set_cons_succ])
      refine wpList_plain rfl (fun K hK => ?_)
      go_simp
      refine hK _ _ ?_
      clear hK K
      (try simp only [Act.put, List.setIfInBounds_toArray, List.set_cons_zero, List.set_cons_succ])
      refine wpList_plain rfl (fun K hK => ?_)
      go_simp
      refine hK _ _ ?_
      clear hK K
      (try simp only [Act.put, List.setIfInBounds_toArray, List.set_cons_zero, List.set_cons_succ])
      refine wpList_take (wanted_yes rfl d34 rfl rfl) (fun K hK => ?_)
      go_simp
      refine hK _ _ ?_
      clear hK K
      (try simp only [Act.put, List.setIfInBounds_toArray, List.set_cons_zero, List.set_cons_succ])
      refine wpList_take (wanted_yes rfl d34 rfl rfl) (fun K hK => ?_)
      go_simp
      refine hK _ _ ?_
      clear hK K
      (try simp only [Act.put, List.setIfInBounds_toArray, List.set_cons_zero, List.set_cons_succ])
      refine wpList_take (wanted_yes rfl d34 rfl rfl) (fun K hK => ?_)
      go_simp
      refine hK _ _ ?_
      clear hK K
      (try simp only [Act.put, List.setIfInBounds_toArray, List.set_cons_zero, List.set_cons_succ])
      refine wpList_take (wanted_yes rfl d34 rfl rfl) (fun K hK => ?_)
      go_simp
      refine hK _ _ ?_
      clear hK K
      (try simp only [Act.put, List.setIfInBounds_toArray, List.set_cons_zero, List.set_cons_succ])
      refine wpList_take (wanted_yes rfl d34 rfl rfl) (fun K hK => ?_)
      go_simp
      refine hK _ _ ?_
      clear hK K
      (try simp only [Act.put, List.setIfInBounds_toArray, List.set_cons_zero, List.set_cons_succ])
      refine wpList_take (wanted_yes rfl d34 rfl rfl) (fun K hK => ?_)
      go_simp
      refine hK _ _ ?_
      clear hK K
      (try simp only [Act.put, List.setIfInBounds_toArray, List.set_cons_zero, List.set_cons_succ])
      refine wpList_take (wanted_yes rfl d34 rfl rfl) (fun K hK => ?_)
      go_simp
      refine hK _ _ ?_
      clear hK K
      (try simp only [Act.put, List.setIfInBounds_toArray, List.set_cons_zero, List.set_cons_succ])
      refine wpList_pass (wanted_no rfl d41 rfl rfl) (by kernel_rfl) ?_
      refine wpList_pass (wanted_no rfl d41 rfl rfl) (by kernel_rfl) ?_
      refine wpList_pass (wanted_no rfl d41 rfl rfl) (by kernel_rfl) ?_
      refine wpList_pass (wanted_no rfl d41 rfl rfl) (by kernel_rfl) ?_
      refine wpList_pass (wanted_no rfl d41 rfl rfl) (by kernel_rfl) ?_
      refine wpList_pass (wanted_no rfl d41 rfl rfl) (by kernel_rfl) ?_
      refine wpList_take (wanted_yes rfl d34 rfl rfl) (fun K hK => ?_)
      go_simp
      refine hK _ _ ?_
      clear hK K
      (try simp only [Act.put, List.setIfInBounds_toArray, List.set_cons_zero, List.set_cons_succ])
      refine wpList_take (wanted_yes rfl d34 rfl rfl) (fun K hK => ?_)
      go_simp
      refine hK _ _ ?_
      clear hK K
      (try simp only [Act.put, List.setIfInBounds_toArray, List.set_cons_zero, List.set_cons_succ])
      refine wpList_pass (wanted_no rfl d49 rfl rfl) (by kernel_rfl) ?_
      refine wpList_pass (wanted_no rfl d49 rfl rfl) (by kernel_rfl) ?_
      refine wpList_pass (wanted_no rfl d49 rfl rfl) (by kernel_rfl) ?_
      refine wpList_pass (wanted_no rfl d49 rfl rfl) (by kernel_rfl) ?_
      refine wpList_pass (wanted_no rfl d49 rfl rfl) (by kernel_rfl) ?_
      refine wpList_pass (wanted_no rfl d49 rfl rfl) (by kernel_rfl) ?_
      refine wpList_pass (wanted_no rfl d49 rfl rfl) (by kernel_rfl) ?_
      refine wpList_pass (wanted_no rfl d49 rfl rfl) (by kernel_rfl) ?_
      refine wpList_pass (wanted_no rfl d49 rfl rfl) (by kernel_rfl) ?_
      refine wpList_pass (wanted_undef rfl d58 rfl) (by kernel_rfl) ?_
      refine wpList_pass (wanted_undef rfl d58 rfl) (by kernel_rfl) ?_
      refine wpList_pass (wanted_undef rfl d58 rfl) (by kernel_rfl) ?_
      refine wpList_pass (wanted_undef rfl d58 rfl) (by kernel_rfl) ?_
      refine wpList_pass (wanted_undef rfl d58 rfl) (by kernel_rfl) ?_
      refine wpList_pass (wanted_undef rfl d58 rfl) (by kernel_rfl) ?_
      refine wpList_pass (wanted_undef rfl d58 rfl) (by kernel_rfl) ?_
      refine wpList_pass (wanted_undef rfl d58 rfl) (by kernel_rfl) ?_
      refine wpList_pass (wanted_no rfl d49 rfl rfl) (by kernel_rfl) ?_
      refine wpList_take (wanted_yes rfl d34 rfl rfl) (fun K hK => ?_)
      go_simp
      refine hK _ _ ?_
      clear hK K
      (try simp only [Act.put, List.setIfInBounds_toArray, List.set_cons_zero, List.set_cons_succ])
      refine wpList_plain rfl (fun K hK => ?_)
      go_simp
      refine hK _ _ ?_
      clear hK K
      (try simp only [Act.put, List.setIfInBounds_toArray, List.set_cons_zero, List.set_cons_succ])
      refine wpList_nil ?_
      refine hKs _ _ ?_
    case' inr.inr.inr.inl =>
      repeat (refine wp_seq_k (fun K hKs => ?_))
      refine wp_region_var (fun OPS hOPS => ?_)
      have d6 : (OPS[6]?).bind (·.dst) = some 57 := by (rw [hOPS]; kernel_rfl)
      have d14 : (OPS[14]?).bind (·.dst) = some 65 := by (rw [hOPS]; kernel_rfl)
      have d23 : (OPS[23]?).bind (·.dst) = some 74 := by (rw [hOPS]; kernel_rfl)
      have d34 : (OPS[34]?).bind (·.dst) = some 85 := by (rw [hOPS]; kernel_rfl)
      have d41 : (OPS[41]?).bind (·.dst) = some 92 := by (rw [hOPS]; kernel_rfl)
      have d49 : (OPS[49]?).bind (·.dst) = some 100 := by (rw [hOPS]; kernel_rfl)
      have d58 : (OPS[58]?).bind (·.dst) = some 109 := by (rw [hOPS]; kernel_rfl)
      clear hOPS
      refine wpList_plain rfl (fun K hK => ?_)
      go_simp
      refine hK _ _ ?_
      clear hK K
      (try simp only [Act.put, List.setIfInBounds_toArray, List.set_cons_zero, List.set_cons_succ])
      refine wpList_plain rfl (fun K hK => ?_)
      go_simp
      refine hK _ _ ?_
      clear hK K
      (try simp only [Act.put, List.setIfInBounds_toArray, List.set_cons_zero, List.set_cons_succ])
      refine wpList_plain rfl (fun K hK => ?_)
      go_simp
      refine hK _ _ ?_
      clear hK K
      (try simp only [Act.put, List.setIfInBounds_toArray, List.set_cons_zero, List.set_cons_succ])
      refine wpList_plain rfl (fun K hK => ?_)
      go_simp
      refine hK _ _ ?_
      clear hK K
      (try simp only [Act.put, List.setIfInBounds_toArray, List.set_cons_zero, List.set_cons_succ])
      refine wpList_plain rfl (fun K hK => ?_)
      go_simp
      refine hK _ _ ?_
      clear hK K
      (try simp only [Act.put, List.setIfInBounds_toArray, List.set_cons_zero, List.set_cons_succ])
      refine wpList_plain rfl (fun K hK => ?_)
      go_simp
      refine hK _ _ ?_
      clear hK K
      (try simp only [Act.put, List.setIfInBounds_toArray, List.set_cons_zero, List.set_cons_succ])
      refine wpList_plain rfl (fun K hK => ?_)
      go_simp
      refine hK _ _ ?_
      clear hK K
      (try simp only [Act.put, List.setIfInBounds_toArray, List.set_cons_zero, List.set_cons_succ])
      refine wpList_take (wanted_yes rfl d6 rfl rfl) (fun K hK => ?_)
      go_simp
      refine hK _ _ ?_
      clear hK K
      (try simp only [Act.put, List.setIfInBounds_toArray, List.set_cons_zero, List.set_cons_succ])
      refine wpList_take (wanted_yes rfl d6 rfl rfl) (fun K hK => ?_)
      go_simp
      refine hK _ _ ?_
      clear hK K
      (try simp only [Act.put, List.setIfInBounds_toArray, List.set_cons_zero, List.set_cons_succ])
      refine wpList_take (wanted_yes rfl d6 rfl rfl) (fun K hK => ?_)
      go_simp
      refine hK _ _ ?_
      clear hK K
      (try simp only [Act.put, List.setIfInBounds_toArray, List.set_cons_zero, List.set_cons_succ])
      refine wpList_take (wanted_yes rfl d6 rfl rfl) (fun K hK => ?_)
      go_simp
      refine hK _ _ ?_
      clear hK K
      (try simp only [Act.put, List.setIfInBounds_toArray, List.set_cons_zero, List.set_cons_succ])
      refine wpList_take (wanted_yes rfl d6 rfl rfl) (fun K hK => ?_)
      go_simp
      refine hK _ _ ?_
      clear hK K
      (try simp only [Act.put, List.setIfInBounds_toArray, List.set_cons_zero, List.set_cons_succ])
      refine wpList_take (wanted_yes rfl d6 rfl rfl) (fun K hK => ?_)
      go_simp
      refine hK _ _ ?_
      clear hK K
      (try simp only [Act.put, List.setIfInBounds_toArray, List.set_cons_zero, List.set_cons_succ])
      refine wpList_plain rfl (fun K hK => ?_)
      go_simp
      refine hK _ _ ?_
      clear hK K
      (try simp only [Act.put, List.setIfInBounds_toArray, List.set_cons_zero, List.set_cons_succ])
      refine wpList_plain rfl (fun K hK => ?_)
      go_simp
      refine hK _ _ ?_
      clear hK K
      (try simp only [Act.put, List.setIfInBounds_toArray, List.set_cons_zero, List.set_cons_succ])
      refine wpList_take (wanted_yes rfl d14 rfl rfl) (fun K hK => ?_)
      go_simp
      refine hK _ _ ?_
      clear hK K
      (try simp only [Act.put, List.setIfInBounds_toArray, List.set_cons_zero, List.set_cons_succ])
      refine wpList_take (wanted_yes rfl d14 rfl rfl) (fun K hK => ?_)
      go_simp
      refine hK _ _ ?_
      clear hK K
      (try simp only [Act.put, List.setIfInBounds_toArray, List.set_cons_zero, List.set_cons_succ])
      refine wpList_take (wanted_yes rfl d14 rfl rfl) (fun K hK => ?_)
      go_simp
      refine hK _ _ ?_
      clear hK K
      (try simp only [Act.put, List.setIfInBounds_toArray, List.set_cons_zero, List.set_cons_succ])
      refine wpList_take (wanted_yes rfl d14 rfl rfl) (fun K hK => ?_)
      go_simp
      refine hK _ _ ?_
      clear hK K
      (try simp only [Act.put, List.setIfInBounds_toArray, List.set_cons_zero, List.set_cons_succ])
      refine wpList_take (wanted_yes rfl d14 rfl rfl) (fun K hK => ?_)
      go_simp
      refine hK _ _ ?_
      clear hK K
      (try simp only [Act.put, List.setIfInBounds_toArray, List.set_cons_zero, List.set_cons_succ])
      refine wpList_take (wanted_yes rfl d14 rfl rfl) (fun K hK => ?_)
      go_simp
      refine hK _ _ ?_
      clear hK K
      (try simp only [Act.put, List.setIfInBounds_toArray, List.set_cons_zero, List.set_cons_succ])
      refine wpList_take (wanted_yes rfl d14 rfl rfl) (fun K hK => ?_)
      go_simp
      refine hK _ _ ?_
      clear hK K
      (try simp only [Act.put, List.setIfInBounds_toArray, List.set_cons_zero, List.set_cons_succ])
      refine wpList_take (wanted_yes rfl d14 rfl rfl) (fun K hK => ?_)
      go_simp
      refine hK _ _ ?_
      clear hK K
      (try simp only [Act.put, List.setIfInBounds_toArray, List.set_cons_zero, List.set_cons_succ])
      refine wpList_take (wanted_yes rfl d14 rfl rfl) (fun K hK => ?_)
      go_simp
      refine hK _ _ ?_
      clear hK K
      (try simp only [Act.put, List.setIfInBounds_toArray, List.set_cons_zero, List.set_cons_succ])
      refine wpList_take (wanted_yes rfl d23 rfl rfl) (fun K hK => ?_)
      go_simp
      refine hK _ _ ?_
      clear hK K
      (try simp only [Act.put, List.setIfInBounds_toArray, List.set_cons_zero, List.set_cons_succ])
      refine wpList_take (wanted_yes rfl d23 rfl rfl) (fun K hK => ?_)
      go_simp
      refine hK _ _ ?_
      clear hK K
      (try simp only [Act.put, List.setIfInBounds_toArray, List.set_cons_zero, List.set_cons_succ])
      refine wpList_take (wanted_yes rfl d23 rfl rfl) (fun K hK => ?_)
      go_simp
      refine hK _ _ ?_
      clear hK K
      (try simp only [Act.put, List.setIfInBounds_toArray, List.set_cons_zero, List.set_cons_succ])
      refine wpList_take (wanted_yes rfl d23 rfl rfl) (fun K hK => ?_)
      go_simp
      refine hK _ _ ?_
      clear hK K
      (try simp only [Act.put, List.setIfInBounds_toArray, List.set_cons_zero, List.set_cons_succ])
      refine wpList_take (wanted_yes rfl d23 rfl rfl) (fun K hK => ?_)
      go_simp
      refine hK _ _ ?_
      clear hK K
      (try simp only [Act.put, List.setIfInBounds_toArray, List.set_cons_zero, List.set_cons_succ])
      refine wpList_take (wanted_yes rfl d23 rfl rfl) (fun K hK => ?_)
      go_simp
      refine hK _ _ ?_
      clear hK K
      (try simp only [Act.put, List.setIfInBounds_toArray, List.set_cons_zero, List.set_cons_succ])
      refine wpList_take (wanted_yes rfl d23 rfl rfl) (fun K hK => ?_)
      go_simp
      refine hK _ _ ?_
      clear hK K
      (try simp only [Act.put, List.setIfInBounds_toArray, List.set_cons_zero, List.set_cons_succ])
      refine wpList_take (wanted_yes rfl d23 rfl rfl) (fun K hK => ?_)
      go_simp
      refine hK _ _ ?_
      clear hK K
      (try simp only [Act.put, List.setIfInBounds_toArray, List.set_cons_zero, List.set_cons_succ])
      refine wpList_take (wanted_yes rfl d14 rfl rfl) (fun K hK => ?_)
      go_simp
      refine hK _ _ ?_
      clear hK K
      (try simp only [Act.put, List.setIfInBounds_toArray, List.set_cons_zero, List.set_cons_succ])
      refine wpList_plain rfl (fun K hK => ?_)
      go_simp
      refine hK _ _ ?_
      clear hK K
      (try simp only [Act.put, List.setIfInBounds_toArray, List.set_cons_zero, List.set_cons_succ])
      refine wpList_plain rfl (fun K hK => ?_)
      go_simp
      refine hK _ _ ?_
      clear hK K
      (try simp only [Act.put, List.setIfInBounds_toArray, List.set_cons_zero, List.set_cons_succ])
      refine wpList_take (wanted_yes rfl d34 rfl rfl) (fun K hK => ?_)
      go_simp
      refine hK _ _ ?_
      clear hK K
      (try simp only [Act.put, List.setIfInBounds_toArray, List.set_cons_zero, List.set_cons_succ])
      refine wpList_take (wanted_yes rfl d34 rfl rfl) (fun K hK => ?_)
      go_simp
      refine hK _ _ ?_
      clear hK K
      (try simp only [Act.put, List.setIfInBounds_toArray, List.set_cons_zero, List.set_cons_succ])
      refine wpList_take (wanted_yes rfl d34 rfl rfl) (fun K hK => ?_)
      go_simp
      refine hK _ _ ?_
      clear hK K
      (try simp only [Act.put, List.setIfInBounds_toArray, List.set_cons_zero, List.set_cons_succ])
      refine wpList_take (wanted_yes rfl d34 rfl rfl) (fun K hK => ?_)
      go_simp
      refine hK _ _ ?_
      clear hK K
      (try simp only [Act.put, List.setIfInBounds_toArray, List.set_cons_zero, List.set_cons_succ])
      refine wpList_take (wanted_yes rfl d34 rfl rfl) (fun K hK => ?_)
      go_simp
      refine hK _ _ ?_
      clear hK K
      (try simp only [Act.put, List.setIfInBounds_toArray, List.set_cons_zero, List.set_cons_succ])
      refine wpList_take (wanted_yes rfl d34 rfl rfl) (fun K hK => ?_)
      go_simp
      refine hK _ _ ?_
      clear hK K
      (try simp only [Act.put, List.setIfInBounds_toArray, List.set_cons_zero, List.set_cons_succ])
      refine wpList_take (wanted_yes rfl d34 rfl rfl) (fun K hK => ?_)
      go_simp
      refine hK _ _ ?_
      clear hK K
      (try simp only [Act.put, List.setIfInBounds_toArray, List.set_cons_zero, List.set_cons_succ])
      refine wpList_take (wanted_yes rfl d41 rfl rfl) (fun K hK => ?_)
      go_simp
      refine hK _ _ ?_
      clear hK K
      (try simp only [Act.put, List.setIfInBounds_toArray, List.set_cons_zero, List.set_cons_succ])
      refine wpList_take (wanted_yes rfl d41 rfl rfl) (fun K hK => ?_)
      go_simp
      refine hK _ _ ?_
      clear hK K
      (try simp only [Act.put, List.setIfInBounds_toArray, List.set_cons_zero, List.set_cons_succ])
      refine wpList_take (wanted_yes rfl d41 rfl rfl) (fun K hK => ?_)
      go_simp
      refine hK _ _ ?_
      clear hK K
      (try simp only [Act.put, List.setIfInBounds_toArray, List.set_cons_zero, List.set_cons_succ])
      refine wpList_take (wanted_yes rfl d41 rfl rfl) (fun K hK => ?_)
      go_simp
      refine hK _ _ ?_
      clear hK K
      (try simp only [Act.put, List.setIfInBounds_toArray, List.set_cons_zero, List.set_cons_succ])
      refine wpList_take (wanted_yes rfl d41 rfl rfl) (fun K hK => ?_)
      go_simp
      refine hK _ _ ?_
      clear hK K
      (try simp only [Act.put, List.setIfInBounds_toArray, List.set_cons_zero, List.set_cons_succ])
      refine wpList_take (wanted_yes rfl d41 rfl rfl) (fun K hK => ?_)
      go_simp
      refine hK _ _ ?_
      clear hK K
      (try simp only [Act.put, List.setIfInBounds_toArray, List.set_cons_zero, List.set_cons_succ])
      refine wpList_take (wanted_yes rfl d34 rfl rfl) (fun K hK => ?_)
      go_simp
      refine hK _ _ ?_
      clear hK K
      (try simp only [Act.put, List.setIfInBounds_toArray, List.set_cons_zero, List.set_cons_succ])
      refine wpList_take (wanted_yes rfl d34 rfl rfl) (fun K hK => ?_)
      go_simp
      refine hK _ _ ?_
      clear hK K
      (try simp only [Act.put, List.setIfInBounds_toArray, List.set_cons_zero, List.set_cons_succ])
      refine wpList_pass (wanted_no rfl d49 rfl rfl) (by kernel_rfl) ?_
      refine wpList_pass (wanted_no rfl d49 rfl rfl) (by kernel_rfl) ?_
      refine wpList_pass (wanted_no rfl d49 rfl rfl) (by kernel_rfl) ?_
      refine wpList_pass (wanted_no rfl d49 rfl rfl) (by kernel_rfl) ?_
      refine wpList_pass (wanted_no rfl d49 rfl rfl) (by kernel_rfl) ?_
      refine wpList_pass (wanted_no rfl d49 rfl rfl) (by kernel_rfl) ?_
      refine wpList_pass (wanted_no rfl d49 rfl rfl) (by kernel_rfl) ?_
      refine wpList_pass (wanted_no rfl d49 rfl rfl) (by kernel_rfl) ?_
      refine wpList_pass (wanted_no rfl d49 rfl rfl) (by kernel_rfl) ?_
      refine wpList_pass (wanted_undef rfl d58 rfl) (by kernel_rfl) ?_
      refine wpList_pass (wanted_undef rfl d58 rfl) (by kernel_rfl) ?_
      refine wpList_pass (wanted_undef rfl d58 rfl) (by kernel_rfl) ?_
      refine wpList_pass (wanted_undef rfl d58 rfl) (by kernel_rfl) ?_
      refine wpList_pass (wanted_undef rfl d58 rfl) (by kernel_rfl) ?_
      refine wpList_pass (wanted_undef rfl d58 rfl) (by kernel_rfl) ?_
      refine wpList_pass (wanted_undef rfl d58 rfl) (by kernel_rfl) ?_
      refine wpList_pass (wanted_undef rfl d58 rfl) (by kernel_rfl) ?_
      refine wpList_pass (wanted_no rfl d49 rfl rfl) (by kernel_rfl) ?_
      refine wpList_take (wanted_yes rfl d34 rfl rfl) (fun K hK => ?_)
      go_simp
      refine hK _ _ ?_
      clear hK K
      (try simp only [Act.put, List.setIfInBounds_toArray, List.set_cons_zero, List.set_cons_succ])
      refine wpList_plain rfl (fun K hK => ?_)
      go_simp
      refine hK _ _ ?_
      clear hK K
      (try simp only [Act.put, List.setIfInBounds_toArray, List.set_cons_zero, List.set_cons_succ])
      refine wpList_nil ?_
      refine hKs _ _ ?_
    case' inr.inr.inr.inr =>
      repeat (refine wp_seq_k (fun K hKs => ?_))
      refine wp_region_var (fun OPS hOPS => ?_)
      have d6 : (OPS[6]?).bind (·.dst) = some 57 := by (rw [hOPS]; kernel_rfl)
      have d14 : (OPS[14]?).bind (·.dst) = some 65 := by (rw [hOPS]; kernel_rfl)
      have d23 : (OPS[23]?).bind (·.dst) = some 74 := by (rw [hOPS]; kernel_rfl)
      have d34 : (OPS[34]?).bind (·.dst) = some 85 := by (rw [hOPS]; kernel_rfl)
      have d41 : (OPS[41]?).bind (·.dst) = some 92 := by (rw [hOPS]; kernel_rfl)
      have d49 : (OPS[49]?).bind (·.dst) = some 100 := by (rw [hOPS]; kernel_rfl)
      have d58 : (OPS[58]?).bind (·.dst) = some 109 := by (rw [hOPS]; kernel_rfl)
      clear hOPS
      refine wpList_plain rfl (fun K hK => ?_)
      go_simp
      refine hK _ _ ?_
      clear hK K
      (try simp only [Act.put, List.setIfInBounds_toArray, List.set_cons_zero, List.set_cons_succ])
      refine wpList_plain rfl (fun K hK => ?_)
      go_simp
      refine hK _ _ ?_
      clear hK K
      (try simp only [Act.put, List.setIfInBounds_toArray, List.set_cons_zero, List.set_cons_succ])
      refine wpList_plain rfl (fun K hK => ?_)
      go_simp
      refine hK _ _ ?_
      clear hK K
      (try simp only [Act.put, List.setIfInBounds_toArray, List.set_cons_zero, List.set_cons_succ])
      refine wpList_plain rfl (fun K hK => ?_)
      go_simp
      refine hK _ _ ?_
      clear hK K
      (try simp only [Act.put, List.setIfInBounds_toArray, List.set_cons_zero, List.set_cons_succ])
      refine wpList_plain rfl (fun K hK => ?_)
      go_simp
      refine hK _ _ ?_
      clear hK K
      (try simp only [Act.put, List.setIfInBounds_toArray, List.set_cons_zero, List.set_cons_succ])
      refine wpList_plain rfl (fun K hK => ?_)
      go_simp
      refine hK _ _ ?_
      clear hK K
      (try simp only [Act.put, List.setIfInBounds_toArray, List.set_cons_zero, List.set_cons_succ])
      refine wpList_plain rfl (fun K hK => ?_)
      go_simp
      refine hK _ _ ?_
      clear hK K
      (try simp only [Act.put, List.setIfInBounds_toArray, List.set_cons_zero, List.set_cons_succ])
      refine wpList_take (wanted_yes rfl d6 rfl rfl) (fun K hK => ?_)
      go_simp
      refine hK _ _ ?_
      clear hK K
      (try simp only [Act.put, List.setIfInBounds_toArray, List.set_cons_zero, List.set_cons_succ])
      refine wpList_take (wanted_yes rfl d6 rfl rfl) (fun K hK => ?_)
      go_simp
      refine hK _ _ ?_
      clear hK K
      (try simp only [Act.put, List.setIfInBounds_toArray, List.set_cons_zero, List.set_cons_succ])
      refine wpList_take (wanted_yes rfl d6 rfl rfl) (fun K hK => ?_)
      go_simp
      refine hK _ _ ?_
      clear hK K
      (try simp only [Act.put, List.setIfInBounds_toArray, List.set_cons_zero, List.set_cons_succ])
      refine wpList_take (wanted_yes rfl d6 rfl rfl) (fun K hK => ?_)
      go_simp
      refine hK _ _ ?_
      clear hK K
      (try simp only [Act.put, List.setIfInBounds_toArray, List.set_cons_zero, List.set_cons_succ])
      refine wpList_take (wanted_yes rfl d6 rfl rfl) (fun K hK => ?_)
      go_simp
      refine hK _ _ ?_
      clear hK K
      (try simp only [Act.put, List.setIfInBounds_toArray, List.set_cons_zero, List.set_cons_succ])
      refine wpList_take (wanted_yes rfl d6 rfl rfl) (fun K hK => ?_)
      go_simp
      refine hK _ _ ?_
      clear hK K
      (try simp only [Act.put, List.setIfInBounds_toArray, List.set_cons_zero, List.set_cons_succ])
      refine wpList_plain rfl (fun K hK => ?_)
      go_simp
      refine hK _ _ ?_
      clear hK K
      (try simp only [Act.put, List.setIfInBounds_toArray, List.set_cons_zero, List.set_cons_succ])
      refine wpList_plain rfl (fun K hK => ?_)
      go_simp
      refine hK _ _ ?_
      clear hK K
      (try simp only [Act.put, List.setIfInBounds_toArray, List.set_cons_zero, List.set_cons_succ])
      refine wpList_take (wanted_yes rfl d14 rfl rfl) (fun K hK => ?_)
      go_simp
      refine hK _ _ ?_
      clear hK K
      (try simp only [Act.put, List.setIfInBounds_toArray, List.set_cons_zero, List.set_cons_succ])
      refine wpList_take (wanted_yes rfl d14 rfl rfl) (fun K hK => ?_)
      go_simp
      refine hK _ _ ?_
      clear hK K
      (try simp only [Act.put, List.setIfInBounds_toArray, List.set_cons_zero, List.set_cons_succ])
      refine wpList_take (wanted_yes rfl d14 rfl rfl) (fun K hK => ?_)
      go_simp
      refine hK _ _ ?_
      clear hK K
      (try simp only [Act.put, List.setIfInBounds_toArray, List.set_cons_zero, List.set_cons_succ])
      refine wpList_take (wanted_yes rfl d14 rfl rfl) (fun K hK => ?_)
      go_simp
      refine hK _ _ ?_
      clear hK K
      (try simp only [Act.put, List.setIfInBounds_toArray, List.set_cons_zero, List.set_cons_succ])
      refine wpList_take (wanted_yes rfl d14 rfl rfl) (fun K hK => ?_)
      go_simp
      refine hK _ _ ?_
      clear hK K
      (try simp only [Act.put, List.setIfInBounds_toArray, List.set_cons_zero, List.set_cons_succ])
      refine wpList_take (wanted_yes rfl d14 rfl rfl) (fun K hK => ?_)
      go_simp
      refine hK _ _ ?_
      clear hK K
      (try simp only [Act.put, List.setIfInBounds_toArray, List.set_cons_zero, List.set_cons_succ])
      refine wpList_take (wanted_yes rfl d14 rfl rfl) (fun K hK => ?_)
      go_simp
      refine hK _ _ ?_
      clear hK K
      (try simp only [Act.put, List.setIfInBounds_toArray, List.set_cons_zero, List.set_cons_succ])
      refine wpList_take (wanted_yes rfl d14 rfl rfl) (fun K hK => ?_)
      go_simp
      refine hK _ _ ?_
      clear hK K
      (try simp only [Act.put, List.setIfInBounds_toArray, List.set_cons_zero, List.set_cons_succ])
      refine wpList_take (wanted_yes rfl d14 rfl rfl) (fun K hK => ?_)
      go_simp
      refine hK _ _ ?_
      clear hK K
      (try simp only [Act.put, List.setIfInBounds_toArray, List.set_cons_zero, List.set_cons_succ])
      refine wpList_take (wanted_yes rfl d23 rfl rfl) (fun K hK => ?_)
      go_simp
      refine hK _ _ ?_
      clear hK K
      (try simp only [Act.put, List.setIfInBounds_toArray, List.set_cons_zero, List.set_cons_succ])
      refine wpList_take (wanted_yes rfl d23 rfl rfl) (fun K hK => ?_)
      go_simp
      refine hK _ _ ?_
      clear hK K
      (try simp only [Act.put, List.setIfInBounds_toArray, List.set_cons_zero, List.set_cons_succ])
      refine wpList_take (wanted_yes rfl d23 rfl rfl) (fun K hK => ?_)
      go_simp
      refine hK _ _ ?_
      clear hK K
      (try simp only [Act.put, List.setIfInBounds_toArray, List.set_cons_zero, List.set_cons_succ])
      refine wpList_take (wanted_yes rfl d23 rfl rfl) (fun K hK => ?_)
      go_simp
      refine hK _ _ ?_
      clear hK K
      (try simp only [Act.put, List.setIfInBounds_toArray, List.set_cons_zero, List.set_cons_succ])
      refine wpList_take (wanted_yes rfl d23 rfl rfl) (fun K hK => ?_)
      go_simp
      refine hK _ _ ?_
      clear hK K
      (try simp only [Act.put, List.setIfInBounds_toArray, List.set_cons_zero, List.set_cons_succ])
      refine wpList_take (wanted_yes rfl d23 rfl rfl) (fun K hK => ?_)
      go_simp
      refine hK _ _ ?_
      clear hK K
      (try simp only [Act.put, List.setIfInBounds_toArray, List.set_cons_zero, List.set_cons_succ])
      refine wpList_take (wanted_yes rfl d23 rfl rfl) (fun K hK => ?_)
      go_simp
      refine hK _ _ ?_
      clear hK K
      (try simp only [Act.put, List.setIfInBounds_toArray, List.set_cons_zero, List.set_cons_succ])
      refine wpList_take (wanted_yes rfl d23 rfl rfl) (fun K hK => ?_)
      go_simp
      refine hK _ _ ?_
      clear hK K
      (try simp only [Act.put, List.setIfInBounds_toArray, List.set_cons_zero, List.set_cons_succ])
      refine wpList_take (wanted_yes rfl d14 rfl rfl) (fun K hK => ?_)
      go_simp
      refine hK _ _ ?_
      clear hK K
      (try simp only [Act.put, List.setIfInBounds_toArray, List.set_cons_zero, List.set_cons_succ])
      refine wpList_plain rfl (fun K hK => ?_)
      go_simp
      refine hK _ _ ?_
      clear hK K
      (try simp only [Act.put, List.setIfInBounds_toArray, List.set_cons_zero, List.set_cons_succ])
      refine wpList_plain rfl (fun K hK => ?_)
      go_simp
      refine hK _ _ ?_
      clear hK K
      (try simp only [Act.put, List.setIfInBounds_toArray, List.set_cons_zero, List.set_cons_succ])
      refine wpList_take (wanted_yes rfl d34 rfl rfl) (fun K hK => ?_)
      go_simp
      refine hK _ _ ?_
      clear hK K
      (try simp only [Act.put, List.setIfInBounds_toArray, List.set_cons_zero, List.set_cons_succ])
      refine wpList_take (wanted_yes rfl d34 rfl rfl) (fun K hK => ?_)
      go_simp
      refine hK _ _ ?_
      clear hK K
      (try simp only [Act.put, List.setIfInBounds_toArray, List.set_cons_zero, List.set_cons_succ])
      refine wpList_take (wanted_yes rfl d34 rfl rfl) (fun K hK => ?_)
      go_simp
      refine hK _ _ ?_
      clear hK K
      (try simp only [Act.put, List.setIfInBounds_toArray, List.set_cons_zero, List.set_cons_succ])
      refine wpList_take (wanted_yes rfl d34 rfl rfl) (fun K hK => ?_)
      go_simp
      refine hK _ _ ?_
      clear hK K
      (try simp only [Act.put, List.setIfInBounds_toArray, List.set_cons_zero, List.set_cons_succ])
      refine wpList_take (wanted_yes rfl d34 rfl rfl) (fun K hK => ?_)
      go_simp
      refine hK _ _ ?_
      clear hK K
      (try simp only [Act.put, List.setIfInBounds_toArray, List.set_cons_zero, List.set_cons_succ])
      refine wpList_take (wanted_yes rfl d34 rfl rfl) (fun K hK => ?_)
      go_simp
      refine hK _ _ ?_
      clear hK K
      (try simp only [Act.put, List.setIfInBounds_toArray, List.set_cons_zero, List.set_cons_succ])
      refine wpList_take (wanted_yes rfl d34 rfl rfl) (fun K hK => ?_)
      go_simp
      refine hK _ _ ?_
      clear hK K
      (try simp only [Act.put, List.setIfInBounds_toArray, List.set_cons_zero, List.set_cons_succ])
      refine wpList_take (wanted_yes rfl d41 rfl rfl) (fun K hK => ?_)
      go_simp
      refine hK _ _ ?_
      clear hK K
      (try simp only [Act.put, List.setIfInBounds_toArray, List.set_cons_zero, List.set_cons_succ])
      refine wpList_take (wanted_yes rfl d41 rfl rfl) (fun K hK => ?_)
      go_simp
      refine hK _ _ ?_
      clear hK K
      (try simp only [Act.put, List.setIfInBounds_toArray, List.set_cons_zero, List.set_cons_succ])
      refine wpList_take (wanted_yes rfl d41 rfl rfl) (fun K hK => ?_)
      go_simp
      refine hK _ _ ?_
      clear hK K
      (try simp only [Act.put, List.setIfInBounds_toArray, List.set_cons_zero, List.set_cons_succ])
      refine wpList_take (wanted_yes rfl d41 rfl rfl) (fun K hK => ?_)
      go_simp
      refine hK _ _ ?_
      clear hK K
      (try simp only [Act.put, List.setIfInBounds_toArray, List.set_cons_zero, List.set_cons_succ])
      refine wpList_take (wanted_yes rfl d41 rfl rfl) (fun K hK => ?_)
      go_simp
      refine hK _ _ ?_
      clear hK K
      (try simp only [Act.put, List.setIfInBounds_toArray, List.set_cons_zero, List.set_cons_succ])
      refine wpList_take (wanted_yes rfl d41 rfl rfl) (fun K hK => ?_)
      go_simp
      refine hK _ _ ?_
      clear hK K
      (try simp only [Act.put, List.setIfInBounds_toArray, List.set_cons_zero, List.set_cons_succ])
      refine wpList_take (wanted_yes rfl d34 rfl rfl) (fun K hK => ?_)
      go_simp
      refine hK _ _ ?_
      clear hK K
      (try simp only [Act.put, List.setIfInBounds_toArray, List.set_cons_zero, List.set_cons_succ])
      refine wpList_take (wanted_yes rfl d34 rfl rfl) (fun K hK => ?_)
      go_simp
      refine hK _ _ ?_
      clear hK K
      (try simp only [Act.put, List.setIfInBounds_toArray, List.set_cons_zero, List.set_cons_succ])
      refine wpList_take (wanted_yes rfl d49 rfl rfl) (fun K hK => ?_)
      go_simp
      refine hK _ _ ?_
      clear hK K
      (try simp only [Act.put, List.setIfInBounds_toArray, List.set_cons_zero, List.set_cons_succ])
      refine wpList_take (wanted_yes rfl d49 rfl rfl) (fun K hK => ?_)
      go_simp
      refine hK _ _ ?_
      clear hK K
      (try simp only [Act.put, List.setIfInBounds_toArray, List.set_cons_zero, List.set_cons_succ])
      refine wpList_take (wanted_yes rfl d49 rfl rfl) (fun K hK => ?_)
      go_simp
      refine hK _ _ ?_
      clear hK K
      (try simp only [Act.put, List.setIfInBounds_toArray, List.set_cons_zero, List.set_cons_succ])
      refine wpList_take (wanted_yes rfl d49 rfl rfl) (fun K hK => ?_)
      go_simp
      refine hK _ _ ?_
      clear hK K
      (try simp only [Act.put, List.setIfInBounds_toArray, List.set_cons_zero, List.set_cons_succ])
      refine wpList_take (wanted_yes rfl d49 rfl rfl) (fun K hK => ?_)
      go_simp
      refine hK _ _ ?_
      clear hK K
      (try simp only [Act.put, List.setIfInBounds_toArray, List.set_cons_zero, List.set_cons_succ])
      refine wpList_take (wanted_yes rfl d49 rfl rfl) (fun K hK => ?_)
      go_simp
      refine hK _ _ ?_
      clear hK K
      (try simp only [Act.put, List.setIfInBounds_toArray, List.set_cons_zero, List.set_cons_succ])
      refine wpList_take (wanted_yes rfl d49 rfl rfl) (fun K hK => ?_)
      go_simp
      refine hK _ _ ?_
      clear hK K
      (try simp only [Act.put, List.setIfInBounds_toArray, List.set_cons_zero, List.set_cons_succ])
      refine wpList_take (wanted_yes rfl d49 rfl rfl) (fun K hK => ?_)
      go_simp
      refine hK _ _ ?_
      clear hK K
      (try simp only [Act.put, List.setIfInBounds_toArray, List.set_cons_zero, List.set_cons_succ])
      refine wpList_take (wanted_yes rfl d49 rfl rfl) (fun K hK => ?_)
      go_simp
      refine hK _ _ ?_
      clear hK K
      (try simp only [Act.put, List.setIfInBounds_toArray, List.set_cons_zero, List.set_cons_succ])
      refine wpList_take (wanted_yes rfl d58 rfl rfl) (fun K hK => ?_)
      go_simp
      refine hK _ _ ?_
      clear hK K
      (try simp only [Act.put, List.setIfInBounds_toArray, List.set_cons_zero, List.set_cons_succ])
      refine wpList_take (wanted_yes rfl d58 rfl rfl) (fun K hK => ?_)
      go_simp
      refine hK _ _ ?_
      clear hK K
      (try simp only [Act.put, List.setIfInBounds_toArray, List.set_cons_zero, List.set_cons_succ])
      refine wpList_take (wanted_yes rfl d58 rfl rfl) (fun K hK => ?_)
      go_simp
      refine hK _ _ ?_
      clear hK K
      (try simp only [Act.put, List.setIfInBounds_toArray, List.set_cons_zero, List.set_cons_succ])
      refine wpList_take (wanted_yes rfl d58 rfl rfl) (fun K hK => ?_)
      go_simp
      refine hK _ _ ?_
      clear hK K
      (try simp only [Act.put, List.setIfInBounds_toArray, List.set_cons_zero, List.set_cons_succ])
      refine wpList_take (wanted_yes rfl d58 rfl rfl) (fun K hK => ?_)
      go_simp
      refine hK _ _ ?_
      clear hK K
      (try simp only [Act.put, List.setIfInBounds_toArray, List.set_cons_zero, List.set_cons_succ])
      refine wpList_take (wanted_yes rfl d58 rfl rfl) (fun K hK => ?_)
      go_simp
      refine hK _ _ ?_
      clear hK K
      (try simp only [Act.put, List.setIfInBounds_toArray, List.set_cons_zero, List.set_cons_succ])
      refine wpList_take (wanted_yes rfl d58 rfl rfl) (fun K hK => ?_)
      go_simp
      refine hK _ _ ?_
      clear hK K
      (try simp only [Act.put, List.setIfInBounds_toArray, List.set_cons_zero, List.set_cons_succ])
      refine wpList_take (wanted_yes rfl d58 rfl rfl) (fun K hK => ?_)
      go_simp
      refine hK _ _ ?_
      clear hK K
      (try simp only [Act.put, List.setIfInBounds_toArray, List.set_cons_zero, List.set_cons_succ])
      refine wpList_take (wanted_yes rfl d49 rfl rfl) (fun K hK => ?_)
      go_simp
      refine hK _ _ ?_
      clear hK K
      (try simp only [Act.put, List.setIfInBounds_toArray, List.set_cons_zero, List.set_cons_succ])
      refine wpList_take (wanted_yes rfl d34 rfl rfl) (fun K hK => ?_)
      go_simp
      refine hK _ _ ?_
      clear hK K
      (try simp only [Act.put, List.setIfInBounds_toArray, List.set_cons_zero, List.set_cons_succ])
      refine wpList_plain rfl (fun K hK => ?_)
      go_simp
      refine hK _ _ ?_
      clear hK K
      (try simp only [Act.put, List.setIfInBounds_toArray, List.set_cons_zero, List.set_cons_succ])
      refine wpList_nil ?_
      refine hKs _ _ ?_
    all_goals
      clear s0 s1 sg t0 t1 tg hPg3 hPg4
      go_wp2_with fail
      refine wp_region_held_drew (S := (fun w' => Two w x y g1 g2 w')) (by kernel_rfl) (hT.drew) (fun hHeld => ?_)
      refine' wpAnyH_take (i := 0) (v := _) ?_ ?_ ?_ ?_ ?_ ?_ ?_ ?_
      rotate_left 2
      focus (simp only [List.getElem?_toArray, List.getElem?_cons_succ, List.getElem?_cons_zero]; rfl)
      focus kernel_rfl
      focus kernel_rfl
      focus kernel_rfl
      focus exact (fun _ _ _ h => h)
      refine Or.inl ⟨?_, ?_⟩
      focus (go_simp; done)
      focus (intro w hSw; obtain ⟨_, ⟨x0, x1⟩, ⟨y0, y1⟩, _, _⟩ := hSw; (first | (go_simp; done) | (go_simp; with_reducible rfl)))
      focus assumption
      (try simp only [Act.put, List.setIfInBounds_toArray, List.set_cons_zero, List.set_cons_succ])
      refine' wpAnyH_take (i := 1) (v := _) ?_ ?_ ?_ ?_ ?_ ?_ ?_ ?_
      rotate_left 2
      focus (simp only [List.getElem?_toArray, List.getElem?_cons_succ, List.getElem?_cons_zero]; rfl)
      focus kernel_rfl
      focus kernel_rfl
      focus kernel_rfl
      focus exact (fun _ _ _ h => h)
      refine Or.inl ⟨?_, ?_⟩
      focus (go_simp; done)
      focus (intro w hSw; obtain ⟨_, ⟨x0, x1⟩, ⟨y0, y1⟩, _, _⟩ := hSw; (first | (go_simp; done) | (go_simp; with_reducible rfl)))
      focus assumption
      (try simp only [Act.put, List.setIfInBounds_toArray, List.set_cons_zero, List.set_cons_succ])
      refine' wpAnyH_take (i := 3) (v := _) ?_ ?_ ?_ ?_ ?_ ?_ ?_ ?_
      rotate_left 2
      focus (simp only [List.getElem?_toArray, List.getElem?_cons_succ, List.getElem?_cons_zero]; rfl)
      focus kernel_rfl
      focus kernel_rfl
      focus kernel_rfl
      focus exact (fun _ _ _ h => h)
      refine Or.inl ⟨?_, ?_⟩
      focus (go_simp; done)
      focus (intro w hSw; obtain ⟨_, ⟨x0, x1⟩, ⟨y0, y1⟩, _, _⟩ := hSw; (first | (go_simp; done) | (go_simp; with_reducible rfl)))
      focus assumption
      (try simp only [Act.put, List.setIfInBounds_toArray, List.set_cons_zero, List.set_cons_succ])
      refine' wpAnyH_take (i := 4) (v := _) ?_ ?_ ?_ ?_ ?_ ?_ ?_ ?_
      rotate_left 2
      focus (simp only [List.getElem?_toArray, List.getElem?_cons_succ, List.getElem?_cons_zero]; rfl)
      focus kernel_rfl
      focus kernel_rfl
      focus kernel_rfl
      focus exact (fun _ _ _ h => h)
      refine Or.inl ⟨?_, ?_⟩
      focus (go_simp; done)
      focus (intro w hSw; obtain ⟨_, ⟨x0, x1⟩, ⟨y0, y1⟩, _, _⟩ := hSw; (first | (go_simp; done) | (go_simp; with_reducible rfl)))
      focus assumption
      (try simp only [Act.put, List.setIfInBounds_toArray, List.set_cons_zero, List.set_cons_succ])
      refine wpAnyH_ready (rs := [2]) (by kernel_rfl) (by simp) ?_
      refine' AllReadyH.cons ?_ (fun K hK => ?_) AllReadyH.nil
      rotate_left
      focus (simp only [List.getElem?_toArray, List.getElem?_cons_succ, List.getElem?_cons_zero]; rfl)
      go_simp
      (go_at_call 18; refine Calls.mono (inside_any x m GX.out HM.out _) ?_; rintro e w4 ⟨i, hi, rfl, hb⟩)
      refine hK.out _ _ (Two.below hHeld hb) (fun hHeld => ?_)
      clear hK K
      (try simp only [Act.put, List.setIfInBounds_toArray, List.set_cons_zero, List.set_cons_succ])
      clear hb
      refine wpAnyH_ready (rs := [5]) (by kernel_rfl) (by simp) ?_
      refine' AllReadyH.cons ?_ (fun K hK => ?_) AllReadyH.nil
      rotate_left
      focus (simp only [List.getElem?_toArray, List.getElem?_cons_succ, List.getElem?_cons_zero]; rfl)
      go_simp
      (go_at_call 18; refine Calls.mono (inside_any y n GY.out HN.out _) ?_; rintro e w4 ⟨k, hk, rfl, hb⟩)
      refine hK.out _ _ (Two.below hHeld hb) (fun hHeld => ?_)
      clear hK K
      (try simp only [Act.put, List.setIfInBounds_toArray, List.set_cons_zero, List.set_cons_succ])
      clear hb
      refine' wpAnyH_take (i := 6) (v := _) ?_ ?_ ?_ ?_ ?_ ?_ ?_ ?_
      rotate_left 2
      focus (simp only [List.getElem?_toArray, List.getElem?_cons_succ, List.getElem?_cons_zero]; rfl)
      focus kernel_rfl
      focus kernel_rfl
      focus kernel_rfl
      focus exact (fun _ _ _ h => h)
      refine Or.inl ⟨?_, ?_⟩
      focus (go_simp; done)
      focus (intro w hSw; obtain ⟨_, ⟨x0, x1⟩, ⟨y0, y1⟩, _, _⟩ := hSw; (first | (go_simp; done) | (go_simp; with_reducible rfl)))
      focus assumption
      (try simp only [Act.put, List.setIfInBounds_toArray, List.set_cons_zero, List.set_cons_succ])
      refine' wpAnyH_take (i := 7) (v := _) ?_ ?_ ?_ ?_ ?_ ?_ ?_ ?_
      rotate_left 2
      focus (simp only [List.getElem?_toArray, List.getElem?_cons_succ, List.getElem?_cons_zero]; rfl)
      focus kernel_rfl
      focus kernel_rfl
      focus kernel_rfl
      focus exact (fun _ _ _ h => h)
      refine Or.inl ⟨?_, ?_⟩
      focus (go_simp; done)
      focus (intro w hSw; obtain ⟨_, ⟨x0, x1⟩, ⟨y0, y1⟩, _, _⟩ := hSw; (first | (go_simp; done) | (go_simp; with_reducible rfl)))
      focus assumption
      (try simp only [Act.put, List.setIfInBounds_toArray, List.set_cons_zero, List.set_cons_succ])
      refine wpAnyH_done (by kernel_rfl) ?_ _
      clear hT
      clear hv x0 x1 y0 y1 hg1 hg2
      have hT := hHeld
      obtain ⟨hv, ⟨x0, x1⟩, ⟨y0, y1⟩, hg1, hg2⟩ := id hT
      have HI := Lib.hid hi
      have HKk := Lib.hid hk
      clear hi hk
      go_wp2_with fail
      refine (inside_any x n GX.out HN.out _).mono ?_
      rintro e w6 ⟨i2, hi2, rfl, hb⟩
      clear hv x0 x1 y0 y1 hg1 hg2
      replace hT := hT.below hb
      obtain ⟨hv, ⟨x0, x1⟩, ⟨y0, y1⟩, hg1, hg2⟩ := id hT
      clear hb
      go_wp2_with fail
      clear hv x0 x1 y0 y1 hg1 hg2
      have hp := pr_new (i) (max i i2) w6 23
      have hb := (Below.refl w6.heap.size w6).alloc (Nat.le_refl _) (.cells #[.int .i64 (i), .int .i64 (max i i2)] 23)
      replace hT := hT.below hb
      clear hb
      generalize w6.alloc (.cells #[.int .i64 (i), .int .i64 (max i i2)] 23) = w7 at *
      generalize w6.heap.size = g5 at *
      obtain ⟨hv, ⟨x0, x1⟩, ⟨y0, y1⟩, hg1, hg2⟩ := id hT
      obtain ⟨⟨p0, p1⟩, pg⟩ := id hp
      go_wp2_with fail
      refine (inside_any y m GY.out HM.out _).mono ?_
      rintro e w8 ⟨k2, hk2, rfl, hb⟩
      clear hv x0 x1 y0 y1 hg1 hg2
      replace hT := hT.below hb
      obtain ⟨hv, ⟨x0, x1⟩, ⟨y0, y1⟩, hg1, hg2⟩ := id hT
      clear p0 p1 pg
      replace hp := Pr.below hp hb
      obtain ⟨⟨p0, p1⟩, pg⟩ := id hp
      clear hb
      go_wp2_with fail
      clear hv x0 x1 y0 y1 hg1 hg2
      have hq := pr_new (k) (max k k2) w8 23
      have hb := (Below.refl w8.heap.size w8).alloc (Nat.le_refl _) (.cells #[.int .i64 (k), .int .i64 (max k k2)] 23)
      replace hT := hT.below hb
      clear p0 p1 pg
      replace hp := Pr.below hp hb
      clear hb
      generalize w8.alloc (.cells #[.int .i64 (k), .int .i64 (max k k2)] 23) = w9 at *
      generalize w8.heap.size = g6 at *
      obtain ⟨hv, ⟨x0, x1⟩, ⟨y0, y1⟩, hg1, hg2⟩ := id hT
      obtain ⟨⟨q0, q1⟩, qg⟩ := id hq
      obtain ⟨⟨p0, p1⟩, pg⟩ := id hp
      obtain ⟨z1, hz1⟩ : ∃ z, Iv.act (1 + o % 14) ⟨i, max i i2⟩ ⟨k, max k k2⟩ = z := ⟨_, rfl⟩
      obtain ⟨z2, hz2⟩ : ∃ z, Iv.act (1 + o % 14) x y = z := ⟨_, rfl⟩
      have HZ := Lib.hid (show Iv.act (1 + o % 14) ⟨i, max i i2⟩ ⟨k, max k k2⟩ = z1 ∧ Iv.act (1 + o % 14) x y = z2 ∧ Iv.leq z1 z2 = true from ⟨hz1, hz2, by
        rw [← hz1, ← hz2]
        have q1 := HI.out
        have q2 := HKk.out
        have q3 : (1 : Int) ≤ 1 + o % 14 ∧ 1 + o % 14 ≤ 14 := by omega
        exact Iv.act_leq q3 GX.out GY.out ⟨by show _ ≤ i; omega, by show i ≤ max i i2; omega, by show max i i2 ≤ _; omega⟩ ⟨by show _ ≤ k; omega, by show k ≤ max k k2; omega, by show max k k2 ≤ _; omega⟩ ⟨by show _ ≤ i; omega, by show max i i2 ≤ _; omega⟩ ⟨by show _ ≤ k; omega, by show max k k2 ≤ _; omega⟩⟩)
      clear hz1 hz2 hi2 hk2
      go_wp2_with fail
      refine wp_region_held_drew (S := (fun w' => Two w x y g1 g2 w' ∧ Pr i (max i i2) g5 w' ∧ Pr k (max k k2) g6 w')) (by kernel_rfl) (⟨hT.drew, hp.drew, hq.drew⟩) (fun hHeld => ?_)
      refine' wpAnyH_take (i := 0) (v := _) ?_ ?_ ?_ ?_ ?_ ?_ ?_ ?_
      rotate_left 2
      focus (simp only [List.getElem?_toArray, List.getElem?_cons_succ, List.getElem?_cons_zero]; rfl)
      focus kernel_rfl
      focus kernel_rfl
      focus kernel_rfl
      focus exact (fun _ _ _ h => h)
      refine Or.inl ⟨?_, ?_⟩
      focus (go_simp; done)
      focus (intro w hSw; obtain ⟨⟨_, ⟨x0, x1⟩, ⟨y0, y1⟩, _, _⟩, ⟨⟨p0, p1⟩, _⟩, ⟨q0, q1⟩, _⟩ := hSw; (first | (go_simp; done) | (go_simp; with_reducible rfl)))
      focus assumption
      (try simp only [Act.put, List.setIfInBounds_toArray, List.set_cons_zero, List.set_cons_succ])
      refine' wpAnyH_take (i := 1) (v := _) ?_ ?_ ?_ ?_ ?_ ?_ ?_ ?_
      rotate_left 2
      focus (simp only [List.getElem?_toArray, List.getElem?_cons_succ, List.getElem?_cons_zero]; rfl)
      focus kernel_rfl
      focus kernel_rfl
      focus kernel_rfl
      focus exact (fun _ _ _ h => h)
      refine Or.inl ⟨?_, ?_⟩
      focus (go_simp; done)
      focus (intro w hSw; obtain ⟨⟨_, ⟨x0, x1⟩, ⟨y0, y1⟩, _, _⟩, ⟨⟨p0, p1⟩, _⟩, ⟨q0, q1⟩, _⟩ := hSw; (first | (go_simp; done) | (go_simp; with_reducible rfl)))
      focus assumption
      (try simp only [Act.put, List.setIfInBounds_toArray, List.set_cons_zero, List.set_cons_succ])
      refine' wpAnyH_take (i := 2) (v := _) ?_ ?_ ?_ ?_ ?_ ?_ ?_ ?_
      rotate_left 2
      focus (simp only [List.getElem?_toArray, List.getElem?_cons_succ, List.getElem?_cons_zero]; rfl)
      focus kernel_rfl
      focus kernel_rfl
      focus kernel_rfl
      focus exact (fun _ _ _ h => h)
      refine Or.inl ⟨?_, ?_⟩
      focus (go_simp; done)
      focus (intro w hSw; obtain ⟨⟨_, ⟨x0, x1⟩, ⟨y0, y1⟩, _, _⟩, ⟨⟨p0, p1⟩, _⟩, ⟨q0, q1⟩, _⟩ := hSw; (first | (go_simp; done) | (go_simp; with_reducible rfl)))
      focus assumption
      (try simp only [Act.put, List.setIfInBounds_toArray, List.set_cons_zero, List.set_cons_succ])
      refine' wpAnyH_take (i := 4) (v := _) ?_ ?_ ?_ ?_ ?_ ?_ ?_ ?_
      rotate_left 2
      focus (simp only [List.getElem?_toArray, List.getElem?_cons_succ, List.getElem?_cons_zero]; rfl)
      focus kernel_rfl
      focus kernel_rfl
      focus kernel_rfl
      focus exact (fun _ _ _ h => h)
      refine Or.inl ⟨?_, ?_⟩
      focus (go_simp; done)
      focus (intro w hSw; obtain ⟨⟨_, ⟨x0, x1⟩, ⟨y0, y1⟩, _, _⟩, ⟨⟨p0, p1⟩, _⟩, ⟨q0, q1⟩, _⟩ := hSw; (first | (go_simp; done) | (go_simp; with_reducible rfl)))
      focus assumption
      (try simp only [Act.put, List.setIfInBounds_toArray, List.set_cons_zero, List.set_cons_succ])
      refine' wpAnyH_take (i := 5) (v := _) ?_ ?_ ?_ ?_ ?_ ?_ ?_ ?_
      rotate_left 2
      focus (simp only [List.getElem?_toArray, List.getElem?_cons_succ, List.getElem?_cons_zero]; rfl)
      focus kernel_rfl
      focus kernel_rfl
      focus kernel_rfl
      focus exact (fun _ _ _ h => h)
      refine Or.inl ⟨?_, ?_⟩
      focus (go_simp; done)
      focus (intro w hSw; obtain ⟨⟨_, ⟨x0, x1⟩, ⟨y0, y1⟩, _, _⟩, ⟨⟨p0, p1⟩, _⟩, ⟨q0, q1⟩, _⟩ := hSw; (first | (go_simp; done) | (go_simp; with_reducible rfl)))
      focus assumption
      (try simp only [Act.put, List.setIfInBounds_toArray, List.set_cons_zero, List.set_cons_succ])
      refine' wpAnyH_take (i := 6) (v := _) ?_ ?_ ?_ ?_ ?_ ?_ ?_ ?_
      rotate_left 2
      focus (simp only [List.getElem?_toArray, List.getElem?_cons_succ, List.getElem?_cons_zero]; rfl)
      focus kernel_rfl
      focus kernel_rfl
      focus kernel_rfl
      focus exact (fun _ _ _ h => h)
      refine Or.inl ⟨?_, ?_⟩
      focus (go_simp; done)
      focus (intro w hSw; obtain ⟨⟨_, ⟨x0, x1⟩, ⟨y0, y1⟩, _, _⟩, ⟨⟨p0, p1⟩, _⟩, ⟨q0, q1⟩, _⟩ := hSw; (first | (go_simp; done) | (go_simp; with_reducible rfl)))
      focus assumption
      (try simp only [Act.put, List.setIfInBounds_toArray, List.set_cons_zero, List.set_cons_succ])
      refine wpAnyH_ready (rs := [3]) (by kernel_rfl) (by simp) ?_
      refine' AllReadyH.cons ?_ (fun K hK => ?_) AllReadyH.nil
      rotate_left
      focus (simp only [List.getElem?_toArray, List.getElem?_cons_succ, List.getElem?_cons_zero]; rfl)
      go_simp
      (go_at_call 16; refine (iDo_any _ i (max i i2) k (max k k2) z1 HZ.out.1 _).mono ?_; rintro e w4 ⟨rfl, hb⟩)
      refine hK.out _ _ (⟨hHeld.1.below hb, hHeld.2.1.below hb, hHeld.2.2.below hb⟩) (fun hHeld => ?_)
      clear hK K
      (try simp only [Act.put, List.setIfInBounds_toArray, List.set_cons_zero, List.set_cons_succ])
      clear hb
      refine wpAnyH_ready (rs := [7]) (by kernel_rfl) (by simp) ?_
      refine' AllReadyH.cons ?_ (fun K hK => ?_) AllReadyH.nil
      rotate_left
      focus (simp only [List.getElem?_toArray, List.getElem?_cons_succ, List.getElem?_cons_zero]; rfl)
      go_simp
      (go_at_call 16; refine (iDo_any _ x.lo x.hi y.lo y.hi z2 HZ.out.2.1 _).mono ?_; rintro e w4 ⟨rfl, hb⟩)
      refine hK.out _ _ (⟨hHeld.1.below hb, hHeld.2.1.below hb, hHeld.2.2.below hb⟩) (fun hHeld => ?_)
      clear hK K
      (try simp only [Act.put, List.setIfInBounds_toArray, List.set_cons_zero, List.set_cons_succ])
      clear hb
      refine wpAnyH_ready (rs := [8]) (by kernel_rfl) (by simp) ?_
      refine' AllReadyH.cons ?_ (fun K hK => ?_) AllReadyH.nil
      rotate_left
      focus (simp only [List.getElem?_toArray, List.getElem?_cons_succ, List.getElem?_cons_zero]; rfl)
      go_simp
      (go_at_call 22; refine (iLeq_any z1.lo z1.hi z2.lo z2.hi true HZ.out.2.2 _).mono ?_; rintro e w4 ⟨rfl, hb⟩)
      refine hK.out _ _ (⟨hHeld.1.below hb, hHeld.2.1.below hb, hHeld.2.2.below hb⟩) (fun hHeld => ?_)
      clear hK K
      (try simp only [Act.put, List.setIfInBounds_toArray, List.set_cons_zero, List.set_cons_succ])
      clear hb
      refine' wpAnyH_take (i := 9) (v := _) ?_ ?_ ?_ ?_ ?_ ?_ ?_ ?_
      rotate_left 2
      focus (simp only [List.getElem?_toArray, List.getElem?_cons_succ, List.getElem?_cons_zero]; rfl)
      focus kernel_rfl
      focus kernel_rfl
      focus kernel_rfl
      focus exact (fun _ _ _ h => h)
      refine Or.inl ⟨?_, ?_⟩
      focus (go_simp; done)
      focus (intro w hSw; obtain ⟨⟨_, ⟨x0, x1⟩, ⟨y0, y1⟩, _, _⟩, ⟨⟨p0, p1⟩, _⟩, ⟨q0, q1⟩, _⟩ := hSw; (first | (go_simp; done) | (go_simp; with_reducible rfl)))
      focus assumption
      (try simp only [Act.put, List.setIfInBounds_toArray, List.set_cons_zero, List.set_cons_succ])
      refine wpAnyH_ready (rs := [10]) (by kernel_rfl) (by simp) ?_
      refine' AllReadyH.cons ?_ (fun K hK => ?_) AllReadyH.nil
      rotate_left
      focus (simp only [List.getElem?_toArray, List.getElem?_cons_succ, List.getElem?_cons_zero]; rfl)
      go_simp
      (go_at_call 14; refine (awake_any _).mono ?_; rintro e w4 ⟨rfl, hb⟩)
      refine hK.out _ _ (⟨hHeld.1.below hb, hHeld.2.1.below hb, hHeld.2.2.below hb⟩) (fun hHeld => ?_)
      clear hK K
      (try simp only [Act.put, List.setIfInBounds_toArray, List.set_cons_zero, List.set_cons_succ])
      clear hb
      refine' wpAnyH_take (i := 11) (v := _) ?_ ?_ ?_ ?_ ?_ ?_ ?_ ?_
      rotate_left 2
      focus (simp only [List.getElem?_toArray, List.getElem?_cons_succ, List.getElem?_cons_zero]; rfl)
      focus kernel_rfl
      focus kernel_rfl
      focus kernel_rfl
      focus exact (fun _ _ _ h => h)
      refine Or.inl ⟨?_, ?_⟩
      focus (go_simp; done)
      focus (intro w hSw; obtain ⟨⟨_, ⟨x0, x1⟩, ⟨y0, y1⟩, _, _⟩, ⟨⟨p0, p1⟩, _⟩, ⟨q0, q1⟩, _⟩ := hSw; (first | (go_simp; done) | (go_simp; with_reducible rfl)))
      focus assumption
      (try simp only [Act.put, List.setIfInBounds_toArray, List.set_cons_zero, List.set_cons_succ])
      refine' wpAnyH_take (i := 12) (v := _) ?_ ?_ ?_ ?_ ?_ ?_ ?_ ?_
      rotate_left 2
      focus (simp only [List.getElem?_toArray, List.getElem?_cons_succ, List.getElem?_cons_zero]; rfl)
      focus kernel_rfl
      focus kernel_rfl
      focus kernel_rfl
      focus exact (fun _ _ _ h => h)
      refine Or.inl ⟨?_, ?_⟩
      focus (go_simp; done)
      focus (intro w hSw; obtain ⟨⟨_, ⟨x0, x1⟩, ⟨y0, y1⟩, _, _⟩, ⟨⟨p0, p1⟩, _⟩, ⟨q0, q1⟩, _⟩ := hSw; (first | (go_simp; done) | (go_simp; with_reducible rfl)))
      focus assumption
      (try simp only [Act.put, List.setIfInBounds_toArray, List.set_cons_zero, List.set_cons_succ])
      refine wpAnyH_done (by kernel_rfl) ?_ _
      go_wp2
      go_ret
      exact ⟨rfl, hHeld.1.1⟩
end Go.Proofs.Ytdajgopgaklipaa
