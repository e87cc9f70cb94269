/- The walk of the law IntervalLattice: it answers true. No condition. -/
import Derived.Test.YtdajgopgaklipaaIvAid2
import Derived.Test.YtdajgopgaklipaaStFresh
import Derived.Deep.RegionWith
namespace Go.Proofs.Ytdajgopgaklipaa
open Go.RowKit
set_option linter.unusedVariables false
set_option linter.unusedSimpArgs false
attribute [local go_sem] y_undef
/-- The array of a law's last three bytes, in its box. -/
def Arr3 (w : World) (h0 h1 h2 : Int) (w' : World) : Prop := (w'.cell? ⟨w.heap.size, 0, none⟩ = some (.int .u8 h0) ∧ w'.cell? ⟨w.heap.size, 1, none⟩ = some (.int .u8 h1) ∧ w'.cell? ⟨w.heap.size, 2, none⟩ = some (.int .u8 h2)) ∧ Ahead 1 w w'
theorem Arr3.below {w w1 w2 : World} {h0 h1 h2 : Int} (h : Arr3 w h0 h1 h2 w1) (hb : Below w1.heap.size w1 w2) : Arr3 w h0 h1 h2 w2 :=
  ⟨⟨h.2.cell0 hb h.1.1 (by omega), h.2.cell0 hb h.1.2.1 (by omega), h.2.cell0 hb h.1.2.2 (by omega)⟩, h.2.below hb⟩
/-- Three intervals, and five, in blocks of their own. -/
def Thr (w : World) (x y z : Iv) (g1 g2 g3 : Nat) (w' : World) : Prop := Below w.heap.size w w' ∧ Pr x.lo x.hi g1 w' ∧ Pr y.lo y.hi g2 w' ∧ Pr z.lo z.hi g3 w'
theorem Thr.below {w a b : World} {x y z : Iv} {g1 g2 g3 : Nat} (h : Thr w x y z g1 g2 g3 a) (hb : Below a.heap.size a b) : Thr w x y z g1 g2 g3 b := ⟨h.1.trans (hb.mono h.1.size), h.2.1.below hb, h.2.2.1.below hb, h.2.2.2.below hb⟩
theorem Thr.drew {w a : World} {x y z : Iv} {g1 g2 g3 : Nat} (h : Thr w x y z g1 g2 g3 a) : Thr w x y z g1 g2 g3 a.drew := h.below (below_drewN _ a 1)
def Fiv (w : World) (x y z j m : Iv) (g1 g2 g3 g4 g5 : Nat) (w' : World) : Prop := Below w.heap.size w w' ∧ Pr x.lo x.hi g1 w' ∧ Pr y.lo y.hi g2 w' ∧ Pr z.lo z.hi g3 w' ∧ Pr j.lo j.hi g4 w' ∧ Pr m.lo m.hi g5 w'
theorem Fiv.below {w a b : World} {x y z j m : Iv} {g1 g2 g3 g4 g5 : Nat} (h : Fiv w x y z j m g1 g2 g3 g4 g5 a) (hb : Below a.heap.size a b) : Fiv w x y z j m g1 g2 g3 g4 g5 b :=
  ⟨h.1.trans (hb.mono h.1.size), h.2.1.below hb, h.2.2.1.below hb, h.2.2.2.1.below hb, h.2.2.2.2.1.below hb, h.2.2.2.2.2.below hb⟩
theorem Fiv.drew {w a : World} {x y z j m : Iv} {g1 g2 g3 g4 g5 : Nat} (h : Fiv w x y z j m g1 g2 g3 g4 g5 a) : Fiv w x y z j m g1 g2 g3 g4 g5 a.drew := h.below (below_drewN _ a 1)
set_option maxRecDepth 100000 in
set_option maxHeartbeats 32000000 in
theorem lattice_law (a b c d e f h0 h1 h2 : Int) (ha : -2147483648 ≤ a ∧ a ≤ 2147483647) (hb : -2147483648 ≤ b ∧ b ≤ 2147483647) (hc : -2147483648 ≤ c ∧ c ≤ 2147483647) (hd : -2147483648 ≤ d ∧ d ≤ 2147483647) (he : -2147483648 ≤ e ∧ e ≤ 2147483647) (hf : -2147483648 ≤ f ∧ f ≤ 2147483647)
    (hh0 : 0 ≤ h0 ∧ h0 ≤ 255) (hh1 : 0 ≤ h1 ∧ h1 ≤ 255) (hh2 : 0 ≤ h2 ∧ h2 ≤ 255) (w : World) :
    Calls Try.prog 7 #[.int .i32 a, .int .i32 b, .int .i32 c, .int .i32 d, .int .i32 e, .int .i32 f, .agg #[.int .u8 h0, .int .u8 h1, .int .u8 h2]] w fun e w' => e = .returned (.bool true) ∧ Below w.heap.size w w' := by
  have hA := (Ahead.refl w).alloc (.cells #[.int .u8 h0, .int .u8 h1, .int .u8 h2] 43)
  have HX := Lib.hid (of_any a b h0 ha hb hh0)
  have HY := Lib.hid (of_any c d h1 hc hd hh1)
  have HZ := Lib.hid (of_any e f h2 he hf hh2)
  clear ha hb hc hd he hf hh0 hh1 hh2
  have hg := iv_guard
  go_enter Try.func7, Try.ntmps7
  go_wp2_with fail
  obtain ⟨u0, hu0⟩ : ∃ u0, (w.alloc (.cells #[.int .u8 h0, .int .u8 h1, .int .u8 h2] 43)).drew = u0 := ⟨_, rfl⟩
  have HU0 := Lib.hid hu0
  have hAD := hA.drew
  rw [hu0] at hAD
  have hAr : Arr3 w h0 h1 h2 u0 := ⟨by rw [← hu0]; exact ⟨by simp, by simp, by simp⟩, hAD⟩
  clear hu0
  have hBase : ∀ u, Bel u0 u → Arr3 w h0 h1 h2 u := fun u h => hAr.below h
  rename_i K1 hK1
  have HK1 := Lib.hid hK1
  clear hK1
  have hI := fr3_refl u0
  refine wp_region_held_drew (S := (fun w' => Arr3 w h0 h1 h2 w')) (by kernel_rfl) (by rw [HU0.out]; exact hBase _ hI.bel) (fun hHeld => ?_)
  rw [HU0.out] at hHeld ⊢
  refine' wpAnyH_take (i := 0) (v := _) ?_ ?_ ?_ ?_ ?_ ?_ ?_ ?_
  rotate_left 2
  focus (simp only [List.getElem?_toArray, List.getElem?_cons_succ, List.getElem?_cons_zero]; rfl)
  focus kernel_rfl
  focus kernel_rfl
  focus kernel_rfl
  focus exact (fun _ _ _ h => h)
  refine Or.inl ⟨?_, ?_⟩
  focus (go_simp; done)
  focus (intro w hSw; obtain ⟨⟨a0, a1, a2⟩, _⟩ := hSw; (first | (go_simp; done) | (go_simp; with_reducible rfl)))
  focus assumption
  (try simp only [Act.put, List.setIfInBounds_toArray, List.set_cons_zero, List.set_cons_succ])
  refine' wpAnyH_take (i := 1) (v := _) ?_ ?_ ?_ ?_ ?_ ?_ ?_ ?_
  rotate_left 2
  focus (simp only [List.getElem?_toArray, List.getElem?_cons_succ, List.getElem?_cons_zero]; rfl)
  focus kernel_rfl
  focus kernel_rfl
  focus kernel_rfl
  focus exact (fun _ _ _ h => h)
  refine Or.inl ⟨?_, ?_⟩
  focus (go_simp; done)
  focus (intro w hSw; obtain ⟨⟨a0, a1, a2⟩, _⟩ := hSw; (first | (go_simp; done) | (go_simp; with_reducible rfl)))
  focus assumption
  (try simp only [Act.put, List.setIfInBounds_toArray, List.set_cons_zero, List.set_cons_succ])
  refine' wpAnyH_take (i := 2) (v := _) ?_ ?_ ?_ ?_ ?_ ?_ ?_ ?_
  rotate_left 2
  focus (simp only [List.getElem?_toArray, List.getElem?_cons_succ, List.getElem?_cons_zero]; rfl)
  focus kernel_rfl
  focus kernel_rfl
  focus kernel_rfl
  focus exact (fun _ _ _ h => h)
  refine Or.inl ⟨?_, ?_⟩
  focus (go_simp; done)
  focus (intro w hSw; obtain ⟨⟨a0, a1, a2⟩, _⟩ := hSw; (first | (go_simp; done) | (go_simp; with_reducible rfl)))
  focus assumption
  (try simp only [Act.put, List.setIfInBounds_toArray, List.set_cons_zero, List.set_cons_succ])
  refine' wpAnyH_take (i := 3) (v := _) ?_ ?_ ?_ ?_ ?_ ?_ ?_ ?_
  rotate_left 2
  focus (simp only [List.getElem?_toArray, List.getElem?_cons_succ, List.getElem?_cons_zero]; rfl)
  focus kernel_rfl
  focus kernel_rfl
  focus kernel_rfl
  focus exact (fun _ _ _ h => h)
  refine Or.inl ⟨?_, ?_⟩
  focus (go_simp; done)
  focus (intro w hSw; obtain ⟨⟨a0, a1, a2⟩, _⟩ := hSw; (first | (go_simp; done) | (go_simp; with_reducible rfl)))
  focus assumption
  (try simp only [Act.put, List.setIfInBounds_toArray, List.set_cons_zero, List.set_cons_succ])
  refine' wpAnyH_take (i := 5) (v := _) ?_ ?_ ?_ ?_ ?_ ?_ ?_ ?_
  rotate_left 2
  focus (simp only [List.getElem?_toArray, List.getElem?_cons_succ, List.getElem?_cons_zero]; rfl)
  focus kernel_rfl
  focus kernel_rfl
  focus kernel_rfl
  focus exact (fun _ _ _ h => h)
  refine Or.inl ⟨?_, ?_⟩
  focus (go_simp; done)
  focus (intro w hSw; obtain ⟨⟨a0, a1, a2⟩, _⟩ := hSw; (first | (go_simp; done) | (go_simp; with_reducible rfl)))
  focus assumption
  (try simp only [Act.put, List.setIfInBounds_toArray, List.set_cons_zero, List.set_cons_succ])
  refine' wpAnyH_take (i := 6) (v := _) ?_ ?_ ?_ ?_ ?_ ?_ ?_ ?_
  rotate_left 2
  focus (simp only [List.getElem?_toArray, List.getElem?_cons_succ, List.getElem?_cons_zero]; rfl)
  focus kernel_rfl
  focus kernel_rfl
  focus kernel_rfl
  focus exact (fun _ _ _ h => h)
  refine Or.inl ⟨?_, ?_⟩
  focus (go_simp; done)
  focus (intro w hSw; obtain ⟨⟨a0, a1, a2⟩, _⟩ := hSw; (first | (go_simp; done) | (go_simp; with_reducible rfl)))
  focus assumption
  (try simp only [Act.put, List.setIfInBounds_toArray, List.set_cons_zero, List.set_cons_succ])
  refine' wpAnyH_take (i := 7) (v := _) ?_ ?_ ?_ ?_ ?_ ?_ ?_ ?_
  rotate_left 2
  focus (simp only [List.getElem?_toArray, List.getElem?_cons_succ, List.getElem?_cons_zero]; rfl)
  focus kernel_rfl
  focus kernel_rfl
  focus kernel_rfl
  focus exact (fun _ _ _ h => h)
  refine Or.inl ⟨?_, ?_⟩
  focus (go_simp; done)
  focus (intro w hSw; obtain ⟨⟨a0, a1, a2⟩, _⟩ := hSw; (first | (go_simp; done) | (go_simp; with_reducible rfl)))
  focus assumption
  (try simp only [Act.put, List.setIfInBounds_toArray, List.set_cons_zero, List.set_cons_succ])
  refine' wpAnyH_take (i := 8) (v := _) ?_ ?_ ?_ ?_ ?_ ?_ ?_ ?_
  rotate_left 2
  focus (simp only [List.getElem?_toArray, List.getElem?_cons_succ, List.getElem?_cons_zero]; rfl)
  focus kernel_rfl
  focus kernel_rfl
  focus kernel_rfl
  focus exact (fun _ _ _ h => h)
  refine Or.inl ⟨?_, ?_⟩
  focus (go_simp; done)
  focus (intro w hSw; obtain ⟨⟨a0, a1, a2⟩, _⟩ := hSw; (first | (go_simp; done) | (go_simp; with_reducible rfl)))
  focus assumption
  (try simp only [Act.put, List.setIfInBounds_toArray, List.set_cons_zero, List.set_cons_succ])
  refine' wpAnyH_take (i := 10) (v := _) ?_ ?_ ?_ ?_ ?_ ?_ ?_ ?_
  rotate_left 2
  focus (simp only [List.getElem?_toArray, List.getElem?_cons_succ, List.getElem?_cons_zero]; rfl)
  focus kernel_rfl
  focus kernel_rfl
  focus kernel_rfl
  focus exact (fun _ _ _ h => h)
  refine Or.inl ⟨?_, ?_⟩
  focus (go_simp; done)
  focus (intro w hSw; obtain ⟨⟨a0, a1, a2⟩, _⟩ := hSw; (first | (go_simp; done) | (go_simp; with_reducible rfl)))
  focus assumption
  (try simp only [Act.put, List.setIfInBounds_toArray, List.set_cons_zero, List.set_cons_succ])
  refine' wpAnyH_take (i := 11) (v := _) ?_ ?_ ?_ ?_ ?_ ?_ ?_ ?_
  rotate_left 2
  focus (simp only [List.getElem?_toArray, List.getElem?_cons_succ, List.getElem?_cons_zero]; rfl)
  focus kernel_rfl
  focus kernel_rfl
  focus kernel_rfl
  focus exact (fun _ _ _ h => h)
  refine Or.inl ⟨?_, ?_⟩
  focus (go_simp; done)
  focus (intro w hSw; obtain ⟨⟨a0, a1, a2⟩, _⟩ := hSw; (first | (go_simp; done) | (go_simp; with_reducible rfl)))
  focus assumption
  (try simp only [Act.put, List.setIfInBounds_toArray, List.set_cons_zero, List.set_cons_succ])
  refine' wpAnyH_take (i := 12) (v := _) ?_ ?_ ?_ ?_ ?_ ?_ ?_ ?_
  rotate_left 2
  focus (simp only [List.getElem?_toArray, List.getElem?_cons_succ, List.getElem?_cons_zero]; rfl)
  focus kernel_rfl
  focus kernel_rfl
  focus kernel_rfl
  focus exact (fun _ _ _ h => h)
  refine Or.inl ⟨?_, ?_⟩
  focus (go_simp; done)
  focus (intro w hSw; obtain ⟨⟨a0, a1, a2⟩, _⟩ := hSw; (first | (go_simp; done) | (go_simp; with_reducible rfl)))
  focus assumption
  (try simp only [Act.put, List.setIfInBounds_toArray, List.set_cons_zero, List.set_cons_succ])
  refine' wpAnyH_take (i := 13) (v := _) ?_ ?_ ?_ ?_ ?_ ?_ ?_ ?_
  rotate_left 2
  focus (simp only [List.getElem?_toArray, List.getElem?_cons_succ, List.getElem?_cons_zero]; rfl)
  focus kernel_rfl
  focus kernel_rfl
  focus kernel_rfl
  focus exact (fun _ _ _ h => h)
  refine Or.inl ⟨?_, ?_⟩
  focus (go_simp; done)
  focus (intro w hSw; obtain ⟨⟨a0, a1, a2⟩, _⟩ := hSw; (first | (go_simp; done) | (go_simp; with_reducible rfl)))
  focus assumption
  (try simp only [Act.put, List.setIfInBounds_toArray, List.set_cons_zero, List.set_cons_succ])
  refine' mh6 (Pre := fun (x : Iv) (y : Iv) (z : Iv) (g1 : Nat) (g2 : Nat) (g3 : Nat) (w' : World) => Iv.Ok x ∧ Iv.Ok y ∧ Iv.Ok z ∧ Fr3 u0 (some g1) (some g2) (some g3) w') _ #[true, true, true, true, true, true, true, true, true, true, true, true, true, true, true, true, true, true, false, false, false] _ (fun HK1_3012 => ?ha1_3012) (fun x y z g1 g2 g3 w' hpre => ?hb1_3012)
  case' ha1_3012 => skip
  refine' mh5 (Pre := fun (x : Iv) (y : Iv) (z : Iv) (g2 : Nat) (g3 : Nat) (w' : World) => Iv.Ok x ∧ Iv.Ok y ∧ Iv.Ok z ∧ Fr3 u0 none (some g2) (some g3) w') _ #[true, true, true, true, true, true, true, true, true, true, true, true, true, true, true, false, true, true, false, false, false] _ (fun HK1_312 => ?ha1_312) (fun x y z g2 g3 w' hpre => ?hb1_312)
  case' ha1_312 => skip
  refine' mh5 (Pre := fun (x : Iv) (y : Iv) (z : Iv) (g1 : Nat) (g3 : Nat) (w' : World) => Iv.Ok x ∧ Iv.Ok y ∧ Iv.Ok z ∧ Fr3 u0 (some g1) none (some g3) w') _ #[true, true, true, true, true, true, true, true, true, true, true, true, true, true, true, true, false, true, false, false, false] _ (fun HK1_302 => ?ha1_302) (fun x y z g1 g3 w' hpre => ?hb1_302)
  case' ha1_302 => skip
  refine' mh5 (Pre := fun (x : Iv) (y : Iv) (z : Iv) (g1 : Nat) (g2 : Nat) (w' : World) => Iv.Ok x ∧ Iv.Ok y ∧ Iv.Ok z ∧ Fr3 u0 (some g1) (some g2) none w') _ #[true, true, true, true, true, true, true, true, true, true, true, true, true, true, true, true, true, false, false, false, false] _ (fun HK1_301 => ?ha1_301) (fun x y z g1 g2 w' hpre => ?hb1_301)
  case' ha1_301 => skip
  refine' mh5 (Pre := fun (x : Iv) (y : Iv) (g1 : Nat) (g2 : Nat) (g3 : Nat) (w' : World) => Iv.Ok x ∧ Iv.Ok y ∧ Fr3 u0 (some g1) (some g2) (some g3) w') _ #[true, true, true, true, true, true, true, true, true, true, true, true, true, true, false, true, true, true, false, false, false] _ (fun HK1_2012 => ?ha1_2012) (fun x y g1 g2 g3 w' hpre => ?hb1_2012)
  case' ha1_2012 => skip
  refine' mh4 (Pre := fun (x : Iv) (y : Iv) (z : Iv) (g3 : Nat) (w' : World) => Iv.Ok x ∧ Iv.Ok y ∧ Iv.Ok z ∧ Fr3 u0 none none (some g3) w') _ #[true, true, true, true, true, true, true, true, true, true, true, true, true, true, true, false, false, true, false, false, false] _ (fun HK1_32 => ?ha1_32) (fun x y z g3 w' hpre => ?hb1_32)
  case' ha1_32 => skip
  refine' mh4 (Pre := fun (x : Iv) (y : Iv) (z : Iv) (g2 : Nat) (w' : World) => Iv.Ok x ∧ Iv.Ok y ∧ Iv.Ok z ∧ Fr3 u0 none (some g2) none w') _ #[true, true, true, true, true, true, true, true, true, true, true, true, true, true, true, false, true, false, false, false, false] _ (fun HK1_31 => ?ha1_31) (fun x y z g2 w' hpre => ?hb1_31)
  case' ha1_31 => skip
  refine' mh4 (Pre := fun (x : Iv) (y : Iv) (z : Iv) (g1 : Nat) (w' : World) => Iv.Ok x ∧ Iv.Ok y ∧ Iv.Ok z ∧ Fr3 u0 (some g1) none none w') _ #[true, true, true, true, true, true, true, true, true, true, true, true, true, true, true, true, false, false, false, false, false] _ (fun HK1_30 => ?ha1_30) (fun x y z g1 w' hpre => ?hb1_30)
  case' ha1_30 => skip
  refine' mh4 (Pre := fun (x : Iv) (y : Iv) (g2 : Nat) (g3 : Nat) (w' : World) => Iv.Ok x ∧ Iv.Ok y ∧ Fr3 u0 none (some g2) (some g3) w') _ #[true, true, true, true, true, true, true, true, true, true, true, true, true, true, false, false, true, true, false, false, false] _ (fun HK1_212 => ?ha1_212) (fun x y g2 g3 w' hpre => ?hb1_212)
  case' ha1_212 => skip
  refine' mh4 (Pre := fun (x : Iv) (y : Iv) (g1 : Nat) (g3 : Nat) (w' : World) => Iv.Ok x ∧ Iv.Ok y ∧ Fr3 u0 (some g1) none (some g3) w') _ #[true, true, true, true, true, true, true, true, true, true, true, true, true, true, false, true, false, true, false, false, false] _ (fun HK1_202 => ?ha1_202) (fun x y g1 g3 w' hpre => ?hb1_202)
  case' ha1_202 => skip
  refine' mh4 (Pre := fun (x : Iv) (y : Iv) (g1 : Nat) (g2 : Nat) (w' : World) => Iv.Ok x ∧ Iv.Ok y ∧ Fr3 u0 (some g1) (some g2) none w') _ #[true, true, true, true, true, true, true, true, true, true, true, true, true, true, false, true, true, false, false, false, false] _ (fun HK1_201 => ?ha1_201) (fun x y g1 g2 w' hpre => ?hb1_201)
  case' ha1_201 => skip
  refine' mh4 (Pre := fun (x : Iv) (g1 : Nat) (g2 : Nat) (g3 : Nat) (w' : World) => Iv.Ok x ∧ Fr3 u0 (some g1) (some g2) (some g3) w') _ #[true, true, true, true, true, true, true, true, true, false, true, true, true, true, false, true, true, true, false, false, false] _ (fun HK1_1012 => ?ha1_1012) (fun x g1 g2 g3 w' hpre => ?hb1_1012)
  case' ha1_1012 => skip
  refine' mh3 (Pre := fun (x : Iv) (y : Iv) (z : Iv) (w' : World) => Iv.Ok x ∧ Iv.Ok y ∧ Iv.Ok z ∧ Fr3 u0 none none none w') _ #[true, true, true, true, true, true, true, true, true, true, true, true, true, true, true, false, false, false, false, false, false] _ (fun HK1_3 => ?ha1_3) (fun x y z w' hpre => ?hb1_3)
  case' ha1_3 => skip
  refine' mh3 (Pre := fun (x : Iv) (y : Iv) (g3 : Nat) (w' : World) => Iv.Ok x ∧ Iv.Ok y ∧ Fr3 u0 none none (some g3) w') _ #[true, true, true, true, true, true, true, true, true, true, true, true, true, true, false, false, false, true, false, false, false] _ (fun HK1_22 => ?ha1_22) (fun x y g3 w' hpre => ?hb1_22)
  case' ha1_22 => skip
  refine' mh3 (Pre := fun (x : Iv) (y : Iv) (g2 : Nat) (w' : World) => Iv.Ok x ∧ Iv.Ok y ∧ Fr3 u0 none (some g2) none w') _ #[true, true, true, true, true, true, true, true, true, true, true, true, true, true, false, false, true, false, false, false, false] _ (fun HK1_21 => ?ha1_21) (fun x y g2 w' hpre => ?hb1_21)
  case' ha1_21 => skip
  refine' mh3 (Pre := fun (x : Iv) (y : Iv) (g1 : Nat) (w' : World) => Iv.Ok x ∧ Iv.Ok y ∧ Fr3 u0 (some g1) none none w') _ #[true, true, true, true, true, true, true, true, true, true, true, true, true, true, false, true, false, false, false, false, false] _ (fun HK1_20 => ?ha1_20) (fun x y g1 w' hpre => ?hb1_20)
  case' ha1_20 => skip
  refine' mh3 (Pre := fun (x : Iv) (g2 : Nat) (g3 : Nat) (w' : World) => Iv.Ok x ∧ Fr3 u0 none (some g2) (some g3) w') _ #[true, true, true, true, true, true, true, true, true, false, true, true, true, true, false, false, true, true, false, false, false] _ (fun HK1_112 => ?ha1_112) (fun x g2 g3 w' hpre => ?hb1_112)
  case' ha1_112 => skip
  refine' mh3 (Pre := fun (x : Iv) (g1 : Nat) (g3 : Nat) (w' : World) => Iv.Ok x ∧ Fr3 u0 (some g1) none (some g3) w') _ #[true, true, true, true, true, true, true, true, true, false, true, true, true, true, false, true, false, true, false, false, false] _ (fun HK1_102 => ?ha1_102) (fun x g1 g3 w' hpre => ?hb1_102)
  case' ha1_102 => skip
  refine' mh3 (Pre := fun (x : Iv) (g1 : Nat) (g2 : Nat) (w' : World) => Iv.Ok x ∧ Fr3 u0 (some g1) (some g2) none w') _ #[true, true, true, true, true, true, true, true, true, false, true, true, true, true, false, true, true, false, false, false, false] _ (fun HK1_101 => ?ha1_101) (fun x g1 g2 w' hpre => ?hb1_101)
  case' ha1_101 => skip
  refine' mh3 (Pre := fun (g1 : Nat) (g2 : Nat) (g3 : Nat) (w' : World) => Fr3 u0 (some g1) (some g2) (some g3) w') _ #[true, true, true, true, false, true, true, true, true, false, true, true, true, true, false, true, true, true, false, false, false] _ (fun HK1_0012 => ?ha1_0012) (fun g1 g2 g3 w' hpre => ?hb1_0012)
  case' ha1_0012 => skip
  refine' mh2 (Pre := fun (x : Iv) (y : Iv) (w' : World) => Iv.Ok x ∧ Iv.Ok y ∧ Fr3 u0 none none none w') _ #[true, true, true, true, true, true, true, true, true, true, true, true, true, true, false, false, false, false, false, false, false] _ (fun HK1_2 => ?ha1_2) (fun x y w' hpre => ?hb1_2)
  case' ha1_2 => skip
  refine' mh2 (Pre := fun (x : Iv) (g3 : Nat) (w' : World) => Iv.Ok x ∧ Fr3 u0 none none (some g3) w') _ #[true, true, true, true, true, true, true, true, true, false, true, true, true, true, false, false, false, true, false, false, false] _ (fun HK1_12 => ?ha1_12) (fun x g3 w' hpre => ?hb1_12)
  case' ha1_12 => skip
  refine' mh2 (Pre := fun (x : Iv) (g2 : Nat) (w' : World) => Iv.Ok x ∧ Fr3 u0 none (some g2) none w') _ #[true, true, true, true, true, true, true, true, true, false, true, true, true, true, false, false, true, false, false, false, false] _ (fun HK1_11 => ?ha1_11) (fun x g2 w' hpre => ?hb1_11)
  case' ha1_11 => skip
  refine' mh2 (Pre := fun (x : Iv) (g1 : Nat) (w' : World) => Iv.Ok x ∧ Fr3 u0 (some g1) none none w') _ #[true, true, true, true, true, true, true, true, true, false, true, true, true, true, false, true, false, false, false, false, false] _ (fun HK1_10 => ?ha1_10) (fun x g1 w' hpre => ?hb1_10)
  case' ha1_10 => skip
  refine' mh2 (Pre := fun (g2 : Nat) (g3 : Nat) (w' : World) => Fr3 u0 none (some g2) (some g3) w') _ #[true, true, true, true, false, true, true, true, true, false, true, true, true, true, false, false, true, true, false, false, false] _ (fun HK1_012 => ?ha1_012) (fun g2 g3 w' hpre => ?hb1_012)
  case' ha1_012 => skip
  refine' mh2 (Pre := fun (g1 : Nat) (g3 : Nat) (w' : World) => Fr3 u0 (some g1) none (some g3) w') _ #[true, true, true, true, false, true, true, true, true, false, true, true, true, true, false, true, false, true, false, false, false] _ (fun HK1_002 => ?ha1_002) (fun g1 g3 w' hpre => ?hb1_002)
  case' ha1_002 => skip
  refine' mh2 (Pre := fun (g1 : Nat) (g2 : Nat) (w' : World) => Fr3 u0 (some g1) (some g2) none w') _ #[true, true, true, true, false, true, true, true, true, false, true, true, true, true, false, true, true, false, false, false, false] _ (fun HK1_001 => ?ha1_001) (fun g1 g2 w' hpre => ?hb1_001)
  case' ha1_001 => skip
  refine' mh1 (Pre := fun (x : Iv) (w' : World) => Iv.Ok x ∧ Fr3 u0 none none none w') _ #[true, true, true, true, true, true, true, true, true, false, true, true, true, true, false, false, false, false, false, false, false] _ (fun HK1_1 => ?ha1_1) (fun x w' hpre => ?hb1_1)
  case' ha1_1 => skip
  refine' mh1 (Pre := fun (g3 : Nat) (w' : World) => Fr3 u0 none none (some g3) w') _ #[true, true, true, true, false, true, true, true, true, false, true, true, true, true, false, false, false, true, false, false, false] _ (fun HK1_02 => ?ha1_02) (fun g3 w' hpre => ?hb1_02)
  case' ha1_02 => skip
  refine' mh1 (Pre := fun (g2 : Nat) (w' : World) => Fr3 u0 none (some g2) none w') _ #[true, true, true, true, false, true, true, true, true, false, true, true, true, true, false, false, true, false, false, false, false] _ (fun HK1_01 => ?ha1_01) (fun g2 w' hpre => ?hb1_01)
  case' ha1_01 => skip
  refine' mh1 (Pre := fun (g1 : Nat) (w' : World) => Fr3 u0 (some g1) none none w') _ #[true, true, true, true, false, true, true, true, true, false, true, true, true, true, false, true, false, false, false, false, false] _ (fun HK1_00 => ?ha1_00) (fun g1 w' hpre => ?hb1_00)
  case ha1_00 =>
    refine wpAnyH_ready (rs := [4, 15, 16, 17]) (by kernel_rfl) (by simp) ?_
    refine' AllReadyH.cons ?_ (fun K hK => ?_) ?_
    rotate_left
    focus (simp only [List.getElem?_toArray, List.getElem?_cons_succ, List.getElem?_cons_zero]; rfl)
    focus
      go_simp
      (go_at_call 15; refine Calls.mono (HX.out _) ?_; rintro e v ⟨x, hx, rfl, hb⟩)
      replace hI := hI.below hb
      refine hK.out _ _ (hBase _ hI.bel) (fun hHeld => ?_)
      clear hK K hb
      (try simp only [Act.put, List.setIfInBounds_toArray, List.set_cons_zero, List.set_cons_succ])
      refine wpAnyH_listed (listed' := #[true, true, true, true, true, true, true, true, true, false, true, true, true, true, false, false, false, false, false, false, false]) (by kernel_rfl) ?_
      exact HK1_1 x v ⟨hx, hI⟩
    refine' AllReadyH.cons ?_ (fun K hK => ?_) ?_
    rotate_left
    focus (simp only [List.getElem?_toArray, List.getElem?_cons_succ, List.getElem?_cons_zero]; rfl)
    focus
      go_simp
      replace hI := hI.make1 (t := 23)
      refine hK.out _ _ (hBase _ hI.bel) (fun hHeld => ?_)
      clear hK K
      (try simp only [Act.put, List.setIfInBounds_toArray, List.set_cons_zero, List.set_cons_succ])
      generalize u0.alloc (.cells #[.int .i64 0, .int .i64 0] 23) = v at *
      generalize u0.heap.size = g1 at *
      refine wpAnyH_listed (listed' := #[true, true, true, true, false, true, true, true, true, false, true, true, true, true, false, true, false, false, false, false, false]) (by kernel_rfl) ?_
      exact HK1_00 g1 v hI
    refine' AllReadyH.cons ?_ (fun K hK => ?_) ?_
    rotate_left
    focus (simp only [List.getElem?_toArray, List.getElem?_cons_succ, List.getElem?_cons_zero]; rfl)
    focus
      go_simp
      replace hI := hI.make2 (t := 23)
      refine hK.out _ _ (hBase _ hI.bel) (fun hHeld => ?_)
      clear hK K
      (try simp only [Act.put, List.setIfInBounds_toArray, List.set_cons_zero, List.set_cons_succ])
      generalize u0.alloc (.cells #[.int .i64 0, .int .i64 0] 23) = v at *
      generalize u0.heap.size = g2 at *
      refine wpAnyH_listed (listed' := #[true, true, true, true, false, true, true, true, true, false, true, true, true, true, false, false, true, false, false, false, false]) (by kernel_rfl) ?_
      exact HK1_01 g2 v hI
    refine' AllReadyH.cons ?_ (fun K hK => ?_) ?_
    rotate_left
    focus (simp only [List.getElem?_toArray, List.getElem?_cons_succ, List.getElem?_cons_zero]; rfl)
    focus
      go_simp
      replace hI := hI.make3 (t := 23)
      refine hK.out _ _ (hBase _ hI.bel) (fun hHeld => ?_)
      clear hK K
      (try simp only [Act.put, List.setIfInBounds_toArray, List.set_cons_zero, List.set_cons_succ])
      generalize u0.alloc (.cells #[.int .i64 0, .int .i64 0] 23) = v at *
      generalize u0.heap.size = g3 at *
      refine wpAnyH_listed (listed' := #[true, true, true, true, false, true, true, true, true, false, true, true, true, true, false, false, false, true, false, false, false]) (by kernel_rfl) ?_
      exact HK1_02 g3 v hI
    exact AllReadyH.nil
  case hb1_00 =>
    have hI := hpre
    refine wpAnyH_ready (rs := [4, 16, 17]) (by kernel_rfl) (by simp) ?_
    refine' AllReadyH.cons ?_ (fun K hK => ?_) ?_
    rotate_left
    focus (simp only [List.getElem?_toArray, List.getElem?_cons_succ, List.getElem?_cons_zero]; rfl)
    focus
      go_simp
      (go_at_call 15; refine Calls.mono (HX.out _) ?_; rintro e v ⟨x, hx, rfl, hb⟩)
      replace hI := hI.below hb
      refine hK.out _ _ (hBase _ hI.bel) (fun hHeld => ?_)
      clear hK K hb
      (try simp only [Act.put, List.setIfInBounds_toArray, List.set_cons_zero, List.set_cons_succ])
      refine wpAnyH_listed (listed' := #[true, true, true, true, true, true, true, true, true, false, true, true, true, true, false, true, false, false, false, false, false]) (by kernel_rfl) ?_
      exact HK1_10 x g1 v ⟨hx, hI⟩
    refine' AllReadyH.cons ?_ (fun K hK => ?_) ?_
    rotate_left
    focus (simp only [List.getElem?_toArray, List.getElem?_cons_succ, List.getElem?_cons_zero]; rfl)
    focus
      go_simp
      replace hI := hI.make2 (t := 23)
      refine hK.out _ _ (hBase _ hI.bel) (fun hHeld => ?_)
      clear hK K
      (try simp only [Act.put, List.setIfInBounds_toArray, List.set_cons_zero, List.set_cons_succ])
      generalize w'.alloc (.cells #[.int .i64 0, .int .i64 0] 23) = v at *
      generalize w'.heap.size = g2 at *
      refine wpAnyH_listed (listed' := #[true, true, true, true, false, true, true, true, true, false, true, true, true, true, false, true, true, false, false, false, false]) (by kernel_rfl) ?_
      exact HK1_001 g1 g2 v hI
    refine' AllReadyH.cons ?_ (fun K hK => ?_) ?_
    rotate_left
    focus (simp only [List.getElem?_toArray, List.getElem?_cons_succ, List.getElem?_cons_zero]; rfl)
    focus
      go_simp
      replace hI := hI.make3 (t := 23)
      refine hK.out _ _ (hBase _ hI.bel) (fun hHeld => ?_)
      clear hK K
      (try simp only [Act.put, List.setIfInBounds_toArray, List.set_cons_zero, List.set_cons_succ])
      generalize w'.alloc (.cells #[.int .i64 0, .int .i64 0] 23) = v at *
      generalize w'.heap.size = g3 at *
      refine wpAnyH_listed (listed' := #[true, true, true, true, false, true, true, true, true, false, true, true, true, true, false, true, false, true, false, false, false]) (by kernel_rfl) ?_
      exact HK1_002 g1 g3 v hI
    exact AllReadyH.nil
  case hb1_01 =>
    have hI := hpre
    refine wpAnyH_ready (rs := [4, 15, 17]) (by kernel_rfl) (by simp) ?_
    refine' AllReadyH.cons ?_ (fun K hK => ?_) ?_
    rotate_left
    focus (simp only [List.getElem?_toArray, List.getElem?_cons_succ, List.getElem?_cons_zero]; rfl)
    focus
      go_simp
      (go_at_call 15; refine Calls.mono (HX.out _) ?_; rintro e v ⟨x, hx, rfl, hb⟩)
      replace hI := hI.below hb
      refine hK.out _ _ (hBase _ hI.bel) (fun hHeld => ?_)
      clear hK K hb
      (try simp only [Act.put, List.setIfInBounds_toArray, List.set_cons_zero, List.set_cons_succ])
      refine wpAnyH_listed (listed' := #[true, true, true, true, true, true, true, true, true, false, true, true, true, true, false, false, true, false, false, false, false]) (by kernel_rfl) ?_
      exact HK1_11 x g2 v ⟨hx, hI⟩
    refine' AllReadyH.cons ?_ (fun K hK => ?_) ?_
    rotate_left
    focus (simp only [List.getElem?_toArray, List.getElem?_cons_succ, List.getElem?_cons_zero]; rfl)
    focus
      go_simp
      replace hI := hI.make1 (t := 23)
      refine hK.out _ _ (hBase _ hI.bel) (fun hHeld => ?_)
      clear hK K
      (try simp only [Act.put, List.setIfInBounds_toArray, List.set_cons_zero, List.set_cons_succ])
      generalize w'.alloc (.cells #[.int .i64 0, .int .i64 0] 23) = v at *
      generalize w'.heap.size = g1 at *
      refine wpAnyH_listed (listed' := #[true, true, true, true, false, true, true, true, true, false, true, true, true, true, false, true, true, false, false, false, false]) (by kernel_rfl) ?_
      exact HK1_001 g1 g2 v hI
    refine' AllReadyH.cons ?_ (fun K hK => ?_) ?_
    rotate_left
    focus (simp only [List.getElem?_toArray, List.getElem?_cons_succ, List.getElem?_cons_zero]; rfl)
    focus
      go_simp
      replace hI := hI.make3 (t := 23)
      refine hK.out _ _ (hBase _ hI.bel) (fun hHeld => ?_)
      clear hK K
      (try simp only [Act.put, List.setIfInBounds_toArray, List.set_cons_zero, List.set_cons_succ])
      generalize w'.alloc (.cells #[.int .i64 0, .int .i64 0] 23) = v at *
      generalize w'.heap.size = g3 at *
      refine wpAnyH_listed (listed' := #[true, true, true, true, false, true, true, true, true, false, true, true, true, true, false, false, true, true, false, false, false]) (by kernel_rfl) ?_
      exact HK1_012 g2 g3 v hI
    exact AllReadyH.nil
  case hb1_02 =>
    have hI := hpre
    refine wpAnyH_ready (rs := [4, 15, 16]) (by kernel_rfl) (by simp) ?_
    refine' AllReadyH.cons ?_ (fun K hK => ?_) ?_
    rotate_left
    focus (simp only [List.getElem?_toArray, List.getElem?_cons_succ, List.getElem?_cons_zero]; rfl)
    focus
      go_simp
      (go_at_call 15; refine Calls.mono (HX.out _) ?_; rintro e v ⟨x, hx, rfl, hb⟩)
      replace hI := hI.below hb
      refine hK.out _ _ (hBase _ hI.bel) (fun hHeld => ?_)
      clear hK K hb
      (try simp only [Act.put, List.setIfInBounds_toArray, List.set_cons_zero, List.set_cons_succ])
      refine wpAnyH_listed (listed' := #[true, true, true, true, true, true, true, true, true, false, true, true, true, true, false, false, false, true, false, false, false]) (by kernel_rfl) ?_
      exact HK1_12 x g3 v ⟨hx, hI⟩
    refine' AllReadyH.cons ?_ (fun K hK => ?_) ?_
    rotate_left
    focus (simp only [List.getElem?_toArray, List.getElem?_cons_succ, List.getElem?_cons_zero]; rfl)
    focus
      go_simp
      replace hI := hI.make1 (t := 23)
      refine hK.out _ _ (hBase _ hI.bel) (fun hHeld => ?_)
      clear hK K
      (try simp only [Act.put, List.setIfInBounds_toArray, List.set_cons_zero, List.set_cons_succ])
      generalize w'.alloc (.cells #[.int .i64 0, .int .i64 0] 23) = v at *
      generalize w'.heap.size = g1 at *
      refine wpAnyH_listed (listed' := #[true, true, true, true, false, true, true, true, true, false, true, true, true, true, false, true, false, true, false, false, false]) (by kernel_rfl) ?_
      exact HK1_002 g1 g3 v hI
    refine' AllReadyH.cons ?_ (fun K hK => ?_) ?_
    rotate_left
    focus (simp only [List.getElem?_toArray, List.getElem?_cons_succ, List.getElem?_cons_zero]; rfl)
    focus
      go_simp
      replace hI := hI.make2 (t := 23)
      refine hK.out _ _ (hBase _ hI.bel) (fun hHeld => ?_)
      clear hK K
      (try simp only [Act.put, List.setIfInBounds_toArray, List.set_cons_zero, List.set_cons_succ])
      generalize w'.alloc (.cells #[.int .i64 0, .int .i64 0] 23) = v at *
      generalize w'.heap.size = g2 at *
      refine wpAnyH_listed (listed' := #[true, true, true, true, false, true, true, true, true, false, true, true, true, true, false, false, true, true, false, false, false]) (by kernel_rfl) ?_
      exact HK1_012 g2 g3 v hI
    exact AllReadyH.nil
  case hb1_1 =>
    obtain ⟨hx, hI⟩ := hpre
    refine wpAnyH_ready (rs := [9, 15, 16, 17]) (by kernel_rfl) (by simp) ?_
    refine' AllReadyH.cons ?_ (fun K hK => ?_) ?_
    rotate_left
    focus (simp only [List.getElem?_toArray, List.getElem?_cons_succ, List.getElem?_cons_zero]; rfl)
    focus
      go_simp
      (go_at_call 15; refine Calls.mono (HY.out _) ?_; rintro e v ⟨y, hy, rfl, hb⟩)
      replace hI := hI.below hb
      refine hK.out _ _ (hBase _ hI.bel) (fun hHeld => ?_)
      clear hK K hb
      (try simp only [Act.put, List.setIfInBounds_toArray, List.set_cons_zero, List.set_cons_succ])
      refine wpAnyH_listed (listed' := #[true, true, true, true, true, true, true, true, true, true, true, true, true, true, false, false, false, false, false, false, false]) (by kernel_rfl) ?_
      exact HK1_2 x y v ⟨hx, hy, hI⟩
    refine' AllReadyH.cons ?_ (fun K hK => ?_) ?_
    rotate_left
    focus (simp only [List.getElem?_toArray, List.getElem?_cons_succ, List.getElem?_cons_zero]; rfl)
    focus
      go_simp
      replace hI := hI.make1 (t := 23)
      refine hK.out _ _ (hBase _ hI.bel) (fun hHeld => ?_)
      clear hK K
      (try simp only [Act.put, List.setIfInBounds_toArray, List.set_cons_zero, List.set_cons_succ])
      generalize w'.alloc (.cells #[.int .i64 0, .int .i64 0] 23) = v at *
      generalize w'.heap.size = g1 at *
      refine wpAnyH_listed (listed' := #[true, true, true, true, true, true, true, true, true, false, true, true, true, true, false, true, false, false, false, false, false]) (by kernel_rfl) ?_
      exact HK1_10 x g1 v ⟨hx, hI⟩
    refine' AllReadyH.cons ?_ (fun K hK => ?_) ?_
    rotate_left
    focus (simp only [List.getElem?_toArray, List.getElem?_cons_succ, List.getElem?_cons_zero]; rfl)
    focus
      go_simp
      replace hI := hI.make2 (t := 23)
      refine hK.out _ _ (hBase _ hI.bel) (fun hHeld => ?_)
      clear hK K
      (try simp only [Act.put, List.setIfInBounds_toArray, List.set_cons_zero, List.set_cons_succ])
      generalize w'.alloc (.cells #[.int .i64 0, .int .i64 0] 23) = v at *
      generalize w'.heap.size = g2 at *
      refine wpAnyH_listed (listed' := #[true, true, true, true, true, true, true, true, true, false, true, true, true, true, false, false, true, false, false, false, false]) (by kernel_rfl) ?_
      exact HK1_11 x g2 v ⟨hx, hI⟩
    refine' AllReadyH.cons ?_ (fun K hK => ?_) ?_
    rotate_left
    focus (simp only [List.getElem?_toArray, List.getElem?_cons_succ, List.getElem?_cons_zero]; rfl)
    focus
      go_simp
      replace hI := hI.make3 (t := 23)
      refine hK.out _ _ (hBase _ hI.bel) (fun hHeld => ?_)
      clear hK K
      (try simp only [Act.put, List.setIfInBounds_toArray, List.set_cons_zero, List.set_cons_succ])
      generalize w'.alloc (.cells #[.int .i64 0, .int .i64 0] 23) = v at *
      generalize w'.heap.size = g3 at *
      refine wpAnyH_listed (listed' := #[true, true, true, true, true, true, true, true, true, false, true, true, true, true, false, false, false, true, false, false, false]) (by kernel_rfl) ?_
      exact HK1_12 x g3 v ⟨hx, hI⟩
    exact AllReadyH.nil
  case hb1_001 =>
    have hI := hpre
    refine wpAnyH_ready (rs := [4, 17]) (by kernel_rfl) (by simp) ?_
    refine' AllReadyH.cons ?_ (fun K hK => ?_) ?_
    rotate_left
    focus (simp only [List.getElem?_toArray, List.getElem?_cons_succ, List.getElem?_cons_zero]; rfl)
    focus
      go_simp
      (go_at_call 15; refine Calls.mono (HX.out _) ?_; rintro e v ⟨x, hx, rfl, hb⟩)
      replace hI := hI.below hb
      refine hK.out _ _ (hBase _ hI.bel) (fun hHeld => ?_)
      clear hK K hb
      (try simp only [Act.put, List.setIfInBounds_toArray, List.set_cons_zero, List.set_cons_succ])
      refine wpAnyH_listed (listed' := #[true, true, true, true, true, true, true, true, true, false, true, true, true, true, false, true, true, false, false, false, false]) (by kernel_rfl) ?_
      exact HK1_101 x g1 g2 v ⟨hx, hI⟩
    refine' AllReadyH.cons ?_ (fun K hK => ?_) ?_
    rotate_left
    focus (simp only [List.getElem?_toArray, List.getElem?_cons_succ, List.getElem?_cons_zero]; rfl)
    focus
      go_simp
      replace hI := hI.make3 (t := 23)
      refine hK.out _ _ (hBase _ hI.bel) (fun hHeld => ?_)
      clear hK K
      (try simp only [Act.put, List.setIfInBounds_toArray, List.set_cons_zero, List.set_cons_succ])
      generalize w'.alloc (.cells #[.int .i64 0, .int .i64 0] 23) = v at *
      generalize w'.heap.size = g3 at *
      refine wpAnyH_listed (listed' := #[true, true, true, true, false, true, true, true, true, false, true, true, true, true, false, true, true, true, false, false, false]) (by kernel_rfl) ?_
      exact HK1_0012 g1 g2 g3 v hI
    exact AllReadyH.nil
  case hb1_002 =>
    have hI := hpre
    refine wpAnyH_ready (rs := [4, 16]) (by kernel_rfl) (by simp) ?_
    refine' AllReadyH.cons ?_ (fun K hK => ?_) ?_
    rotate_left
    focus (simp only [List.getElem?_toArray, List.getElem?_cons_succ, List.getElem?_cons_zero]; rfl)
    focus
      go_simp
      (go_at_call 15; refine Calls.mono (HX.out _) ?_; rintro e v ⟨x, hx, rfl, hb⟩)
      replace hI := hI.below hb
      refine hK.out _ _ (hBase _ hI.bel) (fun hHeld => ?_)
      clear hK K hb
      (try simp only [Act.put, List.setIfInBounds_toArray, List.set_cons_zero, List.set_cons_succ])
      refine wpAnyH_listed (listed' := #[true, true, true, true, true, true, true, true, true, false, true, true, true, true, false, true, false, true, false, false, false]) (by kernel_rfl) ?_
      exact HK1_102 x g1 g3 v ⟨hx, hI⟩
    refine' AllReadyH.cons ?_ (fun K hK => ?_) ?_
    rotate_left
    focus (simp only [List.getElem?_toArray, List.getElem?_cons_succ, List.getElem?_cons_zero]; rfl)
    focus
      go_simp
      replace hI := hI.make2 (t := 23)
      refine hK.out _ _ (hBase _ hI.bel) (fun hHeld => ?_)
      clear hK K
      (try simp only [Act.put, List.setIfInBounds_toArray, List.set_cons_zero, List.set_cons_succ])
      generalize w'.alloc (.cells #[.int .i64 0, .int .i64 0] 23) = v at *
      generalize w'.heap.size = g2 at *
      refine wpAnyH_listed (listed' := #[true, true, true, true, false, true, true, true, true, false, true, true, true, true, false, true, true, true, false, false, false]) (by kernel_rfl) ?_
      exact HK1_0012 g1 g2 g3 v hI
    exact AllReadyH.nil
  case hb1_012 =>
    have hI := hpre
    refine wpAnyH_ready (rs := [4, 15]) (by kernel_rfl) (by simp) ?_
    refine' AllReadyH.cons ?_ (fun K hK => ?_) ?_
    rotate_left
    focus (simp only [List.getElem?_toArray, List.getElem?_cons_succ, List.getElem?_cons_zero]; rfl)
    focus
      go_simp
      (go_at_call 15; refine Calls.mono (HX.out _) ?_; rintro e v ⟨x, hx, rfl, hb⟩)
      replace hI := hI.below hb
      refine hK.out _ _ (hBase _ hI.bel) (fun hHeld => ?_)
      clear hK K hb
      (try simp only [Act.put, List.setIfInBounds_toArray, List.set_cons_zero, List.set_cons_succ])
      refine wpAnyH_listed (listed' := #[true, true, true, true, true, true, true, true, true, false, true, true, true, true, false, false, true, true, false, false, false]) (by kernel_rfl) ?_
      exact HK1_112 x g2 g3 v ⟨hx, hI⟩
    refine' AllReadyH.cons ?_ (fun K hK => ?_) ?_
    rotate_left
    focus (simp only [List.getElem?_toArray, List.getElem?_cons_succ, List.getElem?_cons_zero]; rfl)
    focus
      go_simp
      replace hI := hI.make1 (t := 23)
      refine hK.out _ _ (hBase _ hI.bel) (fun hHeld => ?_)
      clear hK K
      (try simp only [Act.put, List.setIfInBounds_toArray, List.set_cons_zero, List.set_cons_succ])
      generalize w'.alloc (.cells #[.int .i64 0, .int .i64 0] 23) = v at *
      generalize w'.heap.size = g1 at *
      refine wpAnyH_listed (listed' := #[true, true, true, true, false, true, true, true, true, false, true, true, true, true, false, true, true, true, false, false, false]) (by kernel_rfl) ?_
      exact HK1_0012 g1 g2 g3 v hI
    exact AllReadyH.nil
  case hb1_10 =>
    obtain ⟨hx, hI⟩ := hpre
    refine wpAnyH_ready (rs := [9, 16, 17]) (by kernel_rfl) (by simp) ?_
    refine' AllReadyH.cons ?_ (fun K hK => ?_) ?_
    rotate_left
    focus (simp only [List.getElem?_toArray, List.getElem?_cons_succ, List.getElem?_cons_zero]; rfl)
    focus
      go_simp
      (go_at_call 15; refine Calls.mono (HY.out _) ?_; rintro e v ⟨y, hy, rfl, hb⟩)
      replace hI := hI.below hb
      refine hK.out _ _ (hBase _ hI.bel) (fun hHeld => ?_)
      clear hK K hb
      (try simp only [Act.put, List.setIfInBounds_toArray, List.set_cons_zero, List.set_cons_succ])
      refine wpAnyH_listed (listed' := #[true, true, true, true, true, true, true, true, true, true, true, true, true, true, false, true, false, false, false, false, false]) (by kernel_rfl) ?_
      exact HK1_20 x y g1 v ⟨hx, hy, hI⟩
    refine' AllReadyH.cons ?_ (fun K hK => ?_) ?_
    rotate_left
    focus (simp only [List.getElem?_toArray, List.getElem?_cons_succ, List.getElem?_cons_zero]; rfl)
    focus
      go_simp
      replace hI := hI.make2 (t := 23)
      refine hK.out _ _ (hBase _ hI.bel) (fun hHeld => ?_)
      clear hK K
      (try simp only [Act.put, List.setIfInBounds_toArray, List.set_cons_zero, List.set_cons_succ])
      generalize w'.alloc (.cells #[.int .i64 0, .int .i64 0] 23) = v at *
      generalize w'.heap.size = g2 at *
      refine wpAnyH_listed (listed' := #[true, true, true, true, true, true, true, true, true, false, true, true, true, true, false, true, true, false, false, false, false]) (by kernel_rfl) ?_
      exact HK1_101 x g1 g2 v ⟨hx, hI⟩
    refine' AllReadyH.cons ?_ (fun K hK => ?_) ?_
    rotate_left
    focus (simp only [List.getElem?_toArray, List.getElem?_cons_succ, List.getElem?_cons_zero]; rfl)
    focus
      go_simp
      replace hI := hI.make3 (t := 23)
      refine hK.out _ _ (hBase _ hI.bel) (fun hHeld => ?_)
      clear hK K
      (try simp only [Act.put, List.setIfInBounds_toArray, List.set_cons_zero, List.set_cons_succ])
      generalize w'.alloc (.cells #[.int .i64 0, .int .i64 0] 23) = v at *
      generalize w'.heap.size = g3 at *
      refine wpAnyH_listed (listed' := #[true, true, true, true, true, true, true, true, true, false, true, true, true, true, false, true, false, true, false, false, false]) (by kernel_rfl) ?_
      exact HK1_102 x g1 g3 v ⟨hx, hI⟩
    exact AllReadyH.nil
  case hb1_11 =>
    obtain ⟨hx, hI⟩ := hpre
    refine wpAnyH_ready (rs := [9, 15, 17]) (by kernel_rfl) (by simp) ?_
    refine' AllReadyH.cons ?_ (fun K hK => ?_) ?_
    rotate_left
    focus (simp only [List.getElem?_toArray, List.getElem?_cons_succ, List.getElem?_cons_zero]; rfl)
    focus
      go_simp
      (go_at_call 15; refine Calls.mono (HY.out _) ?_; rintro e v ⟨y, hy, rfl, hb⟩)
      replace hI := hI.below hb
      refine hK.out _ _ (hBase _ hI.bel) (fun hHeld => ?_)
      clear hK K hb
      (try simp only [Act.put, List.setIfInBounds_toArray, List.set_cons_zero, List.set_cons_succ])
      refine wpAnyH_listed (listed' := #[true, true, true, true, true, true, true, true, true, true, true, true, true, true, false, false, true, false, false, false, false]) (by kernel_rfl) ?_
      exact HK1_21 x y g2 v ⟨hx, hy, hI⟩
    refine' AllReadyH.cons ?_ (fun K hK => ?_) ?_
    rotate_left
    focus (simp only [List.getElem?_toArray, List.getElem?_cons_succ, List.getElem?_cons_zero]; rfl)
    focus
      go_simp
      replace hI := hI.make1 (t := 23)
      refine hK.out _ _ (hBase _ hI.bel) (fun hHeld => ?_)
      clear hK K
      (try simp only [Act.put, List.setIfInBounds_toArray, List.set_cons_zero, List.set_cons_succ])
      generalize w'.alloc (.cells #[.int .i64 0, .int .i64 0] 23) = v at *
      generalize w'.heap.size = g1 at *
      refine wpAnyH_listed (listed' := #[true, true, true, true, true, true, true, true, true, false, true, true, true, true, false, true, true, false, false, false, false]) (by kernel_rfl) ?_
      exact HK1_101 x g1 g2 v ⟨hx, hI⟩
    refine' AllReadyH.cons ?_ (fun K hK => ?_) ?_
    rotate_left
    focus (simp only [List.getElem?_toArray, List.getElem?_cons_succ, List.getElem?_cons_zero]; rfl)
    focus
      go_simp
      replace hI := hI.make3 (t := 23)
      refine hK.out _ _ (hBase _ hI.bel) (fun hHeld => ?_)
      clear hK K
      (try simp only [Act.put, List.setIfInBounds_toArray, List.set_cons_zero, List.set_cons_succ])
      generalize w'.alloc (.cells #[.int .i64 0, .int .i64 0] 23) = v at *
      generalize w'.heap.size = g3 at *
      refine wpAnyH_listed (listed' := #[true, true, true, true, true, true, true, true, true, false, true, true, true, true, false, false, true, true, false, false, false]) (by kernel_rfl) ?_
      exact HK1_112 x g2 g3 v ⟨hx, hI⟩
    exact AllReadyH.nil
  case hb1_12 =>
    obtain ⟨hx, hI⟩ := hpre
    refine wpAnyH_ready (rs := [9, 15, 16]) (by kernel_rfl) (by simp) ?_
    refine' AllReadyH.cons ?_ (fun K hK => ?_) ?_
    rotate_left
    focus (simp only [List.getElem?_toArray, List.getElem?_cons_succ, List.getElem?_cons_zero]; rfl)
    focus
      go_simp
      (go_at_call 15; refine Calls.mono (HY.out _) ?_; rintro e v ⟨y, hy, rfl, hb⟩)
      replace hI := hI.below hb
      refine hK.out _ _ (hBase _ hI.bel) (fun hHeld => ?_)
      clear hK K hb
      (try simp only [Act.put, List.setIfInBounds_toArray, List.set_cons_zero, List.set_cons_succ])
      refine wpAnyH_listed (listed' := #[true, true, true, true, true, true, true, true, true, true, true, true, true, true, false, false, false, true, false, false, false]) (by kernel_rfl) ?_
      exact HK1_22 x y g3 v ⟨hx, hy, hI⟩
    refine' AllReadyH.cons ?_ (fun K hK => ?_) ?_
    rotate_left
    focus (simp only [List.getElem?_toArray, List.getElem?_cons_succ, List.getElem?_cons_zero]; rfl)
    focus
      go_simp
      replace hI := hI.make1 (t := 23)
      refine hK.out _ _ (hBase _ hI.bel) (fun hHeld => ?_)
      clear hK K
      (try simp only [Act.put, List.setIfInBounds_toArray, List.set_cons_zero, List.set_cons_succ])
      generalize w'.alloc (.cells #[.int .i64 0, .int .i64 0] 23) = v at *
      generalize w'.heap.size = g1 at *
      refine wpAnyH_listed (listed' := #[true, true, true, true, true, true, true, true, true, false, true, true, true, true, false, true, false, true, false, false, false]) (by kernel_rfl) ?_
      exact HK1_102 x g1 g3 v ⟨hx, hI⟩
    refine' AllReadyH.cons ?_ (fun K hK => ?_) ?_
    rotate_left
    focus (simp only [List.getElem?_toArray, List.getElem?_cons_succ, List.getElem?_cons_zero]; rfl)
    focus
      go_simp
      replace hI := hI.make2 (t := 23)
      refine hK.out _ _ (hBase _ hI.bel) (fun hHeld => ?_)
      clear hK K
      (try simp only [Act.put, List.setIfInBounds_toArray, List.set_cons_zero, List.set_cons_succ])
      generalize w'.alloc (.cells #[.int .i64 0, .int .i64 0] 23) = v at *
      generalize w'.heap.size = g2 at *
      refine wpAnyH_listed (listed' := #[true, true, true, true, true, true, true, true, true, false, true, true, true, true, false, false, true, true, false, false, false]) (by kernel_rfl) ?_
      exact HK1_112 x g2 g3 v ⟨hx, hI⟩
    exact AllReadyH.nil
  case hb1_2 =>
    obtain ⟨hx, hy, hI⟩ := hpre
    refine wpAnyH_ready (rs := [14, 15, 16, 17]) (by kernel_rfl) (by simp) ?_
    refine' AllReadyH.cons ?_ (fun K hK => ?_) ?_
    rotate_left
    focus (simp only [List.getElem?_toArray, List.getElem?_cons_succ, List.getElem?_cons_zero]; rfl)
    focus
      go_simp
      (go_at_call 15; refine Calls.mono (HZ.out _) ?_; rintro e v ⟨z, hz, rfl, hb⟩)
      replace hI := hI.below hb
      refine hK.out _ _ (hBase _ hI.bel) (fun hHeld => ?_)
      clear hK K hb
      (try simp only [Act.put, List.setIfInBounds_toArray, List.set_cons_zero, List.set_cons_succ])
      refine wpAnyH_listed (listed' := #[true, true, true, true, true, true, true, true, true, true, true, true, true, true, true, false, false, false, false, false, false]) (by kernel_rfl) ?_
      exact HK1_3 x y z v ⟨hx, hy, hz, hI⟩
    refine' AllReadyH.cons ?_ (fun K hK => ?_) ?_
    rotate_left
    focus (simp only [List.getElem?_toArray, List.getElem?_cons_succ, List.getElem?_cons_zero]; rfl)
    focus
      go_simp
      replace hI := hI.make1 (t := 23)
      refine hK.out _ _ (hBase _ hI.bel) (fun hHeld => ?_)
      clear hK K
      (try simp only [Act.put, List.setIfInBounds_toArray, List.set_cons_zero, List.set_cons_succ])
      generalize w'.alloc (.cells #[.int .i64 0, .int .i64 0] 23) = v at *
      generalize w'.heap.size = g1 at *
      refine wpAnyH_listed (listed' := #[true, true, true, true, true, true, true, true, true, true, true, true, true, true, false, true, false, false, false, false, false]) (by kernel_rfl) ?_
      exact HK1_20 x y g1 v ⟨hx, hy, hI⟩
    refine' AllReadyH.cons ?_ (fun K hK => ?_) ?_
    rotate_left
    focus (simp only [List.getElem?_toArray, List.getElem?_cons_succ, List.getElem?_cons_zero]; rfl)
    focus
      go_simp
      replace hI := hI.make2 (t := 23)
      refine hK.out _ _ (hBase _ hI.bel) (fun hHeld => ?_)
      clear hK K
      (try simp only [Act.put, List.setIfInBounds_toArray, List.set_cons_zero, List.set_cons_succ])
      generalize w'.alloc (.cells #[.int .i64 0, .int .i64 0] 23) = v at *
      generalize w'.heap.size = g2 at *
      refine wpAnyH_listed (listed' := #[true, true, true, true, true, true, true, true, true, true, true, true, true, true, false, false, true, false, false, false, false]) (by kernel_rfl) ?_
      exact HK1_21 x y g2 v ⟨hx, hy, hI⟩
    refine' AllReadyH.cons ?_ (fun K hK => ?_) ?_
    rotate_left
    focus (simp only [List.getElem?_toArray, List.getElem?_cons_succ, List.getElem?_cons_zero]; rfl)
    focus
      go_simp
      replace hI := hI.make3 (t := 23)
      refine hK.out _ _ (hBase _ hI.bel) (fun hHeld => ?_)
      clear hK K
      (try simp only [Act.put, List.setIfInBounds_toArray, List.set_cons_zero, List.set_cons_succ])
      generalize w'.alloc (.cells #[.int .i64 0, .int .i64 0] 23) = v at *
      generalize w'.heap.size = g3 at *
      refine wpAnyH_listed (listed' := #[true, true, true, true, true, true, true, true, true, true, true, true, true, true, false, false, false, true, false, false, false]) (by kernel_rfl) ?_
      exact HK1_22 x y g3 v ⟨hx, hy, hI⟩
    exact AllReadyH.nil
  case hb1_0012 =>
    have hI := hpre
    refine wpAnyH_ready (rs := [4]) (by kernel_rfl) (by simp) ?_
    refine' AllReadyH.cons ?_ (fun K hK => ?_) ?_
    rotate_left
    focus (simp only [List.getElem?_toArray, List.getElem?_cons_succ, List.getElem?_cons_zero]; rfl)
    focus
      go_simp
      (go_at_call 15; refine Calls.mono (HX.out _) ?_; rintro e v ⟨x, hx, rfl, hb⟩)
      replace hI := hI.below hb
      refine hK.out _ _ (hBase _ hI.bel) (fun hHeld => ?_)
      clear hK K hb
      (try simp only [Act.put, List.setIfInBounds_toArray, List.set_cons_zero, List.set_cons_succ])
      refine wpAnyH_listed (listed' := #[true, true, true, true, true, true, true, true, true, false, true, true, true, true, false, true, true, true, false, false, false]) (by kernel_rfl) ?_
      exact HK1_1012 x g1 g2 g3 v ⟨hx, hI⟩
    exact AllReadyH.nil
  case hb1_101 =>
    obtain ⟨hx, hI⟩ := hpre
    refine wpAnyH_ready (rs := [9, 17]) (by kernel_rfl) (by simp) ?_
    refine' AllReadyH.cons ?_ (fun K hK => ?_) ?_
    rotate_left
    focus (simp only [List.getElem?_toArray, List.getElem?_cons_succ, List.getElem?_cons_zero]; rfl)
    focus
      go_simp
      (go_at_call 15; refine Calls.mono (HY.out _) ?_; rintro e v ⟨y, hy, rfl, hb⟩)
      replace hI := hI.below hb
      refine hK.out _ _ (hBase _ hI.bel) (fun hHeld => ?_)
      clear hK K hb
      (try simp only [Act.put, List.setIfInBounds_toArray, List.set_cons_zero, List.set_cons_succ])
      refine wpAnyH_listed (listed' := #[true, true, true, true, true, true, true, true, true, true, true, true, true, true, false, true, true, false, false, false, false]) (by kernel_rfl) ?_
      exact HK1_201 x y g1 g2 v ⟨hx, hy, hI⟩
    refine' AllReadyH.cons ?_ (fun K hK => ?_) ?_
    rotate_left
    focus (simp only [List.getElem?_toArray, List.getElem?_cons_succ, List.getElem?_cons_zero]; rfl)
    focus
      go_simp
      replace hI := hI.make3 (t := 23)
      refine hK.out _ _ (hBase _ hI.bel) (fun hHeld => ?_)
      clear hK K
      (try simp only [Act.put, List.setIfInBounds_toArray, List.set_cons_zero, List.set_cons_succ])
      generalize w'.alloc (.cells #[.int .i64 0, .int .i64 0] 23) = v at *
      generalize w'.heap.size = g3 at *
      refine wpAnyH_listed (listed' := #[true, true, true, true, true, true, true, true, true, false, true, true, true, true, false, true, true, true, false, false, false]) (by kernel_rfl) ?_
      exact HK1_1012 x g1 g2 g3 v ⟨hx, hI⟩
    exact AllReadyH.nil
  case hb1_102 =>
    obtain ⟨hx, hI⟩ := hpre
    refine wpAnyH_ready (rs := [9, 16]) (by kernel_rfl) (by simp) ?_
    refine' AllReadyH.cons ?_ (fun K hK => ?_) ?_
    rotate_left
    focus (simp only [List.getElem?_toArray, List.getElem?_cons_succ, List.getElem?_cons_zero]; rfl)
    focus
      go_simp
      (go_at_call 15; refine Calls.mono (HY.out _) ?_; rintro e v ⟨y, hy, rfl, hb⟩)
      replace hI := hI.below hb
      refine hK.out _ _ (hBase _ hI.bel) (fun hHeld => ?_)
      clear hK K hb
      (try simp only [Act.put, List.setIfInBounds_toArray, List.set_cons_zero, List.set_cons_succ])
      refine wpAnyH_listed (listed' := #[true, true, true, true, true, true, true, true, true, true, true, true, true, true, false, true, false, true, false, false, false]) (by kernel_rfl) ?_
      exact HK1_202 x y g1 g3 v ⟨hx, hy, hI⟩
    refine' AllReadyH.cons ?_ (fun K hK => ?_) ?_
    rotate_left
    focus (simp only [List.getElem?_toArray, List.getElem?_cons_succ, List.getElem?_cons_zero]; rfl)
    focus
      go_simp
      replace hI := hI.make2 (t := 23)
      refine hK.out _ _ (hBase _ hI.bel) (fun hHeld => ?_)
      clear hK K
      (try simp only [Act.put, List.setIfInBounds_toArray, List.set_cons_zero, List.set_cons_succ])
      generalize w'.alloc (.cells #[.int .i64 0, .int .i64 0] 23) = v at *
      generalize w'.heap.size = g2 at *
      refine wpAnyH_listed (listed' := #[true, true, true, true, true, true, true, true, true, false, true, true, true, true, false, true, true, true, false, false, false]) (by kernel_rfl) ?_
      exact HK1_1012 x g1 g2 g3 v ⟨hx, hI⟩
    exact AllReadyH.nil
  case hb1_112 =>
    obtain ⟨hx, hI⟩ := hpre
    refine wpAnyH_ready (rs := [9, 15]) (by kernel_rfl) (by simp) ?_
    refine' AllReadyH.cons ?_ (fun K hK => ?_) ?_
    rotate_left
    focus (simp only [List.getElem?_toArray, List.getElem?_cons_succ, List.getElem?_cons_zero]; rfl)
    focus
      go_simp
      (go_at_call 15; refine Calls.mono (HY.out _) ?_; rintro e v ⟨y, hy, rfl, hb⟩)
      replace hI := hI.below hb
      refine hK.out _ _ (hBase _ hI.bel) (fun hHeld => ?_)
      clear hK K hb
      (try simp only [Act.put, List.setIfInBounds_toArray, List.set_cons_zero, List.set_cons_succ])
      refine wpAnyH_listed (listed' := #[true, true, true, true, true, true, true, true, true, true, true, true, true, true, false, false, true, true, false, false, false]) (by kernel_rfl) ?_
      exact HK1_212 x y g2 g3 v ⟨hx, hy, hI⟩
    refine' AllReadyH.cons ?_ (fun K hK => ?_) ?_
    rotate_left
    focus (simp only [List.getElem?_toArray, List.getElem?_cons_succ, List.getElem?_cons_zero]; rfl)
    focus
      go_simp
      replace hI := hI.make1 (t := 23)
      refine hK.out _ _ (hBase _ hI.bel) (fun hHeld => ?_)
      clear hK K
      (try simp only [Act.put, List.setIfInBounds_toArray, List.set_cons_zero, List.set_cons_succ])
      generalize w'.alloc (.cells #[.int .i64 0, .int .i64 0] 23) = v at *
      generalize w'.heap.size = g1 at *
      refine wpAnyH_listed (listed' := #[true, true, true, true, true, true, true, true, true, false, true, true, true, true, false, true, true, true, false, false, false]) (by kernel_rfl) ?_
      exact HK1_1012 x g1 g2 g3 v ⟨hx, hI⟩
    exact AllReadyH.nil
  case hb1_20 =>
    obtain ⟨hx, hy, hI⟩ := hpre
    refine wpAnyH_ready (rs := [14, 16, 17]) (by kernel_rfl) (by simp) ?_
    refine' AllReadyH.cons ?_ (fun K hK => ?_) ?_
    rotate_left
    focus (simp only [List.getElem?_toArray, List.getElem?_cons_succ, List.getElem?_cons_zero]; rfl)
    focus
      go_simp
      (go_at_call 15; refine Calls.mono (HZ.out _) ?_; rintro e v ⟨z, hz, rfl, hb⟩)
      replace hI := hI.below hb
      refine hK.out _ _ (hBase _ hI.bel) (fun hHeld => ?_)
      clear hK K hb
      (try simp only [Act.put, List.setIfInBounds_toArray, List.set_cons_zero, List.set_cons_succ])
      refine wpAnyH_listed (listed' := #[true, true, true, true, true, true, true, true, true, true, true, true, true, true, true, true, false, false, false, false, false]) (by kernel_rfl) ?_
      exact HK1_30 x y z g1 v ⟨hx, hy, hz, hI⟩
    refine' AllReadyH.cons ?_ (fun K hK => ?_) ?_
    rotate_left
    focus (simp only [List.getElem?_toArray, List.getElem?_cons_succ, List.getElem?_cons_zero]; rfl)
    focus
      go_simp
      replace hI := hI.make2 (t := 23)
      refine hK.out _ _ (hBase _ hI.bel) (fun hHeld => ?_)
      clear hK K
      (try simp only [Act.put, List.setIfInBounds_toArray, List.set_cons_zero, List.set_cons_succ])
      generalize w'.alloc (.cells #[.int .i64 0, .int .i64 0] 23) = v at *
      generalize w'.heap.size = g2 at *
      refine wpAnyH_listed (listed' := #[true, true, true, true, true, true, true, true, true, true, true, true, true, true, false, true, true, false, false, false, false]) (by kernel_rfl) ?_
      exact HK1_201 x y g1 g2 v ⟨hx, hy, hI⟩
    refine' AllReadyH.cons ?_ (fun K hK => ?_) ?_
    rotate_left
    focus (simp only [List.getElem?_toArray, List.getElem?_cons_succ, List.getElem?_cons_zero]; rfl)
    focus
      go_simp
      replace hI := hI.make3 (t := 23)
      refine hK.out _ _ (hBase _ hI.bel) (fun hHeld => ?_)
      clear hK K
      (try simp only [Act.put, List.setIfInBounds_toArray, List.set_cons_zero, List.set_cons_succ])
      generalize w'.alloc (.cells #[.int .i64 0, .int .i64 0] 23) = v at *
      generalize w'.heap.size = g3 at *
      refine wpAnyH_listed (listed' := #[true, true, true, true, true, true, true, true, true, true, true, true, true, true, false, true, false, true, false, false, false]) (by kernel_rfl) ?_
      exact HK1_202 x y g1 g3 v ⟨hx, hy, hI⟩
    exact AllReadyH.nil
  case hb1_21 =>
    obtain ⟨hx, hy, hI⟩ := hpre
    refine wpAnyH_ready (rs := [14, 15, 17]) (by kernel_rfl) (by simp) ?_
    refine' AllReadyH.cons ?_ (fun K hK => ?_) ?_
    rotate_left
    focus (simp only [List.getElem?_toArray, List.getElem?_cons_succ, List.getElem?_cons_zero]; rfl)
    focus
      go_simp
      (go_at_call 15; refine Calls.mono (HZ.out _) ?_; rintro e v ⟨z, hz, rfl, hb⟩)
      replace hI := hI.below hb
      refine hK.out _ _ (hBase _ hI.bel) (fun hHeld => ?_)
      clear hK K hb
      (try simp only [Act.put, List.setIfInBounds_toArray, List.set_cons_zero, List.set_cons_succ])
      refine wpAnyH_listed (listed' := #[true, true, true, true, true, true, true, true, true, true, true, true, true, true, true, false, true, false, false, false, false]) (by kernel_rfl) ?_
      exact HK1_31 x y z g2 v ⟨hx, hy, hz, hI⟩
    refine' AllReadyH.cons ?_ (fun K hK => ?_) ?_
    rotate_left
    focus (simp only [List.getElem?_toArray, List.getElem?_cons_succ, List.getElem?_cons_zero]; rfl)
    focus
      go_simp
      replace hI := hI.make1 (t := 23)
      refine hK.out _ _ (hBase _ hI.bel) (fun hHeld => ?_)
      clear hK K
      (try simp only [Act.put, List.setIfInBounds_toArray, List.set_cons_zero, List.set_cons_succ])
      generalize w'.alloc (.cells #[.int .i64 0, .int .i64 0] 23) = v at *
      generalize w'.heap.size = g1 at *
      refine wpAnyH_listed (listed' := #[true, true, true, true, true, true, true, true, true, true, true, true, true, true, false, true, true, false, false, false, false]) (by kernel_rfl) ?_
      exact HK1_201 x y g1 g2 v ⟨hx, hy, hI⟩
    refine' AllReadyH.cons ?_ (fun K hK => ?_) ?_
    rotate_left
    focus (simp only [List.getElem?_toArray, List.getElem?_cons_succ, List.getElem?_cons_zero]; rfl)
    focus
      go_simp
      replace hI := hI.make3 (t := 23)
      refine hK.out _ _ (hBase _ hI.bel) (fun hHeld => ?_)
      clear hK K
      (try simp only [Act.put, List.setIfInBounds_toArray, List.set_cons_zero, List.set_cons_succ])
      generalize w'.alloc (.cells #[.int .i64 0, .int .i64 0] 23) = v at *
      generalize w'.heap.size = g3 at *
      refine wpAnyH_listed (listed' := #[true, true, true, true, true, true, true, true, true, true, true, true, true, true, false, false, true, true, false, false, false]) (by kernel_rfl) ?_
      exact HK1_212 x y g2 g3 v ⟨hx, hy, hI⟩
    exact AllReadyH.nil
  case hb1_22 =>
    obtain ⟨hx, hy, hI⟩ := hpre
    refine wpAnyH_ready (rs := [14, 15, 16]) (by kernel_rfl) (by simp) ?_
    refine' AllReadyH.cons ?_ (fun K hK => ?_) ?_
    rotate_left
    focus (simp only [List.getElem?_toArray, List.getElem?_cons_succ, List.getElem?_cons_zero]; rfl)
    focus
      go_simp
      (go_at_call 15; refine Calls.mono (HZ.out _) ?_; rintro e v ⟨z, hz, rfl, hb⟩)
      replace hI := hI.below hb
      refine hK.out _ _ (hBase _ hI.bel) (fun hHeld => ?_)
      clear hK K hb
      (try simp only [Act.put, List.setIfInBounds_toArray, List.set_cons_zero, List.set_cons_succ])
      refine wpAnyH_listed (listed' := #[true, true, true, true, true, true, true, true, true, true, true, true, true, true, true, false, false, true, false, false, false]) (by kernel_rfl) ?_
      exact HK1_32 x y z g3 v ⟨hx, hy, hz, hI⟩
    refine' AllReadyH.cons ?_ (fun K hK => ?_) ?_
    rotate_left
    focus (simp only [List.getElem?_toArray, List.getElem?_cons_succ, List.getElem?_cons_zero]; rfl)
    focus
      go_simp
      replace hI := hI.make1 (t := 23)
      refine hK.out _ _ (hBase _ hI.bel) (fun hHeld => ?_)
      clear hK K
      (try simp only [Act.put, List.setIfInBounds_toArray, List.set_cons_zero, List.set_cons_succ])
      generalize w'.alloc (.cells #[.int .i64 0, .int .i64 0] 23) = v at *
      generalize w'.heap.size = g1 at *
      refine wpAnyH_listed (listed' := #[true, true, true, true, true, true, true, true, true, true, true, true, true, true, false, true, false, true, false, false, false]) (by kernel_rfl) ?_
      exact HK1_202 x y g1 g3 v ⟨hx, hy, hI⟩
    refine' AllReadyH.cons ?_ (fun K hK => ?_) ?_
    rotate_left
    focus (simp only [List.getElem?_toArray, List.getElem?_cons_succ, List.getElem?_cons_zero]; rfl)
    focus
      go_simp
      replace hI := hI.make2 (t := 23)
      refine hK.out _ _ (hBase _ hI.bel) (fun hHeld => ?_)
      clear hK K
      (try simp only [Act.put, List.setIfInBounds_toArray, List.set_cons_zero, List.set_cons_succ])
      generalize w'.alloc (.cells #[.int .i64 0, .int .i64 0] 23) = v at *
      generalize w'.heap.size = g2 at *
      refine wpAnyH_listed (listed' := #[true, true, true, true, true, true, true, true, true, true, true, true, true, true, false, false, true, true, false, false, false]) (by kernel_rfl) ?_
      exact HK1_212 x y g2 g3 v ⟨hx, hy, hI⟩
    exact AllReadyH.nil
  case hb1_3 =>
    obtain ⟨hx, hy, hz, hI⟩ := hpre
    refine wpAnyH_ready (rs := [15, 16, 17]) (by kernel_rfl) (by simp) ?_
    refine' AllReadyH.cons ?_ (fun K hK => ?_) ?_
    rotate_left
    focus (simp only [List.getElem?_toArray, List.getElem?_cons_succ, List.getElem?_cons_zero]; rfl)
    focus
      go_simp
      replace hI := hI.make1 (t := 23)
      refine hK.out _ _ (hBase _ hI.bel) (fun hHeld => ?_)
      clear hK K
      (try simp only [Act.put, List.setIfInBounds_toArray, List.set_cons_zero, List.set_cons_succ])
      generalize w'.alloc (.cells #[.int .i64 0, .int .i64 0] 23) = v at *
      generalize w'.heap.size = g1 at *
      refine wpAnyH_listed (listed' := #[true, true, true, true, true, true, true, true, true, true, true, true, true, true, true, true, false, false, false, false, false]) (by kernel_rfl) ?_
      exact HK1_30 x y z g1 v ⟨hx, hy, hz, hI⟩
    refine' AllReadyH.cons ?_ (fun K hK => ?_) ?_
    rotate_left
    focus (simp only [List.getElem?_toArray, List.getElem?_cons_succ, List.getElem?_cons_zero]; rfl)
    focus
      go_simp
      replace hI := hI.make2 (t := 23)
      refine hK.out _ _ (hBase _ hI.bel) (fun hHeld => ?_)
      clear hK K
      (try simp only [Act.put, List.setIfInBounds_toArray, List.set_cons_zero, List.set_cons_succ])
      generalize w'.alloc (.cells #[.int .i64 0, .int .i64 0] 23) = v at *
      generalize w'.heap.size = g2 at *
      refine wpAnyH_listed (listed' := #[true, true, true, true, true, true, true, true, true, true, true, true, true, true, true, false, true, false, false, false, false]) (by kernel_rfl) ?_
      exact HK1_31 x y z g2 v ⟨hx, hy, hz, hI⟩
    refine' AllReadyH.cons ?_ (fun K hK => ?_) ?_
    rotate_left
    focus (simp only [List.getElem?_toArray, List.getElem?_cons_succ, List.getElem?_cons_zero]; rfl)
    focus
      go_simp
      replace hI := hI.make3 (t := 23)
      refine hK.out _ _ (hBase _ hI.bel) (fun hHeld => ?_)
      clear hK K
      (try simp only [Act.put, List.setIfInBounds_toArray, List.set_cons_zero, List.set_cons_succ])
      generalize w'.alloc (.cells #[.int .i64 0, .int .i64 0] 23) = v at *
      generalize w'.heap.size = g3 at *
      refine wpAnyH_listed (listed' := #[true, true, true, true, true, true, true, true, true, true, true, true, true, true, true, false, false, true, false, false, false]) (by kernel_rfl) ?_
      exact HK1_32 x y z g3 v ⟨hx, hy, hz, hI⟩
    exact AllReadyH.nil
  case hb1_1012 =>
    obtain ⟨hx, hI⟩ := hpre
    refine wpAnyH_ready (rs := [9]) (by kernel_rfl) (by simp) ?_
    refine' AllReadyH.cons ?_ (fun K hK => ?_) ?_
    rotate_left
    focus (simp only [List.getElem?_toArray, List.getElem?_cons_succ, List.getElem?_cons_zero]; rfl)
    focus
      go_simp
      (go_at_call 15; refine Calls.mono (HY.out _) ?_; rintro e v ⟨y, hy, rfl, hb⟩)
      replace hI := hI.below hb
      refine hK.out _ _ (hBase _ hI.bel) (fun hHeld => ?_)
      clear hK K hb
      (try simp only [Act.put, List.setIfInBounds_toArray, List.set_cons_zero, List.set_cons_succ])
      refine wpAnyH_listed (listed' := #[true, true, true, true, true, true, true, true, true, true, true, true, true, true, false, true, true, true, false, false, false]) (by kernel_rfl) ?_
      exact HK1_2012 x y g1 g2 g3 v ⟨hx, hy, hI⟩
    exact AllReadyH.nil
  case hb1_201 =>
    obtain ⟨hx, hy, hI⟩ := hpre
    refine wpAnyH_ready (rs := [14, 17]) (by kernel_rfl) (by simp) ?_
    refine' AllReadyH.cons ?_ (fun K hK => ?_) ?_
    rotate_left
    focus (simp only [List.getElem?_toArray, List.getElem?_cons_succ, List.getElem?_cons_zero]; rfl)
    focus
      go_simp
      (go_at_call 15; refine Calls.mono (HZ.out _) ?_; rintro e v ⟨z, hz, rfl, hb⟩)
      replace hI := hI.below hb
      refine hK.out _ _ (hBase _ hI.bel) (fun hHeld => ?_)
      clear hK K hb
      (try simp only [Act.put, List.setIfInBounds_toArray, List.set_cons_zero, List.set_cons_succ])
      refine wpAnyH_listed (listed' := #[true, true, true, true, true, true, true, true, true, true, true, true, true, true, true, true, true, false, false, false, false]) (by kernel_rfl) ?_
      exact HK1_301 x y z g1 g2 v ⟨hx, hy, hz, hI⟩
    refine' AllReadyH.cons ?_ (fun K hK => ?_) ?_
    rotate_left
    focus (simp only [List.getElem?_toArray, List.getElem?_cons_succ, List.getElem?_cons_zero]; rfl)
    focus
      go_simp
      replace hI := hI.make3 (t := 23)
      refine hK.out _ _ (hBase _ hI.bel) (fun hHeld => ?_)
      clear hK K
      (try simp only [Act.put, List.setIfInBounds_toArray, List.set_cons_zero, List.set_cons_succ])
      generalize w'.alloc (.cells #[.int .i64 0, .int .i64 0] 23) = v at *
      generalize w'.heap.size = g3 at *
      refine wpAnyH_listed (listed' := #[true, true, true, true, true, true, true, true, true, true, true, true, true, true, false, true, true, true, false, false, false]) (by kernel_rfl) ?_
      exact HK1_2012 x y g1 g2 g3 v ⟨hx, hy, hI⟩
    exact AllReadyH.nil
  case hb1_202 =>
    obtain ⟨hx, hy, hI⟩ := hpre
    refine wpAnyH_ready (rs := [14, 16]) (by kernel_rfl) (by simp) ?_
    refine' AllReadyH.cons ?_ (fun K hK => ?_) ?_
    rotate_left
    focus (simp only [List.getElem?_toArray, List.getElem?_cons_succ, List.getElem?_cons_zero]; rfl)
    focus
      go_simp
      (go_at_call 15; refine Calls.mono (HZ.out _) ?_; rintro e v ⟨z, hz, rfl, hb⟩)
      replace hI := hI.below hb
      refine hK.out _ _ (hBase _ hI.bel) (fun hHeld => ?_)
      clear hK K hb
      (try simp only [Act.put, List.setIfInBounds_toArray, List.set_cons_zero, List.set_cons_succ])
      refine wpAnyH_listed (listed' := #[true, true, true, true, true, true, true, true, true, true, true, true, true, true, true, true, false, true, false, false, false]) (by kernel_rfl) ?_
      exact HK1_302 x y z g1 g3 v ⟨hx, hy, hz, hI⟩
    refine' AllReadyH.cons ?_ (fun K hK => ?_) ?_
    rotate_left
    focus (simp only [List.getElem?_toArray, List.getElem?_cons_succ, List.getElem?_cons_zero]; rfl)
    focus
      go_simp
      replace hI := hI.make2 (t := 23)
      refine hK.out _ _ (hBase _ hI.bel) (fun hHeld => ?_)
      clear hK K
      (try simp only [Act.put, List.setIfInBounds_toArray, List.set_cons_zero, List.set_cons_succ])
      generalize w'.alloc (.cells #[.int .i64 0, .int .i64 0] 23) = v at *
      generalize w'.heap.size = g2 at *
      refine wpAnyH_listed (listed' := #[true, true, true, true, true, true, true, true, true, true, true, true, true, true, false, true, true, true, false, false, false]) (by kernel_rfl) ?_
      exact HK1_2012 x y g1 g2 g3 v ⟨hx, hy, hI⟩
    exact AllReadyH.nil
  case hb1_212 =>
    obtain ⟨hx, hy, hI⟩ := hpre
    refine wpAnyH_ready (rs := [14, 15]) (by kernel_rfl) (by simp) ?_
    refine' AllReadyH.cons ?_ (fun K hK => ?_) ?_
    rotate_left
    focus (simp only [List.getElem?_toArray, List.getElem?_cons_succ, List.getElem?_cons_zero]; rfl)
    focus
      go_simp
      (go_at_call 15; refine Calls.mono (HZ.out _) ?_; rintro e v ⟨z, hz, rfl, hb⟩)
      replace hI := hI.below hb
      refine hK.out _ _ (hBase _ hI.bel) (fun hHeld => ?_)
      clear hK K hb
      (try simp only [Act.put, List.setIfInBounds_toArray, List.set_cons_zero, List.set_cons_succ])
      refine wpAnyH_listed (listed' := #[true, true, true, true, true, true, true, true, true, true, true, true, true, true, true, false, true, true, false, false, false]) (by kernel_rfl) ?_
      exact HK1_312 x y z g2 g3 v ⟨hx, hy, hz, hI⟩
    refine' AllReadyH.cons ?_ (fun K hK => ?_) ?_
    rotate_left
    focus (simp only [List.getElem?_toArray, List.getElem?_cons_succ, List.getElem?_cons_zero]; rfl)
    focus
      go_simp
      replace hI := hI.make1 (t := 23)
      refine hK.out _ _ (hBase _ hI.bel) (fun hHeld => ?_)
      clear hK K
      (try simp only [Act.put, List.setIfInBounds_toArray, List.set_cons_zero, List.set_cons_succ])
      generalize w'.alloc (.cells #[.int .i64 0, .int .i64 0] 23) = v at *
      generalize w'.heap.size = g1 at *
      refine wpAnyH_listed (listed' := #[true, true, true, true, true, true, true, true, true, true, true, true, true, true, false, true, true, true, false, false, false]) (by kernel_rfl) ?_
      exact HK1_2012 x y g1 g2 g3 v ⟨hx, hy, hI⟩
    exact AllReadyH.nil
  case hb1_30 =>
    obtain ⟨hx, hy, hz, hI⟩ := hpre
    refine wpAnyH_ready (rs := [16, 17]) (by kernel_rfl) (by simp) ?_
    refine' AllReadyH.cons ?_ (fun K hK => ?_) ?_
    rotate_left
    focus (simp only [List.getElem?_toArray, List.getElem?_cons_succ, List.getElem?_cons_zero]; rfl)
    focus
      go_simp
      replace hI := hI.make2 (t := 23)
      refine hK.out _ _ (hBase _ hI.bel) (fun hHeld => ?_)
      clear hK K
      (try simp only [Act.put, List.setIfInBounds_toArray, List.set_cons_zero, List.set_cons_succ])
      generalize w'.alloc (.cells #[.int .i64 0, .int .i64 0] 23) = v at *
      generalize w'.heap.size = g2 at *
      refine wpAnyH_listed (listed' := #[true, true, true, true, true, true, true, true, true, true, true, true, true, true, true, true, true, false, false, false, false]) (by kernel_rfl) ?_
      exact HK1_301 x y z g1 g2 v ⟨hx, hy, hz, hI⟩
    refine' AllReadyH.cons ?_ (fun K hK => ?_) ?_
    rotate_left
    focus (simp only [List.getElem?_toArray, List.getElem?_cons_succ, List.getElem?_cons_zero]; rfl)
    focus
      go_simp
      replace hI := hI.make3 (t := 23)
      refine hK.out _ _ (hBase _ hI.bel) (fun hHeld => ?_)
      clear hK K
      (try simp only [Act.put, List.setIfInBounds_toArray, List.set_cons_zero, List.set_cons_succ])
      generalize w'.alloc (.cells #[.int .i64 0, .int .i64 0] 23) = v at *
      generalize w'.heap.size = g3 at *
      refine wpAnyH_listed (listed' := #[true, true, true, true, true, true, true, true, true, true, true, true, true, true, true, true, false, true, false, false, false]) (by kernel_rfl) ?_
      exact HK1_302 x y z g1 g3 v ⟨hx, hy, hz, hI⟩
    exact AllReadyH.nil
  case hb1_31 =>
    obtain ⟨hx, hy, hz, hI⟩ := hpre
    refine wpAnyH_ready (rs := [15, 17]) (by kernel_rfl) (by simp) ?_
    refine' AllReadyH.cons ?_ (fun K hK => ?_) ?_
    rotate_left
    focus (simp only [List.getElem?_toArray, List.getElem?_cons_succ, List.getElem?_cons_zero]; rfl)
    focus
      go_simp
      replace hI := hI.make1 (t := 23)
      refine hK.out _ _ (hBase _ hI.bel) (fun hHeld => ?_)
      clear hK K
      (try simp only [Act.put, List.setIfInBounds_toArray, List.set_cons_zero, List.set_cons_succ])
      generalize w'.alloc (.cells #[.int .i64 0, .int .i64 0] 23) = v at *
      generalize w'.heap.size = g1 at *
      refine wpAnyH_listed (listed' := #[true, true, true, true, true, true, true, true, true, true, true, true, true, true, true, true, true, false, false, false, false]) (by kernel_rfl) ?_
      exact HK1_301 x y z g1 g2 v ⟨hx, hy, hz, hI⟩
    refine' AllReadyH.cons ?_ (fun K hK => ?_) ?_
    rotate_left
    focus (simp only [List.getElem?_toArray, List.getElem?_cons_succ, List.getElem?_cons_zero]; rfl)
    focus
      go_simp
      replace hI := hI.make3 (t := 23)
      refine hK.out _ _ (hBase _ hI.bel) (fun hHeld => ?_)
      clear hK K
      (try simp only [Act.put, List.setIfInBounds_toArray, List.set_cons_zero, List.set_cons_succ])
      generalize w'.alloc (.cells #[.int .i64 0, .int .i64 0] 23) = v at *
      generalize w'.heap.size = g3 at *
      refine wpAnyH_listed (listed' := #[true, true, true, true, true, true, true, true, true, true, true, true, true, true, true, false, true, true, false, false, false]) (by kernel_rfl) ?_
      exact HK1_312 x y z g2 g3 v ⟨hx, hy, hz, hI⟩
    exact AllReadyH.nil
  case hb1_32 =>
    obtain ⟨hx, hy, hz, hI⟩ := hpre
    refine wpAnyH_ready (rs := [15, 16]) (by kernel_rfl) (by simp) ?_
    refine' AllReadyH.cons ?_ (fun K hK => ?_) ?_
    rotate_left
    focus (simp only [List.getElem?_toArray, List.getElem?_cons_succ, List.getElem?_cons_zero]; rfl)
    focus
      go_simp
      replace hI := hI.make1 (t := 23)
      refine hK.out _ _ (hBase _ hI.bel) (fun hHeld => ?_)
      clear hK K
      (try simp only [Act.put, List.setIfInBounds_toArray, List.set_cons_zero, List.set_cons_succ])
      generalize w'.alloc (.cells #[.int .i64 0, .int .i64 0] 23) = v at *
      generalize w'.heap.size = g1 at *
      refine wpAnyH_listed (listed' := #[true, true, true, true, true, true, true, true, true, true, true, true, true, true, true, true, false, true, false, false, false]) (by kernel_rfl) ?_
      exact HK1_302 x y z g1 g3 v ⟨hx, hy, hz, hI⟩
    refine' AllReadyH.cons ?_ (fun K hK => ?_) ?_
    rotate_left
    focus (simp only [List.getElem?_toArray, List.getElem?_cons_succ, List.getElem?_cons_zero]; rfl)
    focus
      go_simp
      replace hI := hI.make2 (t := 23)
      refine hK.out _ _ (hBase _ hI.bel) (fun hHeld => ?_)
      clear hK K
      (try simp only [Act.put, List.setIfInBounds_toArray, List.set_cons_zero, List.set_cons_succ])
      generalize w'.alloc (.cells #[.int .i64 0, .int .i64 0] 23) = v at *
      generalize w'.heap.size = g2 at *
      refine wpAnyH_listed (listed' := #[true, true, true, true, true, true, true, true, true, true, true, true, true, true, true, false, true, true, false, false, false]) (by kernel_rfl) ?_
      exact HK1_312 x y z g2 g3 v ⟨hx, hy, hz, hI⟩
    exact AllReadyH.nil
  case hb1_2012 =>
    obtain ⟨hx, hy, hI⟩ := hpre
    refine wpAnyH_ready (rs := [14]) (by kernel_rfl) (by simp) ?_
    refine' AllReadyH.cons ?_ (fun K hK => ?_) ?_
    rotate_left
    focus (simp only [List.getElem?_toArray, List.getElem?_cons_succ, List.getElem?_cons_zero]; rfl)
    focus
      go_simp
      (go_at_call 15; refine Calls.mono (HZ.out _) ?_; rintro e v ⟨z, hz, rfl, hb⟩)
      replace hI := hI.below hb
      refine hK.out _ _ (hBase _ hI.bel) (fun hHeld => ?_)
      clear hK K hb
      (try simp only [Act.put, List.setIfInBounds_toArray, List.set_cons_zero, List.set_cons_succ])
      refine wpAnyH_listed (listed' := #[true, true, true, true, true, true, true, true, true, true, true, true, true, true, true, true, true, true, false, false, false]) (by kernel_rfl) ?_
      exact HK1_3012 x y z g1 g2 g3 v ⟨hx, hy, hz, hI⟩
    exact AllReadyH.nil
  case hb1_301 =>
    obtain ⟨hx, hy, hz, hI⟩ := hpre
    refine wpAnyH_ready (rs := [17]) (by kernel_rfl) (by simp) ?_
    refine' AllReadyH.cons ?_ (fun K hK => ?_) ?_
    rotate_left
    focus (simp only [List.getElem?_toArray, List.getElem?_cons_succ, List.getElem?_cons_zero]; rfl)
    focus
      go_simp
      replace hI := hI.make3 (t := 23)
      refine hK.out _ _ (hBase _ hI.bel) (fun hHeld => ?_)
      clear hK K
      (try simp only [Act.put, List.setIfInBounds_toArray, List.set_cons_zero, List.set_cons_succ])
      generalize w'.alloc (.cells #[.int .i64 0, .int .i64 0] 23) = v at *
      generalize w'.heap.size = g3 at *
      refine wpAnyH_listed (listed' := #[true, true, true, true, true, true, true, true, true, true, true, true, true, true, true, true, true, true, false, false, false]) (by kernel_rfl) ?_
      exact HK1_3012 x y z g1 g2 g3 v ⟨hx, hy, hz, hI⟩
    exact AllReadyH.nil
  case hb1_302 =>
    obtain ⟨hx, hy, hz, hI⟩ := hpre
    refine wpAnyH_ready (rs := [16]) (by kernel_rfl) (by simp) ?_
    refine' AllReadyH.cons ?_ (fun K hK => ?_) ?_
    rotate_left
    focus (simp only [List.getElem?_toArray, List.getElem?_cons_succ, List.getElem?_cons_zero]; rfl)
    focus
      go_simp
      replace hI := hI.make2 (t := 23)
      refine hK.out _ _ (hBase _ hI.bel) (fun hHeld => ?_)
      clear hK K
      (try simp only [Act.put, List.setIfInBounds_toArray, List.set_cons_zero, List.set_cons_succ])
      generalize w'.alloc (.cells #[.int .i64 0, .int .i64 0] 23) = v at *
      generalize w'.heap.size = g2 at *
      refine wpAnyH_listed (listed' := #[true, true, true, true, true, true, true, true, true, true, true, true, true, true, true, true, true, true, false, false, false]) (by kernel_rfl) ?_
      exact HK1_3012 x y z g1 g2 g3 v ⟨hx, hy, hz, hI⟩
    exact AllReadyH.nil
  case hb1_312 =>
    obtain ⟨hx, hy, hz, hI⟩ := hpre
    refine wpAnyH_ready (rs := [15]) (by kernel_rfl) (by simp) ?_
    refine' AllReadyH.cons ?_ (fun K hK => ?_) ?_
    rotate_left
    focus (simp only [List.getElem?_toArray, List.getElem?_cons_succ, List.getElem?_cons_zero]; rfl)
    focus
      go_simp
      replace hI := hI.make1 (t := 23)
      refine hK.out _ _ (hBase _ hI.bel) (fun hHeld => ?_)
      clear hK K
      (try simp only [Act.put, List.setIfInBounds_toArray, List.set_cons_zero, List.set_cons_succ])
      generalize w'.alloc (.cells #[.int .i64 0, .int .i64 0] 23) = v at *
      generalize w'.heap.size = g1 at *
      refine wpAnyH_listed (listed' := #[true, true, true, true, true, true, true, true, true, true, true, true, true, true, true, true, true, true, false, false, false]) (by kernel_rfl) ?_
      exact HK1_3012 x y z g1 g2 g3 v ⟨hx, hy, hz, hI⟩
    exact AllReadyH.nil
  obtain ⟨hx, hy, hz, hI⟩ := hpre
  obtain ⟨hBl, ⟨a0, l0, c0, d0, f0⟩, ⟨a1, l1, c1, d1, f1⟩, ⟨a2, l2, c2, d2, f2⟩, hne12, hne13, hne23⟩ := hI
  have n01 := hne12 g1 g2 rfl rfl
  have n02 := hne13 g1 g3 rfl rfl
  have n12 := hne23 g2 g3 rfl rfl
  clear hne12 hne13 hne23
  refine wpAnyH_ready (rs := [18]) (by kernel_rfl) (by simp) ?_
  refine' AllReadyH.cons ?_ (fun K hK => ?_) AllReadyH.nil
  rotate_left
  focus (simp only [List.getElem?_toArray, List.getElem?_cons_succ, List.getElem?_cons_zero]; rfl)
  go_simp
  replace hBl : Below _ _ ((w'.setCell ⟨g1, 0, none⟩ (.int .i64 (x.lo))).setCell ⟨g1, 1, none⟩ (.int .i64 (x.hi))) := (hBl.setCell (p := ⟨g1, 0, none⟩) a0 _).setCell (p := ⟨g1, 1, none⟩) a0 _
  have r0 : Pr (x.lo) (x.hi) g1 ((w'.setCell ⟨g1, 0, none⟩ (.int .i64 (x.lo))).setCell ⟨g1, 1, none⟩ (.int .i64 (x.hi))) := pr_set c0 d0 l0
  replace c1 := (far2 (o := 0) (o1 := 0) (o2 := 1) (v1 := .int .i64 (x.lo)) (v2 := .int .i64 (x.hi)) n01).trans c1
  replace d1 := (far2 (o := 1) (o1 := 0) (o2 := 1) (v1 := .int .i64 (x.lo)) (v2 := .int .i64 (x.hi)) n01).trans d1
  replace f1 : ∀ o, ((w'.setCell ⟨g1, 0, none⟩ (.int .i64 (x.lo))).setCell ⟨g1, 1, none⟩ (.int .i64 (x.hi))).frozen? ⟨g2, o, none⟩ = false := fun o => by simpa using f1 o
  replace l1 : g2 < ((w'.setCell ⟨g1, 0, none⟩ (.int .i64 (x.lo))).setCell ⟨g1, 1, none⟩ (.int .i64 (x.hi))).heap.size := by simpa using l1
  replace c2 := (far2 (o := 0) (o1 := 0) (o2 := 1) (v1 := .int .i64 (x.lo)) (v2 := .int .i64 (x.hi)) n02).trans c2
  replace d2 := (far2 (o := 1) (o1 := 0) (o2 := 1) (v1 := .int .i64 (x.lo)) (v2 := .int .i64 (x.hi)) n02).trans d2
  replace f2 : ∀ o, ((w'.setCell ⟨g1, 0, none⟩ (.int .i64 (x.lo))).setCell ⟨g1, 1, none⟩ (.int .i64 (x.hi))).frozen? ⟨g3, o, none⟩ = false := fun o => by simpa using f2 o
  replace l2 : g3 < ((w'.setCell ⟨g1, 0, none⟩ (.int .i64 (x.lo))).setCell ⟨g1, 1, none⟩ (.int .i64 (x.hi))).heap.size := by simpa using l2
  refine hK.out _ _ (hBase _ hBl) (fun hHeld => ?_)
  clear hK K c0 d0 f0 l0
  (try simp only [Act.put, List.setIfInBounds_toArray, List.set_cons_zero, List.set_cons_succ])
  generalize ((w'.setCell ⟨g1, 0, none⟩ (.int .i64 (x.lo))).setCell ⟨g1, 1, none⟩ (.int .i64 (x.hi))) = v0 at *
  refine wpAnyH_ready (rs := [19]) (by kernel_rfl) (by simp) ?_
  refine' AllReadyH.cons ?_ (fun K hK => ?_) AllReadyH.nil
  rotate_left
  focus (simp only [List.getElem?_toArray, List.getElem?_cons_succ, List.getElem?_cons_zero]; rfl)
  go_simp
  replace hBl : Below _ _ ((v0.setCell ⟨g2, 0, none⟩ (.int .i64 (y.lo))).setCell ⟨g2, 1, none⟩ (.int .i64 (y.hi))) := (hBl.setCell (p := ⟨g2, 0, none⟩) a1 _).setCell (p := ⟨g2, 1, none⟩) a1 _
  replace r0 := r0.far (x := .int .i64 (y.lo)) (y := .int .i64 (y.hi)) (Ne.symm n01)
  have r1 : Pr (y.lo) (y.hi) g2 ((v0.setCell ⟨g2, 0, none⟩ (.int .i64 (y.lo))).setCell ⟨g2, 1, none⟩ (.int .i64 (y.hi))) := pr_set c1 d1 l1
  replace c2 := (far2 (o := 0) (o1 := 0) (o2 := 1) (v1 := .int .i64 (y.lo)) (v2 := .int .i64 (y.hi)) n12).trans c2
  replace d2 := (far2 (o := 1) (o1 := 0) (o2 := 1) (v1 := .int .i64 (y.lo)) (v2 := .int .i64 (y.hi)) n12).trans d2
  replace f2 : ∀ o, ((v0.setCell ⟨g2, 0, none⟩ (.int .i64 (y.lo))).setCell ⟨g2, 1, none⟩ (.int .i64 (y.hi))).frozen? ⟨g3, o, none⟩ = false := fun o => by simpa using f2 o
  replace l2 : g3 < ((v0.setCell ⟨g2, 0, none⟩ (.int .i64 (y.lo))).setCell ⟨g2, 1, none⟩ (.int .i64 (y.hi))).heap.size := by simpa using l2
  refine hK.out _ _ (hBase _ hBl) (fun hHeld => ?_)
  clear hK K c1 d1 f1 l1
  (try simp only [Act.put, List.setIfInBounds_toArray, List.set_cons_zero, List.set_cons_succ])
  generalize ((v0.setCell ⟨g2, 0, none⟩ (.int .i64 (y.lo))).setCell ⟨g2, 1, none⟩ (.int .i64 (y.hi))) = v1 at *
  refine wpAnyH_ready (rs := [20]) (by kernel_rfl) (by simp) ?_
  refine' AllReadyH.cons ?_ (fun K hK => ?_) AllReadyH.nil
  rotate_left
  focus (simp only [List.getElem?_toArray, List.getElem?_cons_succ, List.getElem?_cons_zero]; rfl)
  go_simp
  replace hBl : Below _ _ ((v1.setCell ⟨g3, 0, none⟩ (.int .i64 (z.lo))).setCell ⟨g3, 1, none⟩ (.int .i64 (z.hi))) := (hBl.setCell (p := ⟨g3, 0, none⟩) a2 _).setCell (p := ⟨g3, 1, none⟩) a2 _
  replace r0 := r0.far (x := .int .i64 (z.lo)) (y := .int .i64 (z.hi)) (Ne.symm n02)
  replace r1 := r1.far (x := .int .i64 (z.lo)) (y := .int .i64 (z.hi)) (Ne.symm n12)
  have r2 : Pr (z.lo) (z.hi) g3 ((v1.setCell ⟨g3, 0, none⟩ (.int .i64 (z.lo))).setCell ⟨g3, 1, none⟩ (.int .i64 (z.hi))) := pr_set c2 d2 l2
  refine hK.out _ _ (hBase _ hBl) (fun hHeld => ?_)
  clear hK K c2 d2 f2 l2
  (try simp only [Act.put, List.setIfInBounds_toArray, List.set_cons_zero, List.set_cons_succ])
  generalize ((v1.setCell ⟨g3, 0, none⟩ (.int .i64 (z.lo))).setCell ⟨g3, 1, none⟩ (.int .i64 (z.hi))) = w'' at *
  refine wpAnyH_done (by kernel_rfl) ?_ _
  refine HK1.out _ _ ?_
  clear HK1 hHeld a0 a1 a2 n01 n02 n12
  have hbT : Bel u0 w'' := hBl
  clear hBl
  have hPg1 := r0
  have hPg2 := r1
  have hPg3 := r2
  clear r0 r1 r2
  have hT3 : Thr w x y z g1 g2 g3 w'' := ⟨(hAD.below hbT).1, hPg1, hPg2, hPg3⟩
  clear hAr hAD hBase hbT hPg1 hPg2 hPg3 hA HX HY HZ HU0
  obtain ⟨j, hj⟩ : ∃ j, Iv.join x y = j := ⟨_, rfl⟩
  obtain ⟨m, hm⟩ : ∃ m, Iv.meet x y = m := ⟨_, rfl⟩
  have HF := Lib.hid (And.intro hj hm)
  have hup := Iv.leq_join hx hy
  have hlo := Iv.meet_leq hx hy
  rw [hj] at hup
  rw [hm] at hlo
  have HL := Lib.hid (show Iv.leq x j = true ∧ Iv.leq y j = true ∧ Iv.leq m x = true ∧ Iv.leq m y = true ∧ Iv.leq Iv.non x = true ∧ Iv.leq x Iv.all = true ∧ Iv.join y x = j ∧ Iv.meet y x = m ∧ Iv.leq x x = true from
    ⟨hup.1, hup.2, hlo.1, hlo.2, Iv.leq_non x, Iv.leq_all hx, by rw [← Iv.join_comm hx hy]; exact hj, by rw [← Iv.meet_comm hx hy]; exact hm, Iv.leq_refl hx⟩)
  have he1 := iv_eql j.lo j.hi j.lo j.hi true (by simp)
  have he2 := iv_eql m.lo m.hi m.lo m.hi true (by simp)
  have hlst := Lib.hid (fun (h1 : Iv.leq x z = true) => Iv.join_least hx hy hz h1)
  have hgst := Lib.hid (fun (h1 : Iv.leq z x = true) => Iv.meet_greatest hx hy hz h1)
  rw [hj] at hlst
  rw [hm] at hgst
  have hanti := Lib.hid (fun (h1 : Iv.leq x y = true) (h2 : Iv.leq y x = true) => Iv.leq_antisymm hx hy h1 h2)
  clear hj hm hup hlo
  go_wp2_with fail
  obtain ⟨u0, hu0⟩ : ∃ u0, (w'').drew = u0 := ⟨_, rfl⟩
  have HU0 := Lib.hid hu0
  have hTD := hT3.drew
  rw [hu0] at hTD
  clear hu0
  have hBase : ∀ u, Bel u0 u → Thr w x y z g1 g2 g3 u := fun u h => hTD.below h
  rename_i K1 hK1
  have HK1 := Lib.hid hK1
  clear hK1
  have hI := fr3_refl u0
  refine wp_region_held_drew (S := (fun w' => Thr w x y z g1 g2 g3 w')) (by kernel_rfl) (by rw [HU0.out]; exact hBase _ hI.bel) (fun hHeld => ?_)
  rw [HU0.out] at hHeld ⊢
  refine' wpAnyH_take (i := 0) (v := _) ?_ ?_ ?_ ?_ ?_ ?_ ?_ ?_
  rotate_left 2
  focus (simp only [List.getElem?_toArray, List.getElem?_cons_succ, List.getElem?_cons_zero]; rfl)
  focus kernel_rfl
  focus kernel_rfl
  focus kernel_rfl
  focus exact (fun _ _ _ h => h)
  refine Or.inl ⟨?_, ?_⟩
  focus (go_simp; done)
  focus (intro w hSw; obtain ⟨_, ⟨⟨x0, x1⟩, _⟩, ⟨⟨y0, y1⟩, _⟩, _⟩ := hSw; (first | (go_simp; done) | (go_simp; with_reducible rfl)))
  focus assumption
  (try simp only [Act.put, List.setIfInBounds_toArray, List.set_cons_zero, List.set_cons_succ])
  refine' wpAnyH_take (i := 1) (v := _) ?_ ?_ ?_ ?_ ?_ ?_ ?_ ?_
  rotate_left 2
  focus (simp only [List.getElem?_toArray, List.getElem?_cons_succ, List.getElem?_cons_zero]; rfl)
  focus kernel_rfl
  focus kernel_rfl
  focus kernel_rfl
  focus exact (fun _ _ _ h => h)
  refine Or.inl ⟨?_, ?_⟩
  focus (go_simp; done)
  focus (intro w hSw; obtain ⟨_, ⟨⟨x0, x1⟩, _⟩, ⟨⟨y0, y1⟩, _⟩, _⟩ := hSw; (first | (go_simp; done) | (go_simp; with_reducible rfl)))
  focus assumption
  (try simp only [Act.put, List.setIfInBounds_toArray, List.set_cons_zero, List.set_cons_succ])
  refine' wpAnyH_take (i := 3) (v := _) ?_ ?_ ?_ ?_ ?_ ?_ ?_ ?_
  rotate_left 2
  focus (simp only [List.getElem?_toArray, List.getElem?_cons_succ, List.getElem?_cons_zero]; rfl)
  focus kernel_rfl
  focus kernel_rfl
  focus kernel_rfl
  focus exact (fun _ _ _ h => h)
  refine Or.inl ⟨?_, ?_⟩
  focus (go_simp; done)
  focus (intro w hSw; obtain ⟨_, ⟨⟨x0, x1⟩, _⟩, ⟨⟨y0, y1⟩, _⟩, _⟩ := hSw; (first | (go_simp; done) | (go_simp; with_reducible rfl)))
  focus assumption
  (try simp only [Act.put, List.setIfInBounds_toArray, List.set_cons_zero, List.set_cons_succ])
  refine' wpAnyH_take (i := 4) (v := _) ?_ ?_ ?_ ?_ ?_ ?_ ?_ ?_
  rotate_left 2
  focus (simp only [List.getElem?_toArray, List.getElem?_cons_succ, List.getElem?_cons_zero]; rfl)
  focus kernel_rfl
  focus kernel_rfl
  focus kernel_rfl
  focus exact (fun _ _ _ h => h)
  refine Or.inl ⟨?_, ?_⟩
  focus (go_simp; done)
  focus (intro w hSw; obtain ⟨_, ⟨⟨x0, x1⟩, _⟩, ⟨⟨y0, y1⟩, _⟩, _⟩ := hSw; (first | (go_simp; done) | (go_simp; with_reducible rfl)))
  focus assumption
  (try simp only [Act.put, List.setIfInBounds_toArray, List.set_cons_zero, List.set_cons_succ])
  refine' mh2 (Pre := fun (g4 : Nat) (g5 : Nat) (w' : World) => Fr3 u0 (some g4) (some g5) none w') _ #[true, true, true, true, true, true, true, true, false, false] _ (fun HK2_201 => ?ha2_201) (fun g4 g5 w' hpre => ?hb2_201)
  case' ha2_201 => skip
  refine' mh1 (Pre := fun (g5 : Nat) (w' : World) => Fr3 u0 none (some g5) none w') _ #[true, true, true, true, true, true, false, true, false, false] _ (fun HK2_21 => ?ha2_21) (fun g5 w' hpre => ?hb2_21)
  case' ha2_21 => skip
  refine' mh1 (Pre := fun (g4 : Nat) (w' : World) => Fr3 u0 (some g4) none none w') _ #[true, true, true, true, true, true, true, false, false, false] _ (fun HK2_20 => ?ha2_20) (fun g4 w' hpre => ?hb2_20)
  case' ha2_20 => skip
  refine' mh2 (Pre := fun (g4 : Nat) (g5 : Nat) (w' : World) => Fr3 u0 (some g4) (some g5) none w') _ #[true, true, true, true, true, false, true, true, false, false] _ (fun HK2_101 => ?ha2_101) (fun g4 g5 w' hpre => ?hb2_101)
  case' ha2_101 => skip
  refine' mh0 (Pre := fun (w' : World) => Fr3 u0 none none none w') _ #[true, true, true, true, true, true, false, false, false, false] _ (fun HK2_2 => ?ha2_2) (fun w' hpre => ?hb2_2)
  case' ha2_2 => skip
  refine' mh1 (Pre := fun (g5 : Nat) (w' : World) => Fr3 u0 none (some g5) none w') _ #[true, true, true, true, true, false, false, true, false, false] _ (fun HK2_11 => ?ha2_11) (fun g5 w' hpre => ?hb2_11)
  case' ha2_11 => skip
  refine' mh1 (Pre := fun (g4 : Nat) (w' : World) => Fr3 u0 (some g4) none none w') _ #[true, true, true, true, true, false, true, false, false, false] _ (fun HK2_10 => ?ha2_10) (fun g4 w' hpre => ?hb2_10)
  case' ha2_10 => skip
  refine' mh2 (Pre := fun (g4 : Nat) (g5 : Nat) (w' : World) => Fr3 u0 (some g4) (some g5) none w') _ #[true, true, false, true, true, false, true, true, false, false] _ (fun HK2_001 => ?ha2_001) (fun g4 g5 w' hpre => ?hb2_001)
  case' ha2_001 => skip
  refine' mh0 (Pre := fun (w' : World) => Fr3 u0 none none none w') _ #[true, true, true, true, true, false, false, false, false, false] _ (fun HK2_1 => ?ha2_1) (fun w' hpre => ?hb2_1)
  case' ha2_1 => skip
  refine' mh1 (Pre := fun (g5 : Nat) (w' : World) => Fr3 u0 none (some g5) none w') _ #[true, true, false, true, true, false, false, true, false, false] _ (fun HK2_01 => ?ha2_01) (fun g5 w' hpre => ?hb2_01)
  case' ha2_01 => skip
  refine' mh1 (Pre := fun (g4 : Nat) (w' : World) => Fr3 u0 (some g4) none none w') _ #[true, true, false, true, true, false, true, false, false, false] _ (fun HK2_00 => ?ha2_00) (fun g4 w' hpre => ?hb2_00)
  case ha2_00 =>
    refine wpAnyH_ready (rs := [2, 6, 7]) (by kernel_rfl) (by simp) ?_
    refine' AllReadyH.cons ?_ (fun K hK => ?_) ?_
    rotate_left
    focus (simp only [List.getElem?_toArray, List.getElem?_cons_succ, List.getElem?_cons_zero]; rfl)
    focus
      go_simp
      (go_at_call 24; refine (iJoin_any x.lo x.hi y.lo y.hi j HF.out.1 _).mono ?_; rintro e v ⟨rfl, hb⟩)
      replace hI := hI.below hb
      refine hK.out _ _ (hBase _ hI.bel) (fun hHeld => ?_)
      clear hK K hb
      (try simp only [Act.put, List.setIfInBounds_toArray, List.set_cons_zero, List.set_cons_succ])
      refine wpAnyH_listed (listed' := #[true, true, true, true, true, false, false, false, false, false]) (by kernel_rfl) ?_
      exact HK2_1  v hI
    refine' AllReadyH.cons ?_ (fun K hK => ?_) ?_
    rotate_left
    focus (simp only [List.getElem?_toArray, List.getElem?_cons_succ, List.getElem?_cons_zero]; rfl)
    focus
      go_simp
      replace hI := hI.make1 (t := 23)
      refine hK.out _ _ (hBase _ hI.bel) (fun hHeld => ?_)
      clear hK K
      (try simp only [Act.put, List.setIfInBounds_toArray, List.set_cons_zero, List.set_cons_succ])
      generalize u0.alloc (.cells #[.int .i64 0, .int .i64 0] 23) = v at *
      generalize u0.heap.size = g4 at *
      refine wpAnyH_listed (listed' := #[true, true, false, true, true, false, true, false, false, false]) (by kernel_rfl) ?_
      exact HK2_00 g4 v hI
    refine' AllReadyH.cons ?_ (fun K hK => ?_) ?_
    rotate_left
    focus (simp only [List.getElem?_toArray, List.getElem?_cons_succ, List.getElem?_cons_zero]; rfl)
    focus
      go_simp
      replace hI := hI.make2 (t := 23)
      refine hK.out _ _ (hBase _ hI.bel) (fun hHeld => ?_)
      clear hK K
      (try simp only [Act.put, List.setIfInBounds_toArray, List.set_cons_zero, List.set_cons_succ])
      generalize u0.alloc (.cells #[.int .i64 0, .int .i64 0] 23) = v at *
      generalize u0.heap.size = g5 at *
      refine wpAnyH_listed (listed' := #[true, true, false, true, true, false, false, true, false, false]) (by kernel_rfl) ?_
      exact HK2_01 g5 v hI
    exact AllReadyH.nil
  case hb2_00 =>
    have hI := hpre
    refine wpAnyH_ready (rs := [2, 7]) (by kernel_rfl) (by simp) ?_
    refine' AllReadyH.cons ?_ (fun K hK => ?_) ?_
    rotate_left
    focus (simp only [List.getElem?_toArray, List.getElem?_cons_succ, List.getElem?_cons_zero]; rfl)
    focus
      go_simp
      (go_at_call 24; refine (iJoin_any x.lo x.hi y.lo y.hi j HF.out.1 _).mono ?_; rintro e v ⟨rfl, hb⟩)
      replace hI := hI.below hb
      refine hK.out _ _ (hBase _ hI.bel) (fun hHeld => ?_)
      clear hK K hb
      (try simp only [Act.put, List.setIfInBounds_toArray, List.set_cons_zero, List.set_cons_succ])
      refine wpAnyH_listed (listed' := #[true, true, true, true, true, false, true, false, false, false]) (by kernel_rfl) ?_
      exact HK2_10 g4 v hI
    refine' AllReadyH.cons ?_ (fun K hK => ?_) ?_
    rotate_left
    focus (simp only [List.getElem?_toArray, List.getElem?_cons_succ, List.getElem?_cons_zero]; rfl)
    focus
      go_simp
      replace hI := hI.make2 (t := 23)
      refine hK.out _ _ (hBase _ hI.bel) (fun hHeld => ?_)
      clear hK K
      (try simp only [Act.put, List.setIfInBounds_toArray, List.set_cons_zero, List.set_cons_succ])
      generalize w'.alloc (.cells #[.int .i64 0, .int .i64 0] 23) = v at *
      generalize w'.heap.size = g5 at *
      refine wpAnyH_listed (listed' := #[true, true, false, true, true, false, true, true, false, false]) (by kernel_rfl) ?_
      exact HK2_001 g4 g5 v hI
    exact AllReadyH.nil
  case hb2_01 =>
    have hI := hpre
    refine wpAnyH_ready (rs := [2, 6]) (by kernel_rfl) (by simp) ?_
    refine' AllReadyH.cons ?_ (fun K hK => ?_) ?_
    rotate_left
    focus (simp only [List.getElem?_toArray, List.getElem?_cons_succ, List.getElem?_cons_zero]; rfl)
    focus
      go_simp
      (go_at_call 24; refine (iJoin_any x.lo x.hi y.lo y.hi j HF.out.1 _).mono ?_; rintro e v ⟨rfl, hb⟩)
      replace hI := hI.below hb
      refine hK.out _ _ (hBase _ hI.bel) (fun hHeld => ?_)
      clear hK K hb
      (try simp only [Act.put, List.setIfInBounds_toArray, List.set_cons_zero, List.set_cons_succ])
      refine wpAnyH_listed (listed' := #[true, true, true, true, true, false, false, true, false, false]) (by kernel_rfl) ?_
      exact HK2_11 g5 v hI
    refine' AllReadyH.cons ?_ (fun K hK => ?_) ?_
    rotate_left
    focus (simp only [List.getElem?_toArray, List.getElem?_cons_succ, List.getElem?_cons_zero]; rfl)
    focus
      go_simp
      replace hI := hI.make1 (t := 23)
      refine hK.out _ _ (hBase _ hI.bel) (fun hHeld => ?_)
      clear hK K
      (try simp only [Act.put, List.setIfInBounds_toArray, List.set_cons_zero, List.set_cons_succ])
      generalize w'.alloc (.cells #[.int .i64 0, .int .i64 0] 23) = v at *
      generalize w'.heap.size = g4 at *
      refine wpAnyH_listed (listed' := #[true, true, false, true, true, false, true, true, false, false]) (by kernel_rfl) ?_
      exact HK2_001 g4 g5 v hI
    exact AllReadyH.nil
  case hb2_1 =>
    have hI := hpre
    refine wpAnyH_ready (rs := [5, 6, 7]) (by kernel_rfl) (by simp) ?_
    refine' AllReadyH.cons ?_ (fun K hK => ?_) ?_
    rotate_left
    focus (simp only [List.getElem?_toArray, List.getElem?_cons_succ, List.getElem?_cons_zero]; rfl)
    focus
      go_simp
      (go_at_call 25; refine (iMeet_any x.lo x.hi y.lo y.hi m HF.out.2 _).mono ?_; rintro e v ⟨rfl, hb⟩)
      replace hI := hI.below hb
      refine hK.out _ _ (hBase _ hI.bel) (fun hHeld => ?_)
      clear hK K hb
      (try simp only [Act.put, List.setIfInBounds_toArray, List.set_cons_zero, List.set_cons_succ])
      refine wpAnyH_listed (listed' := #[true, true, true, true, true, true, false, false, false, false]) (by kernel_rfl) ?_
      exact HK2_2  v hI
    refine' AllReadyH.cons ?_ (fun K hK => ?_) ?_
    rotate_left
    focus (simp only [List.getElem?_toArray, List.getElem?_cons_succ, List.getElem?_cons_zero]; rfl)
    focus
      go_simp
      replace hI := hI.make1 (t := 23)
      refine hK.out _ _ (hBase _ hI.bel) (fun hHeld => ?_)
      clear hK K
      (try simp only [Act.put, List.setIfInBounds_toArray, List.set_cons_zero, List.set_cons_succ])
      generalize w'.alloc (.cells #[.int .i64 0, .int .i64 0] 23) = v at *
      generalize w'.heap.size = g4 at *
      refine wpAnyH_listed (listed' := #[true, true, true, true, true, false, true, false, false, false]) (by kernel_rfl) ?_
      exact HK2_10 g4 v hI
    refine' AllReadyH.cons ?_ (fun K hK => ?_) ?_
    rotate_left
    focus (simp only [List.getElem?_toArray, List.getElem?_cons_succ, List.getElem?_cons_zero]; rfl)
    focus
      go_simp
      replace hI := hI.make2 (t := 23)
      refine hK.out _ _ (hBase _ hI.bel) (fun hHeld => ?_)
      clear hK K
      (try simp only [Act.put, List.setIfInBounds_toArray, List.set_cons_zero, List.set_cons_succ])
      generalize w'.alloc (.cells #[.int .i64 0, .int .i64 0] 23) = v at *
      generalize w'.heap.size = g5 at *
      refine wpAnyH_listed (listed' := #[true, true, true, true, true, false, false, true, false, false]) (by kernel_rfl) ?_
      exact HK2_11 g5 v hI
    exact AllReadyH.nil
  case hb2_001 =>
    have hI := hpre
    refine wpAnyH_ready (rs := [2]) (by kernel_rfl) (by simp) ?_
    refine' AllReadyH.cons ?_ (fun K hK => ?_) ?_
    rotate_left
    focus (simp only [List.getElem?_toArray, List.getElem?_cons_succ, List.getElem?_cons_zero]; rfl)
    focus
      go_simp
      (go_at_call 24; refine (iJoin_any x.lo x.hi y.lo y.hi j HF.out.1 _).mono ?_; rintro e v ⟨rfl, hb⟩)
      replace hI := hI.below hb
      refine hK.out _ _ (hBase _ hI.bel) (fun hHeld => ?_)
      clear hK K hb
      (try simp only [Act.put, List.setIfInBounds_toArray, List.set_cons_zero, List.set_cons_succ])
      refine wpAnyH_listed (listed' := #[true, true, true, true, true, false, true, true, false, false]) (by kernel_rfl) ?_
      exact HK2_101 g4 g5 v hI
    exact AllReadyH.nil
  case hb2_10 =>
    have hI := hpre
    refine wpAnyH_ready (rs := [5, 7]) (by kernel_rfl) (by simp) ?_
    refine' AllReadyH.cons ?_ (fun K hK => ?_) ?_
    rotate_left
    focus (simp only [List.getElem?_toArray, List.getElem?_cons_succ, List.getElem?_cons_zero]; rfl)
    focus
      go_simp
      (go_at_call 25; refine (iMeet_any x.lo x.hi y.lo y.hi m HF.out.2 _).mono ?_; rintro e v ⟨rfl, hb⟩)
      replace hI := hI.below hb
      refine hK.out _ _ (hBase _ hI.bel) (fun hHeld => ?_)
      clear hK K hb
      (try simp only [Act.put, List.setIfInBounds_toArray, List.set_cons_zero, List.set_cons_succ])
      refine wpAnyH_listed (listed' := #[true, true, true, true, true, true, true, false, false, false]) (by kernel_rfl) ?_
      exact HK2_20 g4 v hI
    refine' AllReadyH.cons ?_ (fun K hK => ?_) ?_
    rotate_left
    focus (simp only [List.getElem?_toArray, List.getElem?_cons_succ, List.getElem?_cons_zero]; rfl)
    focus
      go_simp
      replace hI := hI.make2 (t := 23)
      refine hK.out _ _ (hBase _ hI.bel) (fun hHeld => ?_)
      clear hK K
      (try simp only [Act.put, List.setIfInBounds_toArray, List.set_cons_zero, List.set_cons_succ])
      generalize w'.alloc (.cells #[.int .i64 0, .int .i64 0] 23) = v at *
      generalize w'.heap.size = g5 at *
      refine wpAnyH_listed (listed' := #[true, true, true, true, true, false, true, true, false, false]) (by kernel_rfl) ?_
      exact HK2_101 g4 g5 v hI
    exact AllReadyH.nil
  case hb2_11 =>
    have hI := hpre
    refine wpAnyH_ready (rs := [5, 6]) (by kernel_rfl) (by simp) ?_
    refine' AllReadyH.cons ?_ (fun K hK => ?_) ?_
    rotate_left
    focus (simp only [List.getElem?_toArray, List.getElem?_cons_succ, List.getElem?_cons_zero]; rfl)
    focus
      go_simp
      (go_at_call 25; refine (iMeet_any x.lo x.hi y.lo y.hi m HF.out.2 _).mono ?_; rintro e v ⟨rfl, hb⟩)
      replace hI := hI.below hb
      refine hK.out _ _ (hBase _ hI.bel) (fun hHeld => ?_)
      clear hK K hb
      (try simp only [Act.put, List.setIfInBounds_toArray, List.set_cons_zero, List.set_cons_succ])
      refine wpAnyH_listed (listed' := #[true, true, true, true, true, true, false, true, false, false]) (by kernel_rfl) ?_
      exact HK2_21 g5 v hI
    refine' AllReadyH.cons ?_ (fun K hK => ?_) ?_
    rotate_left
    focus (simp only [List.getElem?_toArray, List.getElem?_cons_succ, List.getElem?_cons_zero]; rfl)
    focus
      go_simp
      replace hI := hI.make1 (t := 23)
      refine hK.out _ _ (hBase _ hI.bel) (fun hHeld => ?_)
      clear hK K
      (try simp only [Act.put, List.setIfInBounds_toArray, List.set_cons_zero, List.set_cons_succ])
      generalize w'.alloc (.cells #[.int .i64 0, .int .i64 0] 23) = v at *
      generalize w'.heap.size = g4 at *
      refine wpAnyH_listed (listed' := #[true, true, true, true, true, false, true, true, false, false]) (by kernel_rfl) ?_
      exact HK2_101 g4 g5 v hI
    exact AllReadyH.nil
  case hb2_2 =>
    have hI := hpre
    refine wpAnyH_ready (rs := [6, 7]) (by kernel_rfl) (by simp) ?_
    refine' AllReadyH.cons ?_ (fun K hK => ?_) ?_
    rotate_left
    focus (simp only [List.getElem?_toArray, List.getElem?_cons_succ, List.getElem?_cons_zero]; rfl)
    focus
      go_simp
      replace hI := hI.make1 (t := 23)
      refine hK.out _ _ (hBase _ hI.bel) (fun hHeld => ?_)
      clear hK K
      (try simp only [Act.put, List.setIfInBounds_toArray, List.set_cons_zero, List.set_cons_succ])
      generalize w'.alloc (.cells #[.int .i64 0, .int .i64 0] 23) = v at *
      generalize w'.heap.size = g4 at *
      refine wpAnyH_listed (listed' := #[true, true, true, true, true, true, true, false, false, false]) (by kernel_rfl) ?_
      exact HK2_20 g4 v hI
    refine' AllReadyH.cons ?_ (fun K hK => ?_) ?_
    rotate_left
    focus (simp only [List.getElem?_toArray, List.getElem?_cons_succ, List.getElem?_cons_zero]; rfl)
    focus
      go_simp
      replace hI := hI.make2 (t := 23)
      refine hK.out _ _ (hBase _ hI.bel) (fun hHeld => ?_)
      clear hK K
      (try simp only [Act.put, List.setIfInBounds_toArray, List.set_cons_zero, List.set_cons_succ])
      generalize w'.alloc (.cells #[.int .i64 0, .int .i64 0] 23) = v at *
      generalize w'.heap.size = g5 at *
      refine wpAnyH_listed (listed' := #[true, true, true, true, true, true, false, true, false, false]) (by kernel_rfl) ?_
      exact HK2_21 g5 v hI
    exact AllReadyH.nil
  case hb2_101 =>
    have hI := hpre
    refine wpAnyH_ready (rs := [5]) (by kernel_rfl) (by simp) ?_
    refine' AllReadyH.cons ?_ (fun K hK => ?_) ?_
    rotate_left
    focus (simp only [List.getElem?_toArray, List.getElem?_cons_succ, List.getElem?_cons_zero]; rfl)
    focus
      go_simp
      (go_at_call 25; refine (iMeet_any x.lo x.hi y.lo y.hi m HF.out.2 _).mono ?_; rintro e v ⟨rfl, hb⟩)
      replace hI := hI.below hb
      refine hK.out _ _ (hBase _ hI.bel) (fun hHeld => ?_)
      clear hK K hb
      (try simp only [Act.put, List.setIfInBounds_toArray, List.set_cons_zero, List.set_cons_succ])
      refine wpAnyH_listed (listed' := #[true, true, true, true, true, true, true, true, false, false]) (by kernel_rfl) ?_
      exact HK2_201 g4 g5 v hI
    exact AllReadyH.nil
  case hb2_20 =>
    have hI := hpre
    refine wpAnyH_ready (rs := [7]) (by kernel_rfl) (by simp) ?_
    refine' AllReadyH.cons ?_ (fun K hK => ?_) ?_
    rotate_left
    focus (simp only [List.getElem?_toArray, List.getElem?_cons_succ, List.getElem?_cons_zero]; rfl)
    focus
      go_simp
      replace hI := hI.make2 (t := 23)
      refine hK.out _ _ (hBase _ hI.bel) (fun hHeld => ?_)
      clear hK K
      (try simp only [Act.put, List.setIfInBounds_toArray, List.set_cons_zero, List.set_cons_succ])
      generalize w'.alloc (.cells #[.int .i64 0, .int .i64 0] 23) = v at *
      generalize w'.heap.size = g5 at *
      refine wpAnyH_listed (listed' := #[true, true, true, true, true, true, true, true, false, false]) (by kernel_rfl) ?_
      exact HK2_201 g4 g5 v hI
    exact AllReadyH.nil
  case hb2_21 =>
    have hI := hpre
    refine wpAnyH_ready (rs := [6]) (by kernel_rfl) (by simp) ?_
    refine' AllReadyH.cons ?_ (fun K hK => ?_) ?_
    rotate_left
    focus (simp only [List.getElem?_toArray, List.getElem?_cons_succ, List.getElem?_cons_zero]; rfl)
    focus
      go_simp
      replace hI := hI.make1 (t := 23)
      refine hK.out _ _ (hBase _ hI.bel) (fun hHeld => ?_)
      clear hK K
      (try simp only [Act.put, List.setIfInBounds_toArray, List.set_cons_zero, List.set_cons_succ])
      generalize w'.alloc (.cells #[.int .i64 0, .int .i64 0] 23) = v at *
      generalize w'.heap.size = g4 at *
      refine wpAnyH_listed (listed' := #[true, true, true, true, true, true, true, true, false, false]) (by kernel_rfl) ?_
      exact HK2_201 g4 g5 v hI
    exact AllReadyH.nil
  have hI := hpre
  obtain ⟨hBl, ⟨a0, l0, c0, d0, f0⟩, ⟨a1, l1, c1, d1, f1⟩, _, hne12, hne13, hne23⟩ := hI
  have n01 := hne12 g4 g5 rfl rfl
  clear hne12 hne13 hne23
  refine wpAnyH_ready (rs := [8]) (by kernel_rfl) (by simp) ?_
  refine' AllReadyH.cons ?_ (fun K hK => ?_) AllReadyH.nil
  rotate_left
  focus (simp only [List.getElem?_toArray, List.getElem?_cons_succ, List.getElem?_cons_zero]; rfl)
  go_simp
  replace hBl : Below _ _ ((w'.setCell ⟨g4, 0, none⟩ (.int .i64 (j.lo))).setCell ⟨g4, 1, none⟩ (.int .i64 (j.hi))) := (hBl.setCell (p := ⟨g4, 0, none⟩) a0 _).setCell (p := ⟨g4, 1, none⟩) a0 _
  have r0 : Pr (j.lo) (j.hi) g4 ((w'.setCell ⟨g4, 0, none⟩ (.int .i64 (j.lo))).setCell ⟨g4, 1, none⟩ (.int .i64 (j.hi))) := pr_set c0 d0 l0
  replace c1 := (far2 (o := 0) (o1 := 0) (o2 := 1) (v1 := .int .i64 (j.lo)) (v2 := .int .i64 (j.hi)) n01).trans c1
  replace d1 := (far2 (o := 1) (o1 := 0) (o2 := 1) (v1 := .int .i64 (j.lo)) (v2 := .int .i64 (j.hi)) n01).trans d1
  replace f1 : ∀ o, ((w'.setCell ⟨g4, 0, none⟩ (.int .i64 (j.lo))).setCell ⟨g4, 1, none⟩ (.int .i64 (j.hi))).frozen? ⟨g5, o, none⟩ = false := fun o => by simpa using f1 o
  replace l1 : g5 < ((w'.setCell ⟨g4, 0, none⟩ (.int .i64 (j.lo))).setCell ⟨g4, 1, none⟩ (.int .i64 (j.hi))).heap.size := by simpa using l1
  refine hK.out _ _ (hBase _ hBl) (fun hHeld => ?_)
  clear hK K c0 d0 f0 l0
  (try simp only [Act.put, List.setIfInBounds_toArray, List.set_cons_zero, List.set_cons_succ])
  generalize ((w'.setCell ⟨g4, 0, none⟩ (.int .i64 (j.lo))).setCell ⟨g4, 1, none⟩ (.int .i64 (j.hi))) = v0 at *
  refine wpAnyH_ready (rs := [9]) (by kernel_rfl) (by simp) ?_
  refine' AllReadyH.cons ?_ (fun K hK => ?_) AllReadyH.nil
  rotate_left
  focus (simp only [List.getElem?_toArray, List.getElem?_cons_succ, List.getElem?_cons_zero]; rfl)
  go_simp
  replace hBl : Below _ _ ((v0.setCell ⟨g5, 0, none⟩ (.int .i64 (m.lo))).setCell ⟨g5, 1, none⟩ (.int .i64 (m.hi))) := (hBl.setCell (p := ⟨g5, 0, none⟩) a1 _).setCell (p := ⟨g5, 1, none⟩) a1 _
  replace r0 := r0.far (x := .int .i64 (m.lo)) (y := .int .i64 (m.hi)) (Ne.symm n01)
  have r1 : Pr (m.lo) (m.hi) g5 ((v0.setCell ⟨g5, 0, none⟩ (.int .i64 (m.lo))).setCell ⟨g5, 1, none⟩ (.int .i64 (m.hi))) := pr_set c1 d1 l1
  refine hK.out _ _ (hBase _ hBl) (fun hHeld => ?_)
  clear hK K c1 d1 f1 l1
  (try simp only [Act.put, List.setIfInBounds_toArray, List.set_cons_zero, List.set_cons_succ])
  generalize ((v0.setCell ⟨g5, 0, none⟩ (.int .i64 (m.lo))).setCell ⟨g5, 1, none⟩ (.int .i64 (m.hi))) = w'' at *
  refine wpAnyH_done (by kernel_rfl) ?_ _
  refine HK1.out _ _ ?_
  clear HK1 hHeld a0 a1 n01
  have hbT : Bel u0 w'' := hBl
  clear hBl
  have hPg4 := r0
  have hPg5 := r1
  clear r0 r1
  have hT3' := hBase _ hbT
  have hT : Fiv w x y z j m g1 g2 g3 g4 g5 w'' := ⟨hT3'.1, hT3'.2.1, hT3'.2.2.1, hT3'.2.2.2, hPg4, hPg5⟩
  clear hT3 hT3' hTD hBase hbT hPg4 hPg5 HU0 hx hy hz
  obtain ⟨hv, ⟨⟨x0, x1⟩, xg⟩, ⟨⟨y0, y1⟩, yg⟩, ⟨⟨z0, z1⟩, zg⟩, ⟨⟨j0, j1⟩, jg⟩, ⟨⟨m0, m1⟩, mg⟩⟩ := id hT
  go_wp2_with fail
  refine wp_region_held_drew (S := (fun w' => Fiv w x y z j m g1 g2 g3 g4 g5 w')) (by kernel_rfl) (hT.drew) (fun hHeld => ?_)
  refine' wpAnyH_take (i := 0) (v := _) ?_ ?_ ?_ ?_ ?_ ?_ ?_ ?_
  rotate_left 2
  focus (simp only [List.getElem?_toArray, List.getElem?_cons_succ, List.getElem?_cons_zero]; rfl)
  focus kernel_rfl
  focus kernel_rfl
  focus kernel_rfl
  focus exact (fun _ _ _ h => h)
  refine Or.inl ⟨?_, ?_⟩
  focus (go_simp; done)
  focus (intro w hSw; obtain ⟨_, ⟨⟨x0, x1⟩, _⟩, ⟨⟨y0, y1⟩, _⟩, ⟨⟨z0, z1⟩, _⟩, ⟨⟨j0, j1⟩, _⟩, ⟨⟨m0, m1⟩, _⟩⟩ := hSw; (first | (go_simp; done) | (go_simp; with_reducible rfl)))
  focus assumption
  (try simp only [Act.put, List.setIfInBounds_toArray, List.set_cons_zero, List.set_cons_succ])
  refine' wpAnyH_take (i := 1) (v := _) ?_ ?_ ?_ ?_ ?_ ?_ ?_ ?_
  rotate_left 2
  focus (simp only [List.getElem?_toArray, List.getElem?_cons_succ, List.getElem?_cons_zero]; rfl)
  focus kernel_rfl
  focus kernel_rfl
  focus kernel_rfl
  focus exact (fun _ _ _ h => h)
  refine Or.inl ⟨?_, ?_⟩
  focus (go_simp; done)
  focus (intro w hSw; obtain ⟨_, ⟨⟨x0, x1⟩, _⟩, ⟨⟨y0, y1⟩, _⟩, ⟨⟨z0, z1⟩, _⟩, ⟨⟨j0, j1⟩, _⟩, ⟨⟨m0, m1⟩, _⟩⟩ := hSw; (first | (go_simp; done) | (go_simp; with_reducible rfl)))
  focus assumption
  (try simp only [Act.put, List.setIfInBounds_toArray, List.set_cons_zero, List.set_cons_succ])
  refine wpAnyH_ready (rs := [2]) (by kernel_rfl) (by simp) ?_
  refine' AllReadyH.cons ?_ (fun K hK => ?_) AllReadyH.nil
  rotate_left
  focus (simp only [List.getElem?_toArray, List.getElem?_cons_succ, List.getElem?_cons_zero]; rfl)
  go_simp
  (go_at_call 22; refine (iLeq_any x.lo x.hi j.lo j.hi true (HL.out.1) _).mono ?_; rintro e w4 ⟨rfl, hb⟩)
  refine hK.out _ _ (hHeld.below hb) (fun hHeld => ?_)
  clear hK K
  (try simp only [Act.put, List.setIfInBounds_toArray, List.set_cons_zero, List.set_cons_succ])
  clear hb
  refine' wpAnyH_take (i := 3) (v := _) ?_ ?_ ?_ ?_ ?_ ?_ ?_ ?_
  rotate_left 2
  focus (simp only [List.getElem?_toArray, List.getElem?_cons_succ, List.getElem?_cons_zero]; rfl)
  focus kernel_rfl
  focus kernel_rfl
  focus kernel_rfl
  focus exact (fun _ _ _ h => h)
  refine Or.inl ⟨?_, ?_⟩
  focus (go_simp; done)
  focus (intro w hSw; obtain ⟨_, ⟨⟨x0, x1⟩, _⟩, ⟨⟨y0, y1⟩, _⟩, ⟨⟨z0, z1⟩, _⟩, ⟨⟨j0, j1⟩, _⟩, ⟨⟨m0, m1⟩, _⟩⟩ := hSw; (first | (go_simp; done) | (go_simp; with_reducible rfl)))
  focus assumption
  (try simp only [Act.put, List.setIfInBounds_toArray, List.set_cons_zero, List.set_cons_succ])
  refine' wpAnyH_take (i := 4) (v := _) ?_ ?_ ?_ ?_ ?_ ?_ ?_ ?_
  rotate_left 2
  focus (simp only [List.getElem?_toArray, List.getElem?_cons_succ, List.getElem?_cons_zero]; rfl)
  focus kernel_rfl
  focus kernel_rfl
  focus kernel_rfl
  focus exact (fun _ _ _ h => h)
  refine Or.inl ⟨?_, ?_⟩
  focus (go_simp; done)
  focus (intro w hSw; obtain ⟨_, ⟨⟨x0, x1⟩, _⟩, ⟨⟨y0, y1⟩, _⟩, ⟨⟨z0, z1⟩, _⟩, ⟨⟨j0, j1⟩, _⟩, ⟨⟨m0, m1⟩, _⟩⟩ := hSw; (first | (go_simp; done) | (go_simp; with_reducible rfl)))
  focus assumption
  (try simp only [Act.put, List.setIfInBounds_toArray, List.set_cons_zero, List.set_cons_succ])
  refine' wpAnyH_take (i := 5) (v := _) ?_ ?_ ?_ ?_ ?_ ?_ ?_ ?_
  rotate_left 2
  focus (simp only [List.getElem?_toArray, List.getElem?_cons_succ, List.getElem?_cons_zero]; rfl)
  focus kernel_rfl
  focus kernel_rfl
  focus kernel_rfl
  focus exact (fun _ _ _ h => h)
  refine Or.inl ⟨?_, ?_⟩
  focus (go_simp; done)
  focus (intro w hSw; obtain ⟨_, ⟨⟨x0, x1⟩, _⟩, ⟨⟨y0, y1⟩, _⟩, ⟨⟨z0, z1⟩, _⟩, ⟨⟨j0, j1⟩, _⟩, ⟨⟨m0, m1⟩, _⟩⟩ := hSw; (first | (go_simp; done) | (go_simp; with_reducible rfl)))
  focus assumption
  (try simp only [Act.put, List.setIfInBounds_toArray, List.set_cons_zero, List.set_cons_succ])
  refine' wpAnyH_take (i := 6) (v := _) ?_ ?_ ?_ ?_ ?_ ?_ ?_ ?_
  rotate_left 2
  focus (simp only [List.getElem?_toArray, List.getElem?_cons_succ, List.getElem?_cons_zero]; rfl)
  focus kernel_rfl
  focus kernel_rfl
  focus kernel_rfl
  focus exact (fun _ _ _ h => h)
  refine Or.inl ⟨?_, ?_⟩
  focus (go_simp; done)
  focus (intro w hSw; obtain ⟨_, ⟨⟨x0, x1⟩, _⟩, ⟨⟨y0, y1⟩, _⟩, ⟨⟨z0, z1⟩, _⟩, ⟨⟨j0, j1⟩, _⟩, ⟨⟨m0, m1⟩, _⟩⟩ := hSw; (first | (go_simp; done) | (go_simp; with_reducible rfl)))
  focus assumption
  (try simp only [Act.put, List.setIfInBounds_toArray, List.set_cons_zero, List.set_cons_succ])
  refine wpAnyH_ready (rs := [7]) (by kernel_rfl) (by simp) ?_
  refine' AllReadyH.cons ?_ (fun K hK => ?_) AllReadyH.nil
  rotate_left
  focus (simp only [List.getElem?_toArray, List.getElem?_cons_succ, List.getElem?_cons_zero]; rfl)
  go_simp
  (go_at_call 22; refine (iLeq_any y.lo y.hi j.lo j.hi true (HL.out.2.1) _).mono ?_; rintro e w4 ⟨rfl, hb⟩)
  refine hK.out _ _ (hHeld.below hb) (fun hHeld => ?_)
  clear hK K
  (try simp only [Act.put, List.setIfInBounds_toArray, List.set_cons_zero, List.set_cons_succ])
  clear hb
  refine' wpAnyH_take (i := 8) (v := _) ?_ ?_ ?_ ?_ ?_ ?_ ?_ ?_
  rotate_left 2
  focus (simp only [List.getElem?_toArray, List.getElem?_cons_succ, List.getElem?_cons_zero]; rfl)
  focus kernel_rfl
  focus kernel_rfl
  focus kernel_rfl
  focus exact (fun _ _ _ h => h)
  refine Or.inl ⟨?_, ?_⟩
  focus (go_simp; done)
  focus (intro w hSw; obtain ⟨_, ⟨⟨x0, x1⟩, _⟩, ⟨⟨y0, y1⟩, _⟩, ⟨⟨z0, z1⟩, _⟩, ⟨⟨j0, j1⟩, _⟩, ⟨⟨m0, m1⟩, _⟩⟩ := hSw; (first | (go_simp; done) | (go_simp; with_reducible rfl)))
  focus assumption
  (try simp only [Act.put, List.setIfInBounds_toArray, List.set_cons_zero, List.set_cons_succ])
  refine' wpAnyH_take (i := 9) (v := _) ?_ ?_ ?_ ?_ ?_ ?_ ?_ ?_
  rotate_left 2
  focus (simp only [List.getElem?_toArray, List.getElem?_cons_succ, List.getElem?_cons_zero]; rfl)
  focus kernel_rfl
  focus kernel_rfl
  focus kernel_rfl
  focus exact (fun _ _ _ h => h)
  refine Or.inl ⟨?_, ?_⟩
  focus (go_simp; done)
  focus (intro w hSw; obtain ⟨_, ⟨⟨x0, x1⟩, _⟩, ⟨⟨y0, y1⟩, _⟩, ⟨⟨z0, z1⟩, _⟩, ⟨⟨j0, j1⟩, _⟩, ⟨⟨m0, m1⟩, _⟩⟩ := hSw; (first | (go_simp; done) | (go_simp; with_reducible rfl)))
  focus assumption
  (try simp only [Act.put, List.setIfInBounds_toArray, List.set_cons_zero, List.set_cons_succ])
  refine' wpAnyH_take (i := 10) (v := _) ?_ ?_ ?_ ?_ ?_ ?_ ?_ ?_
  rotate_left 2
  focus (simp only [List.getElem?_toArray, List.getElem?_cons_succ, List.getElem?_cons_zero]; rfl)
  focus kernel_rfl
  focus kernel_rfl
  focus kernel_rfl
  focus exact (fun _ _ _ h => h)
  refine Or.inl ⟨?_, ?_⟩
  focus (go_simp; done)
  focus (intro w hSw; obtain ⟨_, ⟨⟨x0, x1⟩, _⟩, ⟨⟨y0, y1⟩, _⟩, ⟨⟨z0, z1⟩, _⟩, ⟨⟨j0, j1⟩, _⟩, ⟨⟨m0, m1⟩, _⟩⟩ := hSw; (first | (go_simp; done) | (go_simp; with_reducible rfl)))
  focus assumption
  (try simp only [Act.put, List.setIfInBounds_toArray, List.set_cons_zero, List.set_cons_succ])
  refine' wpAnyH_take (i := 11) (v := _) ?_ ?_ ?_ ?_ ?_ ?_ ?_ ?_
  rotate_left 2
  focus (simp only [List.getElem?_toArray, List.getElem?_cons_succ, List.getElem?_cons_zero]; rfl)
  focus kernel_rfl
  focus kernel_rfl
  focus kernel_rfl
  focus exact (fun _ _ _ h => h)
  refine Or.inl ⟨?_, ?_⟩
  focus (go_simp; done)
  focus (intro w hSw; obtain ⟨_, ⟨⟨x0, x1⟩, _⟩, ⟨⟨y0, y1⟩, _⟩, ⟨⟨z0, z1⟩, _⟩, ⟨⟨j0, j1⟩, _⟩, ⟨⟨m0, m1⟩, _⟩⟩ := hSw; (first | (go_simp; done) | (go_simp; with_reducible rfl)))
  focus assumption
  (try simp only [Act.put, List.setIfInBounds_toArray, List.set_cons_zero, List.set_cons_succ])
  refine' wpAnyH_take (i := 12) (v := _) ?_ ?_ ?_ ?_ ?_ ?_ ?_ ?_
  rotate_left 2
  focus (simp only [List.getElem?_toArray, List.getElem?_cons_succ, List.getElem?_cons_zero]; rfl)
  focus kernel_rfl
  focus kernel_rfl
  focus kernel_rfl
  focus exact (fun _ _ _ h => h)
  refine Or.inl ⟨?_, ?_⟩
  focus (go_simp; done)
  focus (intro w hSw; obtain ⟨_, ⟨⟨x0, x1⟩, _⟩, ⟨⟨y0, y1⟩, _⟩, ⟨⟨z0, z1⟩, _⟩, ⟨⟨j0, j1⟩, _⟩, ⟨⟨m0, m1⟩, _⟩⟩ := hSw; (first | (go_simp; done) | (go_simp; with_reducible rfl)))
  focus assumption
  (try simp only [Act.put, List.setIfInBounds_toArray, List.set_cons_zero, List.set_cons_succ])
  refine wpAnyH_ready (rs := [13]) (by kernel_rfl) (by simp) ?_
  refine' AllReadyH.cons ?_ (fun K hK => ?_) AllReadyH.nil
  rotate_left
  focus (simp only [List.getElem?_toArray, List.getElem?_cons_succ, List.getElem?_cons_zero]; rfl)
  go_simp
  (go_at_call 22; refine (iLeq_any m.lo m.hi x.lo x.hi true (HL.out.2.2.1) _).mono ?_; rintro e w4 ⟨rfl, hb⟩)
  refine hK.out _ _ (hHeld.below hb) (fun hHeld => ?_)
  clear hK K
  (try simp only [Act.put, List.setIfInBounds_toArray, List.set_cons_zero, List.set_cons_succ])
  clear hb
  refine' wpAnyH_take (i := 14) (v := _) ?_ ?_ ?_ ?_ ?_ ?_ ?_ ?_
  rotate_left 2
  focus (simp only [List.getElem?_toArray, List.getElem?_cons_succ, List.getElem?_cons_zero]; rfl)
  focus kernel_rfl
  focus kernel_rfl
  focus kernel_rfl
  focus exact (fun _ _ _ h => h)
  refine Or.inl ⟨?_, ?_⟩
  focus (go_simp; done)
  focus (intro w hSw; obtain ⟨_, ⟨⟨x0, x1⟩, _⟩, ⟨⟨y0, y1⟩, _⟩, ⟨⟨z0, z1⟩, _⟩, ⟨⟨j0, j1⟩, _⟩, ⟨⟨m0, m1⟩, _⟩⟩ := hSw; (first | (go_simp; done) | (go_simp; with_reducible rfl)))
  focus assumption
  (try simp only [Act.put, List.setIfInBounds_toArray, List.set_cons_zero, List.set_cons_succ])
  refine' wpAnyH_take (i := 15) (v := _) ?_ ?_ ?_ ?_ ?_ ?_ ?_ ?_
  rotate_left 2
  focus (simp only [List.getElem?_toArray, List.getElem?_cons_succ, List.getElem?_cons_zero]; rfl)
  focus kernel_rfl
  focus kernel_rfl
  focus kernel_rfl
  focus exact (fun _ _ _ h => h)
  refine Or.inl ⟨?_, ?_⟩
  focus (go_simp; done)
  focus (intro w hSw; obtain ⟨_, ⟨⟨x0, x1⟩, _⟩, ⟨⟨y0, y1⟩, _⟩, ⟨⟨z0, z1⟩, _⟩, ⟨⟨j0, j1⟩, _⟩, ⟨⟨m0, m1⟩, _⟩⟩ := hSw; (first | (go_simp; done) | (go_simp; with_reducible rfl)))
  focus assumption
  (try simp only [Act.put, List.setIfInBounds_toArray, List.set_cons_zero, List.set_cons_succ])
  refine' wpAnyH_take (i := 16) (v := _) ?_ ?_ ?_ ?_ ?_ ?_ ?_ ?_
  rotate_left 2
  focus (simp only [List.getElem?_toArray, List.getElem?_cons_succ, List.getElem?_cons_zero]; rfl)
  focus kernel_rfl
  focus kernel_rfl
  focus kernel_rfl
  focus exact (fun _ _ _ h => h)
  refine Or.inl ⟨?_, ?_⟩
  focus (go_simp; done)
  focus (intro w hSw; obtain ⟨_, ⟨⟨x0, x1⟩, _⟩, ⟨⟨y0, y1⟩, _⟩, ⟨⟨z0, z1⟩, _⟩, ⟨⟨j0, j1⟩, _⟩, ⟨⟨m0, m1⟩, _⟩⟩ := hSw; (first | (go_simp; done) | (go_simp; with_reducible rfl)))
  focus assumption
  (try simp only [Act.put, List.setIfInBounds_toArray, List.set_cons_zero, List.set_cons_succ])
  refine' wpAnyH_take (i := 17) (v := _) ?_ ?_ ?_ ?_ ?_ ?_ ?_ ?_
  rotate_left 2
  focus (simp only [List.getElem?_toArray, List.getElem?_cons_succ, List.getElem?_cons_zero]; rfl)
  focus kernel_rfl
  focus kernel_rfl
  focus kernel_rfl
  focus exact (fun _ _ _ h => h)
  refine Or.inl ⟨?_, ?_⟩
  focus (go_simp; done)
  focus (intro w hSw; obtain ⟨_, ⟨⟨x0, x1⟩, _⟩, ⟨⟨y0, y1⟩, _⟩, ⟨⟨z0, z1⟩, _⟩, ⟨⟨j0, j1⟩, _⟩, ⟨⟨m0, m1⟩, _⟩⟩ := hSw; (first | (go_simp; done) | (go_simp; with_reducible rfl)))
  focus assumption
  (try simp only [Act.put, List.setIfInBounds_toArray, List.set_cons_zero, List.set_cons_succ])
  refine' wpAnyH_take (i := 18) (v := _) ?_ ?_ ?_ ?_ ?_ ?_ ?_ ?_
  rotate_left 2
  focus (simp only [List.getElem?_toArray, List.getElem?_cons_succ, List.getElem?_cons_zero]; rfl)
  focus kernel_rfl
  focus kernel_rfl
  focus kernel_rfl
  focus exact (fun _ _ _ h => h)
  refine Or.inl ⟨?_, ?_⟩
  focus (go_simp; done)
  focus (intro w hSw; obtain ⟨_, ⟨⟨x0, x1⟩, _⟩, ⟨⟨y0, y1⟩, _⟩, ⟨⟨z0, z1⟩, _⟩, ⟨⟨j0, j1⟩, _⟩, ⟨⟨m0, m1⟩, _⟩⟩ := hSw; (first | (go_simp; done) | (go_simp; with_reducible rfl)))
  focus assumption
  (try simp only [Act.put, List.setIfInBounds_toArray, List.set_cons_zero, List.set_cons_succ])
  refine wpAnyH_ready (rs := [19]) (by kernel_rfl) (by simp) ?_
  refine' AllReadyH.cons ?_ (fun K hK => ?_) AllReadyH.nil
  rotate_left
  focus (simp only [List.getElem?_toArray, List.getElem?_cons_succ, List.getElem?_cons_zero]; rfl)
  go_simp
  (go_at_call 22; refine (iLeq_any m.lo m.hi y.lo y.hi true (HL.out.2.2.2.1) _).mono ?_; rintro e w4 ⟨rfl, hb⟩)
  refine hK.out _ _ (hHeld.below hb) (fun hHeld => ?_)
  clear hK K
  (try simp only [Act.put, List.setIfInBounds_toArray, List.set_cons_zero, List.set_cons_succ])
  clear hb
  refine' wpAnyH_take (i := 20) (v := _) ?_ ?_ ?_ ?_ ?_ ?_ ?_ ?_
  rotate_left 2
  focus (simp only [List.getElem?_toArray, List.getElem?_cons_succ, List.getElem?_cons_zero]; rfl)
  focus kernel_rfl
  focus kernel_rfl
  focus kernel_rfl
  focus exact (fun _ _ _ h => h)
  refine Or.inl ⟨?_, ?_⟩
  focus (go_simp; done)
  focus (intro w hSw; obtain ⟨_, ⟨⟨x0, x1⟩, _⟩, ⟨⟨y0, y1⟩, _⟩, ⟨⟨z0, z1⟩, _⟩, ⟨⟨j0, j1⟩, _⟩, ⟨⟨m0, m1⟩, _⟩⟩ := hSw; (first | (go_simp; done) | (go_simp; with_reducible rfl)))
  focus assumption
  (try simp only [Act.put, List.setIfInBounds_toArray, List.set_cons_zero, List.set_cons_succ])
  refine' wpAnyH_take (i := 21) (v := _) ?_ ?_ ?_ ?_ ?_ ?_ ?_ ?_
  rotate_left 2
  focus (simp only [List.getElem?_toArray, List.getElem?_cons_succ, List.getElem?_cons_zero]; rfl)
  focus kernel_rfl
  focus kernel_rfl
  focus kernel_rfl
  focus exact (fun _ _ _ h => h)
  refine Or.inl ⟨?_, ?_⟩
  focus (go_simp; done)
  focus (intro w hSw; obtain ⟨_, ⟨⟨x0, x1⟩, _⟩, ⟨⟨y0, y1⟩, _⟩, ⟨⟨z0, z1⟩, _⟩, ⟨⟨j0, j1⟩, _⟩, ⟨⟨m0, m1⟩, _⟩⟩ := hSw; (first | (go_simp; done) | (go_simp; with_reducible rfl)))
  focus assumption
  (try simp only [Act.put, List.setIfInBounds_toArray, List.set_cons_zero, List.set_cons_succ])
  refine' wpAnyH_take (i := 22) (v := _) ?_ ?_ ?_ ?_ ?_ ?_ ?_ ?_
  rotate_left 2
  focus (simp only [List.getElem?_toArray, List.getElem?_cons_succ, List.getElem?_cons_zero]; rfl)
  focus kernel_rfl
  focus kernel_rfl
  focus kernel_rfl
  focus exact (fun _ _ _ h => h)
  refine Or.inl ⟨?_, ?_⟩
  focus (go_simp; done)
  focus (intro w hSw; obtain ⟨_, ⟨⟨x0, x1⟩, _⟩, ⟨⟨y0, y1⟩, _⟩, ⟨⟨z0, z1⟩, _⟩, ⟨⟨j0, j1⟩, _⟩, ⟨⟨m0, m1⟩, _⟩⟩ := hSw; (first | (go_simp; done) | (go_simp; with_reducible rfl)))
  focus assumption
  (try simp only [Act.put, List.setIfInBounds_toArray, List.set_cons_zero, List.set_cons_succ])
  refine' wpAnyH_take (i := 24) (v := _) ?_ ?_ ?_ ?_ ?_ ?_ ?_ ?_
  rotate_left 2
  focus (simp only [List.getElem?_toArray, List.getElem?_cons_succ, List.getElem?_cons_zero]; rfl)
  focus kernel_rfl
  focus kernel_rfl
  focus kernel_rfl
  focus exact (fun _ _ _ h => h)
  refine Or.inl ⟨?_, ?_⟩
  focus (go_simp; done)
  focus (intro w hSw; obtain ⟨_, ⟨⟨x0, x1⟩, _⟩, ⟨⟨y0, y1⟩, _⟩, ⟨⟨z0, z1⟩, _⟩, ⟨⟨j0, j1⟩, _⟩, ⟨⟨m0, m1⟩, _⟩⟩ := hSw; (first | (go_simp; done) | (go_simp; with_reducible rfl)))
  focus assumption
  (try simp only [Act.put, List.setIfInBounds_toArray, List.set_cons_zero, List.set_cons_succ])
  refine wpAnyH_ready (rs := [23]) (by kernel_rfl) (by simp) ?_
  refine' AllReadyH.cons ?_ (fun K hK => ?_) AllReadyH.nil
  rotate_left
  focus (simp only [List.getElem?_toArray, List.getElem?_cons_succ, List.getElem?_cons_zero]; rfl)
  go_simp
  (go_at_call 12; refine (iNone_any _).mono ?_; rintro e w4 ⟨rfl, hb⟩)
  refine hK.out _ _ (hHeld.below hb) (fun hHeld => ?_)
  clear hK K
  (try simp only [Act.put, List.setIfInBounds_toArray, List.set_cons_zero, List.set_cons_succ])
  clear hb
  refine wpAnyH_ready (rs := [25]) (by kernel_rfl) (by simp) ?_
  refine' AllReadyH.cons ?_ (fun K hK => ?_) AllReadyH.nil
  rotate_left
  focus (simp only [List.getElem?_toArray, List.getElem?_cons_succ, List.getElem?_cons_zero]; rfl)
  go_simp
  (go_at_call 22; refine (iLeq_any 1 0 x.lo x.hi true HL.out.2.2.2.2.1 _).mono ?_; rintro e w4 ⟨rfl, hb⟩)
  refine hK.out _ _ (hHeld.below hb) (fun hHeld => ?_)
  clear hK K
  (try simp only [Act.put, List.setIfInBounds_toArray, List.set_cons_zero, List.set_cons_succ])
  clear hb
  refine' wpAnyH_take (i := 26) (v := _) ?_ ?_ ?_ ?_ ?_ ?_ ?_ ?_
  rotate_left 2
  focus (simp only [List.getElem?_toArray, List.getElem?_cons_succ, List.getElem?_cons_zero]; rfl)
  focus kernel_rfl
  focus kernel_rfl
  focus kernel_rfl
  focus exact (fun _ _ _ h => h)
  refine Or.inl ⟨?_, ?_⟩
  focus (go_simp; done)
  focus (intro w hSw; obtain ⟨_, ⟨⟨x0, x1⟩, _⟩, ⟨⟨y0, y1⟩, _⟩, ⟨⟨z0, z1⟩, _⟩, ⟨⟨j0, j1⟩, _⟩, ⟨⟨m0, m1⟩, _⟩⟩ := hSw; (first | (go_simp; done) | (go_simp; with_reducible rfl)))
  focus assumption
  (try simp only [Act.put, List.setIfInBounds_toArray, List.set_cons_zero, List.set_cons_succ])
  refine' wpAnyH_take (i := 27) (v := _) ?_ ?_ ?_ ?_ ?_ ?_ ?_ ?_
  rotate_left 2
  focus (simp only [List.getElem?_toArray, List.getElem?_cons_succ, List.getElem?_cons_zero]; rfl)
  focus kernel_rfl
  focus kernel_rfl
  focus kernel_rfl
  focus exact (fun _ _ _ h => h)
  refine Or.inl ⟨?_, ?_⟩
  focus (go_simp; done)
  focus (intro w hSw; obtain ⟨_, ⟨⟨x0, x1⟩, _⟩, ⟨⟨y0, y1⟩, _⟩, ⟨⟨z0, z1⟩, _⟩, ⟨⟨j0, j1⟩, _⟩, ⟨⟨m0, m1⟩, _⟩⟩ := hSw; (first | (go_simp; done) | (go_simp; with_reducible rfl)))
  focus assumption
  (try simp only [Act.put, List.setIfInBounds_toArray, List.set_cons_zero, List.set_cons_succ])
  refine' wpAnyH_take (i := 28) (v := _) ?_ ?_ ?_ ?_ ?_ ?_ ?_ ?_
  rotate_left 2
  focus (simp only [List.getElem?_toArray, List.getElem?_cons_succ, List.getElem?_cons_zero]; rfl)
  focus kernel_rfl
  focus kernel_rfl
  focus kernel_rfl
  focus exact (fun _ _ _ h => h)
  refine Or.inl ⟨?_, ?_⟩
  focus (go_simp; done)
  focus (intro w hSw; obtain ⟨_, ⟨⟨x0, x1⟩, _⟩, ⟨⟨y0, y1⟩, _⟩, ⟨⟨z0, z1⟩, _⟩, ⟨⟨j0, j1⟩, _⟩, ⟨⟨m0, m1⟩, _⟩⟩ := hSw; (first | (go_simp; done) | (go_simp; with_reducible rfl)))
  focus assumption
  (try simp only [Act.put, List.setIfInBounds_toArray, List.set_cons_zero, List.set_cons_succ])
  refine' wpAnyH_take (i := 29) (v := _) ?_ ?_ ?_ ?_ ?_ ?_ ?_ ?_
  rotate_left 2
  focus (simp only [List.getElem?_toArray, List.getElem?_cons_succ, List.getElem?_cons_zero]; rfl)
  focus kernel_rfl
  focus kernel_rfl
  focus kernel_rfl
  focus exact (fun _ _ _ h => h)
  refine Or.inl ⟨?_, ?_⟩
  focus (go_simp; done)
  focus (intro w hSw; obtain ⟨_, ⟨⟨x0, x1⟩, _⟩, ⟨⟨y0, y1⟩, _⟩, ⟨⟨z0, z1⟩, _⟩, ⟨⟨j0, j1⟩, _⟩, ⟨⟨m0, m1⟩, _⟩⟩ := hSw; (first | (go_simp; done) | (go_simp; with_reducible rfl)))
  focus assumption
  (try simp only [Act.put, List.setIfInBounds_toArray, List.set_cons_zero, List.set_cons_succ])
  refine wpAnyH_ready (rs := [30]) (by kernel_rfl) (by simp) ?_
  refine' AllReadyH.cons ?_ (fun K hK => ?_) AllReadyH.nil
  rotate_left
  focus (simp only [List.getElem?_toArray, List.getElem?_cons_succ, List.getElem?_cons_zero]; rfl)
  go_simp
  (go_at_call 10; refine (iAll_any _).mono ?_; rintro e w4 ⟨rfl, hb⟩)
  refine hK.out _ _ (hHeld.below hb) (fun hHeld => ?_)
  clear hK K
  (try simp only [Act.put, List.setIfInBounds_toArray, List.set_cons_zero, List.set_cons_succ])
  clear hb
  refine wpAnyH_ready (rs := [31]) (by kernel_rfl) (by simp) ?_
  refine' AllReadyH.cons ?_ (fun K hK => ?_) AllReadyH.nil
  rotate_left
  focus (simp only [List.getElem?_toArray, List.getElem?_cons_succ, List.getElem?_cons_zero]; rfl)
  go_simp
  (go_at_call 22; refine (iLeq_any x.lo x.hi (-2147483648) 2147483647 true HL.out.2.2.2.2.2.1 _).mono ?_; rintro e w4 ⟨rfl, hb⟩)
  refine hK.out _ _ (hHeld.below hb) (fun hHeld => ?_)
  clear hK K
  (try simp only [Act.put, List.setIfInBounds_toArray, List.set_cons_zero, List.set_cons_succ])
  clear hb
  refine' wpAnyH_take (i := 32) (v := _) ?_ ?_ ?_ ?_ ?_ ?_ ?_ ?_
  rotate_left 2
  focus (simp only [List.getElem?_toArray, List.getElem?_cons_succ, List.getElem?_cons_zero]; rfl)
  focus kernel_rfl
  focus kernel_rfl
  focus kernel_rfl
  focus exact (fun _ _ _ h => h)
  refine Or.inl ⟨?_, ?_⟩
  focus (go_simp; done)
  focus (intro w hSw; obtain ⟨_, ⟨⟨x0, x1⟩, _⟩, ⟨⟨y0, y1⟩, _⟩, ⟨⟨z0, z1⟩, _⟩, ⟨⟨j0, j1⟩, _⟩, ⟨⟨m0, m1⟩, _⟩⟩ := hSw; (first | (go_simp; done) | (go_simp; with_reducible rfl)))
  focus assumption
  (try simp only [Act.put, List.setIfInBounds_toArray, List.set_cons_zero, List.set_cons_succ])
  refine' wpAnyH_take (i := 33) (v := _) ?_ ?_ ?_ ?_ ?_ ?_ ?_ ?_
  rotate_left 2
  focus (simp only [List.getElem?_toArray, List.getElem?_cons_succ, List.getElem?_cons_zero]; rfl)
  focus kernel_rfl
  focus kernel_rfl
  focus kernel_rfl
  focus exact (fun _ _ _ h => h)
  refine Or.inl ⟨?_, ?_⟩
  focus (go_simp; done)
  focus (intro w hSw; obtain ⟨_, ⟨⟨x0, x1⟩, _⟩, ⟨⟨y0, y1⟩, _⟩, ⟨⟨z0, z1⟩, _⟩, ⟨⟨j0, j1⟩, _⟩, ⟨⟨m0, m1⟩, _⟩⟩ := hSw; (first | (go_simp; done) | (go_simp; with_reducible rfl)))
  focus assumption
  (try simp only [Act.put, List.setIfInBounds_toArray, List.set_cons_zero, List.set_cons_succ])
  refine wpAnyH_done (by kernel_rfl) ?_ _
  clear hT
  clear hv x0 x1 xg y0 y1 yg z0 z1 zg j0 j1 jg m0 m1 mg
  have hT := hHeld
  obtain ⟨hv, ⟨⟨x0, x1⟩, xg⟩, ⟨⟨y0, y1⟩, yg⟩, ⟨⟨z0, z1⟩, zg⟩, ⟨⟨j0, j1⟩, jg⟩, ⟨⟨m0, m1⟩, mg⟩⟩ := id hT
  go_wp2_with fail
  obtain ⟨t, ht⟩ : ∃ t, Iv.leq y z = t := ⟨_, rfl⟩
  obtain ⟨s, hs⟩ : ∃ t, Iv.leq z y = t := ⟨_, rfl⟩
  have htt : (t != t) = false := by simp
  have hss : (s != s) = false := by simp
  have h4 : (Iv.leq x z = false ∧ Iv.leq z x = false) ∨ (Iv.leq x z = false ∧ Iv.leq z x = true) ∨ (Iv.leq x z = true ∧ Iv.leq z x = false) ∨ (Iv.leq x z = true ∧ Iv.leq z x = true) := by
    cases Iv.leq x z <;> cases Iv.leq z x <;> simp
  have H1t := Lib.hid (fun (h1 : Iv.leq x z = true) => (⟨h1, ht, by rw [← hlst.out h1]; exact ht⟩ : Iv.leq x z = true ∧ Iv.leq y z = t ∧ Iv.leq j z = t))
  have H2t := Lib.hid (fun (h1 : Iv.leq z x = true) => (⟨h1, hs, by rw [← hgst.out h1]; exact hs⟩ : Iv.leq z x = true ∧ Iv.leq z y = s ∧ Iv.leq z m = s))
  clear ht hs hlst hgst
  rcases h4 with ⟨p1, p2⟩ | ⟨p1, p2⟩ | ⟨p1, p2⟩ | ⟨p1, p2⟩
  case' inl =>
    have H1 := Lib.hid (And.intro p1 trivial)
    have H2 := Lib.hid (And.intro p2 trivial)
    clear p1 p2
    refine wp_region_held_drew (S := (fun w' => Fiv w x y z j m g1 g2 g3 g4 g5 w')) (by kernel_rfl) (hT.drew) (fun hHeld => ?_)
    refine' wpAnyH_take (i := 0) (v := _) ?_ ?_ ?_ ?_ ?_ ?_ ?_ ?_
    rotate_left 2
    focus (simp only [List.getElem?_toArray, List.getElem?_cons_succ, List.getElem?_cons_zero]; rfl)
    focus kernel_rfl
    focus kernel_rfl
    focus kernel_rfl
    focus exact (fun _ _ _ h => h)
    refine Or.inl ⟨?_, ?_⟩
    focus (go_simp; done)
    focus (intro w hSw; obtain ⟨_, ⟨⟨x0, x1⟩, _⟩, ⟨⟨y0, y1⟩, _⟩, ⟨⟨z0, z1⟩, _⟩, ⟨⟨j0, j1⟩, _⟩, ⟨⟨m0, m1⟩, _⟩⟩ := hSw; (first | (go_simp; done) | (go_simp; with_reducible rfl)))
    focus assumption
    (try simp only [Act.put, List.setIfInBounds_toArray, List.set_cons_zero, List.set_cons_succ])
    refine' wpAnyH_take (i := 1) (v := _) ?_ ?_ ?_ ?_ ?_ ?_ ?_ ?_
    rotate_left 2
    focus (simp only [List.getElem?_toArray, List.getElem?_cons_succ, List.getElem?_cons_zero]; rfl)
    focus kernel_rfl
    focus kernel_rfl
    focus kernel_rfl
    focus exact (fun _ _ _ h => h)
    refine Or.inl ⟨?_, ?_⟩
    focus (go_simp; done)
    focus (intro w hSw; obtain ⟨_, ⟨⟨x0, x1⟩, _⟩, ⟨⟨y0, y1⟩, _⟩, ⟨⟨z0, z1⟩, _⟩, ⟨⟨j0, j1⟩, _⟩, ⟨⟨m0, m1⟩, _⟩⟩ := hSw; (first | (go_simp; done) | (go_simp; with_reducible rfl)))
    focus assumption
    (try simp only [Act.put, List.setIfInBounds_toArray, List.set_cons_zero, List.set_cons_succ])
    refine wpAnyH_ready (rs := [2]) (by kernel_rfl) (by simp) ?_
    refine' AllReadyH.cons ?_ (fun K hK => ?_) AllReadyH.nil
    rotate_left
    focus (simp only [List.getElem?_toArray, List.getElem?_cons_succ, List.getElem?_cons_zero]; rfl)
    go_simp
    (go_at_call 22; refine (iLeq_any x.lo x.hi z.lo z.hi false (H1.out.1) _).mono ?_; rintro e w4 ⟨rfl, hb⟩)
    refine hK.out _ _ (hHeld.below hb) (fun hHeld => ?_)
    clear hK K
    (try simp only [Act.put, List.setIfInBounds_toArray, List.set_cons_zero, List.set_cons_succ])
    clear hb
    refine' wpAnyH_take (i := 3) (v := _) ?_ ?_ ?_ ?_ ?_ ?_ ?_ ?_
    rotate_left 2
    focus (simp only [List.getElem?_toArray, List.getElem?_cons_succ, List.getElem?_cons_zero]; rfl)
    focus kernel_rfl
    focus kernel_rfl
    focus kernel_rfl
    focus exact (fun _ _ _ h => h)
    refine Or.inl ⟨?_, ?_⟩
    focus (go_simp; done)
    focus (intro w hSw; obtain ⟨_, ⟨⟨x0, x1⟩, _⟩, ⟨⟨y0, y1⟩, _⟩, ⟨⟨z0, z1⟩, _⟩, ⟨⟨j0, j1⟩, _⟩, ⟨⟨m0, m1⟩, _⟩⟩ := hSw; (first | (go_simp; done) | (go_simp; with_reducible rfl)))
    focus assumption
    (try simp only [Act.put, List.setIfInBounds_toArray, List.set_cons_zero, List.set_cons_succ])
    refine' wpAnyH_take (i := 4) (v := undef) ?_ ?_ ?_ ?_ ?_ ?_ ?_ ?_
    rotate_left 1
    focus (simp only [List.getElem?_toArray, List.getElem?_cons_succ, List.getElem?_cons_zero]; rfl)
    focus kernel_rfl
    focus kernel_rfl
    focus kernel_rfl
    focus exact (fun _ _ _ h => h)
    refine Or.inr ⟨?_, rfl⟩
    focus (go_simp; done)
    focus assumption
    (try simp only [Act.put, List.setIfInBounds_toArray, List.set_cons_zero, List.set_cons_succ])
    refine' wpAnyH_take (i := 5) (v := undef) ?_ ?_ ?_ ?_ ?_ ?_ ?_ ?_
    rotate_left 1
    focus (simp only [List.getElem?_toArray, List.getElem?_cons_succ, List.getElem?_cons_zero]; rfl)
    focus kernel_rfl
    focus kernel_rfl
    focus kernel_rfl
    focus exact (fun _ _ _ h => h)
    refine Or.inr ⟨?_, rfl⟩
    focus (go_simp; done)
    focus assumption
    (try simp only [Act.put, List.setIfInBounds_toArray, List.set_cons_zero, List.set_cons_succ])
    refine' wpAnyH_take (i := 6) (v := undef) ?_ ?_ ?_ ?_ ?_ ?_ ?_ ?_
    rotate_left 1
    focus (simp only [List.getElem?_toArray, List.getElem?_cons_succ, List.getElem?_cons_zero]; rfl)
    focus kernel_rfl
    focus kernel_rfl
    focus kernel_rfl
    focus exact (fun _ _ _ h => h)
    refine Or.inr ⟨?_, rfl⟩
    focus (go_simp; done)
    focus assumption
    (try simp only [Act.put, List.setIfInBounds_toArray, List.set_cons_zero, List.set_cons_succ])
    refine' wpAnyH_take (i := 7) (v := undef) ?_ ?_ ?_ ?_ ?_ ?_ ?_ ?_
    rotate_left 1
    focus (simp only [List.getElem?_toArray, List.getElem?_cons_succ, List.getElem?_cons_zero]; rfl)
    focus kernel_rfl
    focus kernel_rfl
    focus kernel_rfl
    focus exact (fun _ _ _ h => h)
    refine Or.inr ⟨?_, rfl⟩
    focus (go_simp; done)
    focus assumption
    (try simp only [Act.put, List.setIfInBounds_toArray, List.set_cons_zero, List.set_cons_succ])
    refine' wpAnyH_take (i := 8) (v := undef) ?_ ?_ ?_ ?_ ?_ ?_ ?_ ?_
    rotate_left 1
    focus (simp only [List.getElem?_toArray, List.getElem?_cons_succ, List.getElem?_cons_zero]; rfl)
    focus kernel_rfl
    focus kernel_rfl
    focus kernel_rfl
    focus exact (fun _ _ _ h => h)
    refine Or.inr ⟨?_, rfl⟩
    focus (go_simp; done)
    focus assumption
    (try simp only [Act.put, List.setIfInBounds_toArray, List.set_cons_zero, List.set_cons_succ])
    refine' wpAnyH_take (i := 9) (v := undef) ?_ ?_ ?_ ?_ ?_ ?_ ?_ ?_
    rotate_left 1
    focus (simp only [List.getElem?_toArray, List.getElem?_cons_succ, List.getElem?_cons_zero]; rfl)
    focus kernel_rfl
    focus kernel_rfl
    focus kernel_rfl
    focus exact (fun _ _ _ h => h)
    refine Or.inr ⟨?_, rfl⟩
    focus (go_simp; done)
    focus assumption
    (try simp only [Act.put, List.setIfInBounds_toArray, List.set_cons_zero, List.set_cons_succ])
    refine' wpAnyH_take (i := 10) (v := undef) ?_ ?_ ?_ ?_ ?_ ?_ ?_ ?_
    rotate_left 1
    focus (simp only [List.getElem?_toArray, List.getElem?_cons_succ, List.getElem?_cons_zero]; rfl)
    focus kernel_rfl
    focus kernel_rfl
    focus kernel_rfl
    focus exact (fun _ _ _ h => h)
    refine Or.inr ⟨?_, rfl⟩
    focus (go_simp; done)
    focus assumption
    (try simp only [Act.put, List.setIfInBounds_toArray, List.set_cons_zero, List.set_cons_succ])
    refine' wpAnyH_take (i := 11) (v := _) ?_ ?_ ?_ ?_ ?_ ?_ ?_ ?_
    rotate_left 2
    focus (simp only [List.getElem?_toArray, List.getElem?_cons_succ, List.getElem?_cons_zero]; rfl)
    focus kernel_rfl
    focus kernel_rfl
    focus kernel_rfl
    focus exact (fun _ _ _ h => h)
    refine Or.inl ⟨?_, ?_⟩
    focus (go_simp; done)
    focus (intro w hSw; obtain ⟨_, ⟨⟨x0, x1⟩, _⟩, ⟨⟨y0, y1⟩, _⟩, ⟨⟨z0, z1⟩, _⟩, ⟨⟨j0, j1⟩, _⟩, ⟨⟨m0, m1⟩, _⟩⟩ := hSw; (first | (go_simp; done) | (go_simp; with_reducible rfl)))
    focus assumption
    (try simp only [Act.put, List.setIfInBounds_toArray, List.set_cons_zero, List.set_cons_succ])
    refine' wpAnyH_take (i := 12) (v := _) ?_ ?_ ?_ ?_ ?_ ?_ ?_ ?_
    rotate_left 2
    focus (simp only [List.getElem?_toArray, List.getElem?_cons_succ, List.getElem?_cons_zero]; rfl)
    focus kernel_rfl
    focus kernel_rfl
    focus kernel_rfl
    focus exact (fun _ _ _ h => h)
    refine Or.inl ⟨?_, ?_⟩
    focus (go_simp; done)
    focus (intro w hSw; obtain ⟨_, ⟨⟨x0, x1⟩, _⟩, ⟨⟨y0, y1⟩, _⟩, ⟨⟨z0, z1⟩, _⟩, ⟨⟨j0, j1⟩, _⟩, ⟨⟨m0, m1⟩, _⟩⟩ := hSw; (first | (go_simp; done) | (go_simp; with_reducible rfl)))
    focus assumption
    (try simp only [Act.put, List.setIfInBounds_toArray, List.set_cons_zero, List.set_cons_succ])
    refine' wpAnyH_take (i := 13) (v := _) ?_ ?_ ?_ ?_ ?_ ?_ ?_ ?_
    rotate_left 2
    focus (simp only [List.getElem?_toArray, List.getElem?_cons_succ, List.getElem?_cons_zero]; rfl)
    focus kernel_rfl
    focus kernel_rfl
    focus kernel_rfl
    focus exact (fun _ _ _ h => h)
    refine Or.inl ⟨?_, ?_⟩
    focus (go_simp; done)
    focus (intro w hSw; obtain ⟨_, ⟨⟨x0, x1⟩, _⟩, ⟨⟨y0, y1⟩, _⟩, ⟨⟨z0, z1⟩, _⟩, ⟨⟨j0, j1⟩, _⟩, ⟨⟨m0, m1⟩, _⟩⟩ := hSw; (first | (go_simp; done) | (go_simp; with_reducible rfl)))
    focus assumption
    (try simp only [Act.put, List.setIfInBounds_toArray, List.set_cons_zero, List.set_cons_succ])
    refine' wpAnyH_take (i := 14) (v := _) ?_ ?_ ?_ ?_ ?_ ?_ ?_ ?_
    rotate_left 2
    focus (simp only [List.getElem?_toArray, List.getElem?_cons_succ, List.getElem?_cons_zero]; rfl)
    focus kernel_rfl
    focus kernel_rfl
    focus kernel_rfl
    focus exact (fun _ _ _ h => h)
    refine Or.inl ⟨?_, ?_⟩
    focus (go_simp; done)
    focus (intro w hSw; obtain ⟨_, ⟨⟨x0, x1⟩, _⟩, ⟨⟨y0, y1⟩, _⟩, ⟨⟨z0, z1⟩, _⟩, ⟨⟨j0, j1⟩, _⟩, ⟨⟨m0, m1⟩, _⟩⟩ := hSw; (first | (go_simp; done) | (go_simp; with_reducible rfl)))
    focus assumption
    (try simp only [Act.put, List.setIfInBounds_toArray, List.set_cons_zero, List.set_cons_succ])
    refine wpAnyH_ready (rs := [15]) (by kernel_rfl) (by simp) ?_
    refine' AllReadyH.cons ?_ (fun K hK => ?_) AllReadyH.nil
    rotate_left
    focus (simp only [List.getElem?_toArray, List.getElem?_cons_succ, List.getElem?_cons_zero]; rfl)
    go_simp
    (go_at_call 22; refine (iLeq_any z.lo z.hi x.lo x.hi false (H2.out.1) _).mono ?_; rintro e w4 ⟨rfl, hb⟩)
    refine hK.out _ _ (hHeld.below hb) (fun hHeld => ?_)
    clear hK K
    (try simp only [Act.put, List.setIfInBounds_toArray, List.set_cons_zero, List.set_cons_succ])
    clear hb
    refine' wpAnyH_take (i := 16) (v := _) ?_ ?_ ?_ ?_ ?_ ?_ ?_ ?_
    rotate_left 2
    focus (simp only [List.getElem?_toArray, List.getElem?_cons_succ, List.getElem?_cons_zero]; rfl)
    focus kernel_rfl
    focus kernel_rfl
    focus kernel_rfl
    focus exact (fun _ _ _ h => h)
    refine Or.inl ⟨?_, ?_⟩
    focus (go_simp; done)
    focus (intro w hSw; obtain ⟨_, ⟨⟨x0, x1⟩, _⟩, ⟨⟨y0, y1⟩, _⟩, ⟨⟨z0, z1⟩, _⟩, ⟨⟨j0, j1⟩, _⟩, ⟨⟨m0, m1⟩, _⟩⟩ := hSw; (first | (go_simp; done) | (go_simp; with_reducible rfl)))
    focus assumption
    (try simp only [Act.put, List.setIfInBounds_toArray, List.set_cons_zero, List.set_cons_succ])
    refine' wpAnyH_take (i := 17) (v := undef) ?_ ?_ ?_ ?_ ?_ ?_ ?_ ?_
    rotate_left 1
    focus (simp only [List.getElem?_toArray, List.getElem?_cons_succ, List.getElem?_cons_zero]; rfl)
    focus kernel_rfl
    focus kernel_rfl
    focus kernel_rfl
    focus exact (fun _ _ _ h => h)
    refine Or.inr ⟨?_, rfl⟩
    focus (go_simp; done)
    focus assumption
    (try simp only [Act.put, List.setIfInBounds_toArray, List.set_cons_zero, List.set_cons_succ])
    refine' wpAnyH_take (i := 18) (v := undef) ?_ ?_ ?_ ?_ ?_ ?_ ?_ ?_
    rotate_left 1
    focus (simp only [List.getElem?_toArray, List.getElem?_cons_succ, List.getElem?_cons_zero]; rfl)
    focus kernel_rfl
    focus kernel_rfl
    focus kernel_rfl
    focus exact (fun _ _ _ h => h)
    refine Or.inr ⟨?_, rfl⟩
    focus (go_simp; done)
    focus assumption
    (try simp only [Act.put, List.setIfInBounds_toArray, List.set_cons_zero, List.set_cons_succ])
    refine' wpAnyH_take (i := 19) (v := undef) ?_ ?_ ?_ ?_ ?_ ?_ ?_ ?_
    rotate_left 1
    focus (simp only [List.getElem?_toArray, List.getElem?_cons_succ, List.getElem?_cons_zero]; rfl)
    focus kernel_rfl
    focus kernel_rfl
    focus kernel_rfl
    focus exact (fun _ _ _ h => h)
    refine Or.inr ⟨?_, rfl⟩
    focus (go_simp; done)
    focus assumption
    (try simp only [Act.put, List.setIfInBounds_toArray, List.set_cons_zero, List.set_cons_succ])
    refine' wpAnyH_take (i := 20) (v := undef) ?_ ?_ ?_ ?_ ?_ ?_ ?_ ?_
    rotate_left 1
    focus (simp only [List.getElem?_toArray, List.getElem?_cons_succ, List.getElem?_cons_zero]; rfl)
    focus kernel_rfl
    focus kernel_rfl
    focus kernel_rfl
    focus exact (fun _ _ _ h => h)
    refine Or.inr ⟨?_, rfl⟩
    focus (go_simp; done)
    focus assumption
    (try simp only [Act.put, List.setIfInBounds_toArray, List.set_cons_zero, List.set_cons_succ])
    refine' wpAnyH_take (i := 21) (v := undef) ?_ ?_ ?_ ?_ ?_ ?_ ?_ ?_
    rotate_left 1
    focus (simp only [List.getElem?_toArray, List.getElem?_cons_succ, List.getElem?_cons_zero]; rfl)
    focus kernel_rfl
    focus kernel_rfl
    focus kernel_rfl
    focus exact (fun _ _ _ h => h)
    refine Or.inr ⟨?_, rfl⟩
    focus (go_simp; done)
    focus assumption
    (try simp only [Act.put, List.setIfInBounds_toArray, List.set_cons_zero, List.set_cons_succ])
    refine' wpAnyH_take (i := 22) (v := undef) ?_ ?_ ?_ ?_ ?_ ?_ ?_ ?_
    rotate_left 1
    focus (simp only [List.getElem?_toArray, List.getElem?_cons_succ, List.getElem?_cons_zero]; rfl)
    focus kernel_rfl
    focus kernel_rfl
    focus kernel_rfl
    focus exact (fun _ _ _ h => h)
    refine Or.inr ⟨?_, rfl⟩
    focus (go_simp; done)
    focus assumption
    (try simp only [Act.put, List.setIfInBounds_toArray, List.set_cons_zero, List.set_cons_succ])
    refine' wpAnyH_take (i := 23) (v := undef) ?_ ?_ ?_ ?_ ?_ ?_ ?_ ?_
    rotate_left 1
    focus (simp only [List.getElem?_toArray, List.getElem?_cons_succ, List.getElem?_cons_zero]; rfl)
    focus kernel_rfl
    focus kernel_rfl
    focus kernel_rfl
    focus exact (fun _ _ _ h => h)
    refine Or.inr ⟨?_, rfl⟩
    focus (go_simp; done)
    focus assumption
    (try simp only [Act.put, List.setIfInBounds_toArray, List.set_cons_zero, List.set_cons_succ])
    refine' wpAnyH_take (i := 24) (v := _) ?_ ?_ ?_ ?_ ?_ ?_ ?_ ?_
    rotate_left 2
    focus (simp only [List.getElem?_toArray, List.getElem?_cons_succ, List.getElem?_cons_zero]; rfl)
    focus kernel_rfl
    focus kernel_rfl
    focus kernel_rfl
    focus exact (fun _ _ _ h => h)
    refine Or.inl ⟨?_, ?_⟩
    focus (go_simp; done)
    focus (intro w hSw; obtain ⟨_, ⟨⟨x0, x1⟩, _⟩, ⟨⟨y0, y1⟩, _⟩, ⟨⟨z0, z1⟩, _⟩, ⟨⟨j0, j1⟩, _⟩, ⟨⟨m0, m1⟩, _⟩⟩ := hSw; (first | (go_simp; done) | (go_simp; with_reducible rfl)))
    focus assumption
    (try simp only [Act.put, List.setIfInBounds_toArray, List.set_cons_zero, List.set_cons_succ])
    refine' wpAnyH_take (i := 25) (v := _) ?_ ?_ ?_ ?_ ?_ ?_ ?_ ?_
    rotate_left 2
    focus (simp only [List.getElem?_toArray, List.getElem?_cons_succ, List.getElem?_cons_zero]; rfl)
    focus kernel_rfl
    focus kernel_rfl
    focus kernel_rfl
    focus exact (fun _ _ _ h => h)
    refine Or.inl ⟨?_, ?_⟩
    focus (go_simp; done)
    focus (intro w hSw; obtain ⟨_, ⟨⟨x0, x1⟩, _⟩, ⟨⟨y0, y1⟩, _⟩, ⟨⟨z0, z1⟩, _⟩, ⟨⟨j0, j1⟩, _⟩, ⟨⟨m0, m1⟩, _⟩⟩ := hSw; (first | (go_simp; done) | (go_simp; with_reducible rfl)))
    focus assumption
    (try simp only [Act.put, List.setIfInBounds_toArray, List.set_cons_zero, List.set_cons_succ])
    refine wpAnyH_done (by kernel_rfl) ?_ _
    clear hT
    clear hv x0 x1 xg y0 y1 yg z0 z1 zg j0 j1 jg m0 m1 mg
    have hT := hHeld
    obtain ⟨hv, ⟨⟨x0, x1⟩, xg⟩, ⟨⟨y0, y1⟩, yg⟩, ⟨⟨z0, z1⟩, zg⟩, ⟨⟨j0, j1⟩, jg⟩, ⟨⟨m0, m1⟩, mg⟩⟩ := id hT
  case' inr.inl =>
    have H1 := Lib.hid (And.intro p1 trivial)
    have H2 := Lib.hid (H2t.out p2)
    clear p1 p2
    refine wp_region_held_drew (S := (fun w' => Fiv w x y z j m g1 g2 g3 g4 g5 w')) (by kernel_rfl) (hT.drew) (fun hHeld => ?_)
    refine' wpAnyH_take (i := 0) (v := _) ?_ ?_ ?_ ?_ ?_ ?_ ?_ ?_
    rotate_left 2
    focus (simp only [List.getElem?_toArray, List.getElem?_cons_succ, List.getElem?_cons_zero]; rfl)
    focus kernel_rfl
    focus kernel_rfl
    focus kernel_rfl
    focus exact (fun _ _ _ h => h)
    refine Or.inl ⟨?_, ?_⟩
    focus (go_simp; done)
    focus (intro w hSw; obtain ⟨_, ⟨⟨x0, x1⟩, _⟩, ⟨⟨y0, y1⟩, _⟩, ⟨⟨z0, z1⟩, _⟩, ⟨⟨j0, j1⟩, _⟩, ⟨⟨m0, m1⟩, _⟩⟩ := hSw; (first | (go_simp; done) | (go_simp; with_reducible rfl)))
    focus assumption
    (try simp only [Act.put, List.setIfInBounds_toArray, List.set_cons_zero, List.set_cons_succ])
    refine' wpAnyH_take (i := 1) (v := _) ?_ ?_ ?_ ?_ ?_ ?_ ?_ ?_
    rotate_left 2
    focus (simp only [List.getElem?_toArray, List.getElem?_cons_succ, List.getElem?_cons_zero]; rfl)
    focus kernel_rfl
    focus kernel_rfl
    focus kernel_rfl
    focus exact (fun _ _ _ h => h)
    refine Or.inl ⟨?_, ?_⟩
    focus (go_simp; done)
    focus (intro w hSw; obtain ⟨_, ⟨⟨x0, x1⟩, _⟩, ⟨⟨y0, y1⟩, _⟩, ⟨⟨z0, z1⟩, _⟩, ⟨⟨j0, j1⟩, _⟩, ⟨⟨m0, m1⟩, _⟩⟩ := hSw; (first | (go_simp; done) | (go_simp; with_reducible rfl)))
    focus assumption
    (try simp only [Act.put, List.setIfInBounds_toArray, List.set_cons_zero, List.set_cons_succ])
    refine wpAnyH_ready (rs := [2]) (by kernel_rfl) (by simp) ?_
    refine' AllReadyH.cons ?_ (fun K hK => ?_) AllReadyH.nil
    rotate_left
    focus (simp only [List.getElem?_toArray, List.getElem?_cons_succ, List.getElem?_cons_zero]; rfl)
    go_simp
    (go_at_call 22; refine (iLeq_any x.lo x.hi z.lo z.hi false (H1.out.1) _).mono ?_; rintro e w4 ⟨rfl, hb⟩)
    refine hK.out _ _ (hHeld.below hb) (fun hHeld => ?_)
    clear hK K
    (try simp only [Act.put, List.setIfInBounds_toArray, List.set_cons_zero, List.set_cons_succ])
    clear hb
    refine' wpAnyH_take (i := 3) (v := _) ?_ ?_ ?_ ?_ ?_ ?_ ?_ ?_
    rotate_left 2
    focus (simp only [List.getElem?_toArray, List.getElem?_cons_succ, List.getElem?_cons_zero]; rfl)
    focus kernel_rfl
    focus kernel_rfl
    focus kernel_rfl
    focus exact (fun _ _ _ h => h)
    refine Or.inl ⟨?_, ?_⟩
    focus (go_simp; done)
    focus (intro w hSw; obtain ⟨_, ⟨⟨x0, x1⟩, _⟩, ⟨⟨y0, y1⟩, _⟩, ⟨⟨z0, z1⟩, _⟩, ⟨⟨j0, j1⟩, _⟩, ⟨⟨m0, m1⟩, _⟩⟩ := hSw; (first | (go_simp; done) | (go_simp; with_reducible rfl)))
    focus assumption
    (try simp only [Act.put, List.setIfInBounds_toArray, List.set_cons_zero, List.set_cons_succ])
    refine' wpAnyH_take (i := 4) (v := undef) ?_ ?_ ?_ ?_ ?_ ?_ ?_ ?_
    rotate_left 1
    focus (simp only [List.getElem?_toArray, List.getElem?_cons_succ, List.getElem?_cons_zero]; rfl)
    focus kernel_rfl
    focus kernel_rfl
    focus kernel_rfl
    focus exact (fun _ _ _ h => h)
    refine Or.inr ⟨?_, rfl⟩
    focus (go_simp; done)
    focus assumption
    (try simp only [Act.put, List.setIfInBounds_toArray, List.set_cons_zero, List.set_cons_succ])
    refine' wpAnyH_take (i := 5) (v := undef) ?_ ?_ ?_ ?_ ?_ ?_ ?_ ?_
    rotate_left 1
    focus (simp only [List.getElem?_toArray, List.getElem?_cons_succ, List.getElem?_cons_zero]; rfl)
    focus kernel_rfl
    focus kernel_rfl
    focus kernel_rfl
    focus exact (fun _ _ _ h => h)
    refine Or.inr ⟨?_, rfl⟩
    focus (go_simp; done)
    focus assumption
    (try simp only [Act.put, List.setIfInBounds_toArray, List.set_cons_zero, List.set_cons_succ])
    refine' wpAnyH_take (i := 6) (v := undef) ?_ ?_ ?_ ?_ ?_ ?_ ?_ ?_
    rotate_left 1
    focus (simp only [List.getElem?_toArray, List.getElem?_cons_succ, List.getElem?_cons_zero]; rfl)
    focus kernel_rfl
    focus kernel_rfl
    focus kernel_rfl
    focus exact (fun _ _ _ h => h)
    refine Or.inr ⟨?_, rfl⟩
    focus (go_simp; done)
    focus assumption
    (try simp only [Act.put, List.setIfInBounds_toArray, List.set_cons_zero, List.set_cons_succ])
    refine' wpAnyH_take (i := 7) (v := undef) ?_ ?_ ?_ ?_ ?_ ?_ ?_ ?_
    rotate_left 1
    focus (simp only [List.getElem?_toArray, List.getElem?_cons_succ, List.getElem?_cons_zero]; rfl)
    focus kernel_rfl
    focus kernel_rfl
    focus kernel_rfl
    focus exact (fun _ _ _ h => h)
    refine Or.inr ⟨?_, rfl⟩
    focus (go_simp; done)
    focus assumption
    (try simp only [Act.put, List.setIfInBounds_toArray, List.set_cons_zero, List.set_cons_succ])
    refine' wpAnyH_take (i := 8) (v := undef) ?_ ?_ ?_ ?_ ?_ ?_ ?_ ?_
    rotate_left 1
    focus (simp only [List.getElem?_toArray, List.getElem?_cons_succ, List.getElem?_cons_zero]; rfl)
    focus kernel_rfl
    focus kernel_rfl
    focus kernel_rfl
    focus exact (fun _ _ _ h => h)
    refine Or.inr ⟨?_, rfl⟩
    focus (go_simp; done)
    focus assumption
    (try simp only [Act.put, List.setIfInBounds_toArray, List.set_cons_zero, List.set_cons_succ])
    refine' wpAnyH_take (i := 9) (v := undef) ?_ ?_ ?_ ?_ ?_ ?_ ?_ ?_
    rotate_left 1
    focus (simp only [List.getElem?_toArray, List.getElem?_cons_succ, List.getElem?_cons_zero]; rfl)
    focus kernel_rfl
    focus kernel_rfl
    focus kernel_rfl
    focus exact (fun _ _ _ h => h)
    refine Or.inr ⟨?_, rfl⟩
    focus (go_simp; done)
    focus assumption
    (try simp only [Act.put, List.setIfInBounds_toArray, List.set_cons_zero, List.set_cons_succ])
    refine' wpAnyH_take (i := 10) (v := undef) ?_ ?_ ?_ ?_ ?_ ?_ ?_ ?_
    rotate_left 1
    focus (simp only [List.getElem?_toArray, List.getElem?_cons_succ, List.getElem?_cons_zero]; rfl)
    focus kernel_rfl
    focus kernel_rfl
    focus kernel_rfl
    focus exact (fun _ _ _ h => h)
    refine Or.inr ⟨?_, rfl⟩
    focus (go_simp; done)
    focus assumption
    (try simp only [Act.put, List.setIfInBounds_toArray, List.set_cons_zero, List.set_cons_succ])
    refine' wpAnyH_take (i := 11) (v := _) ?_ ?_ ?_ ?_ ?_ ?_ ?_ ?_
    rotate_left 2
    focus (simp only [List.getElem?_toArray, List.getElem?_cons_succ, List.getElem?_cons_zero]; rfl)
    focus kernel_rfl
    focus kernel_rfl
    focus kernel_rfl
    focus exact (fun _ _ _ h => h)
    refine Or.inl ⟨?_, ?_⟩
    focus (go_simp; done)
    focus (intro w hSw; obtain ⟨_, ⟨⟨x0, x1⟩, _⟩, ⟨⟨y0, y1⟩, _⟩, ⟨⟨z0, z1⟩, _⟩, ⟨⟨j0, j1⟩, _⟩, ⟨⟨m0, m1⟩, _⟩⟩ := hSw; (first | (go_simp; done) | (go_simp; with_reducible rfl)))
    focus assumption
    (try simp only [Act.put, List.setIfInBounds_toArray, List.set_cons_zero, List.set_cons_succ])
    refine' wpAnyH_take (i := 12) (v := _) ?_ ?_ ?_ ?_ ?_ ?_ ?_ ?_
    rotate_left 2
    focus (simp only [List.getElem?_toArray, List.getElem?_cons_succ, List.getElem?_cons_zero]; rfl)
    focus kernel_rfl
    focus kernel_rfl
    focus kernel_rfl
    focus exact (fun _ _ _ h => h)
    refine Or.inl ⟨?_, ?_⟩
    focus (go_simp; done)
    focus (intro w hSw; obtain ⟨_, ⟨⟨x0, x1⟩, _⟩, ⟨⟨y0, y1⟩, _⟩, ⟨⟨z0, z1⟩, _⟩, ⟨⟨j0, j1⟩, _⟩, ⟨⟨m0, m1⟩, _⟩⟩ := hSw; (first | (go_simp; done) | (go_simp; with_reducible rfl)))
    focus assumption
    (try simp only [Act.put, List.setIfInBounds_toArray, List.set_cons_zero, List.set_cons_succ])
    refine' wpAnyH_take (i := 13) (v := _) ?_ ?_ ?_ ?_ ?_ ?_ ?_ ?_
    rotate_left 2
    focus (simp only [List.getElem?_toArray, List.getElem?_cons_succ, List.getElem?_cons_zero]; rfl)
    focus kernel_rfl
    focus kernel_rfl
    focus kernel_rfl
    focus exact (fun _ _ _ h => h)
    refine Or.inl ⟨?_, ?_⟩
    focus (go_simp; done)
    focus (intro w hSw; obtain ⟨_, ⟨⟨x0, x1⟩, _⟩, ⟨⟨y0, y1⟩, _⟩, ⟨⟨z0, z1⟩, _⟩, ⟨⟨j0, j1⟩, _⟩, ⟨⟨m0, m1⟩, _⟩⟩ := hSw; (first | (go_simp; done) | (go_simp; with_reducible rfl)))
    focus assumption
    (try simp only [Act.put, List.setIfInBounds_toArray, List.set_cons_zero, List.set_cons_succ])
    refine' wpAnyH_take (i := 14) (v := _) ?_ ?_ ?_ ?_ ?_ ?_ ?_ ?_
    rotate_left 2
    focus (simp only [List.getElem?_toArray, List.getElem?_cons_succ, List.getElem?_cons_zero]; rfl)
    focus kernel_rfl
    focus kernel_rfl
    focus kernel_rfl
    focus exact (fun _ _ _ h => h)
    refine Or.inl ⟨?_, ?_⟩
    focus (go_simp; done)
    focus (intro w hSw; obtain ⟨_, ⟨⟨x0, x1⟩, _⟩, ⟨⟨y0, y1⟩, _⟩, ⟨⟨z0, z1⟩, _⟩, ⟨⟨j0, j1⟩, _⟩, ⟨⟨m0, m1⟩, _⟩⟩ := hSw; (first | (go_simp; done) | (go_simp; with_reducible rfl)))
    focus assumption
    (try simp only [Act.put, List.setIfInBounds_toArray, List.set_cons_zero, List.set_cons_succ])
    refine wpAnyH_ready (rs := [15]) (by kernel_rfl) (by simp) ?_
    refine' AllReadyH.cons ?_ (fun K hK => ?_) AllReadyH.nil
    rotate_left
    focus (simp only [List.getElem?_toArray, List.getElem?_cons_succ, List.getElem?_cons_zero]; rfl)
    go_simp
    (go_at_call 22; refine (iLeq_any z.lo z.hi x.lo x.hi true (H2.out.1) _).mono ?_; rintro e w4 ⟨rfl, hb⟩)
    refine hK.out _ _ (hHeld.below hb) (fun hHeld => ?_)
    clear hK K
    (try simp only [Act.put, List.setIfInBounds_toArray, List.set_cons_zero, List.set_cons_succ])
    clear hb
    refine' wpAnyH_take (i := 16) (v := _) ?_ ?_ ?_ ?_ ?_ ?_ ?_ ?_
    rotate_left 2
    focus (simp only [List.getElem?_toArray, List.getElem?_cons_succ, List.getElem?_cons_zero]; rfl)
    focus kernel_rfl
    focus kernel_rfl
    focus kernel_rfl
    focus exact (fun _ _ _ h => h)
    refine Or.inl ⟨?_, ?_⟩
    focus (go_simp; done)
    focus (intro w hSw; obtain ⟨_, ⟨⟨x0, x1⟩, _⟩, ⟨⟨y0, y1⟩, _⟩, ⟨⟨z0, z1⟩, _⟩, ⟨⟨j0, j1⟩, _⟩, ⟨⟨m0, m1⟩, _⟩⟩ := hSw; (first | (go_simp; done) | (go_simp; with_reducible rfl)))
    focus assumption
    (try simp only [Act.put, List.setIfInBounds_toArray, List.set_cons_zero, List.set_cons_succ])
    refine' wpAnyH_take (i := 17) (v := _) ?_ ?_ ?_ ?_ ?_ ?_ ?_ ?_
    rotate_left 2
    focus (simp only [List.getElem?_toArray, List.getElem?_cons_succ, List.getElem?_cons_zero]; rfl)
    focus kernel_rfl
    focus kernel_rfl
    focus kernel_rfl
    focus exact (fun _ _ _ h => h)
    refine Or.inl ⟨?_, ?_⟩
    focus (go_simp; done)
    focus (intro w hSw; obtain ⟨_, ⟨⟨x0, x1⟩, _⟩, ⟨⟨y0, y1⟩, _⟩, ⟨⟨z0, z1⟩, _⟩, ⟨⟨j0, j1⟩, _⟩, ⟨⟨m0, m1⟩, _⟩⟩ := hSw; (first | (go_simp; done) | (go_simp; with_reducible rfl)))
    focus assumption
    (try simp only [Act.put, List.setIfInBounds_toArray, List.set_cons_zero, List.set_cons_succ])
    refine' wpAnyH_take (i := 18) (v := _) ?_ ?_ ?_ ?_ ?_ ?_ ?_ ?_
    rotate_left 2
    focus (simp only [List.getElem?_toArray, List.getElem?_cons_succ, List.getElem?_cons_zero]; rfl)
    focus kernel_rfl
    focus kernel_rfl
    focus kernel_rfl
    focus exact (fun _ _ _ h => h)
    refine Or.inl ⟨?_, ?_⟩
    focus (go_simp; done)
    focus (intro w hSw; obtain ⟨_, ⟨⟨x0, x1⟩, _⟩, ⟨⟨y0, y1⟩, _⟩, ⟨⟨z0, z1⟩, _⟩, ⟨⟨j0, j1⟩, _⟩, ⟨⟨m0, m1⟩, _⟩⟩ := hSw; (first | (go_simp; done) | (go_simp; with_reducible rfl)))
    focus assumption
    (try simp only [Act.put, List.setIfInBounds_toArray, List.set_cons_zero, List.set_cons_succ])
    refine' wpAnyH_take (i := 20) (v := _) ?_ ?_ ?_ ?_ ?_ ?_ ?_ ?_
    rotate_left 2
    focus (simp only [List.getElem?_toArray, List.getElem?_cons_succ, List.getElem?_cons_zero]; rfl)
    focus kernel_rfl
    focus kernel_rfl
    focus kernel_rfl
    focus exact (fun _ _ _ h => h)
    refine Or.inl ⟨?_, ?_⟩
    focus (go_simp; done)
    focus (intro w hSw; obtain ⟨_, ⟨⟨x0, x1⟩, _⟩, ⟨⟨y0, y1⟩, _⟩, ⟨⟨z0, z1⟩, _⟩, ⟨⟨j0, j1⟩, _⟩, ⟨⟨m0, m1⟩, _⟩⟩ := hSw; (first | (go_simp; done) | (go_simp; with_reducible rfl)))
    focus assumption
    (try simp only [Act.put, List.setIfInBounds_toArray, List.set_cons_zero, List.set_cons_succ])
    refine' wpAnyH_take (i := 21) (v := _) ?_ ?_ ?_ ?_ ?_ ?_ ?_ ?_
    rotate_left 2
    focus (simp only [List.getElem?_toArray, List.getElem?_cons_succ, List.getElem?_cons_zero]; rfl)
    focus kernel_rfl
    focus kernel_rfl
    focus kernel_rfl
    focus exact (fun _ _ _ h => h)
    refine Or.inl ⟨?_, ?_⟩
    focus (go_simp; done)
    focus (intro w hSw; obtain ⟨_, ⟨⟨x0, x1⟩, _⟩, ⟨⟨y0, y1⟩, _⟩, ⟨⟨z0, z1⟩, _⟩, ⟨⟨j0, j1⟩, _⟩, ⟨⟨m0, m1⟩, _⟩⟩ := hSw; (first | (go_simp; done) | (go_simp; with_reducible rfl)))
    focus assumption
    (try simp only [Act.put, List.setIfInBounds_toArray, List.set_cons_zero, List.set_cons_succ])
    refine wpAnyH_ready (rs := [19]) (by kernel_rfl) (by simp) ?_
    refine' AllReadyH.cons ?_ (fun K hK => ?_) AllReadyH.nil
    rotate_left
    focus (simp only [List.getElem?_toArray, List.getElem?_cons_succ, List.getElem?_cons_zero]; rfl)
    go_simp
    (go_at_call 22; refine (iLeq_any z.lo z.hi y.lo y.hi s (H2.out.2.1) _).mono ?_; rintro e w4 ⟨rfl, hb⟩)
    refine hK.out _ _ (hHeld.below hb) (fun hHeld => ?_)
    clear hK K
    (try simp only [Act.put, List.setIfInBounds_toArray, List.set_cons_zero, List.set_cons_succ])
    clear hb
    refine wpAnyH_ready (rs := [22]) (by kernel_rfl) (by simp) ?_
    refine' AllReadyH.cons ?_ (fun K hK => ?_) AllReadyH.nil
    rotate_left
    focus (simp only [List.getElem?_toArray, List.getElem?_cons_succ, List.getElem?_cons_zero]; rfl)
    go_simp
    (go_at_call 22; refine (iLeq_any z.lo z.hi m.lo m.hi s (H2.out.2.2) _).mono ?_; rintro e w4 ⟨rfl, hb⟩)
    refine hK.out _ _ (hHeld.below hb) (fun hHeld => ?_)
    clear hK K
    (try simp only [Act.put, List.setIfInBounds_toArray, List.set_cons_zero, List.set_cons_succ])
    clear hb
    refine' wpAnyH_take (i := 23) (v := _) ?_ ?_ ?_ ?_ ?_ ?_ ?_ ?_
    rotate_left 2
    focus (simp only [List.getElem?_toArray, List.getElem?_cons_succ, List.getElem?_cons_zero]; rfl)
    focus kernel_rfl
    focus kernel_rfl
    focus kernel_rfl
    focus exact (fun _ _ _ h => h)
    refine Or.inl ⟨?_, ?_⟩
    focus (go_simp; done)
    focus (intro w hSw; obtain ⟨_, ⟨⟨x0, x1⟩, _⟩, ⟨⟨y0, y1⟩, _⟩, ⟨⟨z0, z1⟩, _⟩, ⟨⟨j0, j1⟩, _⟩, ⟨⟨m0, m1⟩, _⟩⟩ := hSw; (first | (go_simp; done) | (go_simp; with_reducible rfl)))
    focus assumption
    (try simp only [Act.put, List.setIfInBounds_toArray, List.set_cons_zero, List.set_cons_succ])
    refine' wpAnyH_take (i := 24) (v := _) ?_ ?_ ?_ ?_ ?_ ?_ ?_ ?_
    rotate_left 2
    focus (simp only [List.getElem?_toArray, List.getElem?_cons_succ, List.getElem?_cons_zero]; rfl)
    focus kernel_rfl
    focus kernel_rfl
    focus kernel_rfl
    focus exact (fun _ _ _ h => h)
    refine Or.inl ⟨?_, ?_⟩
    focus (go_simp; done)
    focus (intro w hSw; obtain ⟨_, ⟨⟨x0, x1⟩, _⟩, ⟨⟨y0, y1⟩, _⟩, ⟨⟨z0, z1⟩, _⟩, ⟨⟨j0, j1⟩, _⟩, ⟨⟨m0, m1⟩, _⟩⟩ := hSw; (first | (go_simp; done) | (go_simp; with_reducible rfl)))
    focus assumption
    (try simp only [Act.put, List.setIfInBounds_toArray, List.set_cons_zero, List.set_cons_succ])
    refine' wpAnyH_take (i := 25) (v := _) ?_ ?_ ?_ ?_ ?_ ?_ ?_ ?_
    rotate_left 2
    focus (simp only [List.getElem?_toArray, List.getElem?_cons_succ, List.getElem?_cons_zero]; rfl)
    focus kernel_rfl
    focus kernel_rfl
    focus kernel_rfl
    focus exact (fun _ _ _ h => h)
    refine Or.inl ⟨?_, ?_⟩
    focus (go_simp; done)
    focus (intro w hSw; obtain ⟨_, ⟨⟨x0, x1⟩, _⟩, ⟨⟨y0, y1⟩, _⟩, ⟨⟨z0, z1⟩, _⟩, ⟨⟨j0, j1⟩, _⟩, ⟨⟨m0, m1⟩, _⟩⟩ := hSw; (first | (go_simp; done) | (go_simp; with_reducible rfl)))
    focus assumption
    (try simp only [Act.put, List.setIfInBounds_toArray, List.set_cons_zero, List.set_cons_succ])
    refine wpAnyH_done (by kernel_rfl) ?_ _
    clear hT
    clear hv x0 x1 xg y0 y1 yg z0 z1 zg j0 j1 jg m0 m1 mg
    have hT := hHeld
    obtain ⟨hv, ⟨⟨x0, x1⟩, xg⟩, ⟨⟨y0, y1⟩, yg⟩, ⟨⟨z0, z1⟩, zg⟩, ⟨⟨j0, j1⟩, jg⟩, ⟨⟨m0, m1⟩, mg⟩⟩ := id hT
  case' inr.inr.inl =>
    have H1 := Lib.hid (H1t.out p1)
    have H2 := Lib.hid (And.intro p2 trivial)
    clear p1 p2
    refine wp_region_held_drew (S := (fun w' => Fiv w x y z j m g1 g2 g3 g4 g5 w')) (by kernel_rfl) (hT.drew) (fun hHeld => ?_)
    refine' wpAnyH_take (i := 0) (v := _) ?_ ?_ ?_ ?_ ?_ ?_ ?_ ?_
    rotate_left 2
    focus (simp only [List.getElem?_toArray, List.getElem?_cons_succ, List.getElem?_cons_zero]; rfl)
    focus kernel_rfl
    focus kernel_rfl
    focus kernel_rfl
    focus exact (fun _ _ _ h => h)
    refine Or.inl ⟨?_, ?_⟩
    focus (go_simp; done)
    focus (intro w hSw; obtain ⟨_, ⟨⟨x0, x1⟩, _⟩, ⟨⟨y0, y1⟩, _⟩, ⟨⟨z0, z1⟩, _⟩, ⟨⟨j0, j1⟩, _⟩, ⟨⟨m0, m1⟩, _⟩⟩ := hSw; (first | (go_simp; done) | (go_simp; with_reducible rfl)))
    focus assumption
    (try simp only [Act.put, List.setIfInBounds_toArray, List.set_cons_zero, List.set_cons_succ])
    refine' wpAnyH_take (i := 1) (v := _) ?_ ?_ ?_ ?_ ?_ ?_ ?_ ?_
    rotate_left 2
    focus (simp only [List.getElem?_toArray, List.getElem?_cons_succ, List.getElem?_cons_zero]; rfl)
    focus kernel_rfl
    focus kernel_rfl
    focus kernel_rfl
    focus exact (fun _ _ _ h => h)
    refine Or.inl ⟨?_, ?_⟩
    focus (go_simp; done)
    focus (intro w hSw; obtain ⟨_, ⟨⟨x0, x1⟩, _⟩, ⟨⟨y0, y1⟩, _⟩, ⟨⟨z0, z1⟩, _⟩, ⟨⟨j0, j1⟩, _⟩, ⟨⟨m0, m1⟩, _⟩⟩ := hSw; (first | (go_simp; done) | (go_simp; with_reducible rfl)))
    focus assumption
    (try simp only [Act.put, List.setIfInBounds_toArray, List.set_cons_zero, List.set_cons_succ])
    refine wpAnyH_ready (rs := [2]) (by kernel_rfl) (by simp) ?_
    refine' AllReadyH.cons ?_ (fun K hK => ?_) AllReadyH.nil
    rotate_left
    focus (simp only [List.getElem?_toArray, List.getElem?_cons_succ, List.getElem?_cons_zero]; rfl)
    go_simp
    (go_at_call 22; refine (iLeq_any x.lo x.hi z.lo z.hi true (H1.out.1) _).mono ?_; rintro e w4 ⟨rfl, hb⟩)
    refine hK.out _ _ (hHeld.below hb) (fun hHeld => ?_)
    clear hK K
    (try simp only [Act.put, List.setIfInBounds_toArray, List.set_cons_zero, List.set_cons_succ])
    clear hb
    refine' wpAnyH_take (i := 3) (v := _) ?_ ?_ ?_ ?_ ?_ ?_ ?_ ?_
    rotate_left 2
    focus (simp only [List.getElem?_toArray, List.getElem?_cons_succ, List.getElem?_cons_zero]; rfl)
    focus kernel_rfl
    focus kernel_rfl
    focus kernel_rfl
    focus exact (fun _ _ _ h => h)
    refine Or.inl ⟨?_, ?_⟩
    focus (go_simp; done)
    focus (intro w hSw; obtain ⟨_, ⟨⟨x0, x1⟩, _⟩, ⟨⟨y0, y1⟩, _⟩, ⟨⟨z0, z1⟩, _⟩, ⟨⟨j0, j1⟩, _⟩, ⟨⟨m0, m1⟩, _⟩⟩ := hSw; (first | (go_simp; done) | (go_simp; with_reducible rfl)))
    focus assumption
    (try simp only [Act.put, List.setIfInBounds_toArray, List.set_cons_zero, List.set_cons_succ])
    refine' wpAnyH_take (i := 4) (v := _) ?_ ?_ ?_ ?_ ?_ ?_ ?_ ?_
    rotate_left 2
    focus (simp only [List.getElem?_toArray, List.getElem?_cons_succ, List.getElem?_cons_zero]; rfl)
    focus kernel_rfl
    focus kernel_rfl
    focus kernel_rfl
    focus exact (fun _ _ _ h => h)
    refine Or.inl ⟨?_, ?_⟩
    focus (go_simp; done)
    focus (intro w hSw; obtain ⟨_, ⟨⟨x0, x1⟩, _⟩, ⟨⟨y0, y1⟩, _⟩, ⟨⟨z0, z1⟩, _⟩, ⟨⟨j0, j1⟩, _⟩, ⟨⟨m0, m1⟩, _⟩⟩ := hSw; (first | (go_simp; done) | (go_simp; with_reducible rfl)))
    focus assumption
    (try simp only [Act.put, List.setIfInBounds_toArray, List.set_cons_zero, List.set_cons_succ])
    refine' wpAnyH_take (i := 5) (v := _) ?_ ?_ ?_ ?_ ?_ ?_ ?_ ?_
    rotate_left 2
    focus (simp only [List.getElem?_toArray, List.getElem?_cons_succ, List.getElem?_cons_zero]; rfl)
    focus kernel_rfl
    focus kernel_rfl
    focus kernel_rfl
    focus exact (fun _ _ _ h => h)
    refine Or.inl ⟨?_, ?_⟩
    focus (go_simp; done)
    focus (intro w hSw; obtain ⟨_, ⟨⟨x0, x1⟩, _⟩, ⟨⟨y0, y1⟩, _⟩, ⟨⟨z0, z1⟩, _⟩, ⟨⟨j0, j1⟩, _⟩, ⟨⟨m0, m1⟩, _⟩⟩ := hSw; (first | (go_simp; done) | (go_simp; with_reducible rfl)))
    focus assumption
    (try simp only [Act.put, List.setIfInBounds_toArray, List.set_cons_zero, List.set_cons_succ])
    refine' wpAnyH_take (i := 7) (v := _) ?_ ?_ ?_ ?_ ?_ ?_ ?_ ?_
    rotate_left 2
    focus (simp only [List.getElem?_toArray, List.getElem?_cons_succ, List.getElem?_cons_zero]; rfl)
    focus kernel_rfl
    focus kernel_rfl
    focus kernel_rfl
    focus exact (fun _ _ _ h => h)
    refine Or.inl ⟨?_, ?_⟩
    focus (go_simp; done)
    focus (intro w hSw; obtain ⟨_, ⟨⟨x0, x1⟩, _⟩, ⟨⟨y0, y1⟩, _⟩, ⟨⟨z0, z1⟩, _⟩, ⟨⟨j0, j1⟩, _⟩, ⟨⟨m0, m1⟩, _⟩⟩ := hSw; (first | (go_simp; done) | (go_simp; with_reducible rfl)))
    focus assumption
    (try simp only [Act.put, List.setIfInBounds_toArray, List.set_cons_zero, List.set_cons_succ])
    refine' wpAnyH_take (i := 8) (v := _) ?_ ?_ ?_ ?_ ?_ ?_ ?_ ?_
    rotate_left 2
    focus (simp only [List.getElem?_toArray, List.getElem?_cons_succ, List.getElem?_cons_zero]; rfl)
    focus kernel_rfl
    focus kernel_rfl
    focus kernel_rfl
    focus exact (fun _ _ _ h => h)
    refine Or.inl ⟨?_, ?_⟩
    focus (go_simp; done)
    focus (intro w hSw; obtain ⟨_, ⟨⟨x0, x1⟩, _⟩, ⟨⟨y0, y1⟩, _⟩, ⟨⟨z0, z1⟩, _⟩, ⟨⟨j0, j1⟩, _⟩, ⟨⟨m0, m1⟩, _⟩⟩ := hSw; (first | (go_simp; done) | (go_simp; with_reducible rfl)))
    focus assumption
    (try simp only [Act.put, List.setIfInBounds_toArray, List.set_cons_zero, List.set_cons_succ])
    refine wpAnyH_ready (rs := [6]) (by kernel_rfl) (by simp) ?_
    refine' AllReadyH.cons ?_ (fun K hK => ?_) AllReadyH.nil
    rotate_left
    focus (simp only [List.getElem?_toArray, List.getElem?_cons_succ, List.getElem?_cons_zero]; rfl)
    go_simp
    (go_at_call 22; refine (iLeq_any y.lo y.hi z.lo z.hi t (H1.out.2.1) _).mono ?_; rintro e w4 ⟨rfl, hb⟩)
    refine hK.out _ _ (hHeld.below hb) (fun hHeld => ?_)
    clear hK K
    (try simp only [Act.put, List.setIfInBounds_toArray, List.set_cons_zero, List.set_cons_succ])
    clear hb
    refine wpAnyH_ready (rs := [9]) (by kernel_rfl) (by simp) ?_
    refine' AllReadyH.cons ?_ (fun K hK => ?_) AllReadyH.nil
    rotate_left
    focus (simp only [List.getElem?_toArray, List.getElem?_cons_succ, List.getElem?_cons_zero]; rfl)
    go_simp
    (go_at_call 22; refine (iLeq_any j.lo j.hi z.lo z.hi t (H1.out.2.2) _).mono ?_; rintro e w4 ⟨rfl, hb⟩)
    refine hK.out _ _ (hHeld.below hb) (fun hHeld => ?_)
    clear hK K
    (try simp only [Act.put, List.setIfInBounds_toArray, List.set_cons_zero, List.set_cons_succ])
    clear hb
    refine' wpAnyH_take (i := 10) (v := _) ?_ ?_ ?_ ?_ ?_ ?_ ?_ ?_
    rotate_left 2
    focus (simp only [List.getElem?_toArray, List.getElem?_cons_succ, List.getElem?_cons_zero]; rfl)
    focus kernel_rfl
    focus kernel_rfl
    focus kernel_rfl
    focus exact (fun _ _ _ h => h)
    refine Or.inl ⟨?_, ?_⟩
    focus (go_simp; done)
    focus (intro w hSw; obtain ⟨_, ⟨⟨x0, x1⟩, _⟩, ⟨⟨y0, y1⟩, _⟩, ⟨⟨z0, z1⟩, _⟩, ⟨⟨j0, j1⟩, _⟩, ⟨⟨m0, m1⟩, _⟩⟩ := hSw; (first | (go_simp; done) | (go_simp; with_reducible rfl)))
    focus assumption
    (try simp only [Act.put, List.setIfInBounds_toArray, List.set_cons_zero, List.set_cons_succ])
    refine' wpAnyH_take (i := 11) (v := _) ?_ ?_ ?_ ?_ ?_ ?_ ?_ ?_
    rotate_left 2
    focus (simp only [List.getElem?_toArray, List.getElem?_cons_succ, List.getElem?_cons_zero]; rfl)
    focus kernel_rfl
    focus kernel_rfl
    focus kernel_rfl
    focus exact (fun _ _ _ h => h)
    refine Or.inl ⟨?_, ?_⟩
    focus (go_simp; done)
    focus (intro w hSw; obtain ⟨_, ⟨⟨x0, x1⟩, _⟩, ⟨⟨y0, y1⟩, _⟩, ⟨⟨z0, z1⟩, _⟩, ⟨⟨j0, j1⟩, _⟩, ⟨⟨m0, m1⟩, _⟩⟩ := hSw; (first | (go_simp; done) | (go_simp; with_reducible rfl)))
    focus assumption
    (try simp only [Act.put, List.setIfInBounds_toArray, List.set_cons_zero, List.set_cons_succ])
    refine' wpAnyH_take (i := 12) (v := _) ?_ ?_ ?_ ?_ ?_ ?_ ?_ ?_
    rotate_left 2
    focus (simp only [List.getElem?_toArray, List.getElem?_cons_succ, List.getElem?_cons_zero]; rfl)
    focus kernel_rfl
    focus kernel_rfl
    focus kernel_rfl
    focus exact (fun _ _ _ h => h)
    refine Or.inl ⟨?_, ?_⟩
    focus (go_simp; done)
    focus (intro w hSw; obtain ⟨_, ⟨⟨x0, x1⟩, _⟩, ⟨⟨y0, y1⟩, _⟩, ⟨⟨z0, z1⟩, _⟩, ⟨⟨j0, j1⟩, _⟩, ⟨⟨m0, m1⟩, _⟩⟩ := hSw; (first | (go_simp; done) | (go_simp; with_reducible rfl)))
    focus assumption
    (try simp only [Act.put, List.setIfInBounds_toArray, List.set_cons_zero, List.set_cons_succ])
    refine' wpAnyH_take (i := 13) (v := _) ?_ ?_ ?_ ?_ ?_ ?_ ?_ ?_
    rotate_left 2
    focus (simp only [List.getElem?_toArray, List.getElem?_cons_succ, List.getElem?_cons_zero]; rfl)
    focus kernel_rfl
    focus kernel_rfl
    focus kernel_rfl
    focus exact (fun _ _ _ h => h)
    refine Or.inl ⟨?_, ?_⟩
    focus (go_simp; done)
    focus (intro w hSw; obtain ⟨_, ⟨⟨x0, x1⟩, _⟩, ⟨⟨y0, y1⟩, _⟩, ⟨⟨z0, z1⟩, _⟩, ⟨⟨j0, j1⟩, _⟩, ⟨⟨m0, m1⟩, _⟩⟩ := hSw; (first | (go_simp; done) | (go_simp; with_reducible rfl)))
    focus assumption
    (try simp only [Act.put, List.setIfInBounds_toArray, List.set_cons_zero, List.set_cons_succ])
    refine' wpAnyH_take (i := 14) (v := _) ?_ ?_ ?_ ?_ ?_ ?_ ?_ ?_
    rotate_left 2
    focus (simp only [List.getElem?_toArray, List.getElem?_cons_succ, List.getElem?_cons_zero]; rfl)
    focus kernel_rfl
    focus kernel_rfl
    focus kernel_rfl
    focus exact (fun _ _ _ h => h)
    refine Or.inl ⟨?_, ?_⟩
    focus (go_simp; done)
    focus (intro w hSw; obtain ⟨_, ⟨⟨x0, x1⟩, _⟩, ⟨⟨y0, y1⟩, _⟩, ⟨⟨z0, z1⟩, _⟩, ⟨⟨j0, j1⟩, _⟩, ⟨⟨m0, m1⟩, _⟩⟩ := hSw; (first | (go_simp; done) | (go_simp; with_reducible rfl)))
    focus assumption
    (try simp only [Act.put, List.setIfInBounds_toArray, List.set_cons_zero, List.set_cons_succ])
    refine wpAnyH_ready (rs := [15]) (by kernel_rfl) (by simp) ?_
    refine' AllReadyH.cons ?_ (fun K hK => ?_) AllReadyH.nil
    rotate_left
    focus (simp only [List.getElem?_toArray, List.getElem?_cons_succ, List.getElem?_cons_zero]; rfl)
    go_simp
    (go_at_call 22; refine (iLeq_any z.lo z.hi x.lo x.hi false (H2.out.1) _).mono ?_; rintro e w4 ⟨rfl, hb⟩)
    refine hK.out _ _ (hHeld.below hb) (fun hHeld => ?_)
    clear hK K
    (try simp only [Act.put, List.setIfInBounds_toArray, List.set_cons_zero, List.set_cons_succ])
    clear hb
    refine' wpAnyH_take (i := 16) (v := _) ?_ ?_ ?_ ?_ ?_ ?_ ?_ ?_
    rotate_left 2
    focus (simp only [List.getElem?_toArray, List.getElem?_cons_succ, List.getElem?_cons_zero]; rfl)
    focus kernel_rfl
    focus kernel_rfl
    focus kernel_rfl
    focus exact (fun _ _ _ h => h)
    refine Or.inl ⟨?_, ?_⟩
    focus (go_simp; done)
    focus (intro w hSw; obtain ⟨_, ⟨⟨x0, x1⟩, _⟩, ⟨⟨y0, y1⟩, _⟩, ⟨⟨z0, z1⟩, _⟩, ⟨⟨j0, j1⟩, _⟩, ⟨⟨m0, m1⟩, _⟩⟩ := hSw; (first | (go_simp; done) | (go_simp; with_reducible rfl)))
    focus assumption
    (try simp only [Act.put, List.setIfInBounds_toArray, List.set_cons_zero, List.set_cons_succ])
    refine' wpAnyH_take (i := 17) (v := undef) ?_ ?_ ?_ ?_ ?_ ?_ ?_ ?_
    rotate_left 1
    focus (simp only [List.getElem?_toArray, List.getElem?_cons_succ, List.getElem?_cons_zero]; rfl)
    focus kernel_rfl
    focus kernel_rfl
    focus kernel_rfl
    focus exact (fun _ _ _ h => h)
    refine Or.inr ⟨?_, rfl⟩
    focus (go_simp; done)
    focus assumption
    (try simp only [Act.put, List.setIfInBounds_toArray, List.set_cons_zero, List.set_cons_succ])
    refine' wpAnyH_take (i := 18) (v := undef) ?_ ?_ ?_ ?_ ?_ ?_ ?_ ?_
    rotate_left 1
    focus (simp only [List.getElem?_toArray, List.getElem?_cons_succ, List.getElem?_cons_zero]; rfl)
    focus kernel_rfl
    focus kernel_rfl
    focus kernel_rfl
    focus exact (fun _ _ _ h => h)
    refine Or.inr ⟨?_, rfl⟩
    focus (go_simp; done)
    focus assumption
    (try simp only [Act.put, List.setIfInBounds_toArray, List.set_cons_zero, List.set_cons_succ])
    refine' wpAnyH_take (i := 19) (v := undef) ?_ ?_ ?_ ?_ ?_ ?_ ?_ ?_
    rotate_left 1
    focus (simp only [List.getElem?_toArray, List.getElem?_cons_succ, List.getElem?_cons_zero]; rfl)
    focus kernel_rfl
    focus kernel_rfl
    focus kernel_rfl
    focus exact (fun _ _ _ h => h)
    refine Or.inr ⟨?_, rfl⟩
    focus (go_simp; done)
    focus assumption
    (try simp only [Act.put, List.setIfInBounds_toArray, List.set_cons_zero, List.set_cons_succ])
    refine' wpAnyH_take (i := 20) (v := undef) ?_ ?_ ?_ ?_ ?_ ?_ ?_ ?_
    rotate_left 1
    focus (simp only [List.getElem?_toArray, List.getElem?_cons_succ, List.getElem?_cons_zero]; rfl)
    focus kernel_rfl
    focus kernel_rfl
    focus kernel_rfl
    focus exact (fun _ _ _ h => h)
    refine Or.inr ⟨?_, rfl⟩
    focus (go_simp; done)
    focus assumption
    (try simp only [Act.put, List.setIfInBounds_toArray, List.set_cons_zero, List.set_cons_succ])
    refine' wpAnyH_take (i := 21) (v := undef) ?_ ?_ ?_ ?_ ?_ ?_ ?_ ?_
    rotate_left 1
    focus (simp only [List.getElem?_toArray, List.getElem?_cons_succ, List.getElem?_cons_zero]; rfl)
    focus kernel_rfl
    focus kernel_rfl
    focus kernel_rfl
    focus exact (fun _ _ _ h => h)
    refine Or.inr ⟨?_, rfl⟩
    focus (go_simp; done)
    focus assumption
    (try simp only [Act.put, List.setIfInBounds_toArray, List.set_cons_zero, List.set_cons_succ])
    refine' wpAnyH_take (i := 22) (v := undef) ?_ ?_ ?_ ?_ ?_ ?_ ?_ ?_
    rotate_left 1
    focus (simp only [List.getElem?_toArray, List.getElem?_cons_succ, List.getElem?_cons_zero]; rfl)
    focus kernel_rfl
    focus kernel_rfl
    focus kernel_rfl
    focus exact (fun _ _ _ h => h)
    refine Or.inr ⟨?_, rfl⟩
    focus (go_simp; done)
    focus assumption
    (try simp only [Act.put, List.setIfInBounds_toArray, List.set_cons_zero, List.set_cons_succ])
    refine' wpAnyH_take (i := 23) (v := undef) ?_ ?_ ?_ ?_ ?_ ?_ ?_ ?_
    rotate_left 1
    focus (simp only [List.getElem?_toArray, List.getElem?_cons_succ, List.getElem?_cons_zero]; rfl)
    focus kernel_rfl
    focus kernel_rfl
    focus kernel_rfl
    focus exact (fun _ _ _ h => h)
    refine Or.inr ⟨?_, rfl⟩
    focus (go_simp; done)
    focus assumption
    (try simp only [Act.put, List.setIfInBounds_toArray, List.set_cons_zero, List.set_cons_succ])
    refine' wpAnyH_take (i := 24) (v := _) ?_ ?_ ?_ ?_ ?_ ?_ ?_ ?_
    rotate_left 2
    focus (simp only [List.getElem?_toArray, List.getElem?_cons_succ, List.getElem?_cons_zero]; rfl)
    focus kernel_rfl
    focus kernel_rfl
    focus kernel_rfl
    focus exact (fun _ _ _ h => h)
    refine Or.inl ⟨?_, ?_⟩
    focus (go_simp; done)
    focus (intro w hSw; obtain ⟨_, ⟨⟨x0, x1⟩, _⟩, ⟨⟨y0, y1⟩, _⟩, ⟨⟨z0, z1⟩, _⟩, ⟨⟨j0, j1⟩, _⟩, ⟨⟨m0, m1⟩, _⟩⟩ := hSw; (first | (go_simp; done) | (go_simp; with_reducible rfl)))
    focus assumption
    (try simp only [Act.put, List.setIfInBounds_toArray, List.set_cons_zero, List.set_cons_succ])
    refine' wpAnyH_take (i := 25) (v := _) ?_ ?_ ?_ ?_ ?_ ?_ ?_ ?_
    rotate_left 2
    focus (simp only [List.getElem?_toArray, List.getElem?_cons_succ, List.getElem?_cons_zero]; rfl)
    focus kernel_rfl
    focus kernel_rfl
    focus kernel_rfl
    focus exact (fun _ _ _ h => h)
    refine Or.inl ⟨?_, ?_⟩
    focus (go_simp; done)
    focus (intro w hSw; obtain ⟨_, ⟨⟨x0, x1⟩, _⟩, ⟨⟨y0, y1⟩, _⟩, ⟨⟨z0, z1⟩, _⟩, ⟨⟨j0, j1⟩, _⟩, ⟨⟨m0, m1⟩, _⟩⟩ := hSw; (first | (go_simp; done) | (go_simp; with_reducible rfl)))
    focus assumption
    (try simp only [Act.put, List.setIfInBounds_toArray, List.set_cons_zero, List.set_cons_succ])
    refine wpAnyH_done (by kernel_rfl) ?_ _
    clear hT
    clear hv x0 x1 xg y0 y1 yg z0 z1 zg j0 j1 jg m0 m1 mg
    have hT := hHeld
    obtain ⟨hv, ⟨⟨x0, x1⟩, xg⟩, ⟨⟨y0, y1⟩, yg⟩, ⟨⟨z0, z1⟩, zg⟩, ⟨⟨j0, j1⟩, jg⟩, ⟨⟨m0, m1⟩, mg⟩⟩ := id hT
  case' inr.inr.inr =>
    have H1 := Lib.hid (H1t.out p1)
    have H2 := Lib.hid (H2t.out p2)
    clear p1 p2
    refine wp_region_held_drew (S := (fun w' => Fiv w x y z j m g1 g2 g3 g4 g5 w')) (by kernel_rfl) (hT.drew) (fun hHeld => ?_)
    refine' wpAnyH_take (i := 0) (v := _) ?_ ?_ ?_ ?_ ?_ ?_ ?_ ?_
    rotate_left 2
    focus (simp only [List.getElem?_toArray, List.getElem?_cons_succ, List.getElem?_cons_zero]; rfl)
    focus kernel_rfl
    focus kernel_rfl
    focus kernel_rfl
    focus exact (fun _ _ _ h => h)
    refine Or.inl ⟨?_, ?_⟩
    focus (go_simp; done)
    focus (intro w hSw; obtain ⟨_, ⟨⟨x0, x1⟩, _⟩, ⟨⟨y0, y1⟩, _⟩, ⟨⟨z0, z1⟩, _⟩, ⟨⟨j0, j1⟩, _⟩, ⟨⟨m0, m1⟩, _⟩⟩ := hSw; (first | (go_simp; done) | (go_simp; with_reducible rfl)))
    focus assumption
    (try simp only [Act.put, List.setIfInBounds_toArray, List.set_cons_zero, List.set_cons_succ])
    refine' wpAnyH_take (i := 1) (v := _) ?_ ?_ ?_ ?_ ?_ ?_ ?_ ?_
    rotate_left 2
    focus (simp only [List.getElem?_toArray, List.getElem?_cons_succ, List.getElem?_cons_zero]; rfl)
    focus kernel_rfl
    focus kernel_rfl
    focus kernel_rfl
    focus exact (fun _ _ _ h => h)
    refine Or.inl ⟨?_, ?_⟩
    focus (go_simp; done)
    focus (intro w hSw; obtain ⟨_, ⟨⟨x0, x1⟩, _⟩, ⟨⟨y0, y1⟩, _⟩, ⟨⟨z0, z1⟩, _⟩, ⟨⟨j0, j1⟩, _⟩, ⟨⟨m0, m1⟩, _⟩⟩ := hSw; (first | (go_simp; done) | (go_simp; with_reducible rfl)))
    focus assumption
    (try simp only [Act.put, List.setIfInBounds_toArray, List.set_cons_zero, List.set_cons_succ])
    refine wpAnyH_ready (rs := [2]) (by kernel_rfl) (by simp) ?_
    refine' AllReadyH.cons ?_ (fun K hK => ?_) AllReadyH.nil
    rotate_left
    focus (simp only [List.getElem?_toArray, List.getElem?_cons_succ, List.getElem?_cons_zero]; rfl)
    go_simp
    (go_at_call 22; refine (iLeq_any x.lo x.hi z.lo z.hi true (H1.out.1) _).mono ?_; rintro e w4 ⟨rfl, hb⟩)
    refine hK.out _ _ (hHeld.below hb) (fun hHeld => ?_)
    clear hK K
    (try simp only [Act.put, List.setIfInBounds_toArray, List.set_cons_zero, List.set_cons_succ])
    clear hb
    refine' wpAnyH_take (i := 3) (v := _) ?_ ?_ ?_ ?_ ?_ ?_ ?_ ?_
    rotate_left 2
    focus (simp only [List.getElem?_toArray, List.getElem?_cons_succ, List.getElem?_cons_zero]; rfl)
    focus kernel_rfl
    focus kernel_rfl
    focus kernel_rfl
    focus exact (fun _ _ _ h => h)
    refine Or.inl ⟨?_, ?_⟩
    focus (go_simp; done)
    focus (intro w hSw; obtain ⟨_, ⟨⟨x0, x1⟩, _⟩, ⟨⟨y0, y1⟩, _⟩, ⟨⟨z0, z1⟩, _⟩, ⟨⟨j0, j1⟩, _⟩, ⟨⟨m0, m1⟩, _⟩⟩ := hSw; (first | (go_simp; done) | (go_simp; with_reducible rfl)))
    focus assumption
    (try simp only [Act.put, List.setIfInBounds_toArray, List.set_cons_zero, List.set_cons_succ])
    refine' wpAnyH_take (i := 4) (v := _) ?_ ?_ ?_ ?_ ?_ ?_ ?_ ?_
    rotate_left 2
    focus (simp only [List.getElem?_toArray, List.getElem?_cons_succ, List.getElem?_cons_zero]; rfl)
    focus kernel_rfl
    focus kernel_rfl
    focus kernel_rfl
    focus exact (fun _ _ _ h => h)
    refine Or.inl ⟨?_, ?_⟩
    focus (go_simp; done)
    focus (intro w hSw; obtain ⟨_, ⟨⟨x0, x1⟩, _⟩, ⟨⟨y0, y1⟩, _⟩, ⟨⟨z0, z1⟩, _⟩, ⟨⟨j0, j1⟩, _⟩, ⟨⟨m0, m1⟩, _⟩⟩ := hSw; (first | (go_simp; done) | (go_simp; with_reducible rfl)))
    focus assumption
    (try simp only [Act.put, List.setIfInBounds_toArray, List.set_cons_zero, List.set_cons_succ])
    refine' wpAnyH_take (i := 5) (v := _) ?_ ?_ ?_ ?_ ?_ ?_ ?_ ?_
    rotate_left 2
    focus (simp only [List.getElem?_toArray, List.getElem?_cons_succ, List.getElem?_cons_zero]; rfl)
    focus kernel_rfl
    focus kernel_rfl
    focus kernel_rfl
    focus exact (fun _ _ _ h => h)
    refine Or.inl ⟨?_, ?_⟩
    focus (go_simp; done)
    focus (intro w hSw; obtain ⟨_, ⟨⟨x0, x1⟩, _⟩, ⟨⟨y0, y1⟩, _⟩, ⟨⟨z0, z1⟩, _⟩, ⟨⟨j0, j1⟩, _⟩, ⟨⟨m0, m1⟩, _⟩⟩ := hSw; (first | (go_simp; done) | (go_simp; with_reducible rfl)))
    focus assumption
    (try simp only [Act.put, List.setIfInBounds_toArray, List.set_cons_zero, List.set_cons_succ])
    refine' wpAnyH_take (i := 7) (v := _) ?_ ?_ ?_ ?_ ?_ ?_ ?_ ?_
    rotate_left 2
    focus (simp only [List.getElem?_toArray, List.getElem?_cons_succ, List.getElem?_cons_zero]; rfl)
    focus kernel_rfl
    focus kernel_rfl
    focus kernel_rfl
    focus exact (fun _ _ _ h => h)
    refine Or.inl ⟨?_, ?_⟩
    focus (go_simp; done)
    focus (intro w hSw; obtain ⟨_, ⟨⟨x0, x1⟩, _⟩, ⟨⟨y0, y1⟩, _⟩, ⟨⟨z0, z1⟩, _⟩, ⟨⟨j0, j1⟩, _⟩, ⟨⟨m0, m1⟩, _⟩⟩ := hSw; (first | (go_simp; done) | (go_simp; with_reducible rfl)))
    focus assumption
    (try simp only [Act.put, List.setIfInBounds_toArray, List.set_cons_zero, List.set_cons_succ])
    refine' wpAnyH_take (i := 8) (v := _) ?_ ?_ ?_ ?_ ?_ ?_ ?_ ?_
    rotate_left 2
    focus (simp only [List.getElem?_toArray, List.getElem?_cons_succ, List.getElem?_cons_zero]; rfl)
    focus kernel_rfl
    focus kernel_rfl
    focus kernel_rfl
    focus exact (fun _ _ _ h => h)
    refine Or.inl ⟨?_, ?_⟩
    focus (go_simp; done)
    focus (intro w hSw; obtain ⟨_, ⟨⟨x0, x1⟩, _⟩, ⟨⟨y0, y1⟩, _⟩, ⟨⟨z0, z1⟩, _⟩, ⟨⟨j0, j1⟩, _⟩, ⟨⟨m0, m1⟩, _⟩⟩ := hSw; (first | (go_simp; done) | (go_simp; with_reducible rfl)))
    focus assumption
    (try simp only [Act.put, List.setIfInBounds_toArray, List.set_cons_zero, List.set_cons_succ])
    refine wpAnyH_ready (rs := [6]) (by kernel_rfl) (by simp) ?_
    refine' AllReadyH.cons ?_ (fun K hK => ?_) AllReadyH.nil
    rotate_left
    focus (simp only [List.getElem?_toArray, List.getElem?_cons_succ, List.getElem?_cons_zero]; rfl)
    go_simp
    (go_at_call 22; refine (iLeq_any y.lo y.hi z.lo z.hi t (H1.out.2.1) _).mono ?_; rintro e w4 ⟨rfl, hb⟩)
    refine hK.out _ _ (hHeld.below hb) (fun hHeld => ?_)
    clear hK K
    (try simp only [Act.put, List.setIfInBounds_toArray, List.set_cons_zero, List.set_cons_succ])
    clear hb
    refine wpAnyH_ready (rs := [9]) (by kernel_rfl) (by simp) ?_
    refine' AllReadyH.cons ?_ (fun K hK => ?_) AllReadyH.nil
    rotate_left
    focus (simp only [List.getElem?_toArray, List.getElem?_cons_succ, List.getElem?_cons_zero]; rfl)
    go_simp
    (go_at_call 22; refine (iLeq_any j.lo j.hi z.lo z.hi t (H1.out.2.2) _).mono ?_; rintro e w4 ⟨rfl, hb⟩)
    refine hK.out _ _ (hHeld.below hb) (fun hHeld => ?_)
    clear hK K
    (try simp only [Act.put, List.setIfInBounds_toArray, List.set_cons_zero, List.set_cons_succ])
    clear hb
    refine' wpAnyH_take (i := 10) (v := _) ?_ ?_ ?_ ?_ ?_ ?_ ?_ ?_
    rotate_left 2
    focus (simp only [List.getElem?_toArray, List.getElem?_cons_succ, List.getElem?_cons_zero]; rfl)
    focus kernel_rfl
    focus kernel_rfl
    focus kernel_rfl
    focus exact (fun _ _ _ h => h)
    refine Or.inl ⟨?_, ?_⟩
    focus (go_simp; done)
    focus (intro w hSw; obtain ⟨_, ⟨⟨x0, x1⟩, _⟩, ⟨⟨y0, y1⟩, _⟩, ⟨⟨z0, z1⟩, _⟩, ⟨⟨j0, j1⟩, _⟩, ⟨⟨m0, m1⟩, _⟩⟩ := hSw; (first | (go_simp; done) | (go_simp; with_reducible rfl)))
    focus assumption
    (try simp only [Act.put, List.setIfInBounds_toArray, List.set_cons_zero, List.set_cons_succ])
    refine' wpAnyH_take (i := 11) (v := _) ?_ ?_ ?_ ?_ ?_ ?_ ?_ ?_
    rotate_left 2
    focus (simp only [List.getElem?_toArray, List.getElem?_cons_succ, List.getElem?_cons_zero]; rfl)
    focus kernel_rfl
    focus kernel_rfl
    focus kernel_rfl
    focus exact (fun _ _ _ h => h)
    refine Or.inl ⟨?_, ?_⟩
    focus (go_simp; done)
    focus (intro w hSw; obtain ⟨_, ⟨⟨x0, x1⟩, _⟩, ⟨⟨y0, y1⟩, _⟩, ⟨⟨z0, z1⟩, _⟩, ⟨⟨j0, j1⟩, _⟩, ⟨⟨m0, m1⟩, _⟩⟩ := hSw; (first | (go_simp; done) | (go_simp; with_reducible rfl)))
    focus assumption
    (try simp only [Act.put, List.setIfInBounds_toArray, List.set_cons_zero, List.set_cons_succ])
    refine' wpAnyH_take (i := 12) (v := _) ?_ ?_ ?_ ?_ ?_ ?_ ?_ ?_
    rotate_left 2
    focus (simp only [List.getElem?_toArray, List.getElem?_cons_succ, List.getElem?_cons_zero]; rfl)
    focus kernel_rfl
    focus kernel_rfl
    focus kernel_rfl
    focus exact (fun _ _ _ h => h)
    refine Or.inl ⟨?_, ?_⟩
    focus (go_simp; done)
    focus (intro w hSw; obtain ⟨_, ⟨⟨x0, x1⟩, _⟩, ⟨⟨y0, y1⟩, _⟩, ⟨⟨z0, z1⟩, _⟩, ⟨⟨j0, j1⟩, _⟩, ⟨⟨m0, m1⟩, _⟩⟩ := hSw; (first | (go_simp; done) | (go_simp; with_reducible rfl)))
    focus assumption
    (try simp only [Act.put, List.setIfInBounds_toArray, List.set_cons_zero, List.set_cons_succ])
    refine' wpAnyH_take (i := 13) (v := _) ?_ ?_ ?_ ?_ ?_ ?_ ?_ ?_
    rotate_left 2
    focus (simp only [List.getElem?_toArray, List.getElem?_cons_succ, List.getElem?_cons_zero]; rfl)
    focus kernel_rfl
    focus kernel_rfl
    focus kernel_rfl
    focus exact (fun _ _ _ h => h)
    refine Or.inl ⟨?_, ?_⟩
    focus (go_simp; done)
    focus (intro w hSw; obtain ⟨_, ⟨⟨x0, x1⟩, _⟩, ⟨⟨y0, y1⟩, _⟩, ⟨⟨z0, z1⟩, _⟩, ⟨⟨j0, j1⟩, _⟩, ⟨⟨m0, m1⟩, _⟩⟩ := hSw; (first | (go_simp; done) | (go_simp; with_reducible rfl)))
    focus assumption
    (try simp only [Act.put, List.setIfInBounds_toArray, List.set_cons_zero, List.set_cons_succ])
    refine' wpAnyH_take (i := 14) (v := _) ?_ ?_ ?_ ?_ ?_ ?_ ?_ ?_
    rotate_left 2
    focus (simp only [List.getElem?_toArray, List.getElem?_cons_succ, List.getElem?_cons_zero]; rfl)
    focus kernel_rfl
    focus kernel_rfl
    focus kernel_rfl
    focus exact (fun _ _ _ h => h)
    refine Or.inl ⟨?_, ?_⟩
    focus (go_simp; done)
    focus (intro w hSw; obtain ⟨_, ⟨⟨x0, x1⟩, _⟩, ⟨⟨y0, y1⟩, _⟩, ⟨⟨z0, z1⟩, _⟩, ⟨⟨j0, j1⟩, _⟩, ⟨⟨m0, m1⟩, _⟩⟩ := hSw; (first | (go_simp; done) | (go_simp; with_reducible rfl)))
    focus assumption
    (try simp only [Act.put, List.setIfInBounds_toArray, List.set_cons_zero, List.set_cons_succ])
    refine wpAnyH_ready (rs := [15]) (by kernel_rfl) (by simp) ?_
    refine' AllReadyH.cons ?_ (fun K hK => ?_) AllReadyH.nil
    rotate_left
    focus (simp only [List.getElem?_toArray, List.getElem?_cons_succ, List.getElem?_cons_zero]; rfl)
    go_simp
    (go_at_call 22; refine (iLeq_any z.lo z.hi x.lo x.hi true (H2.out.1) _).mono ?_; rintro e w4 ⟨rfl, hb⟩)
    refine hK.out _ _ (hHeld.below hb) (fun hHeld => ?_)
    clear hK K
    (try simp only [Act.put, List.setIfInBounds_toArray, List.set_cons_zero, List.set_cons_succ])
    clear hb
    refine' wpAnyH_take (i := 16) (v := _) ?_ ?_ ?_ ?_ ?_ ?_ ?_ ?_
    rotate_left 2
    focus (simp only [List.getElem?_toArray, List.getElem?_cons_succ, List.getElem?_cons_zero]; rfl)
    focus kernel_rfl
    focus kernel_rfl
    focus kernel_rfl
    focus exact (fun _ _ _ h => h)
    refine Or.inl ⟨?_, ?_⟩
    focus (go_simp; done)
    focus (intro w hSw; obtain ⟨_, ⟨⟨x0, x1⟩, _⟩, ⟨⟨y0, y1⟩, _⟩, ⟨⟨z0, z1⟩, _⟩, ⟨⟨j0, j1⟩, _⟩, ⟨⟨m0, m1⟩, _⟩⟩ := hSw; (first | (go_simp; done) | (go_simp; with_reducible rfl)))
    focus assumption
    (try simp only [Act.put, List.setIfInBounds_toArray, List.set_cons_zero, List.set_cons_succ])
    refine' wpAnyH_take (i := 17) (v := _) ?_ ?_ ?_ ?_ ?_ ?_ ?_ ?_
    rotate_left 2
    focus (simp only [List.getElem?_toArray, List.getElem?_cons_succ, List.getElem?_cons_zero]; rfl)
    focus kernel_rfl
    focus kernel_rfl
    focus kernel_rfl
    focus exact (fun _ _ _ h => h)
    refine Or.inl ⟨?_, ?_⟩
    focus (go_simp; done)
    focus (intro w hSw; obtain ⟨_, ⟨⟨x0, x1⟩, _⟩, ⟨⟨y0, y1⟩, _⟩, ⟨⟨z0, z1⟩, _⟩, ⟨⟨j0, j1⟩, _⟩, ⟨⟨m0, m1⟩, _⟩⟩ := hSw; (first | (go_simp; done) | (go_simp; with_reducible rfl)))
    focus assumption
    (try simp only [Act.put, List.setIfInBounds_toArray, List.set_cons_zero, List.set_cons_succ])
    refine' wpAnyH_take (i := 18) (v := _) ?_ ?_ ?_ ?_ ?_ ?_ ?_ ?_
    rotate_left 2
    focus (simp only [List.getElem?_toArray, List.getElem?_cons_succ, List.getElem?_cons_zero]; rfl)
    focus kernel_rfl
    focus kernel_rfl
    focus kernel_rfl
    focus exact (fun _ _ _ h => h)
    refine Or.inl ⟨?_, ?_⟩
    focus (go_simp; done)
    focus (intro w hSw; obtain ⟨_, ⟨⟨x0, x1⟩, _⟩, ⟨⟨y0, y1⟩, _⟩, ⟨⟨z0, z1⟩, _⟩, ⟨⟨j0, j1⟩, _⟩, ⟨⟨m0, m1⟩, _⟩⟩ := hSw; (first | (go_simp; done) | (go_simp; with_reducible rfl)))
    focus assumption
    (try simp only [Act.put, List.setIfInBounds_toArray, List.set_cons_zero, List.set_cons_succ])
    refine' wpAnyH_take (i := 20) (v := _) ?_ ?_ ?_ ?_ ?_ ?_ ?_ ?_
    rotate_left 2
    focus (simp only [List.getElem?_toArray, List.getElem?_cons_succ, List.getElem?_cons_zero]; rfl)
    focus kernel_rfl
    focus kernel_rfl
    focus kernel_rfl
    focus exact (fun _ _ _ h => h)
    refine Or.inl ⟨?_, ?_⟩
    focus (go_simp; done)
    focus (intro w hSw; obtain ⟨_, ⟨⟨x0, x1⟩, _⟩, ⟨⟨y0, y1⟩, _⟩, ⟨⟨z0, z1⟩, _⟩, ⟨⟨j0, j1⟩, _⟩, ⟨⟨m0, m1⟩, _⟩⟩ := hSw; (first | (go_simp; done) | (go_simp; with_reducible rfl)))
    focus assumption
    (try simp only [Act.put, List.setIfInBounds_toArray, List.set_cons_zero, List.set_cons_succ])
    refine' wpAnyH_take (i := 21) (v := _) ?_ ?_ ?_ ?_ ?_ ?_ ?_ ?_
    rotate_left 2
    focus (simp only [List.getElem?_toArray, List.getElem?_cons_succ, List.getElem?_cons_zero]; rfl)
    focus kernel_rfl
    focus kernel_rfl
    focus kernel_rfl
    focus exact (fun _ _ _ h => h)
    refine Or.inl ⟨?_, ?_⟩
    focus (go_simp; done)
    focus (intro w hSw; obtain ⟨_, ⟨⟨x0, x1⟩, _⟩, ⟨⟨y0, y1⟩, _⟩, ⟨⟨z0, z1⟩, _⟩, ⟨⟨j0, j1⟩, _⟩, ⟨⟨m0, m1⟩, _⟩⟩ := hSw; (first | (go_simp; done) | (go_simp; with_reducible rfl)))
    focus assumption
    (try simp only [Act.put, List.setIfInBounds_toArray, List.set_cons_zero, List.set_cons_succ])
    refine wpAnyH_ready (rs := [19]) (by kernel_rfl) (by simp) ?_
    refine' AllReadyH.cons ?_ (fun K hK => ?_) AllReadyH.nil
    rotate_left
    focus (simp only [List.getElem?_toArray, List.getElem?_cons_succ, List.getElem?_cons_zero]; rfl)
    go_simp
    (go_at_call 22; refine (iLeq_any z.lo z.hi y.lo y.hi s (H2.out.2.1) _).mono ?_; rintro e w4 ⟨rfl, hb⟩)
    refine hK.out _ _ (hHeld.below hb) (fun hHeld => ?_)
    clear hK K
    (try simp only [Act.put, List.setIfInBounds_toArray, List.set_cons_zero, List.set_cons_succ])
    clear hb
    refine wpAnyH_ready (rs := [22]) (by kernel_rfl) (by simp) ?_
    refine' AllReadyH.cons ?_ (fun K hK => ?_) AllReadyH.nil
    rotate_left
    focus (simp only [List.getElem?_toArray, List.getElem?_cons_succ, List.getElem?_cons_zero]; rfl)
    go_simp
    (go_at_call 22; refine (iLeq_any z.lo z.hi m.lo m.hi s (H2.out.2.2) _).mono ?_; rintro e w4 ⟨rfl, hb⟩)
    refine hK.out _ _ (hHeld.below hb) (fun hHeld => ?_)
    clear hK K
    (try simp only [Act.put, List.setIfInBounds_toArray, List.set_cons_zero, List.set_cons_succ])
    clear hb
    refine' wpAnyH_take (i := 23) (v := _) ?_ ?_ ?_ ?_ ?_ ?_ ?_ ?_
    rotate_left 2
    focus (simp only [List.getElem?_toArray, List.getElem?_cons_succ, List.getElem?_cons_zero]; rfl)
    focus kernel_rfl
    focus kernel_rfl
    focus kernel_rfl
    focus exact (fun _ _ _ h => h)
    refine Or.inl ⟨?_, ?_⟩
    focus (go_simp; done)
    focus (intro w hSw; obtain ⟨_, ⟨⟨x0, x1⟩, _⟩, ⟨⟨y0, y1⟩, _⟩, ⟨⟨z0, z1⟩, _⟩, ⟨⟨j0, j1⟩, _⟩, ⟨⟨m0, m1⟩, _⟩⟩ := hSw; (first | (go_simp; done) | (go_simp; with_reducible rfl)))
    focus assumption
    (try simp only [Act.put, List.setIfInBounds_toArray, List.set_cons_zero, List.set_cons_succ])
    refine' wpAnyH_take (i := 24) (v := _) ?_ ?_ ?_ ?_ ?_ ?_ ?_ ?_
    rotate_left 2
    focus (simp only [List.getElem?_toArray, List.getElem?_cons_succ, List.getElem?_cons_zero]; rfl)
    focus kernel_rfl
    focus kernel_rfl
    focus kernel_rfl
    focus exact (fun _ _ _ h => h)
    refine Or.inl ⟨?_, ?_⟩
    focus (go_simp; done)
    focus (intro w hSw; obtain ⟨_, ⟨⟨x0, x1⟩, _⟩, ⟨⟨y0, y1⟩, _⟩, ⟨⟨z0, z1⟩, _⟩, ⟨⟨j0, j1⟩, _⟩, ⟨⟨m0, m1⟩, _⟩⟩ := hSw; (first | (go_simp; done) | (go_simp; with_reducible rfl)))
    focus assumption
    (try simp only [Act.put, List.setIfInBounds_toArray, List.set_cons_zero, List.set_cons_succ])
    refine' wpAnyH_take (i := 25) (v := _) ?_ ?_ ?_ ?_ ?_ ?_ ?_ ?_
    rotate_left 2
    focus (simp only [List.getElem?_toArray, List.getElem?_cons_succ, List.getElem?_cons_zero]; rfl)
    focus kernel_rfl
    focus kernel_rfl
    focus kernel_rfl
    focus exact (fun _ _ _ h => h)
    refine Or.inl ⟨?_, ?_⟩
    focus (go_simp; done)
    focus (intro w hSw; obtain ⟨_, ⟨⟨x0, x1⟩, _⟩, ⟨⟨y0, y1⟩, _⟩, ⟨⟨z0, z1⟩, _⟩, ⟨⟨j0, j1⟩, _⟩, ⟨⟨m0, m1⟩, _⟩⟩ := hSw; (first | (go_simp; done) | (go_simp; with_reducible rfl)))
    focus assumption
    (try simp only [Act.put, List.setIfInBounds_toArray, List.set_cons_zero, List.set_cons_succ])
    refine wpAnyH_done (by kernel_rfl) ?_ _
    clear hT
    clear hv x0 x1 xg y0 y1 yg z0 z1 zg j0 j1 jg m0 m1 mg
    have hT := hHeld
    obtain ⟨hv, ⟨⟨x0, x1⟩, xg⟩, ⟨⟨y0, y1⟩, yg⟩, ⟨⟨z0, z1⟩, zg⟩, ⟨⟨j0, j1⟩, jg⟩, ⟨⟨m0, m1⟩, mg⟩⟩ := id hT
  all_goals
    clear H1 H2 H1t H2t
    go_wp2_with fail
    cases q1 : Iv.leq x y
    · have H3 := Lib.hid q1
      clear q1
      refine wp_region_held_drew (S := (fun w' => Fiv w x y z j m g1 g2 g3 g4 g5 w')) (by kernel_rfl) (hT.drew) (fun hHeld => ?_)
      refine' wpAnyH_take (i := 0) (v := _) ?_ ?_ ?_ ?_ ?_ ?_ ?_ ?_
      rotate_left 2
      focus (simp only [List.getElem?_toArray, List.getElem?_cons_succ, List.getElem?_cons_zero]; rfl)
      focus kernel_rfl
      focus kernel_rfl
      focus kernel_rfl
      focus exact (fun _ _ _ h => h)
      refine Or.inl ⟨?_, ?_⟩
      focus (go_simp; done)
      focus (intro w hSw; obtain ⟨_, ⟨⟨x0, x1⟩, _⟩, ⟨⟨y0, y1⟩, _⟩, ⟨⟨z0, z1⟩, _⟩, ⟨⟨j0, j1⟩, _⟩, ⟨⟨m0, m1⟩, _⟩⟩ := hSw; (first | (go_simp; done) | (go_simp; with_reducible rfl)))
      focus assumption
      (try simp only [Act.put, List.setIfInBounds_toArray, List.set_cons_zero, List.set_cons_succ])
      refine' wpAnyH_take (i := 1) (v := _) ?_ ?_ ?_ ?_ ?_ ?_ ?_ ?_
      rotate_left 2
      focus (simp only [List.getElem?_toArray, List.getElem?_cons_succ, List.getElem?_cons_zero]; rfl)
      focus kernel_rfl
      focus kernel_rfl
      focus kernel_rfl
      focus exact (fun _ _ _ h => h)
      refine Or.inl ⟨?_, ?_⟩
      focus (go_simp; done)
      focus (intro w hSw; obtain ⟨_, ⟨⟨x0, x1⟩, _⟩, ⟨⟨y0, y1⟩, _⟩, ⟨⟨z0, z1⟩, _⟩, ⟨⟨j0, j1⟩, _⟩, ⟨⟨m0, m1⟩, _⟩⟩ := hSw; (first | (go_simp; done) | (go_simp; with_reducible rfl)))
      focus assumption
      (try simp only [Act.put, List.setIfInBounds_toArray, List.set_cons_zero, List.set_cons_succ])
      refine' wpAnyH_take (i := 3) (v := _) ?_ ?_ ?_ ?_ ?_ ?_ ?_ ?_
      rotate_left 2
      focus (simp only [List.getElem?_toArray, List.getElem?_cons_succ, List.getElem?_cons_zero]; rfl)
      focus kernel_rfl
      focus kernel_rfl
      focus kernel_rfl
      focus exact (fun _ _ _ h => h)
      refine Or.inl ⟨?_, ?_⟩
      focus (go_simp; done)
      focus (intro w hSw; obtain ⟨_, ⟨⟨x0, x1⟩, _⟩, ⟨⟨y0, y1⟩, _⟩, ⟨⟨z0, z1⟩, _⟩, ⟨⟨j0, j1⟩, _⟩, ⟨⟨m0, m1⟩, _⟩⟩ := hSw; (first | (go_simp; done) | (go_simp; with_reducible rfl)))
      focus assumption
      (try simp only [Act.put, List.setIfInBounds_toArray, List.set_cons_zero, List.set_cons_succ])
      refine' wpAnyH_take (i := 4) (v := _) ?_ ?_ ?_ ?_ ?_ ?_ ?_ ?_
      rotate_left 2
      focus (simp only [List.getElem?_toArray, List.getElem?_cons_succ, List.getElem?_cons_zero]; rfl)
      focus kernel_rfl
      focus kernel_rfl
      focus kernel_rfl
      focus exact (fun _ _ _ h => h)
      refine Or.inl ⟨?_, ?_⟩
      focus (go_simp; done)
      focus (intro w hSw; obtain ⟨_, ⟨⟨x0, x1⟩, _⟩, ⟨⟨y0, y1⟩, _⟩, ⟨⟨z0, z1⟩, _⟩, ⟨⟨j0, j1⟩, _⟩, ⟨⟨m0, m1⟩, _⟩⟩ := hSw; (first | (go_simp; done) | (go_simp; with_reducible rfl)))
      focus assumption
      (try simp only [Act.put, List.setIfInBounds_toArray, List.set_cons_zero, List.set_cons_succ])
      refine wpAnyH_ready (rs := [2]) (by kernel_rfl) (by simp) ?_
      refine' AllReadyH.cons ?_ (fun K hK => ?_) AllReadyH.nil
      rotate_left
      focus (simp only [List.getElem?_toArray, List.getElem?_cons_succ, List.getElem?_cons_zero]; rfl)
      go_simp
      (go_at_call 24; refine (iJoin_any x.lo x.hi y.lo y.hi j HF.out.1 _).mono ?_; rintro e w4 ⟨rfl, hb⟩)
      refine hK.out _ _ (hHeld.below hb) (fun hHeld => ?_)
      clear hK K
      (try simp only [Act.put, List.setIfInBounds_toArray, List.set_cons_zero, List.set_cons_succ])
      clear hb
      refine wpAnyH_ready (rs := [5]) (by kernel_rfl) (by simp) ?_
      refine' AllReadyH.cons ?_ (fun K hK => ?_) AllReadyH.nil
      rotate_left
      focus (simp only [List.getElem?_toArray, List.getElem?_cons_succ, List.getElem?_cons_zero]; rfl)
      go_simp
      (go_at_call 24; refine (iJoin_any y.lo y.hi x.lo x.hi j HL.out.2.2.2.2.2.2.1 _).mono ?_; rintro e w4 ⟨rfl, hb⟩)
      refine hK.out _ _ (hHeld.below hb) (fun hHeld => ?_)
      clear hK K
      (try simp only [Act.put, List.setIfInBounds_toArray, List.set_cons_zero, List.set_cons_succ])
      clear hb
      refine' wpAnyH_take (i := 6) (v := _) ?_ ?_ ?_ ?_ ?_ ?_ ?_ ?_
      rotate_left 2
      focus (simp only [List.getElem?_toArray, List.getElem?_cons_succ, List.getElem?_cons_zero]; rfl)
      focus kernel_rfl
      focus kernel_rfl
      focus kernel_rfl
      focus exact (fun _ _ _ h => h)
      refine Or.inl ⟨?_, ?_⟩
      focus (go_simp; done)
      focus (intro w hSw; obtain ⟨_, ⟨⟨x0, x1⟩, _⟩, ⟨⟨y0, y1⟩, _⟩, ⟨⟨z0, z1⟩, _⟩, ⟨⟨j0, j1⟩, _⟩, ⟨⟨m0, m1⟩, _⟩⟩ := hSw; (first | (go_simp; done) | (go_simp; with_reducible rfl)))
      focus assumption
      (try simp only [Act.put, List.setIfInBounds_toArray, List.set_cons_zero, List.set_cons_succ])
      refine' wpAnyH_take (i := 7) (v := _) ?_ ?_ ?_ ?_ ?_ ?_ ?_ ?_
      rotate_left 2
      focus (simp only [List.getElem?_toArray, List.getElem?_cons_succ, List.getElem?_cons_zero]; rfl)
      focus kernel_rfl
      focus kernel_rfl
      focus kernel_rfl
      focus exact (fun _ _ _ h => h)
      refine Or.inl ⟨?_, ?_⟩
      focus (go_simp; done)
      focus (intro w hSw; obtain ⟨_, ⟨⟨x0, x1⟩, _⟩, ⟨⟨y0, y1⟩, _⟩, ⟨⟨z0, z1⟩, _⟩, ⟨⟨j0, j1⟩, _⟩, ⟨⟨m0, m1⟩, _⟩⟩ := hSw; (first | (go_simp; done) | (go_simp; with_reducible rfl)))
      focus assumption
      (try simp only [Act.put, List.setIfInBounds_toArray, List.set_cons_zero, List.set_cons_succ])
      refine' wpAnyH_take (i := 8) (v := _) ?_ ?_ ?_ ?_ ?_ ?_ ?_ ?_
      rotate_left 2
      focus (simp only [List.getElem?_toArray, List.getElem?_cons_succ, List.getElem?_cons_zero]; rfl)
      focus kernel_rfl
      focus kernel_rfl
      focus kernel_rfl
      focus exact (fun _ _ _ h => h)
      refine Or.inl ⟨?_, ?_⟩
      focus (go_simp; done)
      focus (intro w hSw; obtain ⟨_, ⟨⟨x0, x1⟩, _⟩, ⟨⟨y0, y1⟩, _⟩, ⟨⟨z0, z1⟩, _⟩, ⟨⟨j0, j1⟩, _⟩, ⟨⟨m0, m1⟩, _⟩⟩ := hSw; (first | (go_simp; done) | (go_simp; with_reducible rfl)))
      focus assumption
      (try simp only [Act.put, List.setIfInBounds_toArray, List.set_cons_zero, List.set_cons_succ])
      refine' wpAnyH_take (i := 9) (v := _) ?_ ?_ ?_ ?_ ?_ ?_ ?_ ?_
      rotate_left 2
      focus (simp only [List.getElem?_toArray, List.getElem?_cons_succ, List.getElem?_cons_zero]; rfl)
      focus kernel_rfl
      focus kernel_rfl
      focus kernel_rfl
      focus exact (fun _ _ _ h => h)
      refine Or.inl ⟨?_, ?_⟩
      focus (go_simp; done)
      focus (intro w hSw; obtain ⟨_, ⟨⟨x0, x1⟩, _⟩, ⟨⟨y0, y1⟩, _⟩, ⟨⟨z0, z1⟩, _⟩, ⟨⟨j0, j1⟩, _⟩, ⟨⟨m0, m1⟩, _⟩⟩ := hSw; (first | (go_simp; done) | (go_simp; with_reducible rfl)))
      focus assumption
      (try simp only [Act.put, List.setIfInBounds_toArray, List.set_cons_zero, List.set_cons_succ])
      refine' wpAnyH_take (i := 11) (v := _) ?_ ?_ ?_ ?_ ?_ ?_ ?_ ?_
      rotate_left 2
      focus (simp only [List.getElem?_toArray, List.getElem?_cons_succ, List.getElem?_cons_zero]; rfl)
      focus kernel_rfl
      focus kernel_rfl
      focus kernel_rfl
      focus exact (fun _ _ _ h => h)
      refine Or.inl ⟨?_, ?_⟩
      focus (go_simp; done)
      focus (intro w hSw; obtain ⟨_, ⟨⟨x0, x1⟩, _⟩, ⟨⟨y0, y1⟩, _⟩, ⟨⟨z0, z1⟩, _⟩, ⟨⟨j0, j1⟩, _⟩, ⟨⟨m0, m1⟩, _⟩⟩ := hSw; (first | (go_simp; done) | (go_simp; with_reducible rfl)))
      focus assumption
      (try simp only [Act.put, List.setIfInBounds_toArray, List.set_cons_zero, List.set_cons_succ])
      refine' wpAnyH_take (i := 12) (v := _) ?_ ?_ ?_ ?_ ?_ ?_ ?_ ?_
      rotate_left 2
      focus (simp only [List.getElem?_toArray, List.getElem?_cons_succ, List.getElem?_cons_zero]; rfl)
      focus kernel_rfl
      focus kernel_rfl
      focus kernel_rfl
      focus exact (fun _ _ _ h => h)
      refine Or.inl ⟨?_, ?_⟩
      focus (go_simp; done)
      focus (intro w hSw; obtain ⟨_, ⟨⟨x0, x1⟩, _⟩, ⟨⟨y0, y1⟩, _⟩, ⟨⟨z0, z1⟩, _⟩, ⟨⟨j0, j1⟩, _⟩, ⟨⟨m0, m1⟩, _⟩⟩ := hSw; (first | (go_simp; done) | (go_simp; with_reducible rfl)))
      focus assumption
      (try simp only [Act.put, List.setIfInBounds_toArray, List.set_cons_zero, List.set_cons_succ])
      refine wpAnyH_ready (rs := [10]) (by kernel_rfl) (by simp) ?_
      refine' AllReadyH.cons ?_ (fun K hK => ?_) AllReadyH.nil
      rotate_left
      focus (simp only [List.getElem?_toArray, List.getElem?_cons_succ, List.getElem?_cons_zero]; rfl)
      go_simp
      (go_at_call 25; refine (iMeet_any x.lo x.hi y.lo y.hi m HF.out.2 _).mono ?_; rintro e w4 ⟨rfl, hb⟩)
      refine hK.out _ _ (hHeld.below hb) (fun hHeld => ?_)
      clear hK K
      (try simp only [Act.put, List.setIfInBounds_toArray, List.set_cons_zero, List.set_cons_succ])
      clear hb
      refine wpAnyH_ready (rs := [13]) (by kernel_rfl) (by simp) ?_
      refine' AllReadyH.cons ?_ (fun K hK => ?_) AllReadyH.nil
      rotate_left
      focus (simp only [List.getElem?_toArray, List.getElem?_cons_succ, List.getElem?_cons_zero]; rfl)
      go_simp
      (go_at_call 25; refine (iMeet_any y.lo y.hi x.lo x.hi m HL.out.2.2.2.2.2.2.2.1 _).mono ?_; rintro e w4 ⟨rfl, hb⟩)
      refine hK.out _ _ (hHeld.below hb) (fun hHeld => ?_)
      clear hK K
      (try simp only [Act.put, List.setIfInBounds_toArray, List.set_cons_zero, List.set_cons_succ])
      clear hb
      refine' wpAnyH_take (i := 14) (v := _) ?_ ?_ ?_ ?_ ?_ ?_ ?_ ?_
      rotate_left 2
      focus (simp only [List.getElem?_toArray, List.getElem?_cons_succ, List.getElem?_cons_zero]; rfl)
      focus kernel_rfl
      focus kernel_rfl
      focus kernel_rfl
      focus exact (fun _ _ _ h => h)
      refine Or.inl ⟨?_, ?_⟩
      focus (go_simp; done)
      focus (intro w hSw; obtain ⟨_, ⟨⟨x0, x1⟩, _⟩, ⟨⟨y0, y1⟩, _⟩, ⟨⟨z0, z1⟩, _⟩, ⟨⟨j0, j1⟩, _⟩, ⟨⟨m0, m1⟩, _⟩⟩ := hSw; (first | (go_simp; done) | (go_simp; with_reducible rfl)))
      focus assumption
      (try simp only [Act.put, List.setIfInBounds_toArray, List.set_cons_zero, List.set_cons_succ])
      refine' wpAnyH_take (i := 15) (v := _) ?_ ?_ ?_ ?_ ?_ ?_ ?_ ?_
      rotate_left 2
      focus (simp only [List.getElem?_toArray, List.getElem?_cons_succ, List.getElem?_cons_zero]; rfl)
      focus kernel_rfl
      focus kernel_rfl
      focus kernel_rfl
      focus exact (fun _ _ _ h => h)
      refine Or.inl ⟨?_, ?_⟩
      focus (go_simp; done)
      focus (intro w hSw; obtain ⟨_, ⟨⟨x0, x1⟩, _⟩, ⟨⟨y0, y1⟩, _⟩, ⟨⟨z0, z1⟩, _⟩, ⟨⟨j0, j1⟩, _⟩, ⟨⟨m0, m1⟩, _⟩⟩ := hSw; (first | (go_simp; done) | (go_simp; with_reducible rfl)))
      focus assumption
      (try simp only [Act.put, List.setIfInBounds_toArray, List.set_cons_zero, List.set_cons_succ])
      refine' wpAnyH_take (i := 16) (v := _) ?_ ?_ ?_ ?_ ?_ ?_ ?_ ?_
      rotate_left 2
      focus (simp only [List.getElem?_toArray, List.getElem?_cons_succ, List.getElem?_cons_zero]; rfl)
      focus kernel_rfl
      focus kernel_rfl
      focus kernel_rfl
      focus exact (fun _ _ _ h => h)
      refine Or.inl ⟨?_, ?_⟩
      focus (go_simp; done)
      focus (intro w hSw; obtain ⟨_, ⟨⟨x0, x1⟩, _⟩, ⟨⟨y0, y1⟩, _⟩, ⟨⟨z0, z1⟩, _⟩, ⟨⟨j0, j1⟩, _⟩, ⟨⟨m0, m1⟩, _⟩⟩ := hSw; (first | (go_simp; done) | (go_simp; with_reducible rfl)))
      focus assumption
      (try simp only [Act.put, List.setIfInBounds_toArray, List.set_cons_zero, List.set_cons_succ])
      refine' wpAnyH_take (i := 17) (v := _) ?_ ?_ ?_ ?_ ?_ ?_ ?_ ?_
      rotate_left 2
      focus (simp only [List.getElem?_toArray, List.getElem?_cons_succ, List.getElem?_cons_zero]; rfl)
      focus kernel_rfl
      focus kernel_rfl
      focus kernel_rfl
      focus exact (fun _ _ _ h => h)
      refine Or.inl ⟨?_, ?_⟩
      focus (go_simp; done)
      focus (intro w hSw; obtain ⟨_, ⟨⟨x0, x1⟩, _⟩, ⟨⟨y0, y1⟩, _⟩, ⟨⟨z0, z1⟩, _⟩, ⟨⟨j0, j1⟩, _⟩, ⟨⟨m0, m1⟩, _⟩⟩ := hSw; (first | (go_simp; done) | (go_simp; with_reducible rfl)))
      focus assumption
      (try simp only [Act.put, List.setIfInBounds_toArray, List.set_cons_zero, List.set_cons_succ])
      refine' wpAnyH_take (i := 18) (v := _) ?_ ?_ ?_ ?_ ?_ ?_ ?_ ?_
      rotate_left 2
      focus (simp only [List.getElem?_toArray, List.getElem?_cons_succ, List.getElem?_cons_zero]; rfl)
      focus kernel_rfl
      focus kernel_rfl
      focus kernel_rfl
      focus exact (fun _ _ _ h => h)
      refine Or.inl ⟨?_, ?_⟩
      focus (go_simp; done)
      focus (intro w hSw; obtain ⟨_, ⟨⟨x0, x1⟩, _⟩, ⟨⟨y0, y1⟩, _⟩, ⟨⟨z0, z1⟩, _⟩, ⟨⟨j0, j1⟩, _⟩, ⟨⟨m0, m1⟩, _⟩⟩ := hSw; (first | (go_simp; done) | (go_simp; with_reducible rfl)))
      focus assumption
      (try simp only [Act.put, List.setIfInBounds_toArray, List.set_cons_zero, List.set_cons_succ])
      refine wpAnyH_ready (rs := [19]) (by kernel_rfl) (by simp) ?_
      refine' AllReadyH.cons ?_ (fun K hK => ?_) AllReadyH.nil
      rotate_left
      focus (simp only [List.getElem?_toArray, List.getElem?_cons_succ, List.getElem?_cons_zero]; rfl)
      go_simp
      (go_at_call 22; refine (iLeq_any x.lo x.hi x.lo x.hi true (HL.out.2.2.2.2.2.2.2.2) _).mono ?_; rintro e w4 ⟨rfl, hb⟩)
      refine hK.out _ _ (hHeld.below hb) (fun hHeld => ?_)
      clear hK K
      (try simp only [Act.put, List.setIfInBounds_toArray, List.set_cons_zero, List.set_cons_succ])
      clear hb
      refine' wpAnyH_take (i := 20) (v := _) ?_ ?_ ?_ ?_ ?_ ?_ ?_ ?_
      rotate_left 2
      focus (simp only [List.getElem?_toArray, List.getElem?_cons_succ, List.getElem?_cons_zero]; rfl)
      focus kernel_rfl
      focus kernel_rfl
      focus kernel_rfl
      focus exact (fun _ _ _ h => h)
      refine Or.inl ⟨?_, ?_⟩
      focus (go_simp; done)
      focus (intro w hSw; obtain ⟨_, ⟨⟨x0, x1⟩, _⟩, ⟨⟨y0, y1⟩, _⟩, ⟨⟨z0, z1⟩, _⟩, ⟨⟨j0, j1⟩, _⟩, ⟨⟨m0, m1⟩, _⟩⟩ := hSw; (first | (go_simp; done) | (go_simp; with_reducible rfl)))
      focus assumption
      (try simp only [Act.put, List.setIfInBounds_toArray, List.set_cons_zero, List.set_cons_succ])
      refine' wpAnyH_take (i := 21) (v := _) ?_ ?_ ?_ ?_ ?_ ?_ ?_ ?_
      rotate_left 2
      focus (simp only [List.getElem?_toArray, List.getElem?_cons_succ, List.getElem?_cons_zero]; rfl)
      focus kernel_rfl
      focus kernel_rfl
      focus kernel_rfl
      focus exact (fun _ _ _ h => h)
      refine Or.inl ⟨?_, ?_⟩
      focus (go_simp; done)
      focus (intro w hSw; obtain ⟨_, ⟨⟨x0, x1⟩, _⟩, ⟨⟨y0, y1⟩, _⟩, ⟨⟨z0, z1⟩, _⟩, ⟨⟨j0, j1⟩, _⟩, ⟨⟨m0, m1⟩, _⟩⟩ := hSw; (first | (go_simp; done) | (go_simp; with_reducible rfl)))
      focus assumption
      (try simp only [Act.put, List.setIfInBounds_toArray, List.set_cons_zero, List.set_cons_succ])
      refine' wpAnyH_take (i := 22) (v := _) ?_ ?_ ?_ ?_ ?_ ?_ ?_ ?_
      rotate_left 2
      focus (simp only [List.getElem?_toArray, List.getElem?_cons_succ, List.getElem?_cons_zero]; rfl)
      focus kernel_rfl
      focus kernel_rfl
      focus kernel_rfl
      focus exact (fun _ _ _ h => h)
      refine Or.inl ⟨?_, ?_⟩
      focus (go_simp; done)
      focus (intro w hSw; obtain ⟨_, ⟨⟨x0, x1⟩, _⟩, ⟨⟨y0, y1⟩, _⟩, ⟨⟨z0, z1⟩, _⟩, ⟨⟨j0, j1⟩, _⟩, ⟨⟨m0, m1⟩, _⟩⟩ := hSw; (first | (go_simp; done) | (go_simp; with_reducible rfl)))
      focus assumption
      (try simp only [Act.put, List.setIfInBounds_toArray, List.set_cons_zero, List.set_cons_succ])
      refine' wpAnyH_take (i := 23) (v := _) ?_ ?_ ?_ ?_ ?_ ?_ ?_ ?_
      rotate_left 2
      focus (simp only [List.getElem?_toArray, List.getElem?_cons_succ, List.getElem?_cons_zero]; rfl)
      focus kernel_rfl
      focus kernel_rfl
      focus kernel_rfl
      focus exact (fun _ _ _ h => h)
      refine Or.inl ⟨?_, ?_⟩
      focus (go_simp; done)
      focus (intro w hSw; obtain ⟨_, ⟨⟨x0, x1⟩, _⟩, ⟨⟨y0, y1⟩, _⟩, ⟨⟨z0, z1⟩, _⟩, ⟨⟨j0, j1⟩, _⟩, ⟨⟨m0, m1⟩, _⟩⟩ := hSw; (first | (go_simp; done) | (go_simp; with_reducible rfl)))
      focus assumption
      (try simp only [Act.put, List.setIfInBounds_toArray, List.set_cons_zero, List.set_cons_succ])
      refine wpAnyH_ready (rs := [24]) (by kernel_rfl) (by simp) ?_
      refine' AllReadyH.cons ?_ (fun K hK => ?_) AllReadyH.nil
      rotate_left
      focus (simp only [List.getElem?_toArray, List.getElem?_cons_succ, List.getElem?_cons_zero]; rfl)
      go_simp
      (go_at_call 22; refine (iLeq_any x.lo x.hi y.lo y.hi false (H3.out) _).mono ?_; rintro e w4 ⟨rfl, hb⟩)
      refine hK.out _ _ (hHeld.below hb) (fun hHeld => ?_)
      clear hK K
      (try simp only [Act.put, List.setIfInBounds_toArray, List.set_cons_zero, List.set_cons_succ])
      clear hb
      refine' wpAnyH_take (i := 25) (v := _) ?_ ?_ ?_ ?_ ?_ ?_ ?_ ?_
      rotate_left 2
      focus (simp only [List.getElem?_toArray, List.getElem?_cons_succ, List.getElem?_cons_zero]; rfl)
      focus kernel_rfl
      focus kernel_rfl
      focus kernel_rfl
      focus exact (fun _ _ _ h => h)
      refine Or.inl ⟨?_, ?_⟩
      focus (go_simp; done)
      focus (intro w hSw; obtain ⟨_, ⟨⟨x0, x1⟩, _⟩, ⟨⟨y0, y1⟩, _⟩, ⟨⟨z0, z1⟩, _⟩, ⟨⟨j0, j1⟩, _⟩, ⟨⟨m0, m1⟩, _⟩⟩ := hSw; (first | (go_simp; done) | (go_simp; with_reducible rfl)))
      focus assumption
      (try simp only [Act.put, List.setIfInBounds_toArray, List.set_cons_zero, List.set_cons_succ])
      refine' wpAnyH_take (i := 26) (v := _) ?_ ?_ ?_ ?_ ?_ ?_ ?_ ?_
      rotate_left 2
      focus (simp only [List.getElem?_toArray, List.getElem?_cons_succ, List.getElem?_cons_zero]; rfl)
      focus kernel_rfl
      focus kernel_rfl
      focus kernel_rfl
      focus exact (fun _ _ _ h => h)
      refine Or.inl ⟨?_, ?_⟩
      focus (go_simp; done)
      focus (intro w hSw; obtain ⟨_, ⟨⟨x0, x1⟩, _⟩, ⟨⟨y0, y1⟩, _⟩, ⟨⟨z0, z1⟩, _⟩, ⟨⟨j0, j1⟩, _⟩, ⟨⟨m0, m1⟩, _⟩⟩ := hSw; (first | (go_simp; done) | (go_simp; with_reducible rfl)))
      focus assumption
      (try simp only [Act.put, List.setIfInBounds_toArray, List.set_cons_zero, List.set_cons_succ])
      refine' wpAnyH_take (i := 27) (v := undef) ?_ ?_ ?_ ?_ ?_ ?_ ?_ ?_
      rotate_left 1
      focus (simp only [List.getElem?_toArray, List.getElem?_cons_succ, List.getElem?_cons_zero]; rfl)
      focus kernel_rfl
      focus kernel_rfl
      focus kernel_rfl
      focus exact (fun _ _ _ h => h)
      refine Or.inr ⟨?_, rfl⟩
      focus (go_simp; done)
      focus assumption
      (try simp only [Act.put, List.setIfInBounds_toArray, List.set_cons_zero, List.set_cons_succ])
      refine' wpAnyH_take (i := 28) (v := undef) ?_ ?_ ?_ ?_ ?_ ?_ ?_ ?_
      rotate_left 1
      focus (simp only [List.getElem?_toArray, List.getElem?_cons_succ, List.getElem?_cons_zero]; rfl)
      focus kernel_rfl
      focus kernel_rfl
      focus kernel_rfl
      focus exact (fun _ _ _ h => h)
      refine Or.inr ⟨?_, rfl⟩
      focus (go_simp; done)
      focus assumption
      (try simp only [Act.put, List.setIfInBounds_toArray, List.set_cons_zero, List.set_cons_succ])
      refine' wpAnyH_take (i := 29) (v := undef) ?_ ?_ ?_ ?_ ?_ ?_ ?_ ?_
      rotate_left 1
      focus (simp only [List.getElem?_toArray, List.getElem?_cons_succ, List.getElem?_cons_zero]; rfl)
      focus kernel_rfl
      focus kernel_rfl
      focus kernel_rfl
      focus exact (fun _ _ _ h => h)
      refine Or.inr ⟨?_, rfl⟩
      focus (go_simp; done)
      focus assumption
      (try simp only [Act.put, List.setIfInBounds_toArray, List.set_cons_zero, List.set_cons_succ])
      refine' wpAnyH_take (i := 30) (v := undef) ?_ ?_ ?_ ?_ ?_ ?_ ?_ ?_
      rotate_left 1
      focus (simp only [List.getElem?_toArray, List.getElem?_cons_succ, List.getElem?_cons_zero]; rfl)
      focus kernel_rfl
      focus kernel_rfl
      focus kernel_rfl
      focus exact (fun _ _ _ h => h)
      refine Or.inr ⟨?_, rfl⟩
      focus (go_simp; done)
      focus assumption
      (try simp only [Act.put, List.setIfInBounds_toArray, List.set_cons_zero, List.set_cons_succ])
      refine' wpAnyH_take (i := 31) (v := _) ?_ ?_ ?_ ?_ ?_ ?_ ?_ ?_
      rotate_left 2
      focus (simp only [List.getElem?_toArray, List.getElem?_cons_succ, List.getElem?_cons_zero]; rfl)
      focus kernel_rfl
      focus kernel_rfl
      focus kernel_rfl
      focus exact (fun _ _ _ h => h)
      refine Or.inl ⟨?_, ?_⟩
      focus (go_simp; done)
      focus (intro w hSw; obtain ⟨_, ⟨⟨x0, x1⟩, _⟩, ⟨⟨y0, y1⟩, _⟩, ⟨⟨z0, z1⟩, _⟩, ⟨⟨j0, j1⟩, _⟩, ⟨⟨m0, m1⟩, _⟩⟩ := hSw; (first | (go_simp; done) | (go_simp; with_reducible rfl)))
      focus assumption
      (try simp only [Act.put, List.setIfInBounds_toArray, List.set_cons_zero, List.set_cons_succ])
      refine' wpAnyH_take (i := 32) (v := _) ?_ ?_ ?_ ?_ ?_ ?_ ?_ ?_
      rotate_left 2
      focus (simp only [List.getElem?_toArray, List.getElem?_cons_succ, List.getElem?_cons_zero]; rfl)
      focus kernel_rfl
      focus kernel_rfl
      focus kernel_rfl
      focus exact (fun _ _ _ h => h)
      refine Or.inl ⟨?_, ?_⟩
      focus (go_simp; done)
      focus (intro w hSw; obtain ⟨_, ⟨⟨x0, x1⟩, _⟩, ⟨⟨y0, y1⟩, _⟩, ⟨⟨z0, z1⟩, _⟩, ⟨⟨j0, j1⟩, _⟩, ⟨⟨m0, m1⟩, _⟩⟩ := hSw; (first | (go_simp; done) | (go_simp; with_reducible rfl)))
      focus assumption
      (try simp only [Act.put, List.setIfInBounds_toArray, List.set_cons_zero, List.set_cons_succ])
      refine' wpAnyH_take (i := 33) (v := undef) ?_ ?_ ?_ ?_ ?_ ?_ ?_ ?_
      rotate_left 1
      focus (simp only [List.getElem?_toArray, List.getElem?_cons_succ, List.getElem?_cons_zero]; rfl)
      focus kernel_rfl
      focus kernel_rfl
      focus kernel_rfl
      focus exact (fun _ _ _ h => h)
      refine Or.inr ⟨?_, rfl⟩
      focus (go_simp; done)
      focus assumption
      (try simp only [Act.put, List.setIfInBounds_toArray, List.set_cons_zero, List.set_cons_succ])
      refine' wpAnyH_take (i := 34) (v := undef) ?_ ?_ ?_ ?_ ?_ ?_ ?_ ?_
      rotate_left 1
      focus (simp only [List.getElem?_toArray, List.getElem?_cons_succ, List.getElem?_cons_zero]; rfl)
      focus kernel_rfl
      focus kernel_rfl
      focus kernel_rfl
      focus exact (fun _ _ _ h => h)
      refine Or.inr ⟨?_, rfl⟩
      focus (go_simp; done)
      focus assumption
      (try simp only [Act.put, List.setIfInBounds_toArray, List.set_cons_zero, List.set_cons_succ])
      refine' wpAnyH_take (i := 35) (v := undef) ?_ ?_ ?_ ?_ ?_ ?_ ?_ ?_
      rotate_left 1
      focus (simp only [List.getElem?_toArray, List.getElem?_cons_succ, List.getElem?_cons_zero]; rfl)
      focus kernel_rfl
      focus kernel_rfl
      focus kernel_rfl
      focus exact (fun _ _ _ h => h)
      refine Or.inr ⟨?_, rfl⟩
      focus (go_simp; done)
      focus assumption
      (try simp only [Act.put, List.setIfInBounds_toArray, List.set_cons_zero, List.set_cons_succ])
      refine' wpAnyH_take (i := 36) (v := _) ?_ ?_ ?_ ?_ ?_ ?_ ?_ ?_
      rotate_left 2
      focus (simp only [List.getElem?_toArray, List.getElem?_cons_succ, List.getElem?_cons_zero]; rfl)
      focus kernel_rfl
      focus kernel_rfl
      focus kernel_rfl
      focus exact (fun _ _ _ h => h)
      refine Or.inl ⟨?_, ?_⟩
      focus (go_simp; done)
      focus (intro w hSw; obtain ⟨_, ⟨⟨x0, x1⟩, _⟩, ⟨⟨y0, y1⟩, _⟩, ⟨⟨z0, z1⟩, _⟩, ⟨⟨j0, j1⟩, _⟩, ⟨⟨m0, m1⟩, _⟩⟩ := hSw; (first | (go_simp; done) | (go_simp; with_reducible rfl)))
      focus assumption
      (try simp only [Act.put, List.setIfInBounds_toArray, List.set_cons_zero, List.set_cons_succ])
      refine' wpAnyH_take (i := 37) (v := _) ?_ ?_ ?_ ?_ ?_ ?_ ?_ ?_
      rotate_left 2
      focus (simp only [List.getElem?_toArray, List.getElem?_cons_succ, List.getElem?_cons_zero]; rfl)
      focus kernel_rfl
      focus kernel_rfl
      focus kernel_rfl
      focus exact (fun _ _ _ h => h)
      refine Or.inl ⟨?_, ?_⟩
      focus (go_simp; done)
      focus (intro w hSw; obtain ⟨_, ⟨⟨x0, x1⟩, _⟩, ⟨⟨y0, y1⟩, _⟩, ⟨⟨z0, z1⟩, _⟩, ⟨⟨j0, j1⟩, _⟩, ⟨⟨m0, m1⟩, _⟩⟩ := hSw; (first | (go_simp; done) | (go_simp; with_reducible rfl)))
      focus assumption
      (try simp only [Act.put, List.setIfInBounds_toArray, List.set_cons_zero, List.set_cons_succ])
      refine' wpAnyH_take (i := 38) (v := _) ?_ ?_ ?_ ?_ ?_ ?_ ?_ ?_
      rotate_left 2
      focus (simp only [List.getElem?_toArray, List.getElem?_cons_succ, List.getElem?_cons_zero]; rfl)
      focus kernel_rfl
      focus kernel_rfl
      focus kernel_rfl
      focus exact (fun _ _ _ h => h)
      refine Or.inl ⟨?_, ?_⟩
      focus (go_simp; done)
      focus (intro w hSw; obtain ⟨_, ⟨⟨x0, x1⟩, _⟩, ⟨⟨y0, y1⟩, _⟩, ⟨⟨z0, z1⟩, _⟩, ⟨⟨j0, j1⟩, _⟩, ⟨⟨m0, m1⟩, _⟩⟩ := hSw; (first | (go_simp; done) | (go_simp; with_reducible rfl)))
      focus assumption
      (try simp only [Act.put, List.setIfInBounds_toArray, List.set_cons_zero, List.set_cons_succ])
      refine wpAnyH_ready (rs := [39]) (by kernel_rfl) (by simp) ?_
      refine' AllReadyH.cons ?_ (fun K hK => ?_) AllReadyH.nil
      rotate_left
      focus (simp only [List.getElem?_toArray, List.getElem?_cons_succ, List.getElem?_cons_zero]; rfl)
      go_simp
      (go_at_call 14; refine (awake_any _).mono ?_; rintro e w4 ⟨rfl, hb⟩)
      refine hK.out _ _ (hHeld.below hb) (fun hHeld => ?_)
      clear hK K
      (try simp only [Act.put, List.setIfInBounds_toArray, List.set_cons_zero, List.set_cons_succ])
      clear hb
      refine' wpAnyH_take (i := 40) (v := _) ?_ ?_ ?_ ?_ ?_ ?_ ?_ ?_
      rotate_left 2
      focus (simp only [List.getElem?_toArray, List.getElem?_cons_succ, List.getElem?_cons_zero]; rfl)
      focus kernel_rfl
      focus kernel_rfl
      focus kernel_rfl
      focus exact (fun _ _ _ h => h)
      refine Or.inl ⟨?_, ?_⟩
      focus (go_simp; done)
      focus (intro w hSw; obtain ⟨_, ⟨⟨x0, x1⟩, _⟩, ⟨⟨y0, y1⟩, _⟩, ⟨⟨z0, z1⟩, _⟩, ⟨⟨j0, j1⟩, _⟩, ⟨⟨m0, m1⟩, _⟩⟩ := hSw; (first | (go_simp; done) | (go_simp; with_reducible rfl)))
      focus assumption
      (try simp only [Act.put, List.setIfInBounds_toArray, List.set_cons_zero, List.set_cons_succ])
      refine' wpAnyH_take (i := 41) (v := _) ?_ ?_ ?_ ?_ ?_ ?_ ?_ ?_
      rotate_left 2
      focus (simp only [List.getElem?_toArray, List.getElem?_cons_succ, List.getElem?_cons_zero]; rfl)
      focus kernel_rfl
      focus kernel_rfl
      focus kernel_rfl
      focus exact (fun _ _ _ h => h)
      refine Or.inl ⟨?_, ?_⟩
      focus (go_simp; done)
      focus (intro w hSw; obtain ⟨_, ⟨⟨x0, x1⟩, _⟩, ⟨⟨y0, y1⟩, _⟩, ⟨⟨z0, z1⟩, _⟩, ⟨⟨j0, j1⟩, _⟩, ⟨⟨m0, m1⟩, _⟩⟩ := hSw; (first | (go_simp; done) | (go_simp; with_reducible rfl)))
      focus assumption
      (try simp only [Act.put, List.setIfInBounds_toArray, List.set_cons_zero, List.set_cons_succ])
      refine wpAnyH_done (by kernel_rfl) ?_ _
      clear hT
      clear hv x0 x1 xg y0 y1 yg z0 z1 zg j0 j1 jg m0 m1 mg
      have hT := hHeld
      obtain ⟨hv, ⟨⟨x0, x1⟩, xg⟩, ⟨⟨y0, y1⟩, yg⟩, ⟨⟨z0, z1⟩, zg⟩, ⟨⟨j0, j1⟩, jg⟩, ⟨⟨m0, m1⟩, mg⟩⟩ := id hT
      go_wp2
      go_ret
      exact ⟨rfl, hv⟩
    · cases q2 : Iv.leq y x
      · have H3 := Lib.hid (And.intro q1 q2)
        clear q1 q2
        refine wp_region_held_drew (S := (fun w' => Fiv w x y z j m g1 g2 g3 g4 g5 w')) (by kernel_rfl) (hT.drew) (fun hHeld => ?_)
        refine' wpAnyH_take (i := 0) (v := _) ?_ ?_ ?_ ?_ ?_ ?_ ?_ ?_
        rotate_left 2
        focus (simp only [List.getElem?_toArray, List.getElem?_cons_succ, List.getElem?_cons_zero]; rfl)
        focus kernel_rfl
        focus kernel_rfl
        focus kernel_rfl
        focus exact (fun _ _ _ h => h)
        refine Or.inl ⟨?_, ?_⟩
        focus (go_simp; done)
        focus (intro w hSw; obtain ⟨_, ⟨⟨x0, x1⟩, _⟩, ⟨⟨y0, y1⟩, _⟩, ⟨⟨z0, z1⟩, _⟩, ⟨⟨j0, j1⟩, _⟩, ⟨⟨m0, m1⟩, _⟩⟩ := hSw; (first | (go_simp; done) | (go_simp; with_reducible rfl)))
        focus assumption
        (try simp only [Act.put, List.setIfInBounds_toArray, List.set_cons_zero, List.set_cons_succ])
        refine' wpAnyH_take (i := 1) (v := _) ?_ ?_ ?_ ?_ ?_ ?_ ?_ ?_
        rotate_left 2
        focus (simp only [List.getElem?_toArray, List.getElem?_cons_succ, List.getElem?_cons_zero]; rfl)
        focus kernel_rfl
        focus kernel_rfl
        focus kernel_rfl
        focus exact (fun _ _ _ h => h)
        refine Or.inl ⟨?_, ?_⟩
        focus (go_simp; done)
        focus (intro w hSw; obtain ⟨_, ⟨⟨x0, x1⟩, _⟩, ⟨⟨y0, y1⟩, _⟩, ⟨⟨z0, z1⟩, _⟩, ⟨⟨j0, j1⟩, _⟩, ⟨⟨m0, m1⟩, _⟩⟩ := hSw; (first | (go_simp; done) | (go_simp; with_reducible rfl)))
        focus assumption
        (try simp only [Act.put, List.setIfInBounds_toArray, List.set_cons_zero, List.set_cons_succ])
        refine' wpAnyH_take (i := 3) (v := _) ?_ ?_ ?_ ?_ ?_ ?_ ?_ ?_
        rotate_left 2
        focus (simp only [List.getElem?_toArray, List.getElem?_cons_succ, List.getElem?_cons_zero]; rfl)
        focus kernel_rfl
        focus kernel_rfl
        focus kernel_rfl
        focus exact (fun _ _ _ h => h)
        refine Or.inl ⟨?_, ?_⟩
        focus (go_simp; done)
        focus (intro w hSw; obtain ⟨_, ⟨⟨x0, x1⟩, _⟩, ⟨⟨y0, y1⟩, _⟩, ⟨⟨z0, z1⟩, _⟩, ⟨⟨j0, j1⟩, _⟩, ⟨⟨m0, m1⟩, _⟩⟩ := hSw; (first | (go_simp; done) | (go_simp; with_reducible rfl)))
        focus assumption
        (try simp only [Act.put, List.setIfInBounds_toArray, List.set_cons_zero, List.set_cons_succ])
        refine' wpAnyH_take (i := 4) (v := _) ?_ ?_ ?_ ?_ ?_ ?_ ?_ ?_
        rotate_left 2
        focus (simp only [List.getElem?_toArray, List.getElem?_cons_succ, List.getElem?_cons_zero]; rfl)
        focus kernel_rfl
        focus kernel_rfl
        focus kernel_rfl
        focus exact (fun _ _ _ h => h)
        refine Or.inl ⟨?_, ?_⟩
        focus (go_simp; done)
        focus (intro w hSw; obtain ⟨_, ⟨⟨x0, x1⟩, _⟩, ⟨⟨y0, y1⟩, _⟩, ⟨⟨z0, z1⟩, _⟩, ⟨⟨j0, j1⟩, _⟩, ⟨⟨m0, m1⟩, _⟩⟩ := hSw; (first | (go_simp; done) | (go_simp; with_reducible rfl)))
        focus assumption
        (try simp only [Act.put, List.setIfInBounds_toArray, List.set_cons_zero, List.set_cons_succ])
        refine wpAnyH_ready (rs := [2]) (by kernel_rfl) (by simp) ?_
        refine' AllReadyH.cons ?_ (fun K hK => ?_) AllReadyH.nil
        rotate_left
        focus (simp only [List.getElem?_toArray, List.getElem?_cons_succ, List.getElem?_cons_zero]; rfl)
        go_simp
        (go_at_call 24; refine (iJoin_any x.lo x.hi y.lo y.hi j HF.out.1 _).mono ?_; rintro e w4 ⟨rfl, hb⟩)
        refine hK.out _ _ (hHeld.below hb) (fun hHeld => ?_)
        clear hK K
        (try simp only [Act.put, List.setIfInBounds_toArray, List.set_cons_zero, List.set_cons_succ])
        clear hb
        refine wpAnyH_ready (rs := [5]) (by kernel_rfl) (by simp) ?_
        refine' AllReadyH.cons ?_ (fun K hK => ?_) AllReadyH.nil
        rotate_left
        focus (simp only [List.getElem?_toArray, List.getElem?_cons_succ, List.getElem?_cons_zero]; rfl)
        go_simp
        (go_at_call 24; refine (iJoin_any y.lo y.hi x.lo x.hi j HL.out.2.2.2.2.2.2.1 _).mono ?_; rintro e w4 ⟨rfl, hb⟩)
        refine hK.out _ _ (hHeld.below hb) (fun hHeld => ?_)
        clear hK K
        (try simp only [Act.put, List.setIfInBounds_toArray, List.set_cons_zero, List.set_cons_succ])
        clear hb
        refine' wpAnyH_take (i := 6) (v := _) ?_ ?_ ?_ ?_ ?_ ?_ ?_ ?_
        rotate_left 2
        focus (simp only [List.getElem?_toArray, List.getElem?_cons_succ, List.getElem?_cons_zero]; rfl)
        focus kernel_rfl
        focus kernel_rfl
        focus kernel_rfl
        focus exact (fun _ _ _ h => h)
        refine Or.inl ⟨?_, ?_⟩
        focus (go_simp; done)
        focus (intro w hSw; obtain ⟨_, ⟨⟨x0, x1⟩, _⟩, ⟨⟨y0, y1⟩, _⟩, ⟨⟨z0, z1⟩, _⟩, ⟨⟨j0, j1⟩, _⟩, ⟨⟨m0, m1⟩, _⟩⟩ := hSw; (first | (go_simp; done) | (go_simp; with_reducible rfl)))
        focus assumption
        (try simp only [Act.put, List.setIfInBounds_toArray, List.set_cons_zero, List.set_cons_succ])
        refine' wpAnyH_take (i := 7) (v := _) ?_ ?_ ?_ ?_ ?_ ?_ ?_ ?_
        rotate_left 2
        focus (simp only [List.getElem?_toArray, List.getElem?_cons_succ, List.getElem?_cons_zero]; rfl)
        focus kernel_rfl
        focus kernel_rfl
        focus kernel_rfl
        focus exact (fun _ _ _ h => h)
        refine Or.inl ⟨?_, ?_⟩
        focus (go_simp; done)
        focus (intro w hSw; obtain ⟨_, ⟨⟨x0, x1⟩, _⟩, ⟨⟨y0, y1⟩, _⟩, ⟨⟨z0, z1⟩, _⟩, ⟨⟨j0, j1⟩, _⟩, ⟨⟨m0, m1⟩, _⟩⟩ := hSw; (first | (go_simp; done) | (go_simp; with_reducible rfl)))
        focus assumption
        (try simp only [Act.put, List.setIfInBounds_toArray, List.set_cons_zero, List.set_cons_succ])
        refine' wpAnyH_take (i := 8) (v := _) ?_ ?_ ?_ ?_ ?_ ?_ ?_ ?_
        rotate_left 2
        focus (simp only [List.getElem?_toArray, List.getElem?_cons_succ, List.getElem?_cons_zero]; rfl)
        focus kernel_rfl
        focus kernel_rfl
        focus kernel_rfl
        focus exact (fun _ _ _ h => h)
        refine Or.inl ⟨?_, ?_⟩
        focus (go_simp; done)
        focus (intro w hSw; obtain ⟨_, ⟨⟨x0, x1⟩, _⟩, ⟨⟨y0, y1⟩, _⟩, ⟨⟨z0, z1⟩, _⟩, ⟨⟨j0, j1⟩, _⟩, ⟨⟨m0, m1⟩, _⟩⟩ := hSw; (first | (go_simp; done) | (go_simp; with_reducible rfl)))
        focus assumption
        (try simp only [Act.put, List.setIfInBounds_toArray, List.set_cons_zero, List.set_cons_succ])
        refine' wpAnyH_take (i := 9) (v := _) ?_ ?_ ?_ ?_ ?_ ?_ ?_ ?_
        rotate_left 2
        focus (simp only [List.getElem?_toArray, List.getElem?_cons_succ, List.getElem?_cons_zero]; rfl)
        focus kernel_rfl
        focus kernel_rfl
        focus kernel_rfl
        focus exact (fun _ _ _ h => h)
        refine Or.inl ⟨?_, ?_⟩
        focus (go_simp; done)
        focus (intro w hSw; obtain ⟨_, ⟨⟨x0, x1⟩, _⟩, ⟨⟨y0, y1⟩, _⟩, ⟨⟨z0, z1⟩, _⟩, ⟨⟨j0, j1⟩, _⟩, ⟨⟨m0, m1⟩, _⟩⟩ := hSw; (first | (go_simp; done) | (go_simp; with_reducible rfl)))
        focus assumption
        (try simp only [Act.put, List.setIfInBounds_toArray, List.set_cons_zero, List.set_cons_succ])
        refine' wpAnyH_take (i := 11) (v := _) ?_ ?_ ?_ ?_ ?_ ?_ ?_ ?_
        rotate_left 2
        focus (simp only [List.getElem?_toArray, List.getElem?_cons_succ, List.getElem?_cons_zero]; rfl)
        focus kernel_rfl
        focus kernel_rfl
        focus kernel_rfl
        focus exact (fun _ _ _ h => h)
        refine Or.inl ⟨?_, ?_⟩
        focus (go_simp; done)
        focus (intro w hSw; obtain ⟨_, ⟨⟨x0, x1⟩, _⟩, ⟨⟨y0, y1⟩, _⟩, ⟨⟨z0, z1⟩, _⟩, ⟨⟨j0, j1⟩, _⟩, ⟨⟨m0, m1⟩, _⟩⟩ := hSw; (first | (go_simp; done) | (go_simp; with_reducible rfl)))
        focus assumption
        (try simp only [Act.put, List.setIfInBounds_toArray, List.set_cons_zero, List.set_cons_succ])
        refine' wpAnyH_take (i := 12) (v := _) ?_ ?_ ?_ ?_ ?_ ?_ ?_ ?_
        rotate_left 2
        focus (simp only [List.getElem?_toArray, List.getElem?_cons_succ, List.getElem?_cons_zero]; rfl)
        focus kernel_rfl
        focus kernel_rfl
        focus kernel_rfl
        focus exact (fun _ _ _ h => h)
        refine Or.inl ⟨?_, ?_⟩
        focus (go_simp; done)
        focus (intro w hSw; obtain ⟨_, ⟨⟨x0, x1⟩, _⟩, ⟨⟨y0, y1⟩, _⟩, ⟨⟨z0, z1⟩, _⟩, ⟨⟨j0, j1⟩, _⟩, ⟨⟨m0, m1⟩, _⟩⟩ := hSw; (first | (go_simp; done) | (go_simp; with_reducible rfl)))
        focus assumption
        (try simp only [Act.put, List.setIfInBounds_toArray, List.set_cons_zero, List.set_cons_succ])
        refine wpAnyH_ready (rs := [10]) (by kernel_rfl) (by simp) ?_
        refine' AllReadyH.cons ?_ (fun K hK => ?_) AllReadyH.nil
        rotate_left
        focus (simp only [List.getElem?_toArray, List.getElem?_cons_succ, List.getElem?_cons_zero]; rfl)
        go_simp
        (go_at_call 25; refine (iMeet_any x.lo x.hi y.lo y.hi m HF.out.2 _).mono ?_; rintro e w4 ⟨rfl, hb⟩)
        refine hK.out _ _ (hHeld.below hb) (fun hHeld => ?_)
        clear hK K
        (try simp only [Act.put, List.setIfInBounds_toArray, List.set_cons_zero, List.set_cons_succ])
        clear hb
        refine wpAnyH_ready (rs := [13]) (by kernel_rfl) (by simp) ?_
        refine' AllReadyH.cons ?_ (fun K hK => ?_) AllReadyH.nil
        rotate_left
        focus (simp only [List.getElem?_toArray, List.getElem?_cons_succ, List.getElem?_cons_zero]; rfl)
        go_simp
        (go_at_call 25; refine (iMeet_any y.lo y.hi x.lo x.hi m HL.out.2.2.2.2.2.2.2.1 _).mono ?_; rintro e w4 ⟨rfl, hb⟩)
        refine hK.out _ _ (hHeld.below hb) (fun hHeld => ?_)
        clear hK K
        (try simp only [Act.put, List.setIfInBounds_toArray, List.set_cons_zero, List.set_cons_succ])
        clear hb
        refine' wpAnyH_take (i := 14) (v := _) ?_ ?_ ?_ ?_ ?_ ?_ ?_ ?_
        rotate_left 2
        focus (simp only [List.getElem?_toArray, List.getElem?_cons_succ, List.getElem?_cons_zero]; rfl)
        focus kernel_rfl
        focus kernel_rfl
        focus kernel_rfl
        focus exact (fun _ _ _ h => h)
        refine Or.inl ⟨?_, ?_⟩
        focus (go_simp; done)
        focus (intro w hSw; obtain ⟨_, ⟨⟨x0, x1⟩, _⟩, ⟨⟨y0, y1⟩, _⟩, ⟨⟨z0, z1⟩, _⟩, ⟨⟨j0, j1⟩, _⟩, ⟨⟨m0, m1⟩, _⟩⟩ := hSw; (first | (go_simp; done) | (go_simp; with_reducible rfl)))
        focus assumption
        (try simp only [Act.put, List.setIfInBounds_toArray, List.set_cons_zero, List.set_cons_succ])
        refine' wpAnyH_take (i := 15) (v := _) ?_ ?_ ?_ ?_ ?_ ?_ ?_ ?_
        rotate_left 2
        focus (simp only [List.getElem?_toArray, List.getElem?_cons_succ, List.getElem?_cons_zero]; rfl)
        focus kernel_rfl
        focus kernel_rfl
        focus kernel_rfl
        focus exact (fun _ _ _ h => h)
        refine Or.inl ⟨?_, ?_⟩
        focus (go_simp; done)
        focus (intro w hSw; obtain ⟨_, ⟨⟨x0, x1⟩, _⟩, ⟨⟨y0, y1⟩, _⟩, ⟨⟨z0, z1⟩, _⟩, ⟨⟨j0, j1⟩, _⟩, ⟨⟨m0, m1⟩, _⟩⟩ := hSw; (first | (go_simp; done) | (go_simp; with_reducible rfl)))
        focus assumption
        (try simp only [Act.put, List.setIfInBounds_toArray, List.set_cons_zero, List.set_cons_succ])
        refine' wpAnyH_take (i := 16) (v := _) ?_ ?_ ?_ ?_ ?_ ?_ ?_ ?_
        rotate_left 2
        focus (simp only [List.getElem?_toArray, List.getElem?_cons_succ, List.getElem?_cons_zero]; rfl)
        focus kernel_rfl
        focus kernel_rfl
        focus kernel_rfl
        focus exact (fun _ _ _ h => h)
        refine Or.inl ⟨?_, ?_⟩
        focus (go_simp; done)
        focus (intro w hSw; obtain ⟨_, ⟨⟨x0, x1⟩, _⟩, ⟨⟨y0, y1⟩, _⟩, ⟨⟨z0, z1⟩, _⟩, ⟨⟨j0, j1⟩, _⟩, ⟨⟨m0, m1⟩, _⟩⟩ := hSw; (first | (go_simp; done) | (go_simp; with_reducible rfl)))
        focus assumption
        (try simp only [Act.put, List.setIfInBounds_toArray, List.set_cons_zero, List.set_cons_succ])
        refine' wpAnyH_take (i := 17) (v := _) ?_ ?_ ?_ ?_ ?_ ?_ ?_ ?_
        rotate_left 2
        focus (simp only [List.getElem?_toArray, List.getElem?_cons_succ, List.getElem?_cons_zero]; rfl)
        focus kernel_rfl
        focus kernel_rfl
        focus kernel_rfl
        focus exact (fun _ _ _ h => h)
        refine Or.inl ⟨?_, ?_⟩
        focus (go_simp; done)
        focus (intro w hSw; obtain ⟨_, ⟨⟨x0, x1⟩, _⟩, ⟨⟨y0, y1⟩, _⟩, ⟨⟨z0, z1⟩, _⟩, ⟨⟨j0, j1⟩, _⟩, ⟨⟨m0, m1⟩, _⟩⟩ := hSw; (first | (go_simp; done) | (go_simp; with_reducible rfl)))
        focus assumption
        (try simp only [Act.put, List.setIfInBounds_toArray, List.set_cons_zero, List.set_cons_succ])
        refine' wpAnyH_take (i := 18) (v := _) ?_ ?_ ?_ ?_ ?_ ?_ ?_ ?_
        rotate_left 2
        focus (simp only [List.getElem?_toArray, List.getElem?_cons_succ, List.getElem?_cons_zero]; rfl)
        focus kernel_rfl
        focus kernel_rfl
        focus kernel_rfl
        focus exact (fun _ _ _ h => h)
        refine Or.inl ⟨?_, ?_⟩
        focus (go_simp; done)
        focus (intro w hSw; obtain ⟨_, ⟨⟨x0, x1⟩, _⟩, ⟨⟨y0, y1⟩, _⟩, ⟨⟨z0, z1⟩, _⟩, ⟨⟨j0, j1⟩, _⟩, ⟨⟨m0, m1⟩, _⟩⟩ := hSw; (first | (go_simp; done) | (go_simp; with_reducible rfl)))
        focus assumption
        (try simp only [Act.put, List.setIfInBounds_toArray, List.set_cons_zero, List.set_cons_succ])
        refine wpAnyH_ready (rs := [19]) (by kernel_rfl) (by simp) ?_
        refine' AllReadyH.cons ?_ (fun K hK => ?_) AllReadyH.nil
        rotate_left
        focus (simp only [List.getElem?_toArray, List.getElem?_cons_succ, List.getElem?_cons_zero]; rfl)
        go_simp
        (go_at_call 22; refine (iLeq_any x.lo x.hi x.lo x.hi true (HL.out.2.2.2.2.2.2.2.2) _).mono ?_; rintro e w4 ⟨rfl, hb⟩)
        refine hK.out _ _ (hHeld.below hb) (fun hHeld => ?_)
        clear hK K
        (try simp only [Act.put, List.setIfInBounds_toArray, List.set_cons_zero, List.set_cons_succ])
        clear hb
        refine' wpAnyH_take (i := 20) (v := _) ?_ ?_ ?_ ?_ ?_ ?_ ?_ ?_
        rotate_left 2
        focus (simp only [List.getElem?_toArray, List.getElem?_cons_succ, List.getElem?_cons_zero]; rfl)
        focus kernel_rfl
        focus kernel_rfl
        focus kernel_rfl
        focus exact (fun _ _ _ h => h)
        refine Or.inl ⟨?_, ?_⟩
        focus (go_simp; done)
        focus (intro w hSw; obtain ⟨_, ⟨⟨x0, x1⟩, _⟩, ⟨⟨y0, y1⟩, _⟩, ⟨⟨z0, z1⟩, _⟩, ⟨⟨j0, j1⟩, _⟩, ⟨⟨m0, m1⟩, _⟩⟩ := hSw; (first | (go_simp; done) | (go_simp; with_reducible rfl)))
        focus assumption
        (try simp only [Act.put, List.setIfInBounds_toArray, List.set_cons_zero, List.set_cons_succ])
        refine' wpAnyH_take (i := 21) (v := _) ?_ ?_ ?_ ?_ ?_ ?_ ?_ ?_
        rotate_left 2
        focus (simp only [List.getElem?_toArray, List.getElem?_cons_succ, List.getElem?_cons_zero]; rfl)
        focus kernel_rfl
        focus kernel_rfl
        focus kernel_rfl
        focus exact (fun _ _ _ h => h)
        refine Or.inl ⟨?_, ?_⟩
        focus (go_simp; done)
        focus (intro w hSw; obtain ⟨_, ⟨⟨x0, x1⟩, _⟩, ⟨⟨y0, y1⟩, _⟩, ⟨⟨z0, z1⟩, _⟩, ⟨⟨j0, j1⟩, _⟩, ⟨⟨m0, m1⟩, _⟩⟩ := hSw; (first | (go_simp; done) | (go_simp; with_reducible rfl)))
        focus assumption
        (try simp only [Act.put, List.setIfInBounds_toArray, List.set_cons_zero, List.set_cons_succ])
        refine' wpAnyH_take (i := 22) (v := _) ?_ ?_ ?_ ?_ ?_ ?_ ?_ ?_
        rotate_left 2
        focus (simp only [List.getElem?_toArray, List.getElem?_cons_succ, List.getElem?_cons_zero]; rfl)
        focus kernel_rfl
        focus kernel_rfl
        focus kernel_rfl
        focus exact (fun _ _ _ h => h)
        refine Or.inl ⟨?_, ?_⟩
        focus (go_simp; done)
        focus (intro w hSw; obtain ⟨_, ⟨⟨x0, x1⟩, _⟩, ⟨⟨y0, y1⟩, _⟩, ⟨⟨z0, z1⟩, _⟩, ⟨⟨j0, j1⟩, _⟩, ⟨⟨m0, m1⟩, _⟩⟩ := hSw; (first | (go_simp; done) | (go_simp; with_reducible rfl)))
        focus assumption
        (try simp only [Act.put, List.setIfInBounds_toArray, List.set_cons_zero, List.set_cons_succ])
        refine' wpAnyH_take (i := 23) (v := _) ?_ ?_ ?_ ?_ ?_ ?_ ?_ ?_
        rotate_left 2
        focus (simp only [List.getElem?_toArray, List.getElem?_cons_succ, List.getElem?_cons_zero]; rfl)
        focus kernel_rfl
        focus kernel_rfl
        focus kernel_rfl
        focus exact (fun _ _ _ h => h)
        refine Or.inl ⟨?_, ?_⟩
        focus (go_simp; done)
        focus (intro w hSw; obtain ⟨_, ⟨⟨x0, x1⟩, _⟩, ⟨⟨y0, y1⟩, _⟩, ⟨⟨z0, z1⟩, _⟩, ⟨⟨j0, j1⟩, _⟩, ⟨⟨m0, m1⟩, _⟩⟩ := hSw; (first | (go_simp; done) | (go_simp; with_reducible rfl)))
        focus assumption
        (try simp only [Act.put, List.setIfInBounds_toArray, List.set_cons_zero, List.set_cons_succ])
        refine wpAnyH_ready (rs := [24]) (by kernel_rfl) (by simp) ?_
        refine' AllReadyH.cons ?_ (fun K hK => ?_) AllReadyH.nil
        rotate_left
        focus (simp only [List.getElem?_toArray, List.getElem?_cons_succ, List.getElem?_cons_zero]; rfl)
        go_simp
        (go_at_call 22; refine (iLeq_any x.lo x.hi y.lo y.hi true (H3.out.1) _).mono ?_; rintro e w4 ⟨rfl, hb⟩)
        refine hK.out _ _ (hHeld.below hb) (fun hHeld => ?_)
        clear hK K
        (try simp only [Act.put, List.setIfInBounds_toArray, List.set_cons_zero, List.set_cons_succ])
        clear hb
        refine' wpAnyH_take (i := 25) (v := _) ?_ ?_ ?_ ?_ ?_ ?_ ?_ ?_
        rotate_left 2
        focus (simp only [List.getElem?_toArray, List.getElem?_cons_succ, List.getElem?_cons_zero]; rfl)
        focus kernel_rfl
        focus kernel_rfl
        focus kernel_rfl
        focus exact (fun _ _ _ h => h)
        refine Or.inl ⟨?_, ?_⟩
        focus (go_simp; done)
        focus (intro w hSw; obtain ⟨_, ⟨⟨x0, x1⟩, _⟩, ⟨⟨y0, y1⟩, _⟩, ⟨⟨z0, z1⟩, _⟩, ⟨⟨j0, j1⟩, _⟩, ⟨⟨m0, m1⟩, _⟩⟩ := hSw; (first | (go_simp; done) | (go_simp; with_reducible rfl)))
        focus assumption
        (try simp only [Act.put, List.setIfInBounds_toArray, List.set_cons_zero, List.set_cons_succ])
        refine' wpAnyH_take (i := 26) (v := _) ?_ ?_ ?_ ?_ ?_ ?_ ?_ ?_
        rotate_left 2
        focus (simp only [List.getElem?_toArray, List.getElem?_cons_succ, List.getElem?_cons_zero]; rfl)
        focus kernel_rfl
        focus kernel_rfl
        focus kernel_rfl
        focus exact (fun _ _ _ h => h)
        refine Or.inl ⟨?_, ?_⟩
        focus (go_simp; done)
        focus (intro w hSw; obtain ⟨_, ⟨⟨x0, x1⟩, _⟩, ⟨⟨y0, y1⟩, _⟩, ⟨⟨z0, z1⟩, _⟩, ⟨⟨j0, j1⟩, _⟩, ⟨⟨m0, m1⟩, _⟩⟩ := hSw; (first | (go_simp; done) | (go_simp; with_reducible rfl)))
        focus assumption
        (try simp only [Act.put, List.setIfInBounds_toArray, List.set_cons_zero, List.set_cons_succ])
        refine' wpAnyH_take (i := 27) (v := _) ?_ ?_ ?_ ?_ ?_ ?_ ?_ ?_
        rotate_left 2
        focus (simp only [List.getElem?_toArray, List.getElem?_cons_succ, List.getElem?_cons_zero]; rfl)
        focus kernel_rfl
        focus kernel_rfl
        focus kernel_rfl
        focus exact (fun _ _ _ h => h)
        refine Or.inl ⟨?_, ?_⟩
        focus (go_simp; done)
        focus (intro w hSw; obtain ⟨_, ⟨⟨x0, x1⟩, _⟩, ⟨⟨y0, y1⟩, _⟩, ⟨⟨z0, z1⟩, _⟩, ⟨⟨j0, j1⟩, _⟩, ⟨⟨m0, m1⟩, _⟩⟩ := hSw; (first | (go_simp; done) | (go_simp; with_reducible rfl)))
        focus assumption
        (try simp only [Act.put, List.setIfInBounds_toArray, List.set_cons_zero, List.set_cons_succ])
        refine' wpAnyH_take (i := 28) (v := _) ?_ ?_ ?_ ?_ ?_ ?_ ?_ ?_
        rotate_left 2
        focus (simp only [List.getElem?_toArray, List.getElem?_cons_succ, List.getElem?_cons_zero]; rfl)
        focus kernel_rfl
        focus kernel_rfl
        focus kernel_rfl
        focus exact (fun _ _ _ h => h)
        refine Or.inl ⟨?_, ?_⟩
        focus (go_simp; done)
        focus (intro w hSw; obtain ⟨_, ⟨⟨x0, x1⟩, _⟩, ⟨⟨y0, y1⟩, _⟩, ⟨⟨z0, z1⟩, _⟩, ⟨⟨j0, j1⟩, _⟩, ⟨⟨m0, m1⟩, _⟩⟩ := hSw; (first | (go_simp; done) | (go_simp; with_reducible rfl)))
        focus assumption
        (try simp only [Act.put, List.setIfInBounds_toArray, List.set_cons_zero, List.set_cons_succ])
        refine wpAnyH_ready (rs := [29]) (by kernel_rfl) (by simp) ?_
        refine' AllReadyH.cons ?_ (fun K hK => ?_) AllReadyH.nil
        rotate_left
        focus (simp only [List.getElem?_toArray, List.getElem?_cons_succ, List.getElem?_cons_zero]; rfl)
        go_simp
        (go_at_call 22; refine (iLeq_any y.lo y.hi x.lo x.hi false (H3.out.2) _).mono ?_; rintro e w4 ⟨rfl, hb⟩)
        refine hK.out _ _ (hHeld.below hb) (fun hHeld => ?_)
        clear hK K
        (try simp only [Act.put, List.setIfInBounds_toArray, List.set_cons_zero, List.set_cons_succ])
        clear hb
        refine' wpAnyH_take (i := 30) (v := _) ?_ ?_ ?_ ?_ ?_ ?_ ?_ ?_
        rotate_left 2
        focus (simp only [List.getElem?_toArray, List.getElem?_cons_succ, List.getElem?_cons_zero]; rfl)
        focus kernel_rfl
        focus kernel_rfl
        focus kernel_rfl
        focus exact (fun _ _ _ h => h)
        refine Or.inl ⟨?_, ?_⟩
        focus (go_simp; done)
        focus (intro w hSw; obtain ⟨_, ⟨⟨x0, x1⟩, _⟩, ⟨⟨y0, y1⟩, _⟩, ⟨⟨z0, z1⟩, _⟩, ⟨⟨j0, j1⟩, _⟩, ⟨⟨m0, m1⟩, _⟩⟩ := hSw; (first | (go_simp; done) | (go_simp; with_reducible rfl)))
        focus assumption
        (try simp only [Act.put, List.setIfInBounds_toArray, List.set_cons_zero, List.set_cons_succ])
        refine' wpAnyH_take (i := 31) (v := _) ?_ ?_ ?_ ?_ ?_ ?_ ?_ ?_
        rotate_left 2
        focus (simp only [List.getElem?_toArray, List.getElem?_cons_succ, List.getElem?_cons_zero]; rfl)
        focus kernel_rfl
        focus kernel_rfl
        focus kernel_rfl
        focus exact (fun _ _ _ h => h)
        refine Or.inl ⟨?_, ?_⟩
        focus (go_simp; done)
        focus (intro w hSw; obtain ⟨_, ⟨⟨x0, x1⟩, _⟩, ⟨⟨y0, y1⟩, _⟩, ⟨⟨z0, z1⟩, _⟩, ⟨⟨j0, j1⟩, _⟩, ⟨⟨m0, m1⟩, _⟩⟩ := hSw; (first | (go_simp; done) | (go_simp; with_reducible rfl)))
        focus assumption
        (try simp only [Act.put, List.setIfInBounds_toArray, List.set_cons_zero, List.set_cons_succ])
        refine' wpAnyH_take (i := 32) (v := _) ?_ ?_ ?_ ?_ ?_ ?_ ?_ ?_
        rotate_left 2
        focus (simp only [List.getElem?_toArray, List.getElem?_cons_succ, List.getElem?_cons_zero]; rfl)
        focus kernel_rfl
        focus kernel_rfl
        focus kernel_rfl
        focus exact (fun _ _ _ h => h)
        refine Or.inl ⟨?_, ?_⟩
        focus (go_simp; done)
        focus (intro w hSw; obtain ⟨_, ⟨⟨x0, x1⟩, _⟩, ⟨⟨y0, y1⟩, _⟩, ⟨⟨z0, z1⟩, _⟩, ⟨⟨j0, j1⟩, _⟩, ⟨⟨m0, m1⟩, _⟩⟩ := hSw; (first | (go_simp; done) | (go_simp; with_reducible rfl)))
        focus assumption
        (try simp only [Act.put, List.setIfInBounds_toArray, List.set_cons_zero, List.set_cons_succ])
        refine' wpAnyH_take (i := 33) (v := undef) ?_ ?_ ?_ ?_ ?_ ?_ ?_ ?_
        rotate_left 1
        focus (simp only [List.getElem?_toArray, List.getElem?_cons_succ, List.getElem?_cons_zero]; rfl)
        focus kernel_rfl
        focus kernel_rfl
        focus kernel_rfl
        focus exact (fun _ _ _ h => h)
        refine Or.inr ⟨?_, rfl⟩
        focus (go_simp; done)
        focus assumption
        (try simp only [Act.put, List.setIfInBounds_toArray, List.set_cons_zero, List.set_cons_succ])
        refine' wpAnyH_take (i := 34) (v := undef) ?_ ?_ ?_ ?_ ?_ ?_ ?_ ?_
        rotate_left 1
        focus (simp only [List.getElem?_toArray, List.getElem?_cons_succ, List.getElem?_cons_zero]; rfl)
        focus kernel_rfl
        focus kernel_rfl
        focus kernel_rfl
        focus exact (fun _ _ _ h => h)
        refine Or.inr ⟨?_, rfl⟩
        focus (go_simp; done)
        focus assumption
        (try simp only [Act.put, List.setIfInBounds_toArray, List.set_cons_zero, List.set_cons_succ])
        refine' wpAnyH_take (i := 35) (v := undef) ?_ ?_ ?_ ?_ ?_ ?_ ?_ ?_
        rotate_left 1
        focus (simp only [List.getElem?_toArray, List.getElem?_cons_succ, List.getElem?_cons_zero]; rfl)
        focus kernel_rfl
        focus kernel_rfl
        focus kernel_rfl
        focus exact (fun _ _ _ h => h)
        refine Or.inr ⟨?_, rfl⟩
        focus (go_simp; done)
        focus assumption
        (try simp only [Act.put, List.setIfInBounds_toArray, List.set_cons_zero, List.set_cons_succ])
        refine' wpAnyH_take (i := 36) (v := _) ?_ ?_ ?_ ?_ ?_ ?_ ?_ ?_
        rotate_left 2
        focus (simp only [List.getElem?_toArray, List.getElem?_cons_succ, List.getElem?_cons_zero]; rfl)
        focus kernel_rfl
        focus kernel_rfl
        focus kernel_rfl
        focus exact (fun _ _ _ h => h)
        refine Or.inl ⟨?_, ?_⟩
        focus (go_simp; done)
        focus (intro w hSw; obtain ⟨_, ⟨⟨x0, x1⟩, _⟩, ⟨⟨y0, y1⟩, _⟩, ⟨⟨z0, z1⟩, _⟩, ⟨⟨j0, j1⟩, _⟩, ⟨⟨m0, m1⟩, _⟩⟩ := hSw; (first | (go_simp; done) | (go_simp; with_reducible rfl)))
        focus assumption
        (try simp only [Act.put, List.setIfInBounds_toArray, List.set_cons_zero, List.set_cons_succ])
        refine' wpAnyH_take (i := 37) (v := _) ?_ ?_ ?_ ?_ ?_ ?_ ?_ ?_
        rotate_left 2
        focus (simp only [List.getElem?_toArray, List.getElem?_cons_succ, List.getElem?_cons_zero]; rfl)
        focus kernel_rfl
        focus kernel_rfl
        focus kernel_rfl
        focus exact (fun _ _ _ h => h)
        refine Or.inl ⟨?_, ?_⟩
        focus (go_simp; done)
        focus (intro w hSw; obtain ⟨_, ⟨⟨x0, x1⟩, _⟩, ⟨⟨y0, y1⟩, _⟩, ⟨⟨z0, z1⟩, _⟩, ⟨⟨j0, j1⟩, _⟩, ⟨⟨m0, m1⟩, _⟩⟩ := hSw; (first | (go_simp; done) | (go_simp; with_reducible rfl)))
        focus assumption
        (try simp only [Act.put, List.setIfInBounds_toArray, List.set_cons_zero, List.set_cons_succ])
        refine' wpAnyH_take (i := 38) (v := _) ?_ ?_ ?_ ?_ ?_ ?_ ?_ ?_
        rotate_left 2
        focus (simp only [List.getElem?_toArray, List.getElem?_cons_succ, List.getElem?_cons_zero]; rfl)
        focus kernel_rfl
        focus kernel_rfl
        focus kernel_rfl
        focus exact (fun _ _ _ h => h)
        refine Or.inl ⟨?_, ?_⟩
        focus (go_simp; done)
        focus (intro w hSw; obtain ⟨_, ⟨⟨x0, x1⟩, _⟩, ⟨⟨y0, y1⟩, _⟩, ⟨⟨z0, z1⟩, _⟩, ⟨⟨j0, j1⟩, _⟩, ⟨⟨m0, m1⟩, _⟩⟩ := hSw; (first | (go_simp; done) | (go_simp; with_reducible rfl)))
        focus assumption
        (try simp only [Act.put, List.setIfInBounds_toArray, List.set_cons_zero, List.set_cons_succ])
        refine wpAnyH_ready (rs := [39]) (by kernel_rfl) (by simp) ?_
        refine' AllReadyH.cons ?_ (fun K hK => ?_) AllReadyH.nil
        rotate_left
        focus (simp only [List.getElem?_toArray, List.getElem?_cons_succ, List.getElem?_cons_zero]; rfl)
        go_simp
        (go_at_call 14; refine (awake_any _).mono ?_; rintro e w4 ⟨rfl, hb⟩)
        refine hK.out _ _ (hHeld.below hb) (fun hHeld => ?_)
        clear hK K
        (try simp only [Act.put, List.setIfInBounds_toArray, List.set_cons_zero, List.set_cons_succ])
        clear hb
        refine' wpAnyH_take (i := 40) (v := _) ?_ ?_ ?_ ?_ ?_ ?_ ?_ ?_
        rotate_left 2
        focus (simp only [List.getElem?_toArray, List.getElem?_cons_succ, List.getElem?_cons_zero]; rfl)
        focus kernel_rfl
        focus kernel_rfl
        focus kernel_rfl
        focus exact (fun _ _ _ h => h)
        refine Or.inl ⟨?_, ?_⟩
        focus (go_simp; done)
        focus (intro w hSw; obtain ⟨_, ⟨⟨x0, x1⟩, _⟩, ⟨⟨y0, y1⟩, _⟩, ⟨⟨z0, z1⟩, _⟩, ⟨⟨j0, j1⟩, _⟩, ⟨⟨m0, m1⟩, _⟩⟩ := hSw; (first | (go_simp; done) | (go_simp; with_reducible rfl)))
        focus assumption
        (try simp only [Act.put, List.setIfInBounds_toArray, List.set_cons_zero, List.set_cons_succ])
        refine' wpAnyH_take (i := 41) (v := _) ?_ ?_ ?_ ?_ ?_ ?_ ?_ ?_
        rotate_left 2
        focus (simp only [List.getElem?_toArray, List.getElem?_cons_succ, List.getElem?_cons_zero]; rfl)
        focus kernel_rfl
        focus kernel_rfl
        focus kernel_rfl
        focus exact (fun _ _ _ h => h)
        refine Or.inl ⟨?_, ?_⟩
        focus (go_simp; done)
        focus (intro w hSw; obtain ⟨_, ⟨⟨x0, x1⟩, _⟩, ⟨⟨y0, y1⟩, _⟩, ⟨⟨z0, z1⟩, _⟩, ⟨⟨j0, j1⟩, _⟩, ⟨⟨m0, m1⟩, _⟩⟩ := hSw; (first | (go_simp; done) | (go_simp; with_reducible rfl)))
        focus assumption
        (try simp only [Act.put, List.setIfInBounds_toArray, List.set_cons_zero, List.set_cons_succ])
        refine wpAnyH_done (by kernel_rfl) ?_ _
        clear hT
        clear hv x0 x1 xg y0 y1 yg z0 z1 zg j0 j1 jg m0 m1 mg
        have hT := hHeld
        obtain ⟨hv, ⟨⟨x0, x1⟩, xg⟩, ⟨⟨y0, y1⟩, yg⟩, ⟨⟨z0, z1⟩, zg⟩, ⟨⟨j0, j1⟩, jg⟩, ⟨⟨m0, m1⟩, mg⟩⟩ := id hT
        go_wp2
        go_ret
        exact ⟨rfl, hv⟩
      · have H3 := Lib.hid (And.intro q1 q2)
        have he3 := iv_eql x.lo x.hi y.lo y.hi true (by rw [hanti.out q1 q2]; simp)
        clear q1 q2
        refine wp_region_held_drew (S := (fun w' => Fiv w x y z j m g1 g2 g3 g4 g5 w')) (by kernel_rfl) (hT.drew) (fun hHeld => ?_)
        refine' wpAnyH_take (i := 0) (v := _) ?_ ?_ ?_ ?_ ?_ ?_ ?_ ?_
        rotate_left 2
        focus (simp only [List.getElem?_toArray, List.getElem?_cons_succ, List.getElem?_cons_zero]; rfl)
        focus kernel_rfl
        focus kernel_rfl
        focus kernel_rfl
        focus exact (fun _ _ _ h => h)
        refine Or.inl ⟨?_, ?_⟩
        focus (go_simp; done)
        focus (intro w hSw; obtain ⟨_, ⟨⟨x0, x1⟩, _⟩, ⟨⟨y0, y1⟩, _⟩, ⟨⟨z0, z1⟩, _⟩, ⟨⟨j0, j1⟩, _⟩, ⟨⟨m0, m1⟩, _⟩⟩ := hSw; (first | (go_simp; done) | (go_simp; with_reducible rfl)))
        focus assumption
        (try simp only [Act.put, List.setIfInBounds_toArray, List.set_cons_zero, List.set_cons_succ])
        refine' wpAnyH_take (i := 1) (v := _) ?_ ?_ ?_ ?_ ?_ ?_ ?_ ?_
        rotate_left 2
        focus (simp only [List.getElem?_toArray, List.getElem?_cons_succ, List.getElem?_cons_zero]; rfl)
        focus kernel_rfl
        focus kernel_rfl
        focus kernel_rfl
        focus exact (fun _ _ _ h => h)
        refine Or.inl ⟨?_, ?_⟩
        focus (go_simp; done)
        focus (intro w hSw; obtain ⟨_, ⟨⟨x0, x1⟩, _⟩, ⟨⟨y0, y1⟩, _⟩, ⟨⟨z0, z1⟩, _⟩, ⟨⟨j0, j1⟩, _⟩, ⟨⟨m0, m1⟩, _⟩⟩ := hSw; (first | (go_simp; done) | (go_simp; with_reducible rfl)))
        focus assumption
        (try simp only [Act.put, List.setIfInBounds_toArray, List.set_cons_zero, List.set_cons_succ])
        refine' wpAnyH_take (i := 3) (v := _) ?_ ?_ ?_ ?_ ?_ ?_ ?_ ?_
        rotate_left 2
        focus (simp only [List.getElem?_toArray, List.getElem?_cons_succ, List.getElem?_cons_zero]; rfl)
        focus kernel_rfl
        focus kernel_rfl
        focus kernel_rfl
        focus exact (fun _ _ _ h => h)
        refine Or.inl ⟨?_, ?_⟩
        focus (go_simp; done)
        focus (intro w hSw; obtain ⟨_, ⟨⟨x0, x1⟩, _⟩, ⟨⟨y0, y1⟩, _⟩, ⟨⟨z0, z1⟩, _⟩, ⟨⟨j0, j1⟩, _⟩, ⟨⟨m0, m1⟩, _⟩⟩ := hSw; (first | (go_simp; done) | (go_simp; with_reducible rfl)))
        focus assumption
        (try simp only [Act.put, List.setIfInBounds_toArray, List.set_cons_zero, List.set_cons_succ])
        refine' wpAnyH_take (i := 4) (v := _) ?_ ?_ ?_ ?_ ?_ ?_ ?_ ?_
        rotate_left 2
        focus (simp only [List.getElem?_toArray, List.getElem?_cons_succ, List.getElem?_cons_zero]; rfl)
        focus kernel_rfl
        focus kernel_rfl
        focus kernel_rfl
        focus exact (fun _ _ _ h => h)
        refine Or.inl ⟨?_, ?_⟩
        focus (go_simp; done)
        focus (intro w hSw; obtain ⟨_, ⟨⟨x0, x1⟩, _⟩, ⟨⟨y0, y1⟩, _⟩, ⟨⟨z0, z1⟩, _⟩, ⟨⟨j0, j1⟩, _⟩, ⟨⟨m0, m1⟩, _⟩⟩ := hSw; (first | (go_simp; done) | (go_simp; with_reducible rfl)))
        focus assumption
        (try simp only [Act.put, List.setIfInBounds_toArray, List.set_cons_zero, List.set_cons_succ])
        refine wpAnyH_ready (rs := [2]) (by kernel_rfl) (by simp) ?_
        refine' AllReadyH.cons ?_ (fun K hK => ?_) AllReadyH.nil
        rotate_left
        focus (simp only [List.getElem?_toArray, List.getElem?_cons_succ, List.getElem?_cons_zero]; rfl)
        go_simp
        (go_at_call 24; refine (iJoin_any x.lo x.hi y.lo y.hi j HF.out.1 _).mono ?_; rintro e w4 ⟨rfl, hb⟩)
        refine hK.out _ _ (hHeld.below hb) (fun hHeld => ?_)
        clear hK K
        (try simp only [Act.put, List.setIfInBounds_toArray, List.set_cons_zero, List.set_cons_succ])
        clear hb
        refine wpAnyH_ready (rs := [5]) (by kernel_rfl) (by simp) ?_
        refine' AllReadyH.cons ?_ (fun K hK => ?_) AllReadyH.nil
        rotate_left
        focus (simp only [List.getElem?_toArray, List.getElem?_cons_succ, List.getElem?_cons_zero]; rfl)
        go_simp
        (go_at_call 24; refine (iJoin_any y.lo y.hi x.lo x.hi j HL.out.2.2.2.2.2.2.1 _).mono ?_; rintro e w4 ⟨rfl, hb⟩)
        refine hK.out _ _ (hHeld.below hb) (fun hHeld => ?_)
        clear hK K
        (try simp only [Act.put, List.setIfInBounds_toArray, List.set_cons_zero, List.set_cons_succ])
        clear hb
        refine' wpAnyH_take (i := 6) (v := _) ?_ ?_ ?_ ?_ ?_ ?_ ?_ ?_
        rotate_left 2
        focus (simp only [List.getElem?_toArray, List.getElem?_cons_succ, List.getElem?_cons_zero]; rfl)
        focus kernel_rfl
        focus kernel_rfl
        focus kernel_rfl
        focus exact (fun _ _ _ h => h)
        refine Or.inl ⟨?_, ?_⟩
        focus (go_simp; done)
        focus (intro w hSw; obtain ⟨_, ⟨⟨x0, x1⟩, _⟩, ⟨⟨y0, y1⟩, _⟩, ⟨⟨z0, z1⟩, _⟩, ⟨⟨j0, j1⟩, _⟩, ⟨⟨m0, m1⟩, _⟩⟩ := hSw; (first | (go_simp; done) | (go_simp; with_reducible rfl)))
        focus assumption
        (try simp only [Act.put, List.setIfInBounds_toArray, List.set_cons_zero, List.set_cons_succ])
        refine' wpAnyH_take (i := 7) (v := _) ?_ ?_ ?_ ?_ ?_ ?_ ?_ ?_
        rotate_left 2
        focus (simp only [List.getElem?_toArray, List.getElem?_cons_succ, List.getElem?_cons_zero]; rfl)
        focus kernel_rfl
        focus kernel_rfl
        focus kernel_rfl
        focus exact (fun _ _ _ h => h)
        refine Or.inl ⟨?_, ?_⟩
        focus (go_simp; done)
        focus (intro w hSw; obtain ⟨_, ⟨⟨x0, x1⟩, _⟩, ⟨⟨y0, y1⟩, _⟩, ⟨⟨z0, z1⟩, _⟩, ⟨⟨j0, j1⟩, _⟩, ⟨⟨m0, m1⟩, _⟩⟩ := hSw; (first | (go_simp; done) | (go_simp; with_reducible rfl)))
        focus assumption
        (try simp only [Act.put, List.setIfInBounds_toArray, List.set_cons_zero, List.set_cons_succ])
        refine' wpAnyH_take (i := 8) (v := _) ?_ ?_ ?_ ?_ ?_ ?_ ?_ ?_
        rotate_left 2
        focus (simp only [List.getElem?_toArray, List.getElem?_cons_succ, List.getElem?_cons_zero]; rfl)
        focus kernel_rfl
        focus kernel_rfl
        focus kernel_rfl
        focus exact (fun _ _ _ h => h)
        refine Or.inl ⟨?_, ?_⟩
        focus (go_simp; done)
        focus (intro w hSw; obtain ⟨_, ⟨⟨x0, x1⟩, _⟩, ⟨⟨y0, y1⟩, _⟩, ⟨⟨z0, z1⟩, _⟩, ⟨⟨j0, j1⟩, _⟩, ⟨⟨m0, m1⟩, _⟩⟩ := hSw; (first | (go_simp; done) | (go_simp; with_reducible rfl)))
        focus assumption
        (try simp only [Act.put, List.setIfInBounds_toArray, List.set_cons_zero, List.set_cons_succ])
        refine' wpAnyH_take (i := 9) (v := _) ?_ ?_ ?_ ?_ ?_ ?_ ?_ ?_
        rotate_left 2
        focus (simp only [List.getElem?_toArray, List.getElem?_cons_succ, List.getElem?_cons_zero]; rfl)
        focus kernel_rfl
        focus kernel_rfl
        focus kernel_rfl
        focus exact (fun _ _ _ h => h)
        refine Or.inl ⟨?_, ?_⟩
        focus (go_simp; done)
        focus (intro w hSw; obtain ⟨_, ⟨⟨x0, x1⟩, _⟩, ⟨⟨y0, y1⟩, _⟩, ⟨⟨z0, z1⟩, _⟩, ⟨⟨j0, j1⟩, _⟩, ⟨⟨m0, m1⟩, _⟩⟩ := hSw; (first | (go_simp; done) | (go_simp; with_reducible rfl)))
        focus assumption
        (try simp only [Act.put, List.setIfInBounds_toArray, List.set_cons_zero, List.set_cons_succ])
        refine' wpAnyH_take (i := 11) (v := _) ?_ ?_ ?_ ?_ ?_ ?_ ?_ ?_
        rotate_left 2
        focus (simp only [List.getElem?_toArray, List.getElem?_cons_succ, List.getElem?_cons_zero]; rfl)
        focus kernel_rfl
        focus kernel_rfl
        focus kernel_rfl
        focus exact (fun _ _ _ h => h)
        refine Or.inl ⟨?_, ?_⟩
        focus (go_simp; done)
        focus (intro w hSw; obtain ⟨_, ⟨⟨x0, x1⟩, _⟩, ⟨⟨y0, y1⟩, _⟩, ⟨⟨z0, z1⟩, _⟩, ⟨⟨j0, j1⟩, _⟩, ⟨⟨m0, m1⟩, _⟩⟩ := hSw; (first | (go_simp; done) | (go_simp; with_reducible rfl)))
        focus assumption
        (try simp only [Act.put, List.setIfInBounds_toArray, List.set_cons_zero, List.set_cons_succ])
        refine' wpAnyH_take (i := 12) (v := _) ?_ ?_ ?_ ?_ ?_ ?_ ?_ ?_
        rotate_left 2
        focus (simp only [List.getElem?_toArray, List.getElem?_cons_succ, List.getElem?_cons_zero]; rfl)
        focus kernel_rfl
        focus kernel_rfl
        focus kernel_rfl
        focus exact (fun _ _ _ h => h)
        refine Or.inl ⟨?_, ?_⟩
        focus (go_simp; done)
        focus (intro w hSw; obtain ⟨_, ⟨⟨x0, x1⟩, _⟩, ⟨⟨y0, y1⟩, _⟩, ⟨⟨z0, z1⟩, _⟩, ⟨⟨j0, j1⟩, _⟩, ⟨⟨m0, m1⟩, _⟩⟩ := hSw; (first | (go_simp; done) | (go_simp; with_reducible rfl)))
        focus assumption
        (try simp only [Act.put, List.setIfInBounds_toArray, List.set_cons_zero, List.set_cons_succ])
        refine wpAnyH_ready (rs := [10]) (by kernel_rfl) (by simp) ?_
        refine' AllReadyH.cons ?_ (fun K hK => ?_) AllReadyH.nil
        rotate_left
        focus (simp only [List.getElem?_toArray, List.getElem?_cons_succ, List.getElem?_cons_zero]; rfl)
        go_simp
        (go_at_call 25; refine (iMeet_any x.lo x.hi y.lo y.hi m HF.out.2 _).mono ?_; rintro e w4 ⟨rfl, hb⟩)
        refine hK.out _ _ (hHeld.below hb) (fun hHeld => ?_)
        clear hK K
        (try simp only [Act.put, List.setIfInBounds_toArray, List.set_cons_zero, List.set_cons_succ])
        clear hb
        refine wpAnyH_ready (rs := [13]) (by kernel_rfl) (by simp) ?_
        refine' AllReadyH.cons ?_ (fun K hK => ?_) AllReadyH.nil
        rotate_left
        focus (simp only [List.getElem?_toArray, List.getElem?_cons_succ, List.getElem?_cons_zero]; rfl)
        go_simp
        (go_at_call 25; refine (iMeet_any y.lo y.hi x.lo x.hi m HL.out.2.2.2.2.2.2.2.1 _).mono ?_; rintro e w4 ⟨rfl, hb⟩)
        refine hK.out _ _ (hHeld.below hb) (fun hHeld => ?_)
        clear hK K
        (try simp only [Act.put, List.setIfInBounds_toArray, List.set_cons_zero, List.set_cons_succ])
        clear hb
        refine' wpAnyH_take (i := 14) (v := _) ?_ ?_ ?_ ?_ ?_ ?_ ?_ ?_
        rotate_left 2
        focus (simp only [List.getElem?_toArray, List.getElem?_cons_succ, List.getElem?_cons_zero]; rfl)
        focus kernel_rfl
        focus kernel_rfl
        focus kernel_rfl
        focus exact (fun _ _ _ h => h)
        refine Or.inl ⟨?_, ?_⟩
        focus (go_simp; done)
        focus (intro w hSw; obtain ⟨_, ⟨⟨x0, x1⟩, _⟩, ⟨⟨y0, y1⟩, _⟩, ⟨⟨z0, z1⟩, _⟩, ⟨⟨j0, j1⟩, _⟩, ⟨⟨m0, m1⟩, _⟩⟩ := hSw; (first | (go_simp; done) | (go_simp; with_reducible rfl)))
        focus assumption
        (try simp only [Act.put, List.setIfInBounds_toArray, List.set_cons_zero, List.set_cons_succ])
        refine' wpAnyH_take (i := 15) (v := _) ?_ ?_ ?_ ?_ ?_ ?_ ?_ ?_
        rotate_left 2
        focus (simp only [List.getElem?_toArray, List.getElem?_cons_succ, List.getElem?_cons_zero]; rfl)
        focus kernel_rfl
        focus kernel_rfl
        focus kernel_rfl
        focus exact (fun _ _ _ h => h)
        refine Or.inl ⟨?_, ?_⟩
        focus (go_simp; done)
        focus (intro w hSw; obtain ⟨_, ⟨⟨x0, x1⟩, _⟩, ⟨⟨y0, y1⟩, _⟩, ⟨⟨z0, z1⟩, _⟩, ⟨⟨j0, j1⟩, _⟩, ⟨⟨m0, m1⟩, _⟩⟩ := hSw; (first | (go_simp; done) | (go_simp; with_reducible rfl)))
        focus assumption
        (try simp only [Act.put, List.setIfInBounds_toArray, List.set_cons_zero, List.set_cons_succ])
        refine' wpAnyH_take (i := 16) (v := _) ?_ ?_ ?_ ?_ ?_ ?_ ?_ ?_
        rotate_left 2
        focus (simp only [List.getElem?_toArray, List.getElem?_cons_succ, List.getElem?_cons_zero]; rfl)
        focus kernel_rfl
        focus kernel_rfl
        focus kernel_rfl
        focus exact (fun _ _ _ h => h)
        refine Or.inl ⟨?_, ?_⟩
        focus (go_simp; done)
        focus (intro w hSw; obtain ⟨_, ⟨⟨x0, x1⟩, _⟩, ⟨⟨y0, y1⟩, _⟩, ⟨⟨z0, z1⟩, _⟩, ⟨⟨j0, j1⟩, _⟩, ⟨⟨m0, m1⟩, _⟩⟩ := hSw; (first | (go_simp; done) | (go_simp; with_reducible rfl)))
        focus assumption
        (try simp only [Act.put, List.setIfInBounds_toArray, List.set_cons_zero, List.set_cons_succ])
        refine' wpAnyH_take (i := 17) (v := _) ?_ ?_ ?_ ?_ ?_ ?_ ?_ ?_
        rotate_left 2
        focus (simp only [List.getElem?_toArray, List.getElem?_cons_succ, List.getElem?_cons_zero]; rfl)
        focus kernel_rfl
        focus kernel_rfl
        focus kernel_rfl
        focus exact (fun _ _ _ h => h)
        refine Or.inl ⟨?_, ?_⟩
        focus (go_simp; done)
        focus (intro w hSw; obtain ⟨_, ⟨⟨x0, x1⟩, _⟩, ⟨⟨y0, y1⟩, _⟩, ⟨⟨z0, z1⟩, _⟩, ⟨⟨j0, j1⟩, _⟩, ⟨⟨m0, m1⟩, _⟩⟩ := hSw; (first | (go_simp; done) | (go_simp; with_reducible rfl)))
        focus assumption
        (try simp only [Act.put, List.setIfInBounds_toArray, List.set_cons_zero, List.set_cons_succ])
        refine' wpAnyH_take (i := 18) (v := _) ?_ ?_ ?_ ?_ ?_ ?_ ?_ ?_
        rotate_left 2
        focus (simp only [List.getElem?_toArray, List.getElem?_cons_succ, List.getElem?_cons_zero]; rfl)
        focus kernel_rfl
        focus kernel_rfl
        focus kernel_rfl
        focus exact (fun _ _ _ h => h)
        refine Or.inl ⟨?_, ?_⟩
        focus (go_simp; done)
        focus (intro w hSw; obtain ⟨_, ⟨⟨x0, x1⟩, _⟩, ⟨⟨y0, y1⟩, _⟩, ⟨⟨z0, z1⟩, _⟩, ⟨⟨j0, j1⟩, _⟩, ⟨⟨m0, m1⟩, _⟩⟩ := hSw; (first | (go_simp; done) | (go_simp; with_reducible rfl)))
        focus assumption
        (try simp only [Act.put, List.setIfInBounds_toArray, List.set_cons_zero, List.set_cons_succ])
        refine wpAnyH_ready (rs := [19]) (by kernel_rfl) (by simp) ?_
        refine' AllReadyH.cons ?_ (fun K hK => ?_) AllReadyH.nil
        rotate_left
        focus (simp only [List.getElem?_toArray, List.getElem?_cons_succ, List.getElem?_cons_zero]; rfl)
        go_simp
        (go_at_call 22; refine (iLeq_any x.lo x.hi x.lo x.hi true (HL.out.2.2.2.2.2.2.2.2) _).mono ?_; rintro e w4 ⟨rfl, hb⟩)
        refine hK.out _ _ (hHeld.below hb) (fun hHeld => ?_)
        clear hK K
        (try simp only [Act.put, List.setIfInBounds_toArray, List.set_cons_zero, List.set_cons_succ])
        clear hb
        refine' wpAnyH_take (i := 20) (v := _) ?_ ?_ ?_ ?_ ?_ ?_ ?_ ?_
        rotate_left 2
        focus (simp only [List.getElem?_toArray, List.getElem?_cons_succ, List.getElem?_cons_zero]; rfl)
        focus kernel_rfl
        focus kernel_rfl
        focus kernel_rfl
        focus exact (fun _ _ _ h => h)
        refine Or.inl ⟨?_, ?_⟩
        focus (go_simp; done)
        focus (intro w hSw; obtain ⟨_, ⟨⟨x0, x1⟩, _⟩, ⟨⟨y0, y1⟩, _⟩, ⟨⟨z0, z1⟩, _⟩, ⟨⟨j0, j1⟩, _⟩, ⟨⟨m0, m1⟩, _⟩⟩ := hSw; (first | (go_simp; done) | (go_simp; with_reducible rfl)))
        focus assumption
        (try simp only [Act.put, List.setIfInBounds_toArray, List.set_cons_zero, List.set_cons_succ])
        refine' wpAnyH_take (i := 21) (v := _) ?_ ?_ ?_ ?_ ?_ ?_ ?_ ?_
        rotate_left 2
        focus (simp only [List.getElem?_toArray, List.getElem?_cons_succ, List.getElem?_cons_zero]; rfl)
        focus kernel_rfl
        focus kernel_rfl
        focus kernel_rfl
        focus exact (fun _ _ _ h => h)
        refine Or.inl ⟨?_, ?_⟩
        focus (go_simp; done)
        focus (intro w hSw; obtain ⟨_, ⟨⟨x0, x1⟩, _⟩, ⟨⟨y0, y1⟩, _⟩, ⟨⟨z0, z1⟩, _⟩, ⟨⟨j0, j1⟩, _⟩, ⟨⟨m0, m1⟩, _⟩⟩ := hSw; (first | (go_simp; done) | (go_simp; with_reducible rfl)))
        focus assumption
        (try simp only [Act.put, List.setIfInBounds_toArray, List.set_cons_zero, List.set_cons_succ])
        refine' wpAnyH_take (i := 22) (v := _) ?_ ?_ ?_ ?_ ?_ ?_ ?_ ?_
        rotate_left 2
        focus (simp only [List.getElem?_toArray, List.getElem?_cons_succ, List.getElem?_cons_zero]; rfl)
        focus kernel_rfl
        focus kernel_rfl
        focus kernel_rfl
        focus exact (fun _ _ _ h => h)
        refine Or.inl ⟨?_, ?_⟩
        focus (go_simp; done)
        focus (intro w hSw; obtain ⟨_, ⟨⟨x0, x1⟩, _⟩, ⟨⟨y0, y1⟩, _⟩, ⟨⟨z0, z1⟩, _⟩, ⟨⟨j0, j1⟩, _⟩, ⟨⟨m0, m1⟩, _⟩⟩ := hSw; (first | (go_simp; done) | (go_simp; with_reducible rfl)))
        focus assumption
        (try simp only [Act.put, List.setIfInBounds_toArray, List.set_cons_zero, List.set_cons_succ])
        refine' wpAnyH_take (i := 23) (v := _) ?_ ?_ ?_ ?_ ?_ ?_ ?_ ?_
        rotate_left 2
        focus (simp only [List.getElem?_toArray, List.getElem?_cons_succ, List.getElem?_cons_zero]; rfl)
        focus kernel_rfl
        focus kernel_rfl
        focus kernel_rfl
        focus exact (fun _ _ _ h => h)
        refine Or.inl ⟨?_, ?_⟩
        focus (go_simp; done)
        focus (intro w hSw; obtain ⟨_, ⟨⟨x0, x1⟩, _⟩, ⟨⟨y0, y1⟩, _⟩, ⟨⟨z0, z1⟩, _⟩, ⟨⟨j0, j1⟩, _⟩, ⟨⟨m0, m1⟩, _⟩⟩ := hSw; (first | (go_simp; done) | (go_simp; with_reducible rfl)))
        focus assumption
        (try simp only [Act.put, List.setIfInBounds_toArray, List.set_cons_zero, List.set_cons_succ])
        refine wpAnyH_ready (rs := [24]) (by kernel_rfl) (by simp) ?_
        refine' AllReadyH.cons ?_ (fun K hK => ?_) AllReadyH.nil
        rotate_left
        focus (simp only [List.getElem?_toArray, List.getElem?_cons_succ, List.getElem?_cons_zero]; rfl)
        go_simp
        (go_at_call 22; refine (iLeq_any x.lo x.hi y.lo y.hi true (H3.out.1) _).mono ?_; rintro e w4 ⟨rfl, hb⟩)
        refine hK.out _ _ (hHeld.below hb) (fun hHeld => ?_)
        clear hK K
        (try simp only [Act.put, List.setIfInBounds_toArray, List.set_cons_zero, List.set_cons_succ])
        clear hb
        refine' wpAnyH_take (i := 25) (v := _) ?_ ?_ ?_ ?_ ?_ ?_ ?_ ?_
        rotate_left 2
        focus (simp only [List.getElem?_toArray, List.getElem?_cons_succ, List.getElem?_cons_zero]; rfl)
        focus kernel_rfl
        focus kernel_rfl
        focus kernel_rfl
        focus exact (fun _ _ _ h => h)
        refine Or.inl ⟨?_, ?_⟩
        focus (go_simp; done)
        focus (intro w hSw; obtain ⟨_, ⟨⟨x0, x1⟩, _⟩, ⟨⟨y0, y1⟩, _⟩, ⟨⟨z0, z1⟩, _⟩, ⟨⟨j0, j1⟩, _⟩, ⟨⟨m0, m1⟩, _⟩⟩ := hSw; (first | (go_simp; done) | (go_simp; with_reducible rfl)))
        focus assumption
        (try simp only [Act.put, List.setIfInBounds_toArray, List.set_cons_zero, List.set_cons_succ])
        refine' wpAnyH_take (i := 26) (v := _) ?_ ?_ ?_ ?_ ?_ ?_ ?_ ?_
        rotate_left 2
        focus (simp only [List.getElem?_toArray, List.getElem?_cons_succ, List.getElem?_cons_zero]; rfl)
        focus kernel_rfl
        focus kernel_rfl
        focus kernel_rfl
        focus exact (fun _ _ _ h => h)
        refine Or.inl ⟨?_, ?_⟩
        focus (go_simp; done)
        focus (intro w hSw; obtain ⟨_, ⟨⟨x0, x1⟩, _⟩, ⟨⟨y0, y1⟩, _⟩, ⟨⟨z0, z1⟩, _⟩, ⟨⟨j0, j1⟩, _⟩, ⟨⟨m0, m1⟩, _⟩⟩ := hSw; (first | (go_simp; done) | (go_simp; with_reducible rfl)))
        focus assumption
        (try simp only [Act.put, List.setIfInBounds_toArray, List.set_cons_zero, List.set_cons_succ])
        refine' wpAnyH_take (i := 27) (v := _) ?_ ?_ ?_ ?_ ?_ ?_ ?_ ?_
        rotate_left 2
        focus (simp only [List.getElem?_toArray, List.getElem?_cons_succ, List.getElem?_cons_zero]; rfl)
        focus kernel_rfl
        focus kernel_rfl
        focus kernel_rfl
        focus exact (fun _ _ _ h => h)
        refine Or.inl ⟨?_, ?_⟩
        focus (go_simp; done)
        focus (intro w hSw; obtain ⟨_, ⟨⟨x0, x1⟩, _⟩, ⟨⟨y0, y1⟩, _⟩, ⟨⟨z0, z1⟩, _⟩, ⟨⟨j0, j1⟩, _⟩, ⟨⟨m0, m1⟩, _⟩⟩ := hSw; (first | (go_simp; done) | (go_simp; with_reducible rfl)))
        focus assumption
        (try simp only [Act.put, List.setIfInBounds_toArray, List.set_cons_zero, List.set_cons_succ])
        refine' wpAnyH_take (i := 28) (v := _) ?_ ?_ ?_ ?_ ?_ ?_ ?_ ?_
        rotate_left 2
        focus (simp only [List.getElem?_toArray, List.getElem?_cons_succ, List.getElem?_cons_zero]; rfl)
        focus kernel_rfl
        focus kernel_rfl
        focus kernel_rfl
        focus exact (fun _ _ _ h => h)
        refine Or.inl ⟨?_, ?_⟩
        focus (go_simp; done)
        focus (intro w hSw; obtain ⟨_, ⟨⟨x0, x1⟩, _⟩, ⟨⟨y0, y1⟩, _⟩, ⟨⟨z0, z1⟩, _⟩, ⟨⟨j0, j1⟩, _⟩, ⟨⟨m0, m1⟩, _⟩⟩ := hSw; (first | (go_simp; done) | (go_simp; with_reducible rfl)))
        focus assumption
        (try simp only [Act.put, List.setIfInBounds_toArray, List.set_cons_zero, List.set_cons_succ])
        refine wpAnyH_ready (rs := [29]) (by kernel_rfl) (by simp) ?_
        refine' AllReadyH.cons ?_ (fun K hK => ?_) AllReadyH.nil
        rotate_left
        focus (simp only [List.getElem?_toArray, List.getElem?_cons_succ, List.getElem?_cons_zero]; rfl)
        go_simp
        (go_at_call 22; refine (iLeq_any y.lo y.hi x.lo x.hi true (H3.out.2) _).mono ?_; rintro e w4 ⟨rfl, hb⟩)
        refine hK.out _ _ (hHeld.below hb) (fun hHeld => ?_)
        clear hK K
        (try simp only [Act.put, List.setIfInBounds_toArray, List.set_cons_zero, List.set_cons_succ])
        clear hb
        refine' wpAnyH_take (i := 30) (v := _) ?_ ?_ ?_ ?_ ?_ ?_ ?_ ?_
        rotate_left 2
        focus (simp only [List.getElem?_toArray, List.getElem?_cons_succ, List.getElem?_cons_zero]; rfl)
        focus kernel_rfl
        focus kernel_rfl
        focus kernel_rfl
        focus exact (fun _ _ _ h => h)
        refine Or.inl ⟨?_, ?_⟩
        focus (go_simp; done)
        focus (intro w hSw; obtain ⟨_, ⟨⟨x0, x1⟩, _⟩, ⟨⟨y0, y1⟩, _⟩, ⟨⟨z0, z1⟩, _⟩, ⟨⟨j0, j1⟩, _⟩, ⟨⟨m0, m1⟩, _⟩⟩ := hSw; (first | (go_simp; done) | (go_simp; with_reducible rfl)))
        focus assumption
        (try simp only [Act.put, List.setIfInBounds_toArray, List.set_cons_zero, List.set_cons_succ])
        refine' wpAnyH_take (i := 31) (v := _) ?_ ?_ ?_ ?_ ?_ ?_ ?_ ?_
        rotate_left 2
        focus (simp only [List.getElem?_toArray, List.getElem?_cons_succ, List.getElem?_cons_zero]; rfl)
        focus kernel_rfl
        focus kernel_rfl
        focus kernel_rfl
        focus exact (fun _ _ _ h => h)
        refine Or.inl ⟨?_, ?_⟩
        focus (go_simp; done)
        focus (intro w hSw; obtain ⟨_, ⟨⟨x0, x1⟩, _⟩, ⟨⟨y0, y1⟩, _⟩, ⟨⟨z0, z1⟩, _⟩, ⟨⟨j0, j1⟩, _⟩, ⟨⟨m0, m1⟩, _⟩⟩ := hSw; (first | (go_simp; done) | (go_simp; with_reducible rfl)))
        focus assumption
        (try simp only [Act.put, List.setIfInBounds_toArray, List.set_cons_zero, List.set_cons_succ])
        refine' wpAnyH_take (i := 32) (v := _) ?_ ?_ ?_ ?_ ?_ ?_ ?_ ?_
        rotate_left 2
        focus (simp only [List.getElem?_toArray, List.getElem?_cons_succ, List.getElem?_cons_zero]; rfl)
        focus kernel_rfl
        focus kernel_rfl
        focus kernel_rfl
        focus exact (fun _ _ _ h => h)
        refine Or.inl ⟨?_, ?_⟩
        focus (go_simp; done)
        focus (intro w hSw; obtain ⟨_, ⟨⟨x0, x1⟩, _⟩, ⟨⟨y0, y1⟩, _⟩, ⟨⟨z0, z1⟩, _⟩, ⟨⟨j0, j1⟩, _⟩, ⟨⟨m0, m1⟩, _⟩⟩ := hSw; (first | (go_simp; done) | (go_simp; with_reducible rfl)))
        focus assumption
        (try simp only [Act.put, List.setIfInBounds_toArray, List.set_cons_zero, List.set_cons_succ])
        refine' wpAnyH_take (i := 33) (v := _) ?_ ?_ ?_ ?_ ?_ ?_ ?_ ?_
        rotate_left 2
        focus (simp only [List.getElem?_toArray, List.getElem?_cons_succ, List.getElem?_cons_zero]; rfl)
        focus kernel_rfl
        focus kernel_rfl
        focus kernel_rfl
        focus exact (fun _ _ _ h => h)
        refine Or.inl ⟨?_, ?_⟩
        focus (go_simp; done)
        focus (intro w hSw; obtain ⟨_, ⟨⟨x0, x1⟩, _⟩, ⟨⟨y0, y1⟩, _⟩, ⟨⟨z0, z1⟩, _⟩, ⟨⟨j0, j1⟩, _⟩, ⟨⟨m0, m1⟩, _⟩⟩ := hSw; (first | (go_simp; done) | (go_simp; with_reducible rfl)))
        focus assumption
        (try simp only [Act.put, List.setIfInBounds_toArray, List.set_cons_zero, List.set_cons_succ])
        refine' wpAnyH_take (i := 34) (v := _) ?_ ?_ ?_ ?_ ?_ ?_ ?_ ?_
        rotate_left 2
        focus (simp only [List.getElem?_toArray, List.getElem?_cons_succ, List.getElem?_cons_zero]; rfl)
        focus kernel_rfl
        focus kernel_rfl
        focus kernel_rfl
        focus exact (fun _ _ _ h => h)
        refine Or.inl ⟨?_, ?_⟩
        focus (go_simp; done)
        focus (intro w hSw; obtain ⟨_, ⟨⟨x0, x1⟩, _⟩, ⟨⟨y0, y1⟩, _⟩, ⟨⟨z0, z1⟩, _⟩, ⟨⟨j0, j1⟩, _⟩, ⟨⟨m0, m1⟩, _⟩⟩ := hSw; (first | (go_simp; done) | (go_simp; with_reducible rfl)))
        focus assumption
        (try simp only [Act.put, List.setIfInBounds_toArray, List.set_cons_zero, List.set_cons_succ])
        refine' wpAnyH_take (i := 35) (v := _) ?_ ?_ ?_ ?_ ?_ ?_ ?_ ?_
        rotate_left 2
        focus (simp only [List.getElem?_toArray, List.getElem?_cons_succ, List.getElem?_cons_zero]; rfl)
        focus kernel_rfl
        focus kernel_rfl
        focus kernel_rfl
        focus exact (fun _ _ _ h => h)
        refine Or.inl ⟨?_, ?_⟩
        focus (go_simp; done)
        focus (intro w hSw; obtain ⟨_, ⟨⟨x0, x1⟩, _⟩, ⟨⟨y0, y1⟩, _⟩, ⟨⟨z0, z1⟩, _⟩, ⟨⟨j0, j1⟩, _⟩, ⟨⟨m0, m1⟩, _⟩⟩ := hSw; (first | (go_simp; done) | (go_simp; with_reducible rfl)))
        focus assumption
        (try simp only [Act.put, List.setIfInBounds_toArray, List.set_cons_zero, List.set_cons_succ])
        refine' wpAnyH_take (i := 36) (v := _) ?_ ?_ ?_ ?_ ?_ ?_ ?_ ?_
        rotate_left 2
        focus (simp only [List.getElem?_toArray, List.getElem?_cons_succ, List.getElem?_cons_zero]; rfl)
        focus kernel_rfl
        focus kernel_rfl
        focus kernel_rfl
        focus exact (fun _ _ _ h => h)
        refine Or.inl ⟨?_, ?_⟩
        focus (go_simp; done)
        focus (intro w hSw; obtain ⟨_, ⟨⟨x0, x1⟩, _⟩, ⟨⟨y0, y1⟩, _⟩, ⟨⟨z0, z1⟩, _⟩, ⟨⟨j0, j1⟩, _⟩, ⟨⟨m0, m1⟩, _⟩⟩ := hSw; (first | (go_simp; done) | (go_simp; with_reducible rfl)))
        focus assumption
        (try simp only [Act.put, List.setIfInBounds_toArray, List.set_cons_zero, List.set_cons_succ])
        refine' wpAnyH_take (i := 37) (v := _) ?_ ?_ ?_ ?_ ?_ ?_ ?_ ?_
        rotate_left 2
        focus (simp only [List.getElem?_toArray, List.getElem?_cons_succ, List.getElem?_cons_zero]; rfl)
        focus kernel_rfl
        focus kernel_rfl
        focus kernel_rfl
        focus exact (fun _ _ _ h => h)
        refine Or.inl ⟨?_, ?_⟩
        focus (go_simp; done)
        focus (intro w hSw; obtain ⟨_, ⟨⟨x0, x1⟩, _⟩, ⟨⟨y0, y1⟩, _⟩, ⟨⟨z0, z1⟩, _⟩, ⟨⟨j0, j1⟩, _⟩, ⟨⟨m0, m1⟩, _⟩⟩ := hSw; (first | (go_simp; done) | (go_simp; with_reducible rfl)))
        focus assumption
        (try simp only [Act.put, List.setIfInBounds_toArray, List.set_cons_zero, List.set_cons_succ])
        refine' wpAnyH_take (i := 38) (v := _) ?_ ?_ ?_ ?_ ?_ ?_ ?_ ?_
        rotate_left 2
        focus (simp only [List.getElem?_toArray, List.getElem?_cons_succ, List.getElem?_cons_zero]; rfl)
        focus kernel_rfl
        focus kernel_rfl
        focus kernel_rfl
        focus exact (fun _ _ _ h => h)
        refine Or.inl ⟨?_, ?_⟩
        focus (go_simp; done)
        focus (intro w hSw; obtain ⟨_, ⟨⟨x0, x1⟩, _⟩, ⟨⟨y0, y1⟩, _⟩, ⟨⟨z0, z1⟩, _⟩, ⟨⟨j0, j1⟩, _⟩, ⟨⟨m0, m1⟩, _⟩⟩ := hSw; (first | (go_simp; done) | (go_simp; with_reducible rfl)))
        focus assumption
        (try simp only [Act.put, List.setIfInBounds_toArray, List.set_cons_zero, List.set_cons_succ])
        refine wpAnyH_ready (rs := [39]) (by kernel_rfl) (by simp) ?_
        refine' AllReadyH.cons ?_ (fun K hK => ?_) AllReadyH.nil
        rotate_left
        focus (simp only [List.getElem?_toArray, List.getElem?_cons_succ, List.getElem?_cons_zero]; rfl)
        go_simp
        (go_at_call 14; refine (awake_any _).mono ?_; rintro e w4 ⟨rfl, hb⟩)
        refine hK.out _ _ (hHeld.below hb) (fun hHeld => ?_)
        clear hK K
        (try simp only [Act.put, List.setIfInBounds_toArray, List.set_cons_zero, List.set_cons_succ])
        clear hb
        refine' wpAnyH_take (i := 40) (v := _) ?_ ?_ ?_ ?_ ?_ ?_ ?_ ?_
        rotate_left 2
        focus (simp only [List.getElem?_toArray, List.getElem?_cons_succ, List.getElem?_cons_zero]; rfl)
        focus kernel_rfl
        focus kernel_rfl
        focus kernel_rfl
        focus exact (fun _ _ _ h => h)
        refine Or.inl ⟨?_, ?_⟩
        focus (go_simp; done)
        focus (intro w hSw; obtain ⟨_, ⟨⟨x0, x1⟩, _⟩, ⟨⟨y0, y1⟩, _⟩, ⟨⟨z0, z1⟩, _⟩, ⟨⟨j0, j1⟩, _⟩, ⟨⟨m0, m1⟩, _⟩⟩ := hSw; (first | (go_simp; done) | (go_simp; with_reducible rfl)))
        focus assumption
        (try simp only [Act.put, List.setIfInBounds_toArray, List.set_cons_zero, List.set_cons_succ])
        refine' wpAnyH_take (i := 41) (v := _) ?_ ?_ ?_ ?_ ?_ ?_ ?_ ?_
        rotate_left 2
        focus (simp only [List.getElem?_toArray, List.getElem?_cons_succ, List.getElem?_cons_zero]; rfl)
        focus kernel_rfl
        focus kernel_rfl
        focus kernel_rfl
        focus exact (fun _ _ _ h => h)
        refine Or.inl ⟨?_, ?_⟩
        focus (go_simp; done)
        focus (intro w hSw; obtain ⟨_, ⟨⟨x0, x1⟩, _⟩, ⟨⟨y0, y1⟩, _⟩, ⟨⟨z0, z1⟩, _⟩, ⟨⟨j0, j1⟩, _⟩, ⟨⟨m0, m1⟩, _⟩⟩ := hSw; (first | (go_simp; done) | (go_simp; with_reducible rfl)))
        focus assumption
        (try simp only [Act.put, List.setIfInBounds_toArray, List.set_cons_zero, List.set_cons_succ])
        refine wpAnyH_done (by kernel_rfl) ?_ _
        clear hT
        clear hv x0 x1 xg y0 y1 yg z0 z1 zg j0 j1 jg m0 m1 mg
        have hT := hHeld
        obtain ⟨hv, ⟨⟨x0, x1⟩, xg⟩, ⟨⟨y0, y1⟩, yg⟩, ⟨⟨z0, z1⟩, zg⟩, ⟨⟨j0, j1⟩, jg⟩, ⟨⟨m0, m1⟩, mg⟩⟩ := id hT
        go_wp2
        go_ret
        exact ⟨rfl, hv⟩
end Go.Proofs.Ytdajgopgaklipaa
