/- The walk of the law CongruenceLattice: it answers true. No condition. -/
import Derived.Test.YtmdakglbommopaaDoorCgPair
import Derived.Test.YtmdakglbommopaaDoorStFresh
import Derived.Deep.RegionWith
namespace Go.Proofs.YtmdakglbommopaaDoor
open Go.RowKit
set_option linter.unusedVariables false
set_option linter.unusedSimpArgs false
attribute [local go_sem] y_undef
/-- The array of a law's last three bytes, in its box. -/
def Arr3 (w : World) (h0 h1 h2 : Int) (w' : World) : Prop := (w'.cell? ⟨w.heap.size, 0, none⟩ = some (.int .u8 h0) ∧ w'.cell? ⟨w.heap.size, 1, none⟩ = some (.int .u8 h1) ∧ w'.cell? ⟨w.heap.size, 2, none⟩ = some (.int .u8 h2)) ∧ Ahead 1 w w'
theorem Arr3.below {w w1 w2 : World} {h0 h1 h2 : Int} (h : Arr3 w h0 h1 h2 w1) (hb : Below w1.heap.size w1 w2) : Arr3 w h0 h1 h2 w2 :=
  ⟨⟨h.2.cell0 hb h.1.1 (by omega), h.2.cell0 hb h.1.2.1 (by omega), h.2.cell0 hb h.1.2.2 (by omega)⟩, h.2.below hb⟩
/-- Three residues, and five, in blocks of their own. -/
def Thr (w : World) (x y z : Rs) (g1 g2 g3 : Nat) (w' : World) : Prop := Below w.heap.size w w' ∧ Pr x.m x.r g1 w' ∧ Pr y.m y.r g2 w' ∧ Pr z.m z.r g3 w'
theorem Thr.below {w a b : World} {x y z : Rs} {g1 g2 g3 : Nat} (h : Thr w x y z g1 g2 g3 a) (hb : Below a.heap.size a b) : Thr w x y z g1 g2 g3 b := ⟨h.1.trans (hb.mono h.1.size), h.2.1.below hb, h.2.2.1.below hb, h.2.2.2.below hb⟩
theorem Thr.drew {w a : World} {x y z : Rs} {g1 g2 g3 : Nat} (h : Thr w x y z g1 g2 g3 a) : Thr w x y z g1 g2 g3 a.drew := h.below (below_drewN _ a 1)
def Fiv (w : World) (x y z j m : Rs) (g1 g2 g3 g4 g5 : Nat) (w' : World) : Prop := Below w.heap.size w w' ∧ Pr x.m x.r g1 w' ∧ Pr y.m y.r g2 w' ∧ Pr z.m z.r g3 w' ∧ Pr j.m j.r g4 w' ∧ Pr m.m m.r g5 w'
theorem Fiv.below {w a b : World} {x y z j m : Rs} {g1 g2 g3 g4 g5 : Nat} (h : Fiv w x y z j m g1 g2 g3 g4 g5 a) (hb : Below a.heap.size a b) : Fiv w x y z j m g1 g2 g3 g4 g5 b :=
  ⟨h.1.trans (hb.mono h.1.size), h.2.1.below hb, h.2.2.1.below hb, h.2.2.2.1.below hb, h.2.2.2.2.1.below hb, h.2.2.2.2.2.below hb⟩
theorem Fiv.drew {w a : World} {x y z j m : Rs} {g1 g2 g3 g4 g5 : Nat} (h : Fiv w x y z j m g1 g2 g3 g4 g5 a) : Fiv w x y z j m g1 g2 g3 g4 g5 a.drew := h.below (below_drewN _ a 1)
set_option maxRecDepth 100000 in
set_option maxHeartbeats 32000000 in
theorem lattice_law (a b c h0 h1 h2 n : Int) (ha : -2147483648 ≤ a ∧ a ≤ 2147483647) (hb : -2147483648 ≤ b ∧ b ≤ 2147483647) (hc : -2147483648 ≤ c ∧ c ≤ 2147483647) (hh0 : 0 ≤ h0 ∧ h0 ≤ 255) (hh1 : 0 ≤ h1 ∧ h1 ≤ 255) (hh2 : 0 ≤ h2 ∧ h2 ≤ 255) (hn : -2147483648 ≤ n ∧ n ≤ 2147483647) (w : World) (htb : Tb w) :
    Calls Tryd.prog 6 #[.int .i32 a, .int .i32 b, .int .i32 c, .agg #[.int .u8 h0, .int .u8 h1, .int .u8 h2], .int .i32 n] w fun e w' => e = .returned (.bool true) ∧ Below w.heap.size w w' := by
  have HTb := Lib.hid htb
  clear htb
  have hA := (Ahead.refl w).alloc (.cells #[.int .u8 h0, .int .u8 h1, .int .u8 h2] 39)
  have HX := Lib.hid (of_any a h0 ha hh0)
  have HY := Lib.hid (of_any b h1 hb hh1)
  have HZ := Lib.hid (of_any c h2 hc hh2)
  obtain ⟨n0, n1⟩ := hn
  obtain ⟨nu, hnu⟩ : ∃ u, IntKind.u32.wrap n = u := ⟨_, rfl⟩
  have HNU := Lib.hid (show 0 ≤ nu ∧ nu ≤ 4294967295 by
    have e : IntKind.u32.wrap n = n % 4294967296 := by simp [IntKind.wrap, IntKind.bits, IntKind.signed]
    rw [← hnu, e]; omega)
  clear ha hb hc hh0 hh1 hh2
  have hg := rs_guard
  go_enter Tryd.func6, Tryd.ntmps6
  go_wp2_with fail
  obtain ⟨u0, hu0⟩ : ∃ u0, (w.alloc (.cells #[.int .u8 h0, .int .u8 h1, .int .u8 h2] 39)).drew = u0 := ⟨_, rfl⟩
  have HU0 := Lib.hid hu0
  have hAD := hA.drew
  rw [hu0] at hAD
  have hAr : Arr3 w h0 h1 h2 u0 := ⟨by rw [← hu0]; exact ⟨by simp, by simp, by simp⟩, hAD⟩
  clear hu0
  have hBase : ∀ u, Bel u0 u → Arr3 w h0 h1 h2 u := fun u h => hAr.below h
  rename_i K1 hK1
  have HK1 := Lib.hid hK1
  clear hK1
  have hI := fr3_refl u0
  refine wp_region_held_drew (S := (fun w' => Arr3 w h0 h1 h2 w')) (by kernel_rfl) (by rw [HU0.out]; exact hBase _ hI.bel) (fun hHeld => ?_)
  rw [HU0.out] at hHeld ⊢
  refine' wpAnyH_take (i := 0) (v := _) ?_ ?_ ?_ ?_ ?_ ?_ ?_ ?_
  rotate_left 2
  focus (simp only [List.getElem?_toArray, List.getElem?_cons_succ, List.getElem?_cons_zero]; rfl)
  focus kernel_rfl
  focus kernel_rfl
  focus kernel_rfl
  focus exact (fun _ _ _ h => h)
  refine Or.inl ⟨?_, ?_⟩
  focus (go_simp; done)
  focus (intro w hSw; obtain ⟨⟨a0, a1, a2⟩, _⟩ := hSw; (first | (go_simp; done) | (go_simp; with_reducible rfl)))
  focus assumption
  (try simp only [Act.put, List.setIfInBounds_toArray, List.set_cons_zero, List.set_cons_succ])
  refine' wpAnyH_take (i := 1) (v := _) ?_ ?_ ?_ ?_ ?_ ?_ ?_ ?_
  rotate_left 2
  focus (simp only [List.getElem?_toArray, List.getElem?_cons_succ, List.getElem?_cons_zero]; rfl)
  focus kernel_rfl
  focus kernel_rfl
  focus kernel_rfl
  focus exact (fun _ _ _ h => h)
  refine Or.inl ⟨?_, ?_⟩
  focus (go_simp; done)
  focus (intro w hSw; obtain ⟨⟨a0, a1, a2⟩, _⟩ := hSw; (first | (go_simp; done) | (go_simp; with_reducible rfl)))
  focus assumption
  (try simp only [Act.put, List.setIfInBounds_toArray, List.set_cons_zero, List.set_cons_succ])
  refine' wpAnyH_take (i := 2) (v := _) ?_ ?_ ?_ ?_ ?_ ?_ ?_ ?_
  rotate_left 2
  focus (simp only [List.getElem?_toArray, List.getElem?_cons_succ, List.getElem?_cons_zero]; rfl)
  focus kernel_rfl
  focus kernel_rfl
  focus kernel_rfl
  focus exact (fun _ _ _ h => h)
  refine Or.inl ⟨?_, ?_⟩
  focus (go_simp; done)
  focus (intro w hSw; obtain ⟨⟨a0, a1, a2⟩, _⟩ := hSw; (first | (go_simp; done) | (go_simp; with_reducible rfl)))
  focus assumption
  (try simp only [Act.put, List.setIfInBounds_toArray, List.set_cons_zero, List.set_cons_succ])
  refine' wpAnyH_take (i := 4) (v := _) ?_ ?_ ?_ ?_ ?_ ?_ ?_ ?_
  rotate_left 2
  focus (simp only [List.getElem?_toArray, List.getElem?_cons_succ, List.getElem?_cons_zero]; rfl)
  focus kernel_rfl
  focus kernel_rfl
  focus kernel_rfl
  focus exact (fun _ _ _ h => h)
  refine Or.inl ⟨?_, ?_⟩
  focus (go_simp; done)
  focus (intro w hSw; obtain ⟨⟨a0, a1, a2⟩, _⟩ := hSw; (first | (go_simp; done) | (go_simp; with_reducible rfl)))
  focus assumption
  (try simp only [Act.put, List.setIfInBounds_toArray, List.set_cons_zero, List.set_cons_succ])
  refine' wpAnyH_take (i := 5) (v := _) ?_ ?_ ?_ ?_ ?_ ?_ ?_ ?_
  rotate_left 2
  focus (simp only [List.getElem?_toArray, List.getElem?_cons_succ, List.getElem?_cons_zero]; rfl)
  focus kernel_rfl
  focus kernel_rfl
  focus kernel_rfl
  focus exact (fun _ _ _ h => h)
  refine Or.inl ⟨?_, ?_⟩
  focus (go_simp; done)
  focus (intro w hSw; obtain ⟨⟨a0, a1, a2⟩, _⟩ := hSw; (first | (go_simp; done) | (go_simp; with_reducible rfl)))
  focus assumption
  (try simp only [Act.put, List.setIfInBounds_toArray, List.set_cons_zero, List.set_cons_succ])
  refine' wpAnyH_take (i := 6) (v := _) ?_ ?_ ?_ ?_ ?_ ?_ ?_ ?_
  rotate_left 2
  focus (simp only [List.getElem?_toArray, List.getElem?_cons_succ, List.getElem?_cons_zero]; rfl)
  focus kernel_rfl
  focus kernel_rfl
  focus kernel_rfl
  focus exact (fun _ _ _ h => h)
  refine Or.inl ⟨?_, ?_⟩
  focus (go_simp; done)
  focus (intro w hSw; obtain ⟨⟨a0, a1, a2⟩, _⟩ := hSw; (first | (go_simp; done) | (go_simp; with_reducible rfl)))
  focus assumption
  (try simp only [Act.put, List.setIfInBounds_toArray, List.set_cons_zero, List.set_cons_succ])
  refine' wpAnyH_take (i := 8) (v := _) ?_ ?_ ?_ ?_ ?_ ?_ ?_ ?_
  rotate_left 2
  focus (simp only [List.getElem?_toArray, List.getElem?_cons_succ, List.getElem?_cons_zero]; rfl)
  focus kernel_rfl
  focus kernel_rfl
  focus kernel_rfl
  focus exact (fun _ _ _ h => h)
  refine Or.inl ⟨?_, ?_⟩
  focus (go_simp; done)
  focus (intro w hSw; obtain ⟨⟨a0, a1, a2⟩, _⟩ := hSw; (first | (go_simp; done) | (go_simp; with_reducible rfl)))
  focus assumption
  (try simp only [Act.put, List.setIfInBounds_toArray, List.set_cons_zero, List.set_cons_succ])
  refine' wpAnyH_take (i := 9) (v := _) ?_ ?_ ?_ ?_ ?_ ?_ ?_ ?_
  rotate_left 2
  focus (simp only [List.getElem?_toArray, List.getElem?_cons_succ, List.getElem?_cons_zero]; rfl)
  focus kernel_rfl
  focus kernel_rfl
  focus kernel_rfl
  focus exact (fun _ _ _ h => h)
  refine Or.inl ⟨?_, ?_⟩
  focus (go_simp; done)
  focus (intro w hSw; obtain ⟨⟨a0, a1, a2⟩, _⟩ := hSw; (first | (go_simp; done) | (go_simp; with_reducible rfl)))
  focus assumption
  (try simp only [Act.put, List.setIfInBounds_toArray, List.set_cons_zero, List.set_cons_succ])
  refine' wpAnyH_take (i := 10) (v := _) ?_ ?_ ?_ ?_ ?_ ?_ ?_ ?_
  rotate_left 2
  focus (simp only [List.getElem?_toArray, List.getElem?_cons_succ, List.getElem?_cons_zero]; rfl)
  focus kernel_rfl
  focus kernel_rfl
  focus kernel_rfl
  focus exact (fun _ _ _ h => h)
  refine Or.inl ⟨?_, ?_⟩
  focus (go_simp; done)
  focus (intro w hSw; obtain ⟨⟨a0, a1, a2⟩, _⟩ := hSw; (first | (go_simp; done) | (go_simp; with_reducible rfl)))
  focus assumption
  (try simp only [Act.put, List.setIfInBounds_toArray, List.set_cons_zero, List.set_cons_succ])
  refine' mh6 (Pre := fun (x : Rs) (y : Rs) (z : Rs) (g1 : Nat) (g2 : Nat) (g3 : Nat) (w' : World) => Rs.F x ∧ Rs.F y ∧ Rs.F z ∧ Fr3 u0 (some g1) (some g2) (some g3) w') _ #[true, true, true, true, true, true, true, true, true, true, true, true, true, true, true, false, false, false] _ (fun HK1_3012 => ?ha1_3012) (fun x y z g1 g2 g3 w' hpre => ?hb1_3012)
  case' ha1_3012 => skip
  refine' mh5 (Pre := fun (x : Rs) (y : Rs) (z : Rs) (g2 : Nat) (g3 : Nat) (w' : World) => Rs.F x ∧ Rs.F y ∧ Rs.F z ∧ Fr3 u0 none (some g2) (some g3) w') _ #[true, true, true, true, true, true, true, true, true, true, true, true, false, true, true, false, false, false] _ (fun HK1_312 => ?ha1_312) (fun x y z g2 g3 w' hpre => ?hb1_312)
  case' ha1_312 => skip
  refine' mh5 (Pre := fun (x : Rs) (y : Rs) (z : Rs) (g1 : Nat) (g3 : Nat) (w' : World) => Rs.F x ∧ Rs.F y ∧ Rs.F z ∧ Fr3 u0 (some g1) none (some g3) w') _ #[true, true, true, true, true, true, true, true, true, true, true, true, true, false, true, false, false, false] _ (fun HK1_302 => ?ha1_302) (fun x y z g1 g3 w' hpre => ?hb1_302)
  case' ha1_302 => skip
  refine' mh5 (Pre := fun (x : Rs) (y : Rs) (z : Rs) (g1 : Nat) (g2 : Nat) (w' : World) => Rs.F x ∧ Rs.F y ∧ Rs.F z ∧ Fr3 u0 (some g1) (some g2) none w') _ #[true, true, true, true, true, true, true, true, true, true, true, true, true, true, false, false, false, false] _ (fun HK1_301 => ?ha1_301) (fun x y z g1 g2 w' hpre => ?hb1_301)
  case' ha1_301 => skip
  refine' mh5 (Pre := fun (x : Rs) (y : Rs) (g1 : Nat) (g2 : Nat) (g3 : Nat) (w' : World) => Rs.F x ∧ Rs.F y ∧ Fr3 u0 (some g1) (some g2) (some g3) w') _ #[true, true, true, true, true, true, true, true, true, true, true, false, true, true, true, false, false, false] _ (fun HK1_2012 => ?ha1_2012) (fun x y g1 g2 g3 w' hpre => ?hb1_2012)
  case' ha1_2012 => skip
  refine' mh4 (Pre := fun (x : Rs) (y : Rs) (z : Rs) (g3 : Nat) (w' : World) => Rs.F x ∧ Rs.F y ∧ Rs.F z ∧ Fr3 u0 none none (some g3) w') _ #[true, true, true, true, true, true, true, true, true, true, true, true, false, false, true, false, false, false] _ (fun HK1_32 => ?ha1_32) (fun x y z g3 w' hpre => ?hb1_32)
  case' ha1_32 => skip
  refine' mh4 (Pre := fun (x : Rs) (y : Rs) (z : Rs) (g2 : Nat) (w' : World) => Rs.F x ∧ Rs.F y ∧ Rs.F z ∧ Fr3 u0 none (some g2) none w') _ #[true, true, true, true, true, true, true, true, true, true, true, true, false, true, false, false, false, false] _ (fun HK1_31 => ?ha1_31) (fun x y z g2 w' hpre => ?hb1_31)
  case' ha1_31 => skip
  refine' mh4 (Pre := fun (x : Rs) (y : Rs) (z : Rs) (g1 : Nat) (w' : World) => Rs.F x ∧ Rs.F y ∧ Rs.F z ∧ Fr3 u0 (some g1) none none w') _ #[true, true, true, true, true, true, true, true, true, true, true, true, true, false, false, false, false, false] _ (fun HK1_30 => ?ha1_30) (fun x y z g1 w' hpre => ?hb1_30)
  case' ha1_30 => skip
  refine' mh4 (Pre := fun (x : Rs) (y : Rs) (g2 : Nat) (g3 : Nat) (w' : World) => Rs.F x ∧ Rs.F y ∧ Fr3 u0 none (some g2) (some g3) w') _ #[true, true, true, true, true, true, true, true, true, true, true, false, false, true, true, false, false, false] _ (fun HK1_212 => ?ha1_212) (fun x y g2 g3 w' hpre => ?hb1_212)
  case' ha1_212 => skip
  refine' mh4 (Pre := fun (x : Rs) (y : Rs) (g1 : Nat) (g3 : Nat) (w' : World) => Rs.F x ∧ Rs.F y ∧ Fr3 u0 (some g1) none (some g3) w') _ #[true, true, true, true, true, true, true, true, true, true, true, false, true, false, true, false, false, false] _ (fun HK1_202 => ?ha1_202) (fun x y g1 g3 w' hpre => ?hb1_202)
  case' ha1_202 => skip
  refine' mh4 (Pre := fun (x : Rs) (y : Rs) (g1 : Nat) (g2 : Nat) (w' : World) => Rs.F x ∧ Rs.F y ∧ Fr3 u0 (some g1) (some g2) none w') _ #[true, true, true, true, true, true, true, true, true, true, true, false, true, true, false, false, false, false] _ (fun HK1_201 => ?ha1_201) (fun x y g1 g2 w' hpre => ?hb1_201)
  case' ha1_201 => skip
  refine' mh4 (Pre := fun (x : Rs) (g1 : Nat) (g2 : Nat) (g3 : Nat) (w' : World) => Rs.F x ∧ Fr3 u0 (some g1) (some g2) (some g3) w') _ #[true, true, true, true, true, true, true, false, true, true, true, false, true, true, true, false, false, false] _ (fun HK1_1012 => ?ha1_1012) (fun x g1 g2 g3 w' hpre => ?hb1_1012)
  case' ha1_1012 => skip
  refine' mh3 (Pre := fun (x : Rs) (y : Rs) (z : Rs) (w' : World) => Rs.F x ∧ Rs.F y ∧ Rs.F z ∧ Fr3 u0 none none none w') _ #[true, true, true, true, true, true, true, true, true, true, true, true, false, false, false, false, false, false] _ (fun HK1_3 => ?ha1_3) (fun x y z w' hpre => ?hb1_3)
  case' ha1_3 => skip
  refine' mh3 (Pre := fun (x : Rs) (y : Rs) (g3 : Nat) (w' : World) => Rs.F x ∧ Rs.F y ∧ Fr3 u0 none none (some g3) w') _ #[true, true, true, true, true, true, true, true, true, true, true, false, false, false, true, false, false, false] _ (fun HK1_22 => ?ha1_22) (fun x y g3 w' hpre => ?hb1_22)
  case' ha1_22 => skip
  refine' mh3 (Pre := fun (x : Rs) (y : Rs) (g2 : Nat) (w' : World) => Rs.F x ∧ Rs.F y ∧ Fr3 u0 none (some g2) none w') _ #[true, true, true, true, true, true, true, true, true, true, true, false, false, true, false, false, false, false] _ (fun HK1_21 => ?ha1_21) (fun x y g2 w' hpre => ?hb1_21)
  case' ha1_21 => skip
  refine' mh3 (Pre := fun (x : Rs) (y : Rs) (g1 : Nat) (w' : World) => Rs.F x ∧ Rs.F y ∧ Fr3 u0 (some g1) none none w') _ #[true, true, true, true, true, true, true, true, true, true, true, false, true, false, false, false, false, false] _ (fun HK1_20 => ?ha1_20) (fun x y g1 w' hpre => ?hb1_20)
  case' ha1_20 => skip
  refine' mh3 (Pre := fun (x : Rs) (g2 : Nat) (g3 : Nat) (w' : World) => Rs.F x ∧ Fr3 u0 none (some g2) (some g3) w') _ #[true, true, true, true, true, true, true, false, true, true, true, false, false, true, true, false, false, false] _ (fun HK1_112 => ?ha1_112) (fun x g2 g3 w' hpre => ?hb1_112)
  case' ha1_112 => skip
  refine' mh3 (Pre := fun (x : Rs) (g1 : Nat) (g3 : Nat) (w' : World) => Rs.F x ∧ Fr3 u0 (some g1) none (some g3) w') _ #[true, true, true, true, true, true, true, false, true, true, true, false, true, false, true, false, false, false] _ (fun HK1_102 => ?ha1_102) (fun x g1 g3 w' hpre => ?hb1_102)
  case' ha1_102 => skip
  refine' mh3 (Pre := fun (x : Rs) (g1 : Nat) (g2 : Nat) (w' : World) => Rs.F x ∧ Fr3 u0 (some g1) (some g2) none w') _ #[true, true, true, true, true, true, true, false, true, true, true, false, true, true, false, false, false, false] _ (fun HK1_101 => ?ha1_101) (fun x g1 g2 w' hpre => ?hb1_101)
  case' ha1_101 => skip
  refine' mh3 (Pre := fun (g1 : Nat) (g2 : Nat) (g3 : Nat) (w' : World) => Fr3 u0 (some g1) (some g2) (some g3) w') _ #[true, true, true, false, true, true, true, false, true, true, true, false, true, true, true, false, false, false] _ (fun HK1_0012 => ?ha1_0012) (fun g1 g2 g3 w' hpre => ?hb1_0012)
  case' ha1_0012 => skip
  refine' mh2 (Pre := fun (x : Rs) (y : Rs) (w' : World) => Rs.F x ∧ Rs.F y ∧ Fr3 u0 none none none w') _ #[true, true, true, true, true, true, true, true, true, true, true, false, false, false, false, false, false, false] _ (fun HK1_2 => ?ha1_2) (fun x y w' hpre => ?hb1_2)
  case' ha1_2 => skip
  refine' mh2 (Pre := fun (x : Rs) (g3 : Nat) (w' : World) => Rs.F x ∧ Fr3 u0 none none (some g3) w') _ #[true, true, true, true, true, true, true, false, true, true, true, false, false, false, true, false, false, false] _ (fun HK1_12 => ?ha1_12) (fun x g3 w' hpre => ?hb1_12)
  case' ha1_12 => skip
  refine' mh2 (Pre := fun (x : Rs) (g2 : Nat) (w' : World) => Rs.F x ∧ Fr3 u0 none (some g2) none w') _ #[true, true, true, true, true, true, true, false, true, true, true, false, false, true, false, false, false, false] _ (fun HK1_11 => ?ha1_11) (fun x g2 w' hpre => ?hb1_11)
  case' ha1_11 => skip
  refine' mh2 (Pre := fun (x : Rs) (g1 : Nat) (w' : World) => Rs.F x ∧ Fr3 u0 (some g1) none none w') _ #[true, true, true, true, true, true, true, false, true, true, true, false, true, false, false, false, false, false] _ (fun HK1_10 => ?ha1_10) (fun x g1 w' hpre => ?hb1_10)
  case' ha1_10 => skip
  refine' mh2 (Pre := fun (g2 : Nat) (g3 : Nat) (w' : World) => Fr3 u0 none (some g2) (some g3) w') _ #[true, true, true, false, true, true, true, false, true, true, true, false, false, true, true, false, false, false] _ (fun HK1_012 => ?ha1_012) (fun g2 g3 w' hpre => ?hb1_012)
  case' ha1_012 => skip
  refine' mh2 (Pre := fun (g1 : Nat) (g3 : Nat) (w' : World) => Fr3 u0 (some g1) none (some g3) w') _ #[true, true, true, false, true, true, true, false, true, true, true, false, true, false, true, false, false, false] _ (fun HK1_002 => ?ha1_002) (fun g1 g3 w' hpre => ?hb1_002)
  case' ha1_002 => skip
  refine' mh2 (Pre := fun (g1 : Nat) (g2 : Nat) (w' : World) => Fr3 u0 (some g1) (some g2) none w') _ #[true, true, true, false, true, true, true, false, true, true, true, false, true, true, false, false, false, false] _ (fun HK1_001 => ?ha1_001) (fun g1 g2 w' hpre => ?hb1_001)
  case' ha1_001 => skip
  refine' mh1 (Pre := fun (x : Rs) (w' : World) => Rs.F x ∧ Fr3 u0 none none none w') _ #[true, true, true, true, true, true, true, false, true, true, true, false, false, false, false, false, false, false] _ (fun HK1_1 => ?ha1_1) (fun x w' hpre => ?hb1_1)
  case' ha1_1 => skip
  refine' mh1 (Pre := fun (g3 : Nat) (w' : World) => Fr3 u0 none none (some g3) w') _ #[true, true, true, false, true, true, true, false, true, true, true, false, false, false, true, false, false, false] _ (fun HK1_02 => ?ha1_02) (fun g3 w' hpre => ?hb1_02)
  case' ha1_02 => skip
  refine' mh1 (Pre := fun (g2 : Nat) (w' : World) => Fr3 u0 none (some g2) none w') _ #[true, true, true, false, true, true, true, false, true, true, true, false, false, true, false, false, false, false] _ (fun HK1_01 => ?ha1_01) (fun g2 w' hpre => ?hb1_01)
  case' ha1_01 => skip
  refine' mh1 (Pre := fun (g1 : Nat) (w' : World) => Fr3 u0 (some g1) none none w') _ #[true, true, true, false, true, true, true, false, true, true, true, false, true, false, false, false, false, false] _ (fun HK1_00 => ?ha1_00) (fun g1 w' hpre => ?hb1_00)
  case ha1_00 =>
    refine wpAnyH_ready (rs := [3, 12, 13, 14]) (by kernel_rfl) (by simp) ?_
    refine' AllReadyH.cons ?_ (fun K hK => ?_) ?_
    rotate_left
    focus (simp only [List.getElem?_toArray, List.getElem?_cons_succ, List.getElem?_cons_zero]; rfl)
    focus
      go_simp
      (go_at_call 14; refine Calls.mono (HX.out _) ?_; rintro e v ⟨x, hx, rfl, hb⟩)
      replace hI := hI.below hb
      refine hK.out _ _ (hBase _ hI.bel) (fun hHeld => ?_)
      clear hK K hb
      (try simp only [Act.put, List.setIfInBounds_toArray, List.set_cons_zero, List.set_cons_succ])
      refine wpAnyH_listed (listed' := #[true, true, true, true, true, true, true, false, true, true, true, false, false, false, false, false, false, false]) (by kernel_rfl) ?_
      exact HK1_1 x v ⟨hx, hI⟩
    refine' AllReadyH.cons ?_ (fun K hK => ?_) ?_
    rotate_left
    focus (simp only [List.getElem?_toArray, List.getElem?_cons_succ, List.getElem?_cons_zero]; rfl)
    focus
      go_simp
      replace hI := hI.make1 (t := 23)
      refine hK.out _ _ (hBase _ hI.bel) (fun hHeld => ?_)
      clear hK K
      (try simp only [Act.put, List.setIfInBounds_toArray, List.set_cons_zero, List.set_cons_succ])
      generalize u0.alloc (.cells #[.int .i64 0, .int .i64 0] 23) = v at *
      generalize u0.heap.size = g1 at *
      refine wpAnyH_listed (listed' := #[true, true, true, false, true, true, true, false, true, true, true, false, true, false, false, false, false, false]) (by kernel_rfl) ?_
      exact HK1_00 g1 v hI
    refine' AllReadyH.cons ?_ (fun K hK => ?_) ?_
    rotate_left
    focus (simp only [List.getElem?_toArray, List.getElem?_cons_succ, List.getElem?_cons_zero]; rfl)
    focus
      go_simp
      replace hI := hI.make2 (t := 23)
      refine hK.out _ _ (hBase _ hI.bel) (fun hHeld => ?_)
      clear hK K
      (try simp only [Act.put, List.setIfInBounds_toArray, List.set_cons_zero, List.set_cons_succ])
      generalize u0.alloc (.cells #[.int .i64 0, .int .i64 0] 23) = v at *
      generalize u0.heap.size = g2 at *
      refine wpAnyH_listed (listed' := #[true, true, true, false, true, true, true, false, true, true, true, false, false, true, false, false, false, false]) (by kernel_rfl) ?_
      exact HK1_01 g2 v hI
    refine' AllReadyH.cons ?_ (fun K hK => ?_) ?_
    rotate_left
    focus (simp only [List.getElem?_toArray, List.getElem?_cons_succ, List.getElem?_cons_zero]; rfl)
    focus
      go_simp
      replace hI := hI.make3 (t := 23)
      refine hK.out _ _ (hBase _ hI.bel) (fun hHeld => ?_)
      clear hK K
      (try simp only [Act.put, List.setIfInBounds_toArray, List.set_cons_zero, List.set_cons_succ])
      generalize u0.alloc (.cells #[.int .i64 0, .int .i64 0] 23) = v at *
      generalize u0.heap.size = g3 at *
      refine wpAnyH_listed (listed' := #[true, true, true, false, true, true, true, false, true, true, true, false, false, false, true, false, false, false]) (by kernel_rfl) ?_
      exact HK1_02 g3 v hI
    exact AllReadyH.nil
  case hb1_00 =>
    have hI := hpre
    refine wpAnyH_ready (rs := [3, 13, 14]) (by kernel_rfl) (by simp) ?_
    refine' AllReadyH.cons ?_ (fun K hK => ?_) ?_
    rotate_left
    focus (simp only [List.getElem?_toArray, List.getElem?_cons_succ, List.getElem?_cons_zero]; rfl)
    focus
      go_simp
      (go_at_call 14; refine Calls.mono (HX.out _) ?_; rintro e v ⟨x, hx, rfl, hb⟩)
      replace hI := hI.below hb
      refine hK.out _ _ (hBase _ hI.bel) (fun hHeld => ?_)
      clear hK K hb
      (try simp only [Act.put, List.setIfInBounds_toArray, List.set_cons_zero, List.set_cons_succ])
      refine wpAnyH_listed (listed' := #[true, true, true, true, true, true, true, false, true, true, true, false, true, false, false, false, false, false]) (by kernel_rfl) ?_
      exact HK1_10 x g1 v ⟨hx, hI⟩
    refine' AllReadyH.cons ?_ (fun K hK => ?_) ?_
    rotate_left
    focus (simp only [List.getElem?_toArray, List.getElem?_cons_succ, List.getElem?_cons_zero]; rfl)
    focus
      go_simp
      replace hI := hI.make2 (t := 23)
      refine hK.out _ _ (hBase _ hI.bel) (fun hHeld => ?_)
      clear hK K
      (try simp only [Act.put, List.setIfInBounds_toArray, List.set_cons_zero, List.set_cons_succ])
      generalize w'.alloc (.cells #[.int .i64 0, .int .i64 0] 23) = v at *
      generalize w'.heap.size = g2 at *
      refine wpAnyH_listed (listed' := #[true, true, true, false, true, true, true, false, true, true, true, false, true, true, false, false, false, false]) (by kernel_rfl) ?_
      exact HK1_001 g1 g2 v hI
    refine' AllReadyH.cons ?_ (fun K hK => ?_) ?_
    rotate_left
    focus (simp only [List.getElem?_toArray, List.getElem?_cons_succ, List.getElem?_cons_zero]; rfl)
    focus
      go_simp
      replace hI := hI.make3 (t := 23)
      refine hK.out _ _ (hBase _ hI.bel) (fun hHeld => ?_)
      clear hK K
      (try simp only [Act.put, List.setIfInBounds_toArray, List.set_cons_zero, List.set_cons_succ])
      generalize w'.alloc (.cells #[.int .i64 0, .int .i64 0] 23) = v at *
      generalize w'.heap.size = g3 at *
      refine wpAnyH_listed (listed' := #[true, true, true, false, true, true, true, false, true, true, true, false, true, false, true, false, false, false]) (by kernel_rfl) ?_
      exact HK1_002 g1 g3 v hI
    exact AllReadyH.nil
  case hb1_01 =>
    have hI := hpre
    refine wpAnyH_ready (rs := [3, 12, 14]) (by kernel_rfl) (by simp) ?_
    refine' AllReadyH.cons ?_ (fun K hK => ?_) ?_
    rotate_left
    focus (simp only [List.getElem?_toArray, List.getElem?_cons_succ, List.getElem?_cons_zero]; rfl)
    focus
      go_simp
      (go_at_call 14; refine Calls.mono (HX.out _) ?_; rintro e v ⟨x, hx, rfl, hb⟩)
      replace hI := hI.below hb
      refine hK.out _ _ (hBase _ hI.bel) (fun hHeld => ?_)
      clear hK K hb
      (try simp only [Act.put, List.setIfInBounds_toArray, List.set_cons_zero, List.set_cons_succ])
      refine wpAnyH_listed (listed' := #[true, true, true, true, true, true, true, false, true, true, true, false, false, true, false, false, false, false]) (by kernel_rfl) ?_
      exact HK1_11 x g2 v ⟨hx, hI⟩
    refine' AllReadyH.cons ?_ (fun K hK => ?_) ?_
    rotate_left
    focus (simp only [List.getElem?_toArray, List.getElem?_cons_succ, List.getElem?_cons_zero]; rfl)
    focus
      go_simp
      replace hI := hI.make1 (t := 23)
      refine hK.out _ _ (hBase _ hI.bel) (fun hHeld => ?_)
      clear hK K
      (try simp only [Act.put, List.setIfInBounds_toArray, List.set_cons_zero, List.set_cons_succ])
      generalize w'.alloc (.cells #[.int .i64 0, .int .i64 0] 23) = v at *
      generalize w'.heap.size = g1 at *
      refine wpAnyH_listed (listed' := #[true, true, true, false, true, true, true, false, true, true, true, false, true, true, false, false, false, false]) (by kernel_rfl) ?_
      exact HK1_001 g1 g2 v hI
    refine' AllReadyH.cons ?_ (fun K hK => ?_) ?_
    rotate_left
    focus (simp only [List.getElem?_toArray, List.getElem?_cons_succ, List.getElem?_cons_zero]; rfl)
    focus
      go_simp
      replace hI := hI.make3 (t := 23)
      refine hK.out _ _ (hBase _ hI.bel) (fun hHeld => ?_)
      clear hK K
      (try simp only [Act.put, List.setIfInBounds_toArray, List.set_cons_zero, List.set_cons_succ])
      generalize w'.alloc (.cells #[.int .i64 0, .int .i64 0] 23) = v at *
      generalize w'.heap.size = g3 at *
      refine wpAnyH_listed (listed' := #[true, true, true, false, true, true, true, false, true, true, true, false, false, true, true, false, false, false]) (by kernel_rfl) ?_
      exact HK1_012 g2 g3 v hI
    exact AllReadyH.nil
  case hb1_02 =>
    have hI := hpre
    refine wpAnyH_ready (rs := [3, 12, 13]) (by kernel_rfl) (by simp) ?_
    refine' AllReadyH.cons ?_ (fun K hK => ?_) ?_
    rotate_left
    focus (simp only [List.getElem?_toArray, List.getElem?_cons_succ, List.getElem?_cons_zero]; rfl)
    focus
      go_simp
      (go_at_call 14; refine Calls.mono (HX.out _) ?_; rintro e v ⟨x, hx, rfl, hb⟩)
      replace hI := hI.below hb
      refine hK.out _ _ (hBase _ hI.bel) (fun hHeld => ?_)
      clear hK K hb
      (try simp only [Act.put, List.setIfInBounds_toArray, List.set_cons_zero, List.set_cons_succ])
      refine wpAnyH_listed (listed' := #[true, true, true, true, true, true, true, false, true, true, true, false, false, false, true, false, false, false]) (by kernel_rfl) ?_
      exact HK1_12 x g3 v ⟨hx, hI⟩
    refine' AllReadyH.cons ?_ (fun K hK => ?_) ?_
    rotate_left
    focus (simp only [List.getElem?_toArray, List.getElem?_cons_succ, List.getElem?_cons_zero]; rfl)
    focus
      go_simp
      replace hI := hI.make1 (t := 23)
      refine hK.out _ _ (hBase _ hI.bel) (fun hHeld => ?_)
      clear hK K
      (try simp only [Act.put, List.setIfInBounds_toArray, List.set_cons_zero, List.set_cons_succ])
      generalize w'.alloc (.cells #[.int .i64 0, .int .i64 0] 23) = v at *
      generalize w'.heap.size = g1 at *
      refine wpAnyH_listed (listed' := #[true, true, true, false, true, true, true, false, true, true, true, false, true, false, true, false, false, false]) (by kernel_rfl) ?_
      exact HK1_002 g1 g3 v hI
    refine' AllReadyH.cons ?_ (fun K hK => ?_) ?_
    rotate_left
    focus (simp only [List.getElem?_toArray, List.getElem?_cons_succ, List.getElem?_cons_zero]; rfl)
    focus
      go_simp
      replace hI := hI.make2 (t := 23)
      refine hK.out _ _ (hBase _ hI.bel) (fun hHeld => ?_)
      clear hK K
      (try simp only [Act.put, List.setIfInBounds_toArray, List.set_cons_zero, List.set_cons_succ])
      generalize w'.alloc (.cells #[.int .i64 0, .int .i64 0] 23) = v at *
      generalize w'.heap.size = g2 at *
      refine wpAnyH_listed (listed' := #[true, true, true, false, true, true, true, false, true, true, true, false, false, true, true, false, false, false]) (by kernel_rfl) ?_
      exact HK1_012 g2 g3 v hI
    exact AllReadyH.nil
  case hb1_1 =>
    obtain ⟨hx, hI⟩ := hpre
    refine wpAnyH_ready (rs := [7, 12, 13, 14]) (by kernel_rfl) (by simp) ?_
    refine' AllReadyH.cons ?_ (fun K hK => ?_) ?_
    rotate_left
    focus (simp only [List.getElem?_toArray, List.getElem?_cons_succ, List.getElem?_cons_zero]; rfl)
    focus
      go_simp
      (go_at_call 14; refine Calls.mono (HY.out _) ?_; rintro e v ⟨y, hy, rfl, hb⟩)
      replace hI := hI.below hb
      refine hK.out _ _ (hBase _ hI.bel) (fun hHeld => ?_)
      clear hK K hb
      (try simp only [Act.put, List.setIfInBounds_toArray, List.set_cons_zero, List.set_cons_succ])
      refine wpAnyH_listed (listed' := #[true, true, true, true, true, true, true, true, true, true, true, false, false, false, false, false, false, false]) (by kernel_rfl) ?_
      exact HK1_2 x y v ⟨hx, hy, hI⟩
    refine' AllReadyH.cons ?_ (fun K hK => ?_) ?_
    rotate_left
    focus (simp only [List.getElem?_toArray, List.getElem?_cons_succ, List.getElem?_cons_zero]; rfl)
    focus
      go_simp
      replace hI := hI.make1 (t := 23)
      refine hK.out _ _ (hBase _ hI.bel) (fun hHeld => ?_)
      clear hK K
      (try simp only [Act.put, List.setIfInBounds_toArray, List.set_cons_zero, List.set_cons_succ])
      generalize w'.alloc (.cells #[.int .i64 0, .int .i64 0] 23) = v at *
      generalize w'.heap.size = g1 at *
      refine wpAnyH_listed (listed' := #[true, true, true, true, true, true, true, false, true, true, true, false, true, false, false, false, false, false]) (by kernel_rfl) ?_
      exact HK1_10 x g1 v ⟨hx, hI⟩
    refine' AllReadyH.cons ?_ (fun K hK => ?_) ?_
    rotate_left
    focus (simp only [List.getElem?_toArray, List.getElem?_cons_succ, List.getElem?_cons_zero]; rfl)
    focus
      go_simp
      replace hI := hI.make2 (t := 23)
      refine hK.out _ _ (hBase _ hI.bel) (fun hHeld => ?_)
      clear hK K
      (try simp only [Act.put, List.setIfInBounds_toArray, List.set_cons_zero, List.set_cons_succ])
      generalize w'.alloc (.cells #[.int .i64 0, .int .i64 0] 23) = v at *
      generalize w'.heap.size = g2 at *
      refine wpAnyH_listed (listed' := #[true, true, true, true, true, true, true, false, true, true, true, false, false, true, false, false, false, false]) (by kernel_rfl) ?_
      exact HK1_11 x g2 v ⟨hx, hI⟩
    refine' AllReadyH.cons ?_ (fun K hK => ?_) ?_
    rotate_left
    focus (simp only [List.getElem?_toArray, List.getElem?_cons_succ, List.getElem?_cons_zero]; rfl)
    focus
      go_simp
      replace hI := hI.make3 (t := 23)
      refine hK.out _ _ (hBase _ hI.bel) (fun hHeld => ?_)
      clear hK K
      (try simp only [Act.put, List.setIfInBounds_toArray, List.set_cons_zero, List.set_cons_succ])
      generalize w'.alloc (.cells #[.int .i64 0, .int .i64 0] 23) = v at *
      generalize w'.heap.size = g3 at *
      refine wpAnyH_listed (listed' := #[true, true, true, true, true, true, true, false, true, true, true, false, false, false, true, false, false, false]) (by kernel_rfl) ?_
      exact HK1_12 x g3 v ⟨hx, hI⟩
    exact AllReadyH.nil
  case hb1_001 =>
    have hI := hpre
    refine wpAnyH_ready (rs := [3, 14]) (by kernel_rfl) (by simp) ?_
    refine' AllReadyH.cons ?_ (fun K hK => ?_) ?_
    rotate_left
    focus (simp only [List.getElem?_toArray, List.getElem?_cons_succ, List.getElem?_cons_zero]; rfl)
    focus
      go_simp
      (go_at_call 14; refine Calls.mono (HX.out _) ?_; rintro e v ⟨x, hx, rfl, hb⟩)
      replace hI := hI.below hb
      refine hK.out _ _ (hBase _ hI.bel) (fun hHeld => ?_)
      clear hK K hb
      (try simp only [Act.put, List.setIfInBounds_toArray, List.set_cons_zero, List.set_cons_succ])
      refine wpAnyH_listed (listed' := #[true, true, true, true, true, true, true, false, true, true, true, false, true, true, false, false, false, false]) (by kernel_rfl) ?_
      exact HK1_101 x g1 g2 v ⟨hx, hI⟩
    refine' AllReadyH.cons ?_ (fun K hK => ?_) ?_
    rotate_left
    focus (simp only [List.getElem?_toArray, List.getElem?_cons_succ, List.getElem?_cons_zero]; rfl)
    focus
      go_simp
      replace hI := hI.make3 (t := 23)
      refine hK.out _ _ (hBase _ hI.bel) (fun hHeld => ?_)
      clear hK K
      (try simp only [Act.put, List.setIfInBounds_toArray, List.set_cons_zero, List.set_cons_succ])
      generalize w'.alloc (.cells #[.int .i64 0, .int .i64 0] 23) = v at *
      generalize w'.heap.size = g3 at *
      refine wpAnyH_listed (listed' := #[true, true, true, false, true, true, true, false, true, true, true, false, true, true, true, false, false, false]) (by kernel_rfl) ?_
      exact HK1_0012 g1 g2 g3 v hI
    exact AllReadyH.nil
  case hb1_002 =>
    have hI := hpre
    refine wpAnyH_ready (rs := [3, 13]) (by kernel_rfl) (by simp) ?_
    refine' AllReadyH.cons ?_ (fun K hK => ?_) ?_
    rotate_left
    focus (simp only [List.getElem?_toArray, List.getElem?_cons_succ, List.getElem?_cons_zero]; rfl)
    focus
      go_simp
      (go_at_call 14; refine Calls.mono (HX.out _) ?_; rintro e v ⟨x, hx, rfl, hb⟩)
      replace hI := hI.below hb
      refine hK.out _ _ (hBase _ hI.bel) (fun hHeld => ?_)
      clear hK K hb
      (try simp only [Act.put, List.setIfInBounds_toArray, List.set_cons_zero, List.set_cons_succ])
      refine wpAnyH_listed (listed' := #[true, true, true, true, true, true, true, false, true, true, true, false, true, false, true, false, false, false]) (by kernel_rfl) ?_
      exact HK1_102 x g1 g3 v ⟨hx, hI⟩
    refine' AllReadyH.cons ?_ (fun K hK => ?_) ?_
    rotate_left
    focus (simp only [List.getElem?_toArray, List.getElem?_cons_succ, List.getElem?_cons_zero]; rfl)
    focus
      go_simp
      replace hI := hI.make2 (t := 23)
      refine hK.out _ _ (hBase _ hI.bel) (fun hHeld => ?_)
      clear hK K
      (try simp only [Act.put, List.setIfInBounds_toArray, List.set_cons_zero, List.set_cons_succ])
      generalize w'.alloc (.cells #[.int .i64 0, .int .i64 0] 23) = v at *
      generalize w'.heap.size = g2 at *
      refine wpAnyH_listed (listed' := #[true, true, true, false, true, true, true, false, true, true, true, false, true, true, true, false, false, false]) (by kernel_rfl) ?_
      exact HK1_0012 g1 g2 g3 v hI
    exact AllReadyH.nil
  case hb1_012 =>
    have hI := hpre
    refine wpAnyH_ready (rs := [3, 12]) (by kernel_rfl) (by simp) ?_
    refine' AllReadyH.cons ?_ (fun K hK => ?_) ?_
    rotate_left
    focus (simp only [List.getElem?_toArray, List.getElem?_cons_succ, List.getElem?_cons_zero]; rfl)
    focus
      go_simp
      (go_at_call 14; refine Calls.mono (HX.out _) ?_; rintro e v ⟨x, hx, rfl, hb⟩)
      replace hI := hI.below hb
      refine hK.out _ _ (hBase _ hI.bel) (fun hHeld => ?_)
      clear hK K hb
      (try simp only [Act.put, List.setIfInBounds_toArray, List.set_cons_zero, List.set_cons_succ])
      refine wpAnyH_listed (listed' := #[true, true, true, true, true, true, true, false, true, true, true, false, false, true, true, false, false, false]) (by kernel_rfl) ?_
      exact HK1_112 x g2 g3 v ⟨hx, hI⟩
    refine' AllReadyH.cons ?_ (fun K hK => ?_) ?_
    rotate_left
    focus (simp only [List.getElem?_toArray, List.getElem?_cons_succ, List.getElem?_cons_zero]; rfl)
    focus
      go_simp
      replace hI := hI.make1 (t := 23)
      refine hK.out _ _ (hBase _ hI.bel) (fun hHeld => ?_)
      clear hK K
      (try simp only [Act.put, List.setIfInBounds_toArray, List.set_cons_zero, List.set_cons_succ])
      generalize w'.alloc (.cells #[.int .i64 0, .int .i64 0] 23) = v at *
      generalize w'.heap.size = g1 at *
      refine wpAnyH_listed (listed' := #[true, true, true, false, true, true, true, false, true, true, true, false, true, true, true, false, false, false]) (by kernel_rfl) ?_
      exact HK1_0012 g1 g2 g3 v hI
    exact AllReadyH.nil
  case hb1_10 =>
    obtain ⟨hx, hI⟩ := hpre
    refine wpAnyH_ready (rs := [7, 13, 14]) (by kernel_rfl) (by simp) ?_
    refine' AllReadyH.cons ?_ (fun K hK => ?_) ?_
    rotate_left
    focus (simp only [List.getElem?_toArray, List.getElem?_cons_succ, List.getElem?_cons_zero]; rfl)
    focus
      go_simp
      (go_at_call 14; refine Calls.mono (HY.out _) ?_; rintro e v ⟨y, hy, rfl, hb⟩)
      replace hI := hI.below hb
      refine hK.out _ _ (hBase _ hI.bel) (fun hHeld => ?_)
      clear hK K hb
      (try simp only [Act.put, List.setIfInBounds_toArray, List.set_cons_zero, List.set_cons_succ])
      refine wpAnyH_listed (listed' := #[true, true, true, true, true, true, true, true, true, true, true, false, true, false, false, false, false, false]) (by kernel_rfl) ?_
      exact HK1_20 x y g1 v ⟨hx, hy, hI⟩
    refine' AllReadyH.cons ?_ (fun K hK => ?_) ?_
    rotate_left
    focus (simp only [List.getElem?_toArray, List.getElem?_cons_succ, List.getElem?_cons_zero]; rfl)
    focus
      go_simp
      replace hI := hI.make2 (t := 23)
      refine hK.out _ _ (hBase _ hI.bel) (fun hHeld => ?_)
      clear hK K
      (try simp only [Act.put, List.setIfInBounds_toArray, List.set_cons_zero, List.set_cons_succ])
      generalize w'.alloc (.cells #[.int .i64 0, .int .i64 0] 23) = v at *
      generalize w'.heap.size = g2 at *
      refine wpAnyH_listed (listed' := #[true, true, true, true, true, true, true, false, true, true, true, false, true, true, false, false, false, false]) (by kernel_rfl) ?_
      exact HK1_101 x g1 g2 v ⟨hx, hI⟩
    refine' AllReadyH.cons ?_ (fun K hK => ?_) ?_
    rotate_left
    focus (simp only [List.getElem?_toArray, List.getElem?_cons_succ, List.getElem?_cons_zero]; rfl)
    focus
      go_simp
      replace hI := hI.make3 (t := 23)
      refine hK.out _ _ (hBase _ hI.bel) (fun hHeld => ?_)
      clear hK K
      (try simp only [Act.put, List.setIfInBounds_toArray, List.set_cons_zero, List.set_cons_succ])
      generalize w'.alloc (.cells #[.int .i64 0, .int .i64 0] 23) = v at *
      generalize w'.heap.size = g3 at *
      refine wpAnyH_listed (listed' := #[true, true, true, true, true, true, true, false, true, true, true, false, true, false, true, false, false, false]) (by kernel_rfl) ?_
      exact HK1_102 x g1 g3 v ⟨hx, hI⟩
    exact AllReadyH.nil
  case hb1_11 =>
    obtain ⟨hx, hI⟩ := hpre
    refine wpAnyH_ready (rs := [7, 12, 14]) (by kernel_rfl) (by simp) ?_
    refine' AllReadyH.cons ?_ (fun K hK => ?_) ?_
    rotate_left
    focus (simp only [List.getElem?_toArray, List.getElem?_cons_succ, List.getElem?_cons_zero]; rfl)
    focus
      go_simp
      (go_at_call 14; refine Calls.mono (HY.out _) ?_; rintro e v ⟨y, hy, rfl, hb⟩)
      replace hI := hI.below hb
      refine hK.out _ _ (hBase _ hI.bel) (fun hHeld => ?_)
      clear hK K hb
      (try simp only [Act.put, List.setIfInBounds_toArray, List.set_cons_zero, List.set_cons_succ])
      refine wpAnyH_listed (listed' := #[true, true, true, true, true, true, true, true, true, true, true, false, false, true, false, false, false, false]) (by kernel_rfl) ?_
      exact HK1_21 x y g2 v ⟨hx, hy, hI⟩
    refine' AllReadyH.cons ?_ (fun K hK => ?_) ?_
    rotate_left
    focus (simp only [List.getElem?_toArray, List.getElem?_cons_succ, List.getElem?_cons_zero]; rfl)
    focus
      go_simp
      replace hI := hI.make1 (t := 23)
      refine hK.out _ _ (hBase _ hI.bel) (fun hHeld => ?_)
      clear hK K
      (try simp only [Act.put, List.setIfInBounds_toArray, List.set_cons_zero, List.set_cons_succ])
      generalize w'.alloc (.cells #[.int .i64 0, .int .i64 0] 23) = v at *
      generalize w'.heap.size = g1 at *
      refine wpAnyH_listed (listed' := #[true, true, true, true, true, true, true, false, true, true, true, false, true, true, false, false, false, false]) (by kernel_rfl) ?_
      exact HK1_101 x g1 g2 v ⟨hx, hI⟩
    refine' AllReadyH.cons ?_ (fun K hK => ?_) ?_
    rotate_left
    focus (simp only [List.getElem?_toArray, List.getElem?_cons_succ, List.getElem?_cons_zero]; rfl)
    focus
      go_simp
      replace hI := hI.make3 (t := 23)
      refine hK.out _ _ (hBase _ hI.bel) (fun hHeld => ?_)
      clear hK K
      (try simp only [Act.put, List.setIfInBounds_toArray, List.set_cons_zero, List.set_cons_succ])
      generalize w'.alloc (.cells #[.int .i64 0, .int .i64 0] 23) = v at *
      generalize w'.heap.size = g3 at *
      refine wpAnyH_listed (listed' := #[true, true, true, true, true, true, true, false, true, true, true, false, false, true, true, false, false, false]) (by kernel_rfl) ?_
      exact HK1_112 x g2 g3 v ⟨hx, hI⟩
    exact AllReadyH.nil
  case hb1_12 =>
    obtain ⟨hx, hI⟩ := hpre
    refine wpAnyH_ready (rs := [7, 12, 13]) (by kernel_rfl) (by simp) ?_
    refine' AllReadyH.cons ?_ (fun K hK => ?_) ?_
    rotate_left
    focus (simp only [List.getElem?_toArray, List.getElem?_cons_succ, List.getElem?_cons_zero]; rfl)
    focus
      go_simp
      (go_at_call 14; refine Calls.mono (HY.out _) ?_; rintro e v ⟨y, hy, rfl, hb⟩)
      replace hI := hI.below hb
      refine hK.out _ _ (hBase _ hI.bel) (fun hHeld => ?_)
      clear hK K hb
      (try simp only [Act.put, List.setIfInBounds_toArray, List.set_cons_zero, List.set_cons_succ])
      refine wpAnyH_listed (listed' := #[true, true, true, true, true, true, true, true, true, true, true, false, false, false, true, false, false, false]) (by kernel_rfl) ?_
      exact HK1_22 x y g3 v ⟨hx, hy, hI⟩
    refine' AllReadyH.cons ?_ (fun K hK => ?_) ?_
    rotate_left
    focus (simp only [List.getElem?_toArray, List.getElem?_cons_succ, List.getElem?_cons_zero]; rfl)
    focus
      go_simp
      replace hI := hI.make1 (t := 23)
      refine hK.out _ _ (hBase _ hI.bel) (fun hHeld => ?_)
      clear hK K
      (try simp only [Act.put, List.setIfInBounds_toArray, List.set_cons_zero, List.set_cons_succ])
      generalize w'.alloc (.cells #[.int .i64 0, .int .i64 0] 23) = v at *
      generalize w'.heap.size = g1 at *
      refine wpAnyH_listed (listed' := #[true, true, true, true, true, true, true, false, true, true, true, false, true, false, true, false, false, false]) (by kernel_rfl) ?_
      exact HK1_102 x g1 g3 v ⟨hx, hI⟩
    refine' AllReadyH.cons ?_ (fun K hK => ?_) ?_
    rotate_left
    focus (simp only [List.getElem?_toArray, List.getElem?_cons_succ, List.getElem?_cons_zero]; rfl)
    focus
      go_simp
      replace hI := hI.make2 (t := 23)
      refine hK.out _ _ (hBase _ hI.bel) (fun hHeld => ?_)
      clear hK K
      (try simp only [Act.put, List.setIfInBounds_toArray, List.set_cons_zero, List.set_cons_succ])
      generalize w'.alloc (.cells #[.int .i64 0, .int .i64 0] 23) = v at *
      generalize w'.heap.size = g2 at *
      refine wpAnyH_listed (listed' := #[true, true, true, true, true, true, true, false, true, true, true, false, false, true, true, false, false, false]) (by kernel_rfl) ?_
      exact HK1_112 x g2 g3 v ⟨hx, hI⟩
    exact AllReadyH.nil
  case hb1_2 =>
    obtain ⟨hx, hy, hI⟩ := hpre
    refine wpAnyH_ready (rs := [11, 12, 13, 14]) (by kernel_rfl) (by simp) ?_
    refine' AllReadyH.cons ?_ (fun K hK => ?_) ?_
    rotate_left
    focus (simp only [List.getElem?_toArray, List.getElem?_cons_succ, List.getElem?_cons_zero]; rfl)
    focus
      go_simp
      (go_at_call 14; refine Calls.mono (HZ.out _) ?_; rintro e v ⟨z, hz, rfl, hb⟩)
      replace hI := hI.below hb
      refine hK.out _ _ (hBase _ hI.bel) (fun hHeld => ?_)
      clear hK K hb
      (try simp only [Act.put, List.setIfInBounds_toArray, List.set_cons_zero, List.set_cons_succ])
      refine wpAnyH_listed (listed' := #[true, true, true, true, true, true, true, true, true, true, true, true, false, false, false, false, false, false]) (by kernel_rfl) ?_
      exact HK1_3 x y z v ⟨hx, hy, hz, hI⟩
    refine' AllReadyH.cons ?_ (fun K hK => ?_) ?_
    rotate_left
    focus (simp only [List.getElem?_toArray, List.getElem?_cons_succ, List.getElem?_cons_zero]; rfl)
    focus
      go_simp
      replace hI := hI.make1 (t := 23)
      refine hK.out _ _ (hBase _ hI.bel) (fun hHeld => ?_)
      clear hK K
      (try simp only [Act.put, List.setIfInBounds_toArray, List.set_cons_zero, List.set_cons_succ])
      generalize w'.alloc (.cells #[.int .i64 0, .int .i64 0] 23) = v at *
      generalize w'.heap.size = g1 at *
      refine wpAnyH_listed (listed' := #[true, true, true, true, true, true, true, true, true, true, true, false, true, false, false, false, false, false]) (by kernel_rfl) ?_
      exact HK1_20 x y g1 v ⟨hx, hy, hI⟩
    refine' AllReadyH.cons ?_ (fun K hK => ?_) ?_
    rotate_left
    focus (simp only [List.getElem?_toArray, List.getElem?_cons_succ, List.getElem?_cons_zero]; rfl)
    focus
      go_simp
      replace hI := hI.make2 (t := 23)
      refine hK.out _ _ (hBase _ hI.bel) (fun hHeld => ?_)
      clear hK K
      (try simp only [Act.put, List.setIfInBounds_toArray, List.set_cons_zero, List.set_cons_succ])
      generalize w'.alloc (.cells #[.int .i64 0, .int .i64 0] 23) = v at *
      generalize w'.heap.size = g2 at *
      refine wpAnyH_listed (listed' := #[true, true, true, true, true, true, true, true, true, true, true, false, false, true, false, false, false, false]) (by kernel_rfl) ?_
      exact HK1_21 x y g2 v ⟨hx, hy, hI⟩
    refine' AllReadyH.cons ?_ (fun K hK => ?_) ?_
    rotate_left
    focus (simp only [List.getElem?_toArray, List.getElem?_cons_succ, List.getElem?_cons_zero]; rfl)
    focus
      go_simp
      replace hI := hI.make3 (t := 23)
      refine hK.out _ _ (hBase _ hI.bel) (fun hHeld => ?_)
      clear hK K
      (try simp only [Act.put, List.setIfInBounds_toArray, List.set_cons_zero, List.set_cons_succ])
      generalize w'.alloc (.cells #[.int .i64 0, .int .i64 0] 23) = v at *
      generalize w'.heap.size = g3 at *
      refine wpAnyH_listed (listed' := #[true, true, true, true, true, true, true, true, true, true, true, false, false, false, true, false, false, false]) (by kernel_rfl) ?_
      exact HK1_22 x y g3 v ⟨hx, hy, hI⟩
    exact AllReadyH.nil
  case hb1_0012 =>
    have hI := hpre
    refine wpAnyH_ready (rs := [3]) (by kernel_rfl) (by simp) ?_
    refine' AllReadyH.cons ?_ (fun K hK => ?_) ?_
    rotate_left
    focus (simp only [List.getElem?_toArray, List.getElem?_cons_succ, List.getElem?_cons_zero]; rfl)
    focus
      go_simp
      (go_at_call 14; refine Calls.mono (HX.out _) ?_; rintro e v ⟨x, hx, rfl, hb⟩)
      replace hI := hI.below hb
      refine hK.out _ _ (hBase _ hI.bel) (fun hHeld => ?_)
      clear hK K hb
      (try simp only [Act.put, List.setIfInBounds_toArray, List.set_cons_zero, List.set_cons_succ])
      refine wpAnyH_listed (listed' := #[true, true, true, true, true, true, true, false, true, true, true, false, true, true, true, false, false, false]) (by kernel_rfl) ?_
      exact HK1_1012 x g1 g2 g3 v ⟨hx, hI⟩
    exact AllReadyH.nil
  case hb1_101 =>
    obtain ⟨hx, hI⟩ := hpre
    refine wpAnyH_ready (rs := [7, 14]) (by kernel_rfl) (by simp) ?_
    refine' AllReadyH.cons ?_ (fun K hK => ?_) ?_
    rotate_left
    focus (simp only [List.getElem?_toArray, List.getElem?_cons_succ, List.getElem?_cons_zero]; rfl)
    focus
      go_simp
      (go_at_call 14; refine Calls.mono (HY.out _) ?_; rintro e v ⟨y, hy, rfl, hb⟩)
      replace hI := hI.below hb
      refine hK.out _ _ (hBase _ hI.bel) (fun hHeld => ?_)
      clear hK K hb
      (try simp only [Act.put, List.setIfInBounds_toArray, List.set_cons_zero, List.set_cons_succ])
      refine wpAnyH_listed (listed' := #[true, true, true, true, true, true, true, true, true, true, true, false, true, true, false, false, false, false]) (by kernel_rfl) ?_
      exact HK1_201 x y g1 g2 v ⟨hx, hy, hI⟩
    refine' AllReadyH.cons ?_ (fun K hK => ?_) ?_
    rotate_left
    focus (simp only [List.getElem?_toArray, List.getElem?_cons_succ, List.getElem?_cons_zero]; rfl)
    focus
      go_simp
      replace hI := hI.make3 (t := 23)
      refine hK.out _ _ (hBase _ hI.bel) (fun hHeld => ?_)
      clear hK K
      (try simp only [Act.put, List.setIfInBounds_toArray, List.set_cons_zero, List.set_cons_succ])
      generalize w'.alloc (.cells #[.int .i64 0, .int .i64 0] 23) = v at *
      generalize w'.heap.size = g3 at *
      refine wpAnyH_listed (listed' := #[true, true, true, true, true, true, true, false, true, true, true, false, true, true, true, false, false, false]) (by kernel_rfl) ?_
      exact HK1_1012 x g1 g2 g3 v ⟨hx, hI⟩
    exact AllReadyH.nil
  case hb1_102 =>
    obtain ⟨hx, hI⟩ := hpre
    refine wpAnyH_ready (rs := [7, 13]) (by kernel_rfl) (by simp) ?_
    refine' AllReadyH.cons ?_ (fun K hK => ?_) ?_
    rotate_left
    focus (simp only [List.getElem?_toArray, List.getElem?_cons_succ, List.getElem?_cons_zero]; rfl)
    focus
      go_simp
      (go_at_call 14; refine Calls.mono (HY.out _) ?_; rintro e v ⟨y, hy, rfl, hb⟩)
      replace hI := hI.below hb
      refine hK.out _ _ (hBase _ hI.bel) (fun hHeld => ?_)
      clear hK K hb
      (try simp only [Act.put, List.setIfInBounds_toArray, List.set_cons_zero, List.set_cons_succ])
      refine wpAnyH_listed (listed' := #[true, true, true, true, true, true, true, true, true, true, true, false, true, false, true, false, false, false]) (by kernel_rfl) ?_
      exact HK1_202 x y g1 g3 v ⟨hx, hy, hI⟩
    refine' AllReadyH.cons ?_ (fun K hK => ?_) ?_
    rotate_left
    focus (simp only [List.getElem?_toArray, List.getElem?_cons_succ, List.getElem?_cons_zero]; rfl)
    focus
      go_simp
      replace hI := hI.make2 (t := 23)
      refine hK.out _ _ (hBase _ hI.bel) (fun hHeld => ?_)
      clear hK K
      (try simp only [Act.put, List.setIfInBounds_toArray, List.set_cons_zero, List.set_cons_succ])
      generalize w'.alloc (.cells #[.int .i64 0, .int .i64 0] 23) = v at *
      generalize w'.heap.size = g2 at *
      refine wpAnyH_listed (listed' := #[true, true, true, true, true, true, true, false, true, true, true, false, true, true, true, false, false, false]) (by kernel_rfl) ?_
      exact HK1_1012 x g1 g2 g3 v ⟨hx, hI⟩
    exact AllReadyH.nil
  case hb1_112 =>
    obtain ⟨hx, hI⟩ := hpre
    refine wpAnyH_ready (rs := [7, 12]) (by kernel_rfl) (by simp) ?_
    refine' AllReadyH.cons ?_ (fun K hK => ?_) ?_
    rotate_left
    focus (simp only [List.getElem?_toArray, List.getElem?_cons_succ, List.getElem?_cons_zero]; rfl)
    focus
      go_simp
      (go_at_call 14; refine Calls.mono (HY.out _) ?_; rintro e v ⟨y, hy, rfl, hb⟩)
      replace hI := hI.below hb
      refine hK.out _ _ (hBase _ hI.bel) (fun hHeld => ?_)
      clear hK K hb
      (try simp only [Act.put, List.setIfInBounds_toArray, List.set_cons_zero, List.set_cons_succ])
      refine wpAnyH_listed (listed' := #[true, true, true, true, true, true, true, true, true, true, true, false, false, true, true, false, false, false]) (by kernel_rfl) ?_
      exact HK1_212 x y g2 g3 v ⟨hx, hy, hI⟩
    refine' AllReadyH.cons ?_ (fun K hK => ?_) ?_
    rotate_left
    focus (simp only [List.getElem?_toArray, List.getElem?_cons_succ, List.getElem?_cons_zero]; rfl)
    focus
      go_simp
      replace hI := hI.make1 (t := 23)
      refine hK.out _ _ (hBase _ hI.bel) (fun hHeld => ?_)
      clear hK K
      (try simp only [Act.put, List.setIfInBounds_toArray, List.set_cons_zero, List.set_cons_succ])
      generalize w'.alloc (.cells #[.int .i64 0, .int .i64 0] 23) = v at *
      generalize w'.heap.size = g1 at *
      refine wpAnyH_listed (listed' := #[true, true, true, true, true, true, true, false, true, true, true, false, true, true, true, false, false, false]) (by kernel_rfl) ?_
      exact HK1_1012 x g1 g2 g3 v ⟨hx, hI⟩
    exact AllReadyH.nil
  case hb1_20 =>
    obtain ⟨hx, hy, hI⟩ := hpre
    refine wpAnyH_ready (rs := [11, 13, 14]) (by kernel_rfl) (by simp) ?_
    refine' AllReadyH.cons ?_ (fun K hK => ?_) ?_
    rotate_left
    focus (simp only [List.getElem?_toArray, List.getElem?_cons_succ, List.getElem?_cons_zero]; rfl)
    focus
      go_simp
      (go_at_call 14; refine Calls.mono (HZ.out _) ?_; rintro e v ⟨z, hz, rfl, hb⟩)
      replace hI := hI.below hb
      refine hK.out _ _ (hBase _ hI.bel) (fun hHeld => ?_)
      clear hK K hb
      (try simp only [Act.put, List.setIfInBounds_toArray, List.set_cons_zero, List.set_cons_succ])
      refine wpAnyH_listed (listed' := #[true, true, true, true, true, true, true, true, true, true, true, true, true, false, false, false, false, false]) (by kernel_rfl) ?_
      exact HK1_30 x y z g1 v ⟨hx, hy, hz, hI⟩
    refine' AllReadyH.cons ?_ (fun K hK => ?_) ?_
    rotate_left
    focus (simp only [List.getElem?_toArray, List.getElem?_cons_succ, List.getElem?_cons_zero]; rfl)
    focus
      go_simp
      replace hI := hI.make2 (t := 23)
      refine hK.out _ _ (hBase _ hI.bel) (fun hHeld => ?_)
      clear hK K
      (try simp only [Act.put, List.setIfInBounds_toArray, List.set_cons_zero, List.set_cons_succ])
      generalize w'.alloc (.cells #[.int .i64 0, .int .i64 0] 23) = v at *
      generalize w'.heap.size = g2 at *
      refine wpAnyH_listed (listed' := #[true, true, true, true, true, true, true, true, true, true, true, false, true, true, false, false, false, false]) (by kernel_rfl) ?_
      exact HK1_201 x y g1 g2 v ⟨hx, hy, hI⟩
    refine' AllReadyH.cons ?_ (fun K hK => ?_) ?_
    rotate_left
    focus (simp only [List.getElem?_toArray, List.getElem?_cons_succ, List.getElem?_cons_zero]; rfl)
    focus
      go_simp
      replace hI := hI.make3 (t := 23)
      refine hK.out _ _ (hBase _ hI.bel) (fun hHeld => ?_)
      clear hK K
      (try simp only [Act.put, List.setIfInBounds_toArray, List.set_cons_zero, List.set_cons_succ])
      generalize w'.alloc (.cells #[.int .i64 0, .int .i64 0] 23) = v at *
      generalize w'.heap.size = g3 at *
      refine wpAnyH_listed (listed' := #[true, true, true, true, true, true, true, true, true, true, true, false, true, false, true, false, false, false]) (by kernel_rfl) ?_
      exact HK1_202 x y g1 g3 v ⟨hx, hy, hI⟩
    exact AllReadyH.nil
  case hb1_21 =>
    obtain ⟨hx, hy, hI⟩ := hpre
    refine wpAnyH_ready (rs := [11, 12, 14]) (by kernel_rfl) (by simp) ?_
    refine' AllReadyH.cons ?_ (fun K hK => ?_) ?_
    rotate_left
    focus (simp only [List.getElem?_toArray, List.getElem?_cons_succ, List.getElem?_cons_zero]; rfl)
    focus
      go_simp
      (go_at_call 14; refine Calls.mono (HZ.out _) ?_; rintro e v ⟨z, hz, rfl, hb⟩)
      replace hI := hI.below hb
      refine hK.out _ _ (hBase _ hI.bel) (fun hHeld => ?_)
      clear hK K hb
      (try simp only [Act.put, List.setIfInBounds_toArray, List.set_cons_zero, List.set_cons_succ])
      refine wpAnyH_listed (listed' := #[true, true, true, true, true, true, true, true, true, true, true, true, false, true, false, false, false, false]) (by kernel_rfl) ?_
      exact HK1_31 x y z g2 v ⟨hx, hy, hz, hI⟩
    refine' AllReadyH.cons ?_ (fun K hK => ?_) ?_
    rotate_left
    focus (simp only [List.getElem?_toArray, List.getElem?_cons_succ, List.getElem?_cons_zero]; rfl)
    focus
      go_simp
      replace hI := hI.make1 (t := 23)
      refine hK.out _ _ (hBase _ hI.bel) (fun hHeld => ?_)
      clear hK K
      (try simp only [Act.put, List.setIfInBounds_toArray, List.set_cons_zero, List.set_cons_succ])
      generalize w'.alloc (.cells #[.int .i64 0, .int .i64 0] 23) = v at *
      generalize w'.heap.size = g1 at *
      refine wpAnyH_listed (listed' := #[true, true, true, true, true, true, true, true, true, true, true, false, true, true, false, false, false, false]) (by kernel_rfl) ?_
      exact HK1_201 x y g1 g2 v ⟨hx, hy, hI⟩
    refine' AllReadyH.cons ?_ (fun K hK => ?_) ?_
    rotate_left
    focus (simp only [List.getElem?_toArray, List.getElem?_cons_succ, List.getElem?_cons_zero]; rfl)
    focus
      go_simp
      replace hI := hI.make3 (t := 23)
      refine hK.out _ _ (hBase _ hI.bel) (fun hHeld => ?_)
      clear hK K
      (try simp only [Act.put, List.setIfInBounds_toArray, List.set_cons_zero, List.set_cons_succ])
      generalize w'.alloc (.cells #[.int .i64 0, .int .i64 0] 23) = v at *
      generalize w'.heap.size = g3 at *
      refine wpAnyH_listed (listed' := #[true, true, true, true, true, true, true, true, true, true, true, false, false, true, true, false, false, false]) (by kernel_rfl) ?_
      exact HK1_212 x y g2 g3 v ⟨hx, hy, hI⟩
    exact AllReadyH.nil
  case hb1_22 =>
    obtain ⟨hx, hy, hI⟩ := hpre
    refine wpAnyH_ready (rs := [11, 12, 13]) (by kernel_rfl) (by simp) ?_
    refine' AllReadyH.cons ?_ (fun K hK => ?_) ?_
    rotate_left
    focus (simp only [List.getElem?_toArray, List.getElem?_cons_succ, List.getElem?_cons_zero]; rfl)
    focus
      go_simp
      (go_at_call 14; refine Calls.mono (HZ.out _) ?_; rintro e v ⟨z, hz, rfl, hb⟩)
      replace hI := hI.below hb
      refine hK.out _ _ (hBase _ hI.bel) (fun hHeld => ?_)
      clear hK K hb
      (try simp only [Act.put, List.setIfInBounds_toArray, List.set_cons_zero, List.set_cons_succ])
      refine wpAnyH_listed (listed' := #[true, true, true, true, true, true, true, true, true, true, true, true, false, false, true, false, false, false]) (by kernel_rfl) ?_
      exact HK1_32 x y z g3 v ⟨hx, hy, hz, hI⟩
    refine' AllReadyH.cons ?_ (fun K hK => ?_) ?_
    rotate_left
    focus (simp only [List.getElem?_toArray, List.getElem?_cons_succ, List.getElem?_cons_zero]; rfl)
    focus
      go_simp
      replace hI := hI.make1 (t := 23)
      refine hK.out _ _ (hBase _ hI.bel) (fun hHeld => ?_)
      clear hK K
      (try simp only [Act.put, List.setIfInBounds_toArray, List.set_cons_zero, List.set_cons_succ])
      generalize w'.alloc (.cells #[.int .i64 0, .int .i64 0] 23) = v at *
      generalize w'.heap.size = g1 at *
      refine wpAnyH_listed (listed' := #[true, true, true, true, true, true, true, true, true, true, true, false, true, false, true, false, false, false]) (by kernel_rfl) ?_
      exact HK1_202 x y g1 g3 v ⟨hx, hy, hI⟩
    refine' AllReadyH.cons ?_ (fun K hK => ?_) ?_
    rotate_left
    focus (simp only [List.getElem?_toArray, List.getElem?_cons_succ, List.getElem?_cons_zero]; rfl)
    focus
      go_simp
      replace hI := hI.make2 (t := 23)
      refine hK.out _ _ (hBase _ hI.bel) (fun hHeld => ?_)
      clear hK K
      (try simp only [Act.put, List.setIfInBounds_toArray, List.set_cons_zero, List.set_cons_succ])
      generalize w'.alloc (.cells #[.int .i64 0, .int .i64 0] 23) = v at *
      generalize w'.heap.size = g2 at *
      refine wpAnyH_listed (listed' := #[true, true, true, true, true, true, true, true, true, true, true, false, false, true, true, false, false, false]) (by kernel_rfl) ?_
      exact HK1_212 x y g2 g3 v ⟨hx, hy, hI⟩
    exact AllReadyH.nil
  case hb1_3 =>
    obtain ⟨hx, hy, hz, hI⟩ := hpre
    refine wpAnyH_ready (rs := [12, 13, 14]) (by kernel_rfl) (by simp) ?_
    refine' AllReadyH.cons ?_ (fun K hK => ?_) ?_
    rotate_left
    focus (simp only [List.getElem?_toArray, List.getElem?_cons_succ, List.getElem?_cons_zero]; rfl)
    focus
      go_simp
      replace hI := hI.make1 (t := 23)
      refine hK.out _ _ (hBase _ hI.bel) (fun hHeld => ?_)
      clear hK K
      (try simp only [Act.put, List.setIfInBounds_toArray, List.set_cons_zero, List.set_cons_succ])
      generalize w'.alloc (.cells #[.int .i64 0, .int .i64 0] 23) = v at *
      generalize w'.heap.size = g1 at *
      refine wpAnyH_listed (listed' := #[true, true, true, true, true, true, true, true, true, true, true, true, true, false, false, false, false, false]) (by kernel_rfl) ?_
      exact HK1_30 x y z g1 v ⟨hx, hy, hz, hI⟩
    refine' AllReadyH.cons ?_ (fun K hK => ?_) ?_
    rotate_left
    focus (simp only [List.getElem?_toArray, List.getElem?_cons_succ, List.getElem?_cons_zero]; rfl)
    focus
      go_simp
      replace hI := hI.make2 (t := 23)
      refine hK.out _ _ (hBase _ hI.bel) (fun hHeld => ?_)
      clear hK K
      (try simp only [Act.put, List.setIfInBounds_toArray, List.set_cons_zero, List.set_cons_succ])
      generalize w'.alloc (.cells #[.int .i64 0, .int .i64 0] 23) = v at *
      generalize w'.heap.size = g2 at *
      refine wpAnyH_listed (listed' := #[true, true, true, true, true, true, true, true, true, true, true, true, false, true, false, false, false, false]) (by kernel_rfl) ?_
      exact HK1_31 x y z g2 v ⟨hx, hy, hz, hI⟩
    refine' AllReadyH.cons ?_ (fun K hK => ?_) ?_
    rotate_left
    focus (simp only [List.getElem?_toArray, List.getElem?_cons_succ, List.getElem?_cons_zero]; rfl)
    focus
      go_simp
      replace hI := hI.make3 (t := 23)
      refine hK.out _ _ (hBase _ hI.bel) (fun hHeld => ?_)
      clear hK K
      (try simp only [Act.put, List.setIfInBounds_toArray, List.set_cons_zero, List.set_cons_succ])
      generalize w'.alloc (.cells #[.int .i64 0, .int .i64 0] 23) = v at *
      generalize w'.heap.size = g3 at *
      refine wpAnyH_listed (listed' := #[true, true, true, true, true, true, true, true, true, true, true, true, false, false, true, false, false, false]) (by kernel_rfl) ?_
      exact HK1_32 x y z g3 v ⟨hx, hy, hz, hI⟩
    exact AllReadyH.nil
  case hb1_1012 =>
    obtain ⟨hx, hI⟩ := hpre
    refine wpAnyH_ready (rs := [7]) (by kernel_rfl) (by simp) ?_
    refine' AllReadyH.cons ?_ (fun K hK => ?_) ?_
    rotate_left
    focus (simp only [List.getElem?_toArray, List.getElem?_cons_succ, List.getElem?_cons_zero]; rfl)
    focus
      go_simp
      (go_at_call 14; refine Calls.mono (HY.out _) ?_; rintro e v ⟨y, hy, rfl, hb⟩)
      replace hI := hI.below hb
      refine hK.out _ _ (hBase _ hI.bel) (fun hHeld => ?_)
      clear hK K hb
      (try simp only [Act.put, List.setIfInBounds_toArray, List.set_cons_zero, List.set_cons_succ])
      refine wpAnyH_listed (listed' := #[true, true, true, true, true, true, true, true, true, true, true, false, true, true, true, false, false, false]) (by kernel_rfl) ?_
      exact HK1_2012 x y g1 g2 g3 v ⟨hx, hy, hI⟩
    exact AllReadyH.nil
  case hb1_201 =>
    obtain ⟨hx, hy, hI⟩ := hpre
    refine wpAnyH_ready (rs := [11, 14]) (by kernel_rfl) (by simp) ?_
    refine' AllReadyH.cons ?_ (fun K hK => ?_) ?_
    rotate_left
    focus (simp only [List.getElem?_toArray, List.getElem?_cons_succ, List.getElem?_cons_zero]; rfl)
    focus
      go_simp
      (go_at_call 14; refine Calls.mono (HZ.out _) ?_; rintro e v ⟨z, hz, rfl, hb⟩)
      replace hI := hI.below hb
      refine hK.out _ _ (hBase _ hI.bel) (fun hHeld => ?_)
      clear hK K hb
      (try simp only [Act.put, List.setIfInBounds_toArray, List.set_cons_zero, List.set_cons_succ])
      refine wpAnyH_listed (listed' := #[true, true, true, true, true, true, true, true, true, true, true, true, true, true, false, false, false, false]) (by kernel_rfl) ?_
      exact HK1_301 x y z g1 g2 v ⟨hx, hy, hz, hI⟩
    refine' AllReadyH.cons ?_ (fun K hK => ?_) ?_
    rotate_left
    focus (simp only [List.getElem?_toArray, List.getElem?_cons_succ, List.getElem?_cons_zero]; rfl)
    focus
      go_simp
      replace hI := hI.make3 (t := 23)
      refine hK.out _ _ (hBase _ hI.bel) (fun hHeld => ?_)
      clear hK K
      (try simp only [Act.put, List.setIfInBounds_toArray, List.set_cons_zero, List.set_cons_succ])
      generalize w'.alloc (.cells #[.int .i64 0, .int .i64 0] 23) = v at *
      generalize w'.heap.size = g3 at *
      refine wpAnyH_listed (listed' := #[true, true, true, true, true, true, true, true, true, true, true, false, true, true, true, false, false, false]) (by kernel_rfl) ?_
      exact HK1_2012 x y g1 g2 g3 v ⟨hx, hy, hI⟩
    exact AllReadyH.nil
  case hb1_202 =>
    obtain ⟨hx, hy, hI⟩ := hpre
    refine wpAnyH_ready (rs := [11, 13]) (by kernel_rfl) (by simp) ?_
    refine' AllReadyH.cons ?_ (fun K hK => ?_) ?_
    rotate_left
    focus (simp only [List.getElem?_toArray, List.getElem?_cons_succ, List.getElem?_cons_zero]; rfl)
    focus
      go_simp
      (go_at_call 14; refine Calls.mono (HZ.out _) ?_; rintro e v ⟨z, hz, rfl, hb⟩)
      replace hI := hI.below hb
      refine hK.out _ _ (hBase _ hI.bel) (fun hHeld => ?_)
      clear hK K hb
      (try simp only [Act.put, List.setIfInBounds_toArray, List.set_cons_zero, List.set_cons_succ])
      refine wpAnyH_listed (listed' := #[true, true, true, true, true, true, true, true, true, true, true, true, true, false, true, false, false, false]) (by kernel_rfl) ?_
      exact HK1_302 x y z g1 g3 v ⟨hx, hy, hz, hI⟩
    refine' AllReadyH.cons ?_ (fun K hK => ?_) ?_
    rotate_left
    focus (simp only [List.getElem?_toArray, List.getElem?_cons_succ, List.getElem?_cons_zero]; rfl)
    focus
      go_simp
      replace hI := hI.make2 (t := 23)
      refine hK.out _ _ (hBase _ hI.bel) (fun hHeld => ?_)
      clear hK K
      (try simp only [Act.put, List.setIfInBounds_toArray, List.set_cons_zero, List.set_cons_succ])
      generalize w'.alloc (.cells #[.int .i64 0, .int .i64 0] 23) = v at *
      generalize w'.heap.size = g2 at *
      refine wpAnyH_listed (listed' := #[true, true, true, true, true, true, true, true, true, true, true, false, true, true, true, false, false, false]) (by kernel_rfl) ?_
      exact HK1_2012 x y g1 g2 g3 v ⟨hx, hy, hI⟩
    exact AllReadyH.nil
  case hb1_212 =>
    obtain ⟨hx, hy, hI⟩ := hpre
    refine wpAnyH_ready (rs := [11, 12]) (by kernel_rfl) (by simp) ?_
    refine' AllReadyH.cons ?_ (fun K hK => ?_) ?_
    rotate_left
    focus (simp only [List.getElem?_toArray, List.getElem?_cons_succ, List.getElem?_cons_zero]; rfl)
    focus
      go_simp
      (go_at_call 14; refine Calls.mono (HZ.out _) ?_; rintro e v ⟨z, hz, rfl, hb⟩)
      replace hI := hI.below hb
      refine hK.out _ _ (hBase _ hI.bel) (fun hHeld => ?_)
      clear hK K hb
      (try simp only [Act.put, List.setIfInBounds_toArray, List.set_cons_zero, List.set_cons_succ])
      refine wpAnyH_listed (listed' := #[true, true, true, true, true, true, true, true, true, true, true, true, false, true, true, false, false, false]) (by kernel_rfl) ?_
      exact HK1_312 x y z g2 g3 v ⟨hx, hy, hz, hI⟩
    refine' AllReadyH.cons ?_ (fun K hK => ?_) ?_
    rotate_left
    focus (simp only [List.getElem?_toArray, List.getElem?_cons_succ, List.getElem?_cons_zero]; rfl)
    focus
      go_simp
      replace hI := hI.make1 (t := 23)
      refine hK.out _ _ (hBase _ hI.bel) (fun hHeld => ?_)
      clear hK K
      (try simp only [Act.put, List.setIfInBounds_toArray, List.set_cons_zero, List.set_cons_succ])
      generalize w'.alloc (.cells #[.int .i64 0, .int .i64 0] 23) = v at *
      generalize w'.heap.size = g1 at *
      refine wpAnyH_listed (listed' := #[true, true, true, true, true, true, true, true, true, true, true, false, true, true, true, false, false, false]) (by kernel_rfl) ?_
      exact HK1_2012 x y g1 g2 g3 v ⟨hx, hy, hI⟩
    exact AllReadyH.nil
  case hb1_30 =>
    obtain ⟨hx, hy, hz, hI⟩ := hpre
    refine wpAnyH_ready (rs := [13, 14]) (by kernel_rfl) (by simp) ?_
    refine' AllReadyH.cons ?_ (fun K hK => ?_) ?_
    rotate_left
    focus (simp only [List.getElem?_toArray, List.getElem?_cons_succ, List.getElem?_cons_zero]; rfl)
    focus
      go_simp
      replace hI := hI.make2 (t := 23)
      refine hK.out _ _ (hBase _ hI.bel) (fun hHeld => ?_)
      clear hK K
      (try simp only [Act.put, List.setIfInBounds_toArray, List.set_cons_zero, List.set_cons_succ])
      generalize w'.alloc (.cells #[.int .i64 0, .int .i64 0] 23) = v at *
      generalize w'.heap.size = g2 at *
      refine wpAnyH_listed (listed' := #[true, true, true, true, true, true, true, true, true, true, true, true, true, true, false, false, false, false]) (by kernel_rfl) ?_
      exact HK1_301 x y z g1 g2 v ⟨hx, hy, hz, hI⟩
    refine' AllReadyH.cons ?_ (fun K hK => ?_) ?_
    rotate_left
    focus (simp only [List.getElem?_toArray, List.getElem?_cons_succ, List.getElem?_cons_zero]; rfl)
    focus
      go_simp
      replace hI := hI.make3 (t := 23)
      refine hK.out _ _ (hBase _ hI.bel) (fun hHeld => ?_)
      clear hK K
      (try simp only [Act.put, List.setIfInBounds_toArray, List.set_cons_zero, List.set_cons_succ])
      generalize w'.alloc (.cells #[.int .i64 0, .int .i64 0] 23) = v at *
      generalize w'.heap.size = g3 at *
      refine wpAnyH_listed (listed' := #[true, true, true, true, true, true, true, true, true, true, true, true, true, false, true, false, false, false]) (by kernel_rfl) ?_
      exact HK1_302 x y z g1 g3 v ⟨hx, hy, hz, hI⟩
    exact AllReadyH.nil
  case hb1_31 =>
    obtain ⟨hx, hy, hz, hI⟩ := hpre
    refine wpAnyH_ready (rs := [12, 14]) (by kernel_rfl) (by simp) ?_
    refine' AllReadyH.cons ?_ (fun K hK => ?_) ?_
    rotate_left
    focus (simp only [List.getElem?_toArray, List.getElem?_cons_succ, List.getElem?_cons_zero]; rfl)
    focus
      go_simp
      replace hI := hI.make1 (t := 23)
      refine hK.out _ _ (hBase _ hI.bel) (fun hHeld => ?_)
      clear hK K
      (try simp only [Act.put, List.setIfInBounds_toArray, List.set_cons_zero, List.set_cons_succ])
      generalize w'.alloc (.cells #[.int .i64 0, .int .i64 0] 23) = v at *
      generalize w'.heap.size = g1 at *
      refine wpAnyH_listed (listed' := #[true, true, true, true, true, true, true, true, true, true, true, true, true, true, false, false, false, false]) (by kernel_rfl) ?_
      exact HK1_301 x y z g1 g2 v ⟨hx, hy, hz, hI⟩
    refine' AllReadyH.cons ?_ (fun K hK => ?_) ?_
    rotate_left
    focus (simp only [List.getElem?_toArray, List.getElem?_cons_succ, List.getElem?_cons_zero]; rfl)
    focus
      go_simp
      replace hI := hI.make3 (t := 23)
      refine hK.out _ _ (hBase _ hI.bel) (fun hHeld => ?_)
      clear hK K
      (try simp only [Act.put, List.setIfInBounds_toArray, List.set_cons_zero, List.set_cons_succ])
      generalize w'.alloc (.cells #[.int .i64 0, .int .i64 0] 23) = v at *
      generalize w'.heap.size = g3 at *
      refine wpAnyH_listed (listed' := #[true, true, true, true, true, true, true, true, true, true, true, true, false, true, true, false, false, false]) (by kernel_rfl) ?_
      exact HK1_312 x y z g2 g3 v ⟨hx, hy, hz, hI⟩
    exact AllReadyH.nil
  case hb1_32 =>
    obtain ⟨hx, hy, hz, hI⟩ := hpre
    refine wpAnyH_ready (rs := [12, 13]) (by kernel_rfl) (by simp) ?_
    refine' AllReadyH.cons ?_ (fun K hK => ?_) ?_
    rotate_left
    focus (simp only [List.getElem?_toArray, List.getElem?_cons_succ, List.getElem?_cons_zero]; rfl)
    focus
      go_simp
      replace hI := hI.make1 (t := 23)
      refine hK.out _ _ (hBase _ hI.bel) (fun hHeld => ?_)
      clear hK K
      (try simp only [Act.put, List.setIfInBounds_toArray, List.set_cons_zero, List.set_cons_succ])
      generalize w'.alloc (.cells #[.int .i64 0, .int .i64 0] 23) = v at *
      generalize w'.heap.size = g1 at *
      refine wpAnyH_listed (listed' := #[true, true, true, true, true, true, true, true, true, true, true, true, true, false, true, false, false, false]) (by kernel_rfl) ?_
      exact HK1_302 x y z g1 g3 v ⟨hx, hy, hz, hI⟩
    refine' AllReadyH.cons ?_ (fun K hK => ?_) ?_
    rotate_left
    focus (simp only [List.getElem?_toArray, List.getElem?_cons_succ, List.getElem?_cons_zero]; rfl)
    focus
      go_simp
      replace hI := hI.make2 (t := 23)
      refine hK.out _ _ (hBase _ hI.bel) (fun hHeld => ?_)
      clear hK K
      (try simp only [Act.put, List.setIfInBounds_toArray, List.set_cons_zero, List.set_cons_succ])
      generalize w'.alloc (.cells #[.int .i64 0, .int .i64 0] 23) = v at *
      generalize w'.heap.size = g2 at *
      refine wpAnyH_listed (listed' := #[true, true, true, true, true, true, true, true, true, true, true, true, false, true, true, false, false, false]) (by kernel_rfl) ?_
      exact HK1_312 x y z g2 g3 v ⟨hx, hy, hz, hI⟩
    exact AllReadyH.nil
  case hb1_2012 =>
    obtain ⟨hx, hy, hI⟩ := hpre
    refine wpAnyH_ready (rs := [11]) (by kernel_rfl) (by simp) ?_
    refine' AllReadyH.cons ?_ (fun K hK => ?_) ?_
    rotate_left
    focus (simp only [List.getElem?_toArray, List.getElem?_cons_succ, List.getElem?_cons_zero]; rfl)
    focus
      go_simp
      (go_at_call 14; refine Calls.mono (HZ.out _) ?_; rintro e v ⟨z, hz, rfl, hb⟩)
      replace hI := hI.below hb
      refine hK.out _ _ (hBase _ hI.bel) (fun hHeld => ?_)
      clear hK K hb
      (try simp only [Act.put, List.setIfInBounds_toArray, List.set_cons_zero, List.set_cons_succ])
      refine wpAnyH_listed (listed' := #[true, true, true, true, true, true, true, true, true, true, true, true, true, true, true, false, false, false]) (by kernel_rfl) ?_
      exact HK1_3012 x y z g1 g2 g3 v ⟨hx, hy, hz, hI⟩
    exact AllReadyH.nil
  case hb1_301 =>
    obtain ⟨hx, hy, hz, hI⟩ := hpre
    refine wpAnyH_ready (rs := [14]) (by kernel_rfl) (by simp) ?_
    refine' AllReadyH.cons ?_ (fun K hK => ?_) ?_
    rotate_left
    focus (simp only [List.getElem?_toArray, List.getElem?_cons_succ, List.getElem?_cons_zero]; rfl)
    focus
      go_simp
      replace hI := hI.make3 (t := 23)
      refine hK.out _ _ (hBase _ hI.bel) (fun hHeld => ?_)
      clear hK K
      (try simp only [Act.put, List.setIfInBounds_toArray, List.set_cons_zero, List.set_cons_succ])
      generalize w'.alloc (.cells #[.int .i64 0, .int .i64 0] 23) = v at *
      generalize w'.heap.size = g3 at *
      refine wpAnyH_listed (listed' := #[true, true, true, true, true, true, true, true, true, true, true, true, true, true, true, false, false, false]) (by kernel_rfl) ?_
      exact HK1_3012 x y z g1 g2 g3 v ⟨hx, hy, hz, hI⟩
    exact AllReadyH.nil
  case hb1_302 =>
    obtain ⟨hx, hy, hz, hI⟩ := hpre
    refine wpAnyH_ready (rs := [13]) (by kernel_rfl) (by simp) ?_
    refine' AllReadyH.cons ?_ (fun K hK => ?_) ?_
    rotate_left
    focus (simp only [List.getElem?_toArray, List.getElem?_cons_succ, List.getElem?_cons_zero]; rfl)
    focus
      go_simp
      replace hI := hI.make2 (t := 23)
      refine hK.out _ _ (hBase _ hI.bel) (fun hHeld => ?_)
      clear hK K
      (try simp only [Act.put, List.setIfInBounds_toArray, List.set_cons_zero, List.set_cons_succ])
      generalize w'.alloc (.cells #[.int .i64 0, .int .i64 0] 23) = v at *
      generalize w'.heap.size = g2 at *
      refine wpAnyH_listed (listed' := #[true, true, true, true, true, true, true, true, true, true, true, true, true, true, true, false, false, false]) (by kernel_rfl) ?_
      exact HK1_3012 x y z g1 g2 g3 v ⟨hx, hy, hz, hI⟩
    exact AllReadyH.nil
  case hb1_312 =>
    obtain ⟨hx, hy, hz, hI⟩ := hpre
    refine wpAnyH_ready (rs := [12]) (by kernel_rfl) (by simp) ?_
    refine' AllReadyH.cons ?_ (fun K hK => ?_) ?_
    rotate_left
    focus (simp only [List.getElem?_toArray, List.getElem?_cons_succ, List.getElem?_cons_zero]; rfl)
    focus
      go_simp
      replace hI := hI.make1 (t := 23)
      refine hK.out _ _ (hBase _ hI.bel) (fun hHeld => ?_)
      clear hK K
      (try simp only [Act.put, List.setIfInBounds_toArray, List.set_cons_zero, List.set_cons_succ])
      generalize w'.alloc (.cells #[.int .i64 0, .int .i64 0] 23) = v at *
      generalize w'.heap.size = g1 at *
      refine wpAnyH_listed (listed' := #[true, true, true, true, true, true, true, true, true, true, true, true, true, true, true, false, false, false]) (by kernel_rfl) ?_
      exact HK1_3012 x y z g1 g2 g3 v ⟨hx, hy, hz, hI⟩
    exact AllReadyH.nil
  obtain ⟨hx, hy, hz, hI⟩ := hpre
  obtain ⟨hBl, ⟨a0, l0, c0, d0, f0⟩, ⟨a1, l1, c1, d1, f1⟩, ⟨a2, l2, c2, d2, f2⟩, hne12, hne13, hne23⟩ := hI
  have n01 := hne12 g1 g2 rfl rfl
  have n02 := hne13 g1 g3 rfl rfl
  have n12 := hne23 g2 g3 rfl rfl
  clear hne12 hne13 hne23
  refine wpAnyH_ready (rs := [15]) (by kernel_rfl) (by simp) ?_
  refine' AllReadyH.cons ?_ (fun K hK => ?_) AllReadyH.nil
  rotate_left
  focus (simp only [List.getElem?_toArray, List.getElem?_cons_succ, List.getElem?_cons_zero]; rfl)
  go_simp
  replace hBl : Below _ _ ((w'.setCell ⟨g1, 0, none⟩ (.int .i64 (x.m))).setCell ⟨g1, 1, none⟩ (.int .i64 (x.r))) := (hBl.setCell (p := ⟨g1, 0, none⟩) a0 _).setCell (p := ⟨g1, 1, none⟩) a0 _
  have r0 : Pr (x.m) (x.r) g1 ((w'.setCell ⟨g1, 0, none⟩ (.int .i64 (x.m))).setCell ⟨g1, 1, none⟩ (.int .i64 (x.r))) := pr_set c0 d0 l0
  replace c1 := (far2 (o := 0) (o1 := 0) (o2 := 1) (v1 := .int .i64 (x.m)) (v2 := .int .i64 (x.r)) n01).trans c1
  replace d1 := (far2 (o := 1) (o1 := 0) (o2 := 1) (v1 := .int .i64 (x.m)) (v2 := .int .i64 (x.r)) n01).trans d1
  replace f1 : ∀ o, ((w'.setCell ⟨g1, 0, none⟩ (.int .i64 (x.m))).setCell ⟨g1, 1, none⟩ (.int .i64 (x.r))).frozen? ⟨g2, o, none⟩ = false := fun o => by simpa using f1 o
  replace l1 : g2 < ((w'.setCell ⟨g1, 0, none⟩ (.int .i64 (x.m))).setCell ⟨g1, 1, none⟩ (.int .i64 (x.r))).heap.size := by simpa using l1
  replace c2 := (far2 (o := 0) (o1 := 0) (o2 := 1) (v1 := .int .i64 (x.m)) (v2 := .int .i64 (x.r)) n02).trans c2
  replace d2 := (far2 (o := 1) (o1 := 0) (o2 := 1) (v1 := .int .i64 (x.m)) (v2 := .int .i64 (x.r)) n02).trans d2
  replace f2 : ∀ o, ((w'.setCell ⟨g1, 0, none⟩ (.int .i64 (x.m))).setCell ⟨g1, 1, none⟩ (.int .i64 (x.r))).frozen? ⟨g3, o, none⟩ = false := fun o => by simpa using f2 o
  replace l2 : g3 < ((w'.setCell ⟨g1, 0, none⟩ (.int .i64 (x.m))).setCell ⟨g1, 1, none⟩ (.int .i64 (x.r))).heap.size := by simpa using l2
  refine hK.out _ _ (hBase _ hBl) (fun hHeld => ?_)
  clear hK K c0 d0 f0 l0
  (try simp only [Act.put, List.setIfInBounds_toArray, List.set_cons_zero, List.set_cons_succ])
  generalize ((w'.setCell ⟨g1, 0, none⟩ (.int .i64 (x.m))).setCell ⟨g1, 1, none⟩ (.int .i64 (x.r))) = v0 at *
  refine wpAnyH_ready (rs := [16]) (by kernel_rfl) (by simp) ?_
  refine' AllReadyH.cons ?_ (fun K hK => ?_) AllReadyH.nil
  rotate_left
  focus (simp only [List.getElem?_toArray, List.getElem?_cons_succ, List.getElem?_cons_zero]; rfl)
  go_simp
  replace hBl : Below _ _ ((v0.setCell ⟨g2, 0, none⟩ (.int .i64 (y.m))).setCell ⟨g2, 1, none⟩ (.int .i64 (y.r))) := (hBl.setCell (p := ⟨g2, 0, none⟩) a1 _).setCell (p := ⟨g2, 1, none⟩) a1 _
  replace r0 := r0.far (x := .int .i64 (y.m)) (y := .int .i64 (y.r)) (Ne.symm n01)
  have r1 : Pr (y.m) (y.r) g2 ((v0.setCell ⟨g2, 0, none⟩ (.int .i64 (y.m))).setCell ⟨g2, 1, none⟩ (.int .i64 (y.r))) := pr_set c1 d1 l1
  replace c2 := (far2 (o := 0) (o1 := 0) (o2 := 1) (v1 := .int .i64 (y.m)) (v2 := .int .i64 (y.r)) n12).trans c2
  replace d2 := (far2 (o := 1) (o1 := 0) (o2 := 1) (v1 := .int .i64 (y.m)) (v2 := .int .i64 (y.r)) n12).trans d2
  replace f2 : ∀ o, ((v0.setCell ⟨g2, 0, none⟩ (.int .i64 (y.m))).setCell ⟨g2, 1, none⟩ (.int .i64 (y.r))).frozen? ⟨g3, o, none⟩ = false := fun o => by simpa using f2 o
  replace l2 : g3 < ((v0.setCell ⟨g2, 0, none⟩ (.int .i64 (y.m))).setCell ⟨g2, 1, none⟩ (.int .i64 (y.r))).heap.size := by simpa using l2
  refine hK.out _ _ (hBase _ hBl) (fun hHeld => ?_)
  clear hK K c1 d1 f1 l1
  (try simp only [Act.put, List.setIfInBounds_toArray, List.set_cons_zero, List.set_cons_succ])
  generalize ((v0.setCell ⟨g2, 0, none⟩ (.int .i64 (y.m))).setCell ⟨g2, 1, none⟩ (.int .i64 (y.r))) = v1 at *
  refine wpAnyH_ready (rs := [17]) (by kernel_rfl) (by simp) ?_
  refine' AllReadyH.cons ?_ (fun K hK => ?_) AllReadyH.nil
  rotate_left
  focus (simp only [List.getElem?_toArray, List.getElem?_cons_succ, List.getElem?_cons_zero]; rfl)
  go_simp
  replace hBl : Below _ _ ((v1.setCell ⟨g3, 0, none⟩ (.int .i64 (z.m))).setCell ⟨g3, 1, none⟩ (.int .i64 (z.r))) := (hBl.setCell (p := ⟨g3, 0, none⟩) a2 _).setCell (p := ⟨g3, 1, none⟩) a2 _
  replace r0 := r0.far (x := .int .i64 (z.m)) (y := .int .i64 (z.r)) (Ne.symm n02)
  replace r1 := r1.far (x := .int .i64 (z.m)) (y := .int .i64 (z.r)) (Ne.symm n12)
  have r2 : Pr (z.m) (z.r) g3 ((v1.setCell ⟨g3, 0, none⟩ (.int .i64 (z.m))).setCell ⟨g3, 1, none⟩ (.int .i64 (z.r))) := pr_set c2 d2 l2
  refine hK.out _ _ (hBase _ hBl) (fun hHeld => ?_)
  clear hK K c2 d2 f2 l2
  (try simp only [Act.put, List.setIfInBounds_toArray, List.set_cons_zero, List.set_cons_succ])
  generalize ((v1.setCell ⟨g3, 0, none⟩ (.int .i64 (z.m))).setCell ⟨g3, 1, none⟩ (.int .i64 (z.r))) = w'' at *
  refine wpAnyH_done (by kernel_rfl) ?_ _
  refine HK1.out _ _ ?_
  clear HK1 hHeld a0 a1 a2 n01 n02 n12
  have hbT : Bel u0 w'' := hBl
  clear hBl
  have hPg1 := r0
  have hPg2 := r1
  have hPg3 := r2
  clear r0 r1 r2
  have hT3 : Thr w x y z g1 g2 g3 w'' := ⟨(hAD.below hbT).1, hPg1, hPg2, hPg3⟩
  clear hAr hAD hBase hbT hPg1 hPg2 hPg3 hA HX HY HZ HU0
  obtain ⟨j, hj⟩ : ∃ j, Rs.join x y = j := ⟨_, rfl⟩
  obtain ⟨m, hm⟩ : ∃ m, Rs.meet x y = m := ⟨_, rfl⟩
  have HF := Lib.hid (And.intro hj hm)
  have hup := Rs.join_up hx hy
  have hlo := Rs.meet_low hx hy
  rw [hj] at hup
  rw [hm] at hlo
  have HL := Lib.hid (show Rs.leq x j = true ∧ Rs.leq y j = true ∧ Rs.leq m x = true ∧ Rs.leq m y = true ∧ Rs.join y x = j ∧ Rs.leq x x = true from ⟨hup.1, hup.2, hlo.1, hlo.2, by rw [Rs.join_comm hx hy]; exact hj, Rs.leq_refl' hx⟩)
  have HM2 := Lib.hid hm.symm
  have he := rs_eql j.m j.r j.m j.r true (by simp)
  have hlst := fun (h1 : Rs.leq x z = true) (h2 : Rs.leq y z = true) => Rs.join_least hx hy hz h1 h2
  rw [hj] at hlst
  clear hj hm hup hlo
  go_wp2_with fail
  obtain ⟨u0, hu0⟩ : ∃ u0, (w'').drew = u0 := ⟨_, rfl⟩
  have HU0 := Lib.hid hu0
  have hTD := hT3.drew
  rw [hu0] at hTD
  clear hu0
  have hBase : ∀ u, Bel u0 u → Thr w x y z g1 g2 g3 u := fun u h => hTD.below h
  rename_i K1 hK1
  have HK1 := Lib.hid hK1
  clear hK1
  have hI := fr3_refl u0
  refine wp_region_held_drew (S := (fun w' => Thr w x y z g1 g2 g3 w')) (by kernel_rfl) (by rw [HU0.out]; exact hBase _ hI.bel) (fun hHeld => ?_)
  rw [HU0.out] at hHeld ⊢
  refine' wpAnyH_take (i := 0) (v := _) ?_ ?_ ?_ ?_ ?_ ?_ ?_ ?_
  rotate_left 2
  focus (simp only [List.getElem?_toArray, List.getElem?_cons_succ, List.getElem?_cons_zero]; rfl)
  focus kernel_rfl
  focus kernel_rfl
  focus kernel_rfl
  focus exact (fun _ _ _ h => h)
  refine Or.inl ⟨?_, ?_⟩
  focus (go_simp; done)
  focus (intro w hSw; obtain ⟨_, ⟨⟨x0, x1⟩, _⟩, ⟨⟨y0, y1⟩, _⟩, _⟩ := hSw; (first | (go_simp; done) | (go_simp; with_reducible rfl)))
  focus assumption
  (try simp only [Act.put, List.setIfInBounds_toArray, List.set_cons_zero, List.set_cons_succ])
  refine' wpAnyH_take (i := 1) (v := _) ?_ ?_ ?_ ?_ ?_ ?_ ?_ ?_
  rotate_left 2
  focus (simp only [List.getElem?_toArray, List.getElem?_cons_succ, List.getElem?_cons_zero]; rfl)
  focus kernel_rfl
  focus kernel_rfl
  focus kernel_rfl
  focus exact (fun _ _ _ h => h)
  refine Or.inl ⟨?_, ?_⟩
  focus (go_simp; done)
  focus (intro w hSw; obtain ⟨_, ⟨⟨x0, x1⟩, _⟩, ⟨⟨y0, y1⟩, _⟩, _⟩ := hSw; (first | (go_simp; done) | (go_simp; with_reducible rfl)))
  focus assumption
  (try simp only [Act.put, List.setIfInBounds_toArray, List.set_cons_zero, List.set_cons_succ])
  refine' wpAnyH_take (i := 3) (v := _) ?_ ?_ ?_ ?_ ?_ ?_ ?_ ?_
  rotate_left 2
  focus (simp only [List.getElem?_toArray, List.getElem?_cons_succ, List.getElem?_cons_zero]; rfl)
  focus kernel_rfl
  focus kernel_rfl
  focus kernel_rfl
  focus exact (fun _ _ _ h => h)
  refine Or.inl ⟨?_, ?_⟩
  focus (go_simp; done)
  focus (intro w hSw; obtain ⟨_, ⟨⟨x0, x1⟩, _⟩, ⟨⟨y0, y1⟩, _⟩, _⟩ := hSw; (first | (go_simp; done) | (go_simp; with_reducible rfl)))
  focus assumption
  (try simp only [Act.put, List.setIfInBounds_toArray, List.set_cons_zero, List.set_cons_succ])
  refine' wpAnyH_take (i := 4) (v := _) ?_ ?_ ?_ ?_ ?_ ?_ ?_ ?_
  rotate_left 2
  focus (simp only [List.getElem?_toArray, List.getElem?_cons_succ, List.getElem?_cons_zero]; rfl)
  focus kernel_rfl
  focus kernel_rfl
  focus kernel_rfl
  focus exact (fun _ _ _ h => h)
  refine Or.inl ⟨?_, ?_⟩
  focus (go_simp; done)
  focus (intro w hSw; obtain ⟨_, ⟨⟨x0, x1⟩, _⟩, ⟨⟨y0, y1⟩, _⟩, _⟩ := hSw; (first | (go_simp; done) | (go_simp; with_reducible rfl)))
  focus assumption
  (try simp only [Act.put, List.setIfInBounds_toArray, List.set_cons_zero, List.set_cons_succ])
  refine' mh2 (Pre := fun (g4 : Nat) (g5 : Nat) (w' : World) => Fr3 u0 (some g4) (some g5) none w') _ #[true, true, true, true, true, true, true, true, false, false] _ (fun HK2_201 => ?ha2_201) (fun g4 g5 w' hpre => ?hb2_201)
  case' ha2_201 => skip
  refine' mh1 (Pre := fun (g5 : Nat) (w' : World) => Fr3 u0 none (some g5) none w') _ #[true, true, true, true, true, true, false, true, false, false] _ (fun HK2_21 => ?ha2_21) (fun g5 w' hpre => ?hb2_21)
  case' ha2_21 => skip
  refine' mh1 (Pre := fun (g4 : Nat) (w' : World) => Fr3 u0 (some g4) none none w') _ #[true, true, true, true, true, true, true, false, false, false] _ (fun HK2_20 => ?ha2_20) (fun g4 w' hpre => ?hb2_20)
  case' ha2_20 => skip
  refine' mh2 (Pre := fun (g4 : Nat) (g5 : Nat) (w' : World) => Fr3 u0 (some g4) (some g5) none w') _ #[true, true, true, true, true, false, true, true, false, false] _ (fun HK2_101 => ?ha2_101) (fun g4 g5 w' hpre => ?hb2_101)
  case' ha2_101 => skip
  refine' mh0 (Pre := fun (w' : World) => Fr3 u0 none none none w') _ #[true, true, true, true, true, true, false, false, false, false] _ (fun HK2_2 => ?ha2_2) (fun w' hpre => ?hb2_2)
  case' ha2_2 => skip
  refine' mh1 (Pre := fun (g5 : Nat) (w' : World) => Fr3 u0 none (some g5) none w') _ #[true, true, true, true, true, false, false, true, false, false] _ (fun HK2_11 => ?ha2_11) (fun g5 w' hpre => ?hb2_11)
  case' ha2_11 => skip
  refine' mh1 (Pre := fun (g4 : Nat) (w' : World) => Fr3 u0 (some g4) none none w') _ #[true, true, true, true, true, false, true, false, false, false] _ (fun HK2_10 => ?ha2_10) (fun g4 w' hpre => ?hb2_10)
  case' ha2_10 => skip
  refine' mh2 (Pre := fun (g4 : Nat) (g5 : Nat) (w' : World) => Fr3 u0 (some g4) (some g5) none w') _ #[true, true, false, true, true, false, true, true, false, false] _ (fun HK2_001 => ?ha2_001) (fun g4 g5 w' hpre => ?hb2_001)
  case' ha2_001 => skip
  refine' mh0 (Pre := fun (w' : World) => Fr3 u0 none none none w') _ #[true, true, true, true, true, false, false, false, false, false] _ (fun HK2_1 => ?ha2_1) (fun w' hpre => ?hb2_1)
  case' ha2_1 => skip
  refine' mh1 (Pre := fun (g5 : Nat) (w' : World) => Fr3 u0 none (some g5) none w') _ #[true, true, false, true, true, false, false, true, false, false] _ (fun HK2_01 => ?ha2_01) (fun g5 w' hpre => ?hb2_01)
  case' ha2_01 => skip
  refine' mh1 (Pre := fun (g4 : Nat) (w' : World) => Fr3 u0 (some g4) none none w') _ #[true, true, false, true, true, false, true, false, false, false] _ (fun HK2_00 => ?ha2_00) (fun g4 w' hpre => ?hb2_00)
  case ha2_00 =>
    refine wpAnyH_ready (rs := [2, 6, 7]) (by kernel_rfl) (by simp) ?_
    refine' AllReadyH.cons ?_ (fun K hK => ?_) ?_
    rotate_left
    focus (simp only [List.getElem?_toArray, List.getElem?_cons_succ, List.getElem?_cons_zero]; rfl)
    focus
      go_simp
      (go_at_call 20; have hTu := HTb.out.below ((hBase _ hI.bel).1); refine (cJoin_any x.m x.r y.m y.r j HF.out.1 _ hTu).mono ?_; clear hTu; rintro e v ⟨rfl, hb⟩)
      replace hI := hI.below hb
      refine hK.out _ _ (hBase _ hI.bel) (fun hHeld => ?_)
      clear hK K hb
      (try simp only [Act.put, List.setIfInBounds_toArray, List.set_cons_zero, List.set_cons_succ])
      refine wpAnyH_listed (listed' := #[true, true, true, true, true, false, false, false, false, false]) (by kernel_rfl) ?_
      exact HK2_1  v hI
    refine' AllReadyH.cons ?_ (fun K hK => ?_) ?_
    rotate_left
    focus (simp only [List.getElem?_toArray, List.getElem?_cons_succ, List.getElem?_cons_zero]; rfl)
    focus
      go_simp
      replace hI := hI.make1 (t := 23)
      refine hK.out _ _ (hBase _ hI.bel) (fun hHeld => ?_)
      clear hK K
      (try simp only [Act.put, List.setIfInBounds_toArray, List.set_cons_zero, List.set_cons_succ])
      generalize u0.alloc (.cells #[.int .i64 0, .int .i64 0] 23) = v at *
      generalize u0.heap.size = g4 at *
      refine wpAnyH_listed (listed' := #[true, true, false, true, true, false, true, false, false, false]) (by kernel_rfl) ?_
      exact HK2_00 g4 v hI
    refine' AllReadyH.cons ?_ (fun K hK => ?_) ?_
    rotate_left
    focus (simp only [List.getElem?_toArray, List.getElem?_cons_succ, List.getElem?_cons_zero]; rfl)
    focus
      go_simp
      replace hI := hI.make2 (t := 23)
      refine hK.out _ _ (hBase _ hI.bel) (fun hHeld => ?_)
      clear hK K
      (try simp only [Act.put, List.setIfInBounds_toArray, List.set_cons_zero, List.set_cons_succ])
      generalize u0.alloc (.cells #[.int .i64 0, .int .i64 0] 23) = v at *
      generalize u0.heap.size = g5 at *
      refine wpAnyH_listed (listed' := #[true, true, false, true, true, false, false, true, false, false]) (by kernel_rfl) ?_
      exact HK2_01 g5 v hI
    exact AllReadyH.nil
  case hb2_00 =>
    have hI := hpre
    refine wpAnyH_ready (rs := [2, 7]) (by kernel_rfl) (by simp) ?_
    refine' AllReadyH.cons ?_ (fun K hK => ?_) ?_
    rotate_left
    focus (simp only [List.getElem?_toArray, List.getElem?_cons_succ, List.getElem?_cons_zero]; rfl)
    focus
      go_simp
      (go_at_call 20; have hTu := HTb.out.below ((hBase _ hI.bel).1); refine (cJoin_any x.m x.r y.m y.r j HF.out.1 _ hTu).mono ?_; clear hTu; rintro e v ⟨rfl, hb⟩)
      replace hI := hI.below hb
      refine hK.out _ _ (hBase _ hI.bel) (fun hHeld => ?_)
      clear hK K hb
      (try simp only [Act.put, List.setIfInBounds_toArray, List.set_cons_zero, List.set_cons_succ])
      refine wpAnyH_listed (listed' := #[true, true, true, true, true, false, true, false, false, false]) (by kernel_rfl) ?_
      exact HK2_10 g4 v hI
    refine' AllReadyH.cons ?_ (fun K hK => ?_) ?_
    rotate_left
    focus (simp only [List.getElem?_toArray, List.getElem?_cons_succ, List.getElem?_cons_zero]; rfl)
    focus
      go_simp
      replace hI := hI.make2 (t := 23)
      refine hK.out _ _ (hBase _ hI.bel) (fun hHeld => ?_)
      clear hK K
      (try simp only [Act.put, List.setIfInBounds_toArray, List.set_cons_zero, List.set_cons_succ])
      generalize w'.alloc (.cells #[.int .i64 0, .int .i64 0] 23) = v at *
      generalize w'.heap.size = g5 at *
      refine wpAnyH_listed (listed' := #[true, true, false, true, true, false, true, true, false, false]) (by kernel_rfl) ?_
      exact HK2_001 g4 g5 v hI
    exact AllReadyH.nil
  case hb2_01 =>
    have hI := hpre
    refine wpAnyH_ready (rs := [2, 6]) (by kernel_rfl) (by simp) ?_
    refine' AllReadyH.cons ?_ (fun K hK => ?_) ?_
    rotate_left
    focus (simp only [List.getElem?_toArray, List.getElem?_cons_succ, List.getElem?_cons_zero]; rfl)
    focus
      go_simp
      (go_at_call 20; have hTu := HTb.out.below ((hBase _ hI.bel).1); refine (cJoin_any x.m x.r y.m y.r j HF.out.1 _ hTu).mono ?_; clear hTu; rintro e v ⟨rfl, hb⟩)
      replace hI := hI.below hb
      refine hK.out _ _ (hBase _ hI.bel) (fun hHeld => ?_)
      clear hK K hb
      (try simp only [Act.put, List.setIfInBounds_toArray, List.set_cons_zero, List.set_cons_succ])
      refine wpAnyH_listed (listed' := #[true, true, true, true, true, false, false, true, false, false]) (by kernel_rfl) ?_
      exact HK2_11 g5 v hI
    refine' AllReadyH.cons ?_ (fun K hK => ?_) ?_
    rotate_left
    focus (simp only [List.getElem?_toArray, List.getElem?_cons_succ, List.getElem?_cons_zero]; rfl)
    focus
      go_simp
      replace hI := hI.make1 (t := 23)
      refine hK.out _ _ (hBase _ hI.bel) (fun hHeld => ?_)
      clear hK K
      (try simp only [Act.put, List.setIfInBounds_toArray, List.set_cons_zero, List.set_cons_succ])
      generalize w'.alloc (.cells #[.int .i64 0, .int .i64 0] 23) = v at *
      generalize w'.heap.size = g4 at *
      refine wpAnyH_listed (listed' := #[true, true, false, true, true, false, true, true, false, false]) (by kernel_rfl) ?_
      exact HK2_001 g4 g5 v hI
    exact AllReadyH.nil
  case hb2_1 =>
    have hI := hpre
    refine wpAnyH_ready (rs := [5, 6, 7]) (by kernel_rfl) (by simp) ?_
    refine' AllReadyH.cons ?_ (fun K hK => ?_) ?_
    rotate_left
    focus (simp only [List.getElem?_toArray, List.getElem?_cons_succ, List.getElem?_cons_zero]; rfl)
    focus
      go_simp
      (go_at_call 21; have hTu := HTb.out.below ((hBase _ hI.bel).1); refine (cMeet_any x.m x.r y.m y.r m HF.out.2 _ hTu).mono ?_; clear hTu; rintro e v ⟨rfl, hb⟩)
      replace hI := hI.below hb
      refine hK.out _ _ (hBase _ hI.bel) (fun hHeld => ?_)
      clear hK K hb
      (try simp only [Act.put, List.setIfInBounds_toArray, List.set_cons_zero, List.set_cons_succ])
      refine wpAnyH_listed (listed' := #[true, true, true, true, true, true, false, false, false, false]) (by kernel_rfl) ?_
      exact HK2_2  v hI
    refine' AllReadyH.cons ?_ (fun K hK => ?_) ?_
    rotate_left
    focus (simp only [List.getElem?_toArray, List.getElem?_cons_succ, List.getElem?_cons_zero]; rfl)
    focus
      go_simp
      replace hI := hI.make1 (t := 23)
      refine hK.out _ _ (hBase _ hI.bel) (fun hHeld => ?_)
      clear hK K
      (try simp only [Act.put, List.setIfInBounds_toArray, List.set_cons_zero, List.set_cons_succ])
      generalize w'.alloc (.cells #[.int .i64 0, .int .i64 0] 23) = v at *
      generalize w'.heap.size = g4 at *
      refine wpAnyH_listed (listed' := #[true, true, true, true, true, false, true, false, false, false]) (by kernel_rfl) ?_
      exact HK2_10 g4 v hI
    refine' AllReadyH.cons ?_ (fun K hK => ?_) ?_
    rotate_left
    focus (simp only [List.getElem?_toArray, List.getElem?_cons_succ, List.getElem?_cons_zero]; rfl)
    focus
      go_simp
      replace hI := hI.make2 (t := 23)
      refine hK.out _ _ (hBase _ hI.bel) (fun hHeld => ?_)
      clear hK K
      (try simp only [Act.put, List.setIfInBounds_toArray, List.set_cons_zero, List.set_cons_succ])
      generalize w'.alloc (.cells #[.int .i64 0, .int .i64 0] 23) = v at *
      generalize w'.heap.size = g5 at *
      refine wpAnyH_listed (listed' := #[true, true, true, true, true, false, false, true, false, false]) (by kernel_rfl) ?_
      exact HK2_11 g5 v hI
    exact AllReadyH.nil
  case hb2_001 =>
    have hI := hpre
    refine wpAnyH_ready (rs := [2]) (by kernel_rfl) (by simp) ?_
    refine' AllReadyH.cons ?_ (fun K hK => ?_) ?_
    rotate_left
    focus (simp only [List.getElem?_toArray, List.getElem?_cons_succ, List.getElem?_cons_zero]; rfl)
    focus
      go_simp
      (go_at_call 20; have hTu := HTb.out.below ((hBase _ hI.bel).1); refine (cJoin_any x.m x.r y.m y.r j HF.out.1 _ hTu).mono ?_; clear hTu; rintro e v ⟨rfl, hb⟩)
      replace hI := hI.below hb
      refine hK.out _ _ (hBase _ hI.bel) (fun hHeld => ?_)
      clear hK K hb
      (try simp only [Act.put, List.setIfInBounds_toArray, List.set_cons_zero, List.set_cons_succ])
      refine wpAnyH_listed (listed' := #[true, true, true, true, true, false, true, true, false, false]) (by kernel_rfl) ?_
      exact HK2_101 g4 g5 v hI
    exact AllReadyH.nil
  case hb2_10 =>
    have hI := hpre
    refine wpAnyH_ready (rs := [5, 7]) (by kernel_rfl) (by simp) ?_
    refine' AllReadyH.cons ?_ (fun K hK => ?_) ?_
    rotate_left
    focus (simp only [List.getElem?_toArray, List.getElem?_cons_succ, List.getElem?_cons_zero]; rfl)
    focus
      go_simp
      (go_at_call 21; have hTu := HTb.out.below ((hBase _ hI.bel).1); refine (cMeet_any x.m x.r y.m y.r m HF.out.2 _ hTu).mono ?_; clear hTu; rintro e v ⟨rfl, hb⟩)
      replace hI := hI.below hb
      refine hK.out _ _ (hBase _ hI.bel) (fun hHeld => ?_)
      clear hK K hb
      (try simp only [Act.put, List.setIfInBounds_toArray, List.set_cons_zero, List.set_cons_succ])
      refine wpAnyH_listed (listed' := #[true, true, true, true, true, true, true, false, false, false]) (by kernel_rfl) ?_
      exact HK2_20 g4 v hI
    refine' AllReadyH.cons ?_ (fun K hK => ?_) ?_
    rotate_left
    focus (simp only [List.getElem?_toArray, List.getElem?_cons_succ, List.getElem?_cons_zero]; rfl)
    focus
      go_simp
      replace hI := hI.make2 (t := 23)
      refine hK.out _ _ (hBase _ hI.bel) (fun hHeld => ?_)
      clear hK K
      (try simp only [Act.put, List.setIfInBounds_toArray, List.set_cons_zero, List.set_cons_succ])
      generalize w'.alloc (.cells #[.int .i64 0, .int .i64 0] 23) = v at *
      generalize w'.heap.size = g5 at *
      refine wpAnyH_listed (listed' := #[true, true, true, true, true, false, true, true, false, false]) (by kernel_rfl) ?_
      exact HK2_101 g4 g5 v hI
    exact AllReadyH.nil
  case hb2_11 =>
    have hI := hpre
    refine wpAnyH_ready (rs := [5, 6]) (by kernel_rfl) (by simp) ?_
    refine' AllReadyH.cons ?_ (fun K hK => ?_) ?_
    rotate_left
    focus (simp only [List.getElem?_toArray, List.getElem?_cons_succ, List.getElem?_cons_zero]; rfl)
    focus
      go_simp
      (go_at_call 21; have hTu := HTb.out.below ((hBase _ hI.bel).1); refine (cMeet_any x.m x.r y.m y.r m HF.out.2 _ hTu).mono ?_; clear hTu; rintro e v ⟨rfl, hb⟩)
      replace hI := hI.below hb
      refine hK.out _ _ (hBase _ hI.bel) (fun hHeld => ?_)
      clear hK K hb
      (try simp only [Act.put, List.setIfInBounds_toArray, List.set_cons_zero, List.set_cons_succ])
      refine wpAnyH_listed (listed' := #[true, true, true, true, true, true, false, true, false, false]) (by kernel_rfl) ?_
      exact HK2_21 g5 v hI
    refine' AllReadyH.cons ?_ (fun K hK => ?_) ?_
    rotate_left
    focus (simp only [List.getElem?_toArray, List.getElem?_cons_succ, List.getElem?_cons_zero]; rfl)
    focus
      go_simp
      replace hI := hI.make1 (t := 23)
      refine hK.out _ _ (hBase _ hI.bel) (fun hHeld => ?_)
      clear hK K
      (try simp only [Act.put, List.setIfInBounds_toArray, List.set_cons_zero, List.set_cons_succ])
      generalize w'.alloc (.cells #[.int .i64 0, .int .i64 0] 23) = v at *
      generalize w'.heap.size = g4 at *
      refine wpAnyH_listed (listed' := #[true, true, true, true, true, false, true, true, false, false]) (by kernel_rfl) ?_
      exact HK2_101 g4 g5 v hI
    exact AllReadyH.nil
  case hb2_2 =>
    have hI := hpre
    refine wpAnyH_ready (rs := [6, 7]) (by kernel_rfl) (by simp) ?_
    refine' AllReadyH.cons ?_ (fun K hK => ?_) ?_
    rotate_left
    focus (simp only [List.getElem?_toArray, List.getElem?_cons_succ, List.getElem?_cons_zero]; rfl)
    focus
      go_simp
      replace hI := hI.make1 (t := 23)
      refine hK.out _ _ (hBase _ hI.bel) (fun hHeld => ?_)
      clear hK K
      (try simp only [Act.put, List.setIfInBounds_toArray, List.set_cons_zero, List.set_cons_succ])
      generalize w'.alloc (.cells #[.int .i64 0, .int .i64 0] 23) = v at *
      generalize w'.heap.size = g4 at *
      refine wpAnyH_listed (listed' := #[true, true, true, true, true, true, true, false, false, false]) (by kernel_rfl) ?_
      exact HK2_20 g4 v hI
    refine' AllReadyH.cons ?_ (fun K hK => ?_) ?_
    rotate_left
    focus (simp only [List.getElem?_toArray, List.getElem?_cons_succ, List.getElem?_cons_zero]; rfl)
    focus
      go_simp
      replace hI := hI.make2 (t := 23)
      refine hK.out _ _ (hBase _ hI.bel) (fun hHeld => ?_)
      clear hK K
      (try simp only [Act.put, List.setIfInBounds_toArray, List.set_cons_zero, List.set_cons_succ])
      generalize w'.alloc (.cells #[.int .i64 0, .int .i64 0] 23) = v at *
      generalize w'.heap.size = g5 at *
      refine wpAnyH_listed (listed' := #[true, true, true, true, true, true, false, true, false, false]) (by kernel_rfl) ?_
      exact HK2_21 g5 v hI
    exact AllReadyH.nil
  case hb2_101 =>
    have hI := hpre
    refine wpAnyH_ready (rs := [5]) (by kernel_rfl) (by simp) ?_
    refine' AllReadyH.cons ?_ (fun K hK => ?_) ?_
    rotate_left
    focus (simp only [List.getElem?_toArray, List.getElem?_cons_succ, List.getElem?_cons_zero]; rfl)
    focus
      go_simp
      (go_at_call 21; have hTu := HTb.out.below ((hBase _ hI.bel).1); refine (cMeet_any x.m x.r y.m y.r m HF.out.2 _ hTu).mono ?_; clear hTu; rintro e v ⟨rfl, hb⟩)
      replace hI := hI.below hb
      refine hK.out _ _ (hBase _ hI.bel) (fun hHeld => ?_)
      clear hK K hb
      (try simp only [Act.put, List.setIfInBounds_toArray, List.set_cons_zero, List.set_cons_succ])
      refine wpAnyH_listed (listed' := #[true, true, true, true, true, true, true, true, false, false]) (by kernel_rfl) ?_
      exact HK2_201 g4 g5 v hI
    exact AllReadyH.nil
  case hb2_20 =>
    have hI := hpre
    refine wpAnyH_ready (rs := [7]) (by kernel_rfl) (by simp) ?_
    refine' AllReadyH.cons ?_ (fun K hK => ?_) ?_
    rotate_left
    focus (simp only [List.getElem?_toArray, List.getElem?_cons_succ, List.getElem?_cons_zero]; rfl)
    focus
      go_simp
      replace hI := hI.make2 (t := 23)
      refine hK.out _ _ (hBase _ hI.bel) (fun hHeld => ?_)
      clear hK K
      (try simp only [Act.put, List.setIfInBounds_toArray, List.set_cons_zero, List.set_cons_succ])
      generalize w'.alloc (.cells #[.int .i64 0, .int .i64 0] 23) = v at *
      generalize w'.heap.size = g5 at *
      refine wpAnyH_listed (listed' := #[true, true, true, true, true, true, true, true, false, false]) (by kernel_rfl) ?_
      exact HK2_201 g4 g5 v hI
    exact AllReadyH.nil
  case hb2_21 =>
    have hI := hpre
    refine wpAnyH_ready (rs := [6]) (by kernel_rfl) (by simp) ?_
    refine' AllReadyH.cons ?_ (fun K hK => ?_) ?_
    rotate_left
    focus (simp only [List.getElem?_toArray, List.getElem?_cons_succ, List.getElem?_cons_zero]; rfl)
    focus
      go_simp
      replace hI := hI.make1 (t := 23)
      refine hK.out _ _ (hBase _ hI.bel) (fun hHeld => ?_)
      clear hK K
      (try simp only [Act.put, List.setIfInBounds_toArray, List.set_cons_zero, List.set_cons_succ])
      generalize w'.alloc (.cells #[.int .i64 0, .int .i64 0] 23) = v at *
      generalize w'.heap.size = g4 at *
      refine wpAnyH_listed (listed' := #[true, true, true, true, true, true, true, true, false, false]) (by kernel_rfl) ?_
      exact HK2_201 g4 g5 v hI
    exact AllReadyH.nil
  have hI := hpre
  obtain ⟨hBl, ⟨a0, l0, c0, d0, f0⟩, ⟨a1, l1, c1, d1, f1⟩, _, hne12, hne13, hne23⟩ := hI
  have n01 := hne12 g4 g5 rfl rfl
  clear hne12 hne13 hne23
  refine wpAnyH_ready (rs := [8]) (by kernel_rfl) (by simp) ?_
  refine' AllReadyH.cons ?_ (fun K hK => ?_) AllReadyH.nil
  rotate_left
  focus (simp only [List.getElem?_toArray, List.getElem?_cons_succ, List.getElem?_cons_zero]; rfl)
  go_simp
  replace hBl : Below _ _ ((w'.setCell ⟨g4, 0, none⟩ (.int .i64 (j.m))).setCell ⟨g4, 1, none⟩ (.int .i64 (j.r))) := (hBl.setCell (p := ⟨g4, 0, none⟩) a0 _).setCell (p := ⟨g4, 1, none⟩) a0 _
  have r0 : Pr (j.m) (j.r) g4 ((w'.setCell ⟨g4, 0, none⟩ (.int .i64 (j.m))).setCell ⟨g4, 1, none⟩ (.int .i64 (j.r))) := pr_set c0 d0 l0
  replace c1 := (far2 (o := 0) (o1 := 0) (o2 := 1) (v1 := .int .i64 (j.m)) (v2 := .int .i64 (j.r)) n01).trans c1
  replace d1 := (far2 (o := 1) (o1 := 0) (o2 := 1) (v1 := .int .i64 (j.m)) (v2 := .int .i64 (j.r)) n01).trans d1
  replace f1 : ∀ o, ((w'.setCell ⟨g4, 0, none⟩ (.int .i64 (j.m))).setCell ⟨g4, 1, none⟩ (.int .i64 (j.r))).frozen? ⟨g5, o, none⟩ = false := fun o => by simpa using f1 o
  replace l1 : g5 < ((w'.setCell ⟨g4, 0, none⟩ (.int .i64 (j.m))).setCell ⟨g4, 1, none⟩ (.int .i64 (j.r))).heap.size := by simpa using l1
  refine hK.out _ _ (hBase _ hBl) (fun hHeld => ?_)
  clear hK K c0 d0 f0 l0
  (try simp only [Act.put, List.setIfInBounds_toArray, List.set_cons_zero, List.set_cons_succ])
  generalize ((w'.setCell ⟨g4, 0, none⟩ (.int .i64 (j.m))).setCell ⟨g4, 1, none⟩ (.int .i64 (j.r))) = v0 at *
  refine wpAnyH_ready (rs := [9]) (by kernel_rfl) (by simp) ?_
  refine' AllReadyH.cons ?_ (fun K hK => ?_) AllReadyH.nil
  rotate_left
  focus (simp only [List.getElem?_toArray, List.getElem?_cons_succ, List.getElem?_cons_zero]; rfl)
  go_simp
  replace hBl : Below _ _ ((v0.setCell ⟨g5, 0, none⟩ (.int .i64 (m.m))).setCell ⟨g5, 1, none⟩ (.int .i64 (m.r))) := (hBl.setCell (p := ⟨g5, 0, none⟩) a1 _).setCell (p := ⟨g5, 1, none⟩) a1 _
  replace r0 := r0.far (x := .int .i64 (m.m)) (y := .int .i64 (m.r)) (Ne.symm n01)
  have r1 : Pr (m.m) (m.r) g5 ((v0.setCell ⟨g5, 0, none⟩ (.int .i64 (m.m))).setCell ⟨g5, 1, none⟩ (.int .i64 (m.r))) := pr_set c1 d1 l1
  refine hK.out _ _ (hBase _ hBl) (fun hHeld => ?_)
  clear hK K c1 d1 f1 l1
  (try simp only [Act.put, List.setIfInBounds_toArray, List.set_cons_zero, List.set_cons_succ])
  generalize ((v0.setCell ⟨g5, 0, none⟩ (.int .i64 (m.m))).setCell ⟨g5, 1, none⟩ (.int .i64 (m.r))) = w'' at *
  refine wpAnyH_done (by kernel_rfl) ?_ _
  refine HK1.out _ _ ?_
  clear HK1 hHeld a0 a1 n01
  have hbT : Bel u0 w'' := hBl
  clear hBl
  have hPg4 := r0
  have hPg5 := r1
  clear r0 r1
  have hT3' := hBase _ hbT
  have hT : Fiv w x y z j m g1 g2 g3 g4 g5 w'' := ⟨hT3'.1, hT3'.2.1, hT3'.2.2.1, hT3'.2.2.2, hPg4, hPg5⟩
  clear hT3 hT3' hTD hBase hbT hPg4 hPg5 HU0
  obtain ⟨hv, ⟨⟨x0, x1⟩, xg⟩, ⟨⟨y0, y1⟩, yg⟩, ⟨⟨z0, z1⟩, zg⟩, ⟨⟨j0, j1⟩, jg⟩, ⟨⟨m0, m1⟩, mg⟩⟩ := id hT
  go_wp2_with fail
  have hTu := HTb.out.below (hT.1); refine (cLeq_any x.m x.r j.m j.r true HL.out.1 _ hTu).mono ?_; clear hTu
  rintro e w5 ⟨rfl, hb⟩
  clear hv x0 x1 xg y0 y1 yg z0 z1 zg j0 j1 jg m0 m1 mg
  replace hT := hT.below hb
  clear hb
  obtain ⟨hv, ⟨⟨x0, x1⟩, xg⟩, ⟨⟨y0, y1⟩, yg⟩, ⟨⟨z0, z1⟩, zg⟩, ⟨⟨j0, j1⟩, jg⟩, ⟨⟨m0, m1⟩, mg⟩⟩ := id hT
  go_wp2_with fail
  have hTu := HTb.out.below (hT.1); refine (cLeq_any y.m y.r j.m j.r true HL.out.2.1 _ hTu).mono ?_; clear hTu
  rintro e w5 ⟨rfl, hb⟩
  clear hv x0 x1 xg y0 y1 yg z0 z1 zg j0 j1 jg m0 m1 mg
  replace hT := hT.below hb
  clear hb
  obtain ⟨hv, ⟨⟨x0, x1⟩, xg⟩, ⟨⟨y0, y1⟩, yg⟩, ⟨⟨z0, z1⟩, zg⟩, ⟨⟨j0, j1⟩, jg⟩, ⟨⟨m0, m1⟩, mg⟩⟩ := id hT
  go_wp2_with fail
  have hTu := HTb.out.below (hT.1); refine (cLeq_any m.m m.r x.m x.r true HL.out.2.2.1 _ hTu).mono ?_; clear hTu
  rintro e w5 ⟨rfl, hb⟩
  clear hv x0 x1 xg y0 y1 yg z0 z1 zg j0 j1 jg m0 m1 mg
  replace hT := hT.below hb
  clear hb
  obtain ⟨hv, ⟨⟨x0, x1⟩, xg⟩, ⟨⟨y0, y1⟩, yg⟩, ⟨⟨z0, z1⟩, zg⟩, ⟨⟨j0, j1⟩, jg⟩, ⟨⟨m0, m1⟩, mg⟩⟩ := id hT
  go_wp2_with fail
  have hTu := HTb.out.below (hT.1); refine (cLeq_any m.m m.r y.m y.r true HL.out.2.2.2.1 _ hTu).mono ?_; clear hTu
  rintro e w5 ⟨rfl, hb⟩
  clear hv x0 x1 xg y0 y1 yg z0 z1 zg j0 j1 jg m0 m1 mg
  replace hT := hT.below hb
  clear hb
  obtain ⟨hv, ⟨⟨x0, x1⟩, xg⟩, ⟨⟨y0, y1⟩, yg⟩, ⟨⟨z0, z1⟩, zg⟩, ⟨⟨j0, j1⟩, jg⟩, ⟨⟨m0, m1⟩, mg⟩⟩ := id hT
  have hlc : (Rs.leq x z = false) ∨ (Rs.leq x z = true ∧ Rs.leq y z = false) ∨ (Rs.leq x z = true ∧ Rs.leq y z = true ∧ Rs.leq j z = true) := by
    cases e1 : Rs.leq x z
    · exact .inl rfl
    · cases e2 : Rs.leq y z
      · exact .inr (.inl ⟨rfl, rfl⟩)
      · exact .inr (.inr ⟨rfl, rfl, hlst e1 e2⟩)
  clear hlst
  rcases hlc with HQ | HQ | HQ
  all_goals
    have HQ' := Lib.hid HQ
    clear HQ
  case' inl =>
    go_wp2_with fail
    have hTu := HTb.out.below (hT.1); refine (cLeq_any x.m x.r z.m z.r false HQ'.out _ hTu).mono ?_; clear hTu
    rintro e w5 ⟨rfl, hb⟩
    clear hv x0 x1 xg y0 y1 yg z0 z1 zg j0 j1 jg m0 m1 mg
    replace hT := hT.below hb
    clear hb
    obtain ⟨hv, ⟨⟨x0, x1⟩, xg⟩, ⟨⟨y0, y1⟩, yg⟩, ⟨⟨z0, z1⟩, zg⟩, ⟨⟨j0, j1⟩, jg⟩, ⟨⟨m0, m1⟩, mg⟩⟩ := id hT
  case' inr.inl =>
    go_wp2_with fail
    have hTu := HTb.out.below (hT.1); refine (cLeq_any x.m x.r z.m z.r true HQ'.out.1 _ hTu).mono ?_; clear hTu
    rintro e w5 ⟨rfl, hb⟩
    clear hv x0 x1 xg y0 y1 yg z0 z1 zg j0 j1 jg m0 m1 mg
    replace hT := hT.below hb
    clear hb
    obtain ⟨hv, ⟨⟨x0, x1⟩, xg⟩, ⟨⟨y0, y1⟩, yg⟩, ⟨⟨z0, z1⟩, zg⟩, ⟨⟨j0, j1⟩, jg⟩, ⟨⟨m0, m1⟩, mg⟩⟩ := id hT
    go_wp2_with fail
    have hTu := HTb.out.below (hT.1); refine (cLeq_any y.m y.r z.m z.r false HQ'.out.2 _ hTu).mono ?_; clear hTu
    rintro e w5 ⟨rfl, hb⟩
    clear hv x0 x1 xg y0 y1 yg z0 z1 zg j0 j1 jg m0 m1 mg
    replace hT := hT.below hb
    clear hb
    obtain ⟨hv, ⟨⟨x0, x1⟩, xg⟩, ⟨⟨y0, y1⟩, yg⟩, ⟨⟨z0, z1⟩, zg⟩, ⟨⟨j0, j1⟩, jg⟩, ⟨⟨m0, m1⟩, mg⟩⟩ := id hT
  case' inr.inr =>
    go_wp2_with fail
    have hTu := HTb.out.below (hT.1); refine (cLeq_any x.m x.r z.m z.r true HQ'.out.1 _ hTu).mono ?_; clear hTu
    rintro e w5 ⟨rfl, hb⟩
    clear hv x0 x1 xg y0 y1 yg z0 z1 zg j0 j1 jg m0 m1 mg
    replace hT := hT.below hb
    clear hb
    obtain ⟨hv, ⟨⟨x0, x1⟩, xg⟩, ⟨⟨y0, y1⟩, yg⟩, ⟨⟨z0, z1⟩, zg⟩, ⟨⟨j0, j1⟩, jg⟩, ⟨⟨m0, m1⟩, mg⟩⟩ := id hT
    go_wp2_with fail
    have hTu := HTb.out.below (hT.1); refine (cLeq_any y.m y.r z.m z.r true HQ'.out.2.1 _ hTu).mono ?_; clear hTu
    rintro e w5 ⟨rfl, hb⟩
    clear hv x0 x1 xg y0 y1 yg z0 z1 zg j0 j1 jg m0 m1 mg
    replace hT := hT.below hb
    clear hb
    obtain ⟨hv, ⟨⟨x0, x1⟩, xg⟩, ⟨⟨y0, y1⟩, yg⟩, ⟨⟨z0, z1⟩, zg⟩, ⟨⟨j0, j1⟩, jg⟩, ⟨⟨m0, m1⟩, mg⟩⟩ := id hT
    go_wp2_with fail
    have hTu := HTb.out.below (hT.1); refine (cLeq_any j.m j.r z.m z.r true HQ'.out.2.2 _ hTu).mono ?_; clear hTu
    rintro e w5 ⟨rfl, hb⟩
    clear hv x0 x1 xg y0 y1 yg z0 z1 zg j0 j1 jg m0 m1 mg
    replace hT := hT.below hb
    clear hb
    obtain ⟨hv, ⟨⟨x0, x1⟩, xg⟩, ⟨⟨y0, y1⟩, yg⟩, ⟨⟨z0, z1⟩, zg⟩, ⟨⟨j0, j1⟩, jg⟩, ⟨⟨m0, m1⟩, mg⟩⟩ := id hT
  all_goals
    by_cases hxn : x = Rs.non
    · have hm0 : ¬ (0 : Int) ≤ x.m := by rw [hxn]; decide
      clear hxn
      go_wp2_with fail
      obtain ⟨v, rfl⟩ : ∃ v, v = n := ⟨_, rfl⟩
      have ht := Rs.has_meet hx hy v
      have HXY := Lib.hid (And.intro hx hy)
      cases c1 : Rs.has x v
      · have HH := Lib.hid (show Rs.has x v = false ∧ Rs.has y v = Rs.has y v ∧ Rs.has m v = false from ⟨c1, rfl, by rw [HM2.out]; rw [c1] at ht; exact ht.symm⟩)
        clear c1 ht hx hy HXY
        refine wp_region_held_drew (S := (fun w' => Fiv w x y z j m g1 g2 g3 g4 g5 w')) (by kernel_rfl) (hT.drew) (fun hHeld => ?_)
        refine' wpAnyH_take (i := 0) (v := _) ?_ ?_ ?_ ?_ ?_ ?_ ?_ ?_
        rotate_left 2
        focus (simp only [List.getElem?_toArray, List.getElem?_cons_succ, List.getElem?_cons_zero]; rfl)
        focus kernel_rfl
        focus kernel_rfl
        focus kernel_rfl
        focus exact (fun _ _ _ h => h)
        refine Or.inl ⟨?_, ?_⟩
        focus (go_simp; done)
        focus (intro w hSw; obtain ⟨_, ⟨⟨x0, x1⟩, _⟩, ⟨⟨y0, y1⟩, _⟩, ⟨⟨z0, z1⟩, _⟩, ⟨⟨j0, j1⟩, _⟩, ⟨⟨m0, m1⟩, _⟩⟩ := hSw; (first | (go_simp; done) | (go_simp; with_reducible rfl)))
        focus assumption
        (try simp only [Act.put, List.setIfInBounds_toArray, List.set_cons_zero, List.set_cons_succ])
        refine' wpAnyH_take (i := 1) (v := _) ?_ ?_ ?_ ?_ ?_ ?_ ?_ ?_
        rotate_left 2
        focus (simp only [List.getElem?_toArray, List.getElem?_cons_succ, List.getElem?_cons_zero]; rfl)
        focus kernel_rfl
        focus kernel_rfl
        focus kernel_rfl
        focus exact (fun _ _ _ h => h)
        refine Or.inl ⟨?_, ?_⟩
        focus (go_simp; done)
        focus (intro w hSw; obtain ⟨_, ⟨⟨x0, x1⟩, _⟩, ⟨⟨y0, y1⟩, _⟩, ⟨⟨z0, z1⟩, _⟩, ⟨⟨j0, j1⟩, _⟩, ⟨⟨m0, m1⟩, _⟩⟩ := hSw; (first | (go_simp; done) | (go_simp; with_reducible rfl)))
        focus assumption
        (try simp only [Act.put, List.setIfInBounds_toArray, List.set_cons_zero, List.set_cons_succ])
        refine' wpAnyH_take (i := 8) (v := _) ?_ ?_ ?_ ?_ ?_ ?_ ?_ ?_
        rotate_left 2
        focus (simp only [List.getElem?_toArray, List.getElem?_cons_succ, List.getElem?_cons_zero]; rfl)
        focus kernel_rfl
        focus kernel_rfl
        focus kernel_rfl
        focus exact (fun _ _ _ h => h)
        refine Or.inl ⟨?_, ?_⟩
        focus (go_simp; done)
        focus (intro w hSw; obtain ⟨_, ⟨⟨x0, x1⟩, _⟩, ⟨⟨y0, y1⟩, _⟩, ⟨⟨z0, z1⟩, _⟩, ⟨⟨j0, j1⟩, _⟩, ⟨⟨m0, m1⟩, _⟩⟩ := hSw; (first | (go_simp; done) | (go_simp; with_reducible rfl)))
        focus assumption
        (try simp only [Act.put, List.setIfInBounds_toArray, List.set_cons_zero, List.set_cons_succ])
        refine' wpAnyH_take (i := 9) (v := _) ?_ ?_ ?_ ?_ ?_ ?_ ?_ ?_
        rotate_left 2
        focus (simp only [List.getElem?_toArray, List.getElem?_cons_succ, List.getElem?_cons_zero]; rfl)
        focus kernel_rfl
        focus kernel_rfl
        focus kernel_rfl
        focus exact (fun _ _ _ h => h)
        refine Or.inl ⟨?_, ?_⟩
        focus (go_simp; done)
        focus (intro w hSw; obtain ⟨_, ⟨⟨x0, x1⟩, _⟩, ⟨⟨y0, y1⟩, _⟩, ⟨⟨z0, z1⟩, _⟩, ⟨⟨j0, j1⟩, _⟩, ⟨⟨m0, m1⟩, _⟩⟩ := hSw; (first | (go_simp; done) | (go_simp; with_reducible rfl)))
        focus assumption
        (try simp only [Act.put, List.setIfInBounds_toArray, List.set_cons_zero, List.set_cons_succ])
        refine wpAnyH_ready (rs := [2]) (by kernel_rfl) (by simp) ?_
        refine' AllReadyH.cons ?_ (fun K hK => ?_) AllReadyH.nil
        rotate_left
        focus (simp only [List.getElem?_toArray, List.getElem?_cons_succ, List.getElem?_cons_zero]; rfl)
        go_simp
        (go_at_call 18; have hTu := HTb.out.below (hHeld.1); refine (cHas_any x.m x.r v false HH.out.1 _ hTu).mono ?_; clear hTu; rintro e w4 ⟨rfl, hb⟩)
        refine hK.out _ _ (hHeld.below hb) (fun hHeld => ?_)
        clear hK K
        (try simp only [Act.put, List.setIfInBounds_toArray, List.set_cons_zero, List.set_cons_succ])
        clear hb
        refine' wpAnyH_take (i := 3) (v := _) ?_ ?_ ?_ ?_ ?_ ?_ ?_ ?_
        rotate_left 2
        focus (simp only [List.getElem?_toArray, List.getElem?_cons_succ, List.getElem?_cons_zero]; rfl)
        focus kernel_rfl
        focus kernel_rfl
        focus kernel_rfl
        focus exact (fun _ _ _ h => h)
        refine Or.inl ⟨?_, ?_⟩
        focus (go_simp; done)
        focus (intro w hSw; obtain ⟨_, ⟨⟨x0, x1⟩, _⟩, ⟨⟨y0, y1⟩, _⟩, ⟨⟨z0, z1⟩, _⟩, ⟨⟨j0, j1⟩, _⟩, ⟨⟨m0, m1⟩, _⟩⟩ := hSw; (first | (go_simp; done) | (go_simp; with_reducible rfl)))
        focus assumption
        (try simp only [Act.put, List.setIfInBounds_toArray, List.set_cons_zero, List.set_cons_succ])
        refine' wpAnyH_take (i := 4) (v := undef) ?_ ?_ ?_ ?_ ?_ ?_ ?_ ?_
        rotate_left 1
        focus (simp only [List.getElem?_toArray, List.getElem?_cons_succ, List.getElem?_cons_zero]; rfl)
        focus kernel_rfl
        focus kernel_rfl
        focus kernel_rfl
        focus exact (fun _ _ _ h => h)
        refine Or.inr ⟨?_, rfl⟩
        focus (go_simp; done)
        focus assumption
        (try simp only [Act.put, List.setIfInBounds_toArray, List.set_cons_zero, List.set_cons_succ])
        refine' wpAnyH_take (i := 5) (v := undef) ?_ ?_ ?_ ?_ ?_ ?_ ?_ ?_
        rotate_left 1
        focus (simp only [List.getElem?_toArray, List.getElem?_cons_succ, List.getElem?_cons_zero]; rfl)
        focus kernel_rfl
        focus kernel_rfl
        focus kernel_rfl
        focus exact (fun _ _ _ h => h)
        refine Or.inr ⟨?_, rfl⟩
        focus (go_simp; done)
        focus assumption
        (try simp only [Act.put, List.setIfInBounds_toArray, List.set_cons_zero, List.set_cons_succ])
        refine' wpAnyH_take (i := 6) (v := undef) ?_ ?_ ?_ ?_ ?_ ?_ ?_ ?_
        rotate_left 1
        focus (simp only [List.getElem?_toArray, List.getElem?_cons_succ, List.getElem?_cons_zero]; rfl)
        focus kernel_rfl
        focus kernel_rfl
        focus kernel_rfl
        focus exact (fun _ _ _ h => h)
        refine Or.inr ⟨?_, rfl⟩
        focus (go_simp; done)
        focus assumption
        (try simp only [Act.put, List.setIfInBounds_toArray, List.set_cons_zero, List.set_cons_succ])
        refine' wpAnyH_take (i := 7) (v := _) ?_ ?_ ?_ ?_ ?_ ?_ ?_ ?_
        rotate_left 2
        focus (simp only [List.getElem?_toArray, List.getElem?_cons_succ, List.getElem?_cons_zero]; rfl)
        focus kernel_rfl
        focus kernel_rfl
        focus kernel_rfl
        focus exact (fun _ _ _ h => h)
        refine Or.inl ⟨?_, ?_⟩
        focus (go_simp; done)
        focus (intro w hSw; obtain ⟨_, ⟨⟨x0, x1⟩, _⟩, ⟨⟨y0, y1⟩, _⟩, ⟨⟨z0, z1⟩, _⟩, ⟨⟨j0, j1⟩, _⟩, ⟨⟨m0, m1⟩, _⟩⟩ := hSw; (first | (go_simp; done) | (go_simp; with_reducible rfl)))
        focus assumption
        (try simp only [Act.put, List.setIfInBounds_toArray, List.set_cons_zero, List.set_cons_succ])
        refine wpAnyH_ready (rs := [10]) (by kernel_rfl) (by simp) ?_
        refine' AllReadyH.cons ?_ (fun K hK => ?_) AllReadyH.nil
        rotate_left
        focus (simp only [List.getElem?_toArray, List.getElem?_cons_succ, List.getElem?_cons_zero]; rfl)
        go_simp
        (go_at_call 18; have hTu := HTb.out.below (hHeld.1); refine (cHas_any m.m m.r v false HH.out.2.2 _ hTu).mono ?_; clear hTu; rintro e w4 ⟨rfl, hb⟩)
        refine hK.out _ _ (hHeld.below hb) (fun hHeld => ?_)
        clear hK K
        (try simp only [Act.put, List.setIfInBounds_toArray, List.set_cons_zero, List.set_cons_succ])
        clear hb
        refine' wpAnyH_take (i := 11) (v := _) ?_ ?_ ?_ ?_ ?_ ?_ ?_ ?_
        rotate_left 2
        focus (simp only [List.getElem?_toArray, List.getElem?_cons_succ, List.getElem?_cons_zero]; rfl)
        focus kernel_rfl
        focus kernel_rfl
        focus kernel_rfl
        focus exact (fun _ _ _ h => h)
        refine Or.inl ⟨?_, ?_⟩
        focus (go_simp; done)
        focus (intro w hSw; obtain ⟨_, ⟨⟨x0, x1⟩, _⟩, ⟨⟨y0, y1⟩, _⟩, ⟨⟨z0, z1⟩, _⟩, ⟨⟨j0, j1⟩, _⟩, ⟨⟨m0, m1⟩, _⟩⟩ := hSw; (first | (go_simp; done) | (go_simp; with_reducible rfl)))
        focus assumption
        (try simp only [Act.put, List.setIfInBounds_toArray, List.set_cons_zero, List.set_cons_succ])
        refine' wpAnyH_take (i := 12) (v := _) ?_ ?_ ?_ ?_ ?_ ?_ ?_ ?_
        rotate_left 2
        focus (simp only [List.getElem?_toArray, List.getElem?_cons_succ, List.getElem?_cons_zero]; rfl)
        focus kernel_rfl
        focus kernel_rfl
        focus kernel_rfl
        focus exact (fun _ _ _ h => h)
        refine Or.inl ⟨?_, ?_⟩
        focus (go_simp; done)
        focus (intro w hSw; obtain ⟨_, ⟨⟨x0, x1⟩, _⟩, ⟨⟨y0, y1⟩, _⟩, ⟨⟨z0, z1⟩, _⟩, ⟨⟨j0, j1⟩, _⟩, ⟨⟨m0, m1⟩, _⟩⟩ := hSw; (first | (go_simp; done) | (go_simp; with_reducible rfl)))
        focus assumption
        (try simp only [Act.put, List.setIfInBounds_toArray, List.set_cons_zero, List.set_cons_succ])
        refine' wpAnyH_take (i := 13) (v := _) ?_ ?_ ?_ ?_ ?_ ?_ ?_ ?_
        rotate_left 2
        focus (simp only [List.getElem?_toArray, List.getElem?_cons_succ, List.getElem?_cons_zero]; rfl)
        focus kernel_rfl
        focus kernel_rfl
        focus kernel_rfl
        focus exact (fun _ _ _ h => h)
        refine Or.inl ⟨?_, ?_⟩
        focus (go_simp; done)
        focus (intro w hSw; obtain ⟨_, ⟨⟨x0, x1⟩, _⟩, ⟨⟨y0, y1⟩, _⟩, ⟨⟨z0, z1⟩, _⟩, ⟨⟨j0, j1⟩, _⟩, ⟨⟨m0, m1⟩, _⟩⟩ := hSw; (first | (go_simp; done) | (go_simp; with_reducible rfl)))
        focus assumption
        (try simp only [Act.put, List.setIfInBounds_toArray, List.set_cons_zero, List.set_cons_succ])
        refine' wpAnyH_take (i := 14) (v := _) ?_ ?_ ?_ ?_ ?_ ?_ ?_ ?_
        rotate_left 2
        focus (simp only [List.getElem?_toArray, List.getElem?_cons_succ, List.getElem?_cons_zero]; rfl)
        focus kernel_rfl
        focus kernel_rfl
        focus kernel_rfl
        focus exact (fun _ _ _ h => h)
        refine Or.inl ⟨?_, ?_⟩
        focus (go_simp; done)
        focus (intro w hSw; obtain ⟨_, ⟨⟨x0, x1⟩, _⟩, ⟨⟨y0, y1⟩, _⟩, ⟨⟨z0, z1⟩, _⟩, ⟨⟨j0, j1⟩, _⟩, ⟨⟨m0, m1⟩, _⟩⟩ := hSw; (first | (go_simp; done) | (go_simp; with_reducible rfl)))
        focus assumption
        (try simp only [Act.put, List.setIfInBounds_toArray, List.set_cons_zero, List.set_cons_succ])
        refine' wpAnyH_take (i := 16) (v := _) ?_ ?_ ?_ ?_ ?_ ?_ ?_ ?_
        rotate_left 2
        focus (simp only [List.getElem?_toArray, List.getElem?_cons_succ, List.getElem?_cons_zero]; rfl)
        focus kernel_rfl
        focus kernel_rfl
        focus kernel_rfl
        focus exact (fun _ _ _ h => h)
        refine Or.inl ⟨?_, ?_⟩
        focus (go_simp; done)
        focus (intro w hSw; obtain ⟨_, ⟨⟨x0, x1⟩, _⟩, ⟨⟨y0, y1⟩, _⟩, ⟨⟨z0, z1⟩, _⟩, ⟨⟨j0, j1⟩, _⟩, ⟨⟨m0, m1⟩, _⟩⟩ := hSw; (first | (go_simp; done) | (go_simp; with_reducible rfl)))
        focus assumption
        (try simp only [Act.put, List.setIfInBounds_toArray, List.set_cons_zero, List.set_cons_succ])
        refine wpAnyH_ready (rs := [15]) (by kernel_rfl) (by simp) ?_
        refine' AllReadyH.cons ?_ (fun K hK => ?_) AllReadyH.nil
        rotate_left
        focus (simp only [List.getElem?_toArray, List.getElem?_cons_succ, List.getElem?_cons_zero]; rfl)
        go_simp
        (go_at_call 20; have hTu := HTb.out.below (hHeld.1); refine (cJoin_any y.m y.r x.m x.r j HL.out.2.2.2.2.1 _ hTu).mono ?_; clear hTu; rintro e w4 ⟨rfl, hb⟩)
        refine hK.out _ _ (hHeld.below hb) (fun hHeld => ?_)
        clear hK K
        (try simp only [Act.put, List.setIfInBounds_toArray, List.set_cons_zero, List.set_cons_succ])
        clear hb
        refine' wpAnyH_take (i := 17) (v := _) ?_ ?_ ?_ ?_ ?_ ?_ ?_ ?_
        rotate_left 2
        focus (simp only [List.getElem?_toArray, List.getElem?_cons_succ, List.getElem?_cons_zero]; rfl)
        focus kernel_rfl
        focus kernel_rfl
        focus kernel_rfl
        focus exact (fun _ _ _ h => h)
        refine Or.inl ⟨?_, ?_⟩
        focus (go_simp; done)
        focus (intro w hSw; obtain ⟨_, ⟨⟨x0, x1⟩, _⟩, ⟨⟨y0, y1⟩, _⟩, ⟨⟨z0, z1⟩, _⟩, ⟨⟨j0, j1⟩, _⟩, ⟨⟨m0, m1⟩, _⟩⟩ := hSw; (first | (go_simp; done) | (go_simp; with_reducible rfl)))
        focus assumption
        (try simp only [Act.put, List.setIfInBounds_toArray, List.set_cons_zero, List.set_cons_succ])
        refine' wpAnyH_take (i := 18) (v := _) ?_ ?_ ?_ ?_ ?_ ?_ ?_ ?_
        rotate_left 2
        focus (simp only [List.getElem?_toArray, List.getElem?_cons_succ, List.getElem?_cons_zero]; rfl)
        focus kernel_rfl
        focus kernel_rfl
        focus kernel_rfl
        focus exact (fun _ _ _ h => h)
        refine Or.inl ⟨?_, ?_⟩
        focus (go_simp; done)
        focus (intro w hSw; obtain ⟨_, ⟨⟨x0, x1⟩, _⟩, ⟨⟨y0, y1⟩, _⟩, ⟨⟨z0, z1⟩, _⟩, ⟨⟨j0, j1⟩, _⟩, ⟨⟨m0, m1⟩, _⟩⟩ := hSw; (first | (go_simp; done) | (go_simp; with_reducible rfl)))
        focus assumption
        (try simp only [Act.put, List.setIfInBounds_toArray, List.set_cons_zero, List.set_cons_succ])
        refine' wpAnyH_take (i := 19) (v := _) ?_ ?_ ?_ ?_ ?_ ?_ ?_ ?_
        rotate_left 2
        focus (simp only [List.getElem?_toArray, List.getElem?_cons_succ, List.getElem?_cons_zero]; rfl)
        focus kernel_rfl
        focus kernel_rfl
        focus kernel_rfl
        focus exact (fun _ _ _ h => h)
        refine Or.inl ⟨?_, ?_⟩
        focus (go_simp; done)
        focus (intro w hSw; obtain ⟨_, ⟨⟨x0, x1⟩, _⟩, ⟨⟨y0, y1⟩, _⟩, ⟨⟨z0, z1⟩, _⟩, ⟨⟨j0, j1⟩, _⟩, ⟨⟨m0, m1⟩, _⟩⟩ := hSw; (first | (go_simp; done) | (go_simp; with_reducible rfl)))
        focus assumption
        (try simp only [Act.put, List.setIfInBounds_toArray, List.set_cons_zero, List.set_cons_succ])
        refine' wpAnyH_take (i := 20) (v := _) ?_ ?_ ?_ ?_ ?_ ?_ ?_ ?_
        rotate_left 2
        focus (simp only [List.getElem?_toArray, List.getElem?_cons_succ, List.getElem?_cons_zero]; rfl)
        focus kernel_rfl
        focus kernel_rfl
        focus kernel_rfl
        focus exact (fun _ _ _ h => h)
        refine Or.inl ⟨?_, ?_⟩
        focus (go_simp; done)
        focus (intro w hSw; obtain ⟨_, ⟨⟨x0, x1⟩, _⟩, ⟨⟨y0, y1⟩, _⟩, ⟨⟨z0, z1⟩, _⟩, ⟨⟨j0, j1⟩, _⟩, ⟨⟨m0, m1⟩, _⟩⟩ := hSw; (first | (go_simp; done) | (go_simp; with_reducible rfl)))
        focus assumption
        (try simp only [Act.put, List.setIfInBounds_toArray, List.set_cons_zero, List.set_cons_succ])
        refine' wpAnyH_take (i := 21) (v := _) ?_ ?_ ?_ ?_ ?_ ?_ ?_ ?_
        rotate_left 2
        focus (simp only [List.getElem?_toArray, List.getElem?_cons_succ, List.getElem?_cons_zero]; rfl)
        focus kernel_rfl
        focus kernel_rfl
        focus kernel_rfl
        focus exact (fun _ _ _ h => h)
        refine Or.inl ⟨?_, ?_⟩
        focus (go_simp; done)
        focus (intro w hSw; obtain ⟨_, ⟨⟨x0, x1⟩, _⟩, ⟨⟨y0, y1⟩, _⟩, ⟨⟨z0, z1⟩, _⟩, ⟨⟨j0, j1⟩, _⟩, ⟨⟨m0, m1⟩, _⟩⟩ := hSw; (first | (go_simp; done) | (go_simp; with_reducible rfl)))
        focus assumption
        (try simp only [Act.put, List.setIfInBounds_toArray, List.set_cons_zero, List.set_cons_succ])
        refine wpAnyH_ready (rs := [22]) (by kernel_rfl) (by simp) ?_
        refine' AllReadyH.cons ?_ (fun K hK => ?_) AllReadyH.nil
        rotate_left
        focus (simp only [List.getElem?_toArray, List.getElem?_cons_succ, List.getElem?_cons_zero]; rfl)
        go_simp
        (go_at_call 22; have hTu := HTb.out.below (hHeld.1); refine (cLeq_any x.m x.r x.m x.r true HL.out.2.2.2.2.2 _ hTu).mono ?_; clear hTu; rintro e w4 ⟨rfl, hb⟩)
        refine hK.out _ _ (hHeld.below hb) (fun hHeld => ?_)
        clear hK K
        (try simp only [Act.put, List.setIfInBounds_toArray, List.set_cons_zero, List.set_cons_succ])
        clear hb
        refine' wpAnyH_take (i := 23) (v := _) ?_ ?_ ?_ ?_ ?_ ?_ ?_ ?_
        rotate_left 2
        focus (simp only [List.getElem?_toArray, List.getElem?_cons_succ, List.getElem?_cons_zero]; rfl)
        focus kernel_rfl
        focus kernel_rfl
        focus kernel_rfl
        focus exact (fun _ _ _ h => h)
        refine Or.inl ⟨?_, ?_⟩
        focus (go_simp; done)
        focus (intro w hSw; obtain ⟨_, ⟨⟨x0, x1⟩, _⟩, ⟨⟨y0, y1⟩, _⟩, ⟨⟨z0, z1⟩, _⟩, ⟨⟨j0, j1⟩, _⟩, ⟨⟨m0, m1⟩, _⟩⟩ := hSw; (first | (go_simp; done) | (go_simp; with_reducible rfl)))
        focus assumption
        (try simp only [Act.put, List.setIfInBounds_toArray, List.set_cons_zero, List.set_cons_succ])
        refine' wpAnyH_take (i := 24) (v := _) ?_ ?_ ?_ ?_ ?_ ?_ ?_ ?_
        rotate_left 2
        focus (simp only [List.getElem?_toArray, List.getElem?_cons_succ, List.getElem?_cons_zero]; rfl)
        focus kernel_rfl
        focus kernel_rfl
        focus kernel_rfl
        focus exact (fun _ _ _ h => h)
        refine Or.inl ⟨?_, ?_⟩
        focus (go_simp; done)
        focus (intro w hSw; obtain ⟨_, ⟨⟨x0, x1⟩, _⟩, ⟨⟨y0, y1⟩, _⟩, ⟨⟨z0, z1⟩, _⟩, ⟨⟨j0, j1⟩, _⟩, ⟨⟨m0, m1⟩, _⟩⟩ := hSw; (first | (go_simp; done) | (go_simp; with_reducible rfl)))
        focus assumption
        (try simp only [Act.put, List.setIfInBounds_toArray, List.set_cons_zero, List.set_cons_succ])
        refine wpAnyH_ready (rs := [25]) (by kernel_rfl) (by simp) ?_
        refine' AllReadyH.cons ?_ (fun K hK => ?_) AllReadyH.nil
        rotate_left
        focus (simp only [List.getElem?_toArray, List.getElem?_cons_succ, List.getElem?_cons_zero]; rfl)
        go_simp
        (go_at_call 13; have hTu := HTb.out.below (hHeld.1); refine (awake_any _ hTu).mono ?_; clear hTu; rintro e w4 ⟨rfl, hb⟩)
        refine hK.out _ _ (hHeld.below hb) (fun hHeld => ?_)
        clear hK K
        (try simp only [Act.put, List.setIfInBounds_toArray, List.set_cons_zero, List.set_cons_succ])
        clear hb
        refine' wpAnyH_take (i := 26) (v := _) ?_ ?_ ?_ ?_ ?_ ?_ ?_ ?_
        rotate_left 2
        focus (simp only [List.getElem?_toArray, List.getElem?_cons_succ, List.getElem?_cons_zero]; rfl)
        focus kernel_rfl
        focus kernel_rfl
        focus kernel_rfl
        focus exact (fun _ _ _ h => h)
        refine Or.inl ⟨?_, ?_⟩
        focus (go_simp; done)
        focus (intro w hSw; obtain ⟨_, ⟨⟨x0, x1⟩, _⟩, ⟨⟨y0, y1⟩, _⟩, ⟨⟨z0, z1⟩, _⟩, ⟨⟨j0, j1⟩, _⟩, ⟨⟨m0, m1⟩, _⟩⟩ := hSw; (first | (go_simp; done) | (go_simp; with_reducible rfl)))
        focus assumption
        (try simp only [Act.put, List.setIfInBounds_toArray, List.set_cons_zero, List.set_cons_succ])
        refine' wpAnyH_take (i := 27) (v := _) ?_ ?_ ?_ ?_ ?_ ?_ ?_ ?_
        rotate_left 2
        focus (simp only [List.getElem?_toArray, List.getElem?_cons_succ, List.getElem?_cons_zero]; rfl)
        focus kernel_rfl
        focus kernel_rfl
        focus kernel_rfl
        focus exact (fun _ _ _ h => h)
        refine Or.inl ⟨?_, ?_⟩
        focus (go_simp; done)
        focus (intro w hSw; obtain ⟨_, ⟨⟨x0, x1⟩, _⟩, ⟨⟨y0, y1⟩, _⟩, ⟨⟨z0, z1⟩, _⟩, ⟨⟨j0, j1⟩, _⟩, ⟨⟨m0, m1⟩, _⟩⟩ := hSw; (first | (go_simp; done) | (go_simp; with_reducible rfl)))
        focus assumption
        (try simp only [Act.put, List.setIfInBounds_toArray, List.set_cons_zero, List.set_cons_succ])
        refine wpAnyH_done (by kernel_rfl) ?_ _
        go_wp2
        go_ret
        exact ⟨rfl, hHeld.1⟩
      · obtain ⟨t, ht2⟩ : ∃ t, Rs.has y v = t := ⟨_, rfl⟩
        have HH := Lib.hid (show Rs.has x v = true ∧ Rs.has y v = t ∧ Rs.has m v = t from ⟨c1, ht2, by rw [HM2.out, ← ht, c1, ht2]; rfl⟩)
        have htt : (t == t) = true := by simp
        clear c1 ht ht2 hx hy HXY
        refine wp_region_held_drew (S := (fun w' => Fiv w x y z j m g1 g2 g3 g4 g5 w')) (by kernel_rfl) (hT.drew) (fun hHeld => ?_)
        refine' wpAnyH_take (i := 0) (v := _) ?_ ?_ ?_ ?_ ?_ ?_ ?_ ?_
        rotate_left 2
        focus (simp only [List.getElem?_toArray, List.getElem?_cons_succ, List.getElem?_cons_zero]; rfl)
        focus kernel_rfl
        focus kernel_rfl
        focus kernel_rfl
        focus exact (fun _ _ _ h => h)
        refine Or.inl ⟨?_, ?_⟩
        focus (go_simp; done)
        focus (intro w hSw; obtain ⟨_, ⟨⟨x0, x1⟩, _⟩, ⟨⟨y0, y1⟩, _⟩, ⟨⟨z0, z1⟩, _⟩, ⟨⟨j0, j1⟩, _⟩, ⟨⟨m0, m1⟩, _⟩⟩ := hSw; (first | (go_simp; done) | (go_simp; with_reducible rfl)))
        focus assumption
        (try simp only [Act.put, List.setIfInBounds_toArray, List.set_cons_zero, List.set_cons_succ])
        refine' wpAnyH_take (i := 1) (v := _) ?_ ?_ ?_ ?_ ?_ ?_ ?_ ?_
        rotate_left 2
        focus (simp only [List.getElem?_toArray, List.getElem?_cons_succ, List.getElem?_cons_zero]; rfl)
        focus kernel_rfl
        focus kernel_rfl
        focus kernel_rfl
        focus exact (fun _ _ _ h => h)
        refine Or.inl ⟨?_, ?_⟩
        focus (go_simp; done)
        focus (intro w hSw; obtain ⟨_, ⟨⟨x0, x1⟩, _⟩, ⟨⟨y0, y1⟩, _⟩, ⟨⟨z0, z1⟩, _⟩, ⟨⟨j0, j1⟩, _⟩, ⟨⟨m0, m1⟩, _⟩⟩ := hSw; (first | (go_simp; done) | (go_simp; with_reducible rfl)))
        focus assumption
        (try simp only [Act.put, List.setIfInBounds_toArray, List.set_cons_zero, List.set_cons_succ])
        refine' wpAnyH_take (i := 8) (v := _) ?_ ?_ ?_ ?_ ?_ ?_ ?_ ?_
        rotate_left 2
        focus (simp only [List.getElem?_toArray, List.getElem?_cons_succ, List.getElem?_cons_zero]; rfl)
        focus kernel_rfl
        focus kernel_rfl
        focus kernel_rfl
        focus exact (fun _ _ _ h => h)
        refine Or.inl ⟨?_, ?_⟩
        focus (go_simp; done)
        focus (intro w hSw; obtain ⟨_, ⟨⟨x0, x1⟩, _⟩, ⟨⟨y0, y1⟩, _⟩, ⟨⟨z0, z1⟩, _⟩, ⟨⟨j0, j1⟩, _⟩, ⟨⟨m0, m1⟩, _⟩⟩ := hSw; (first | (go_simp; done) | (go_simp; with_reducible rfl)))
        focus assumption
        (try simp only [Act.put, List.setIfInBounds_toArray, List.set_cons_zero, List.set_cons_succ])
        refine' wpAnyH_take (i := 9) (v := _) ?_ ?_ ?_ ?_ ?_ ?_ ?_ ?_
        rotate_left 2
        focus (simp only [List.getElem?_toArray, List.getElem?_cons_succ, List.getElem?_cons_zero]; rfl)
        focus kernel_rfl
        focus kernel_rfl
        focus kernel_rfl
        focus exact (fun _ _ _ h => h)
        refine Or.inl ⟨?_, ?_⟩
        focus (go_simp; done)
        focus (intro w hSw; obtain ⟨_, ⟨⟨x0, x1⟩, _⟩, ⟨⟨y0, y1⟩, _⟩, ⟨⟨z0, z1⟩, _⟩, ⟨⟨j0, j1⟩, _⟩, ⟨⟨m0, m1⟩, _⟩⟩ := hSw; (first | (go_simp; done) | (go_simp; with_reducible rfl)))
        focus assumption
        (try simp only [Act.put, List.setIfInBounds_toArray, List.set_cons_zero, List.set_cons_succ])
        refine wpAnyH_ready (rs := [2]) (by kernel_rfl) (by simp) ?_
        refine' AllReadyH.cons ?_ (fun K hK => ?_) AllReadyH.nil
        rotate_left
        focus (simp only [List.getElem?_toArray, List.getElem?_cons_succ, List.getElem?_cons_zero]; rfl)
        go_simp
        (go_at_call 18; have hTu := HTb.out.below (hHeld.1); refine (cHas_any x.m x.r v true HH.out.1 _ hTu).mono ?_; clear hTu; rintro e w4 ⟨rfl, hb⟩)
        refine hK.out _ _ (hHeld.below hb) (fun hHeld => ?_)
        clear hK K
        (try simp only [Act.put, List.setIfInBounds_toArray, List.set_cons_zero, List.set_cons_succ])
        clear hb
        refine' wpAnyH_take (i := 3) (v := _) ?_ ?_ ?_ ?_ ?_ ?_ ?_ ?_
        rotate_left 2
        focus (simp only [List.getElem?_toArray, List.getElem?_cons_succ, List.getElem?_cons_zero]; rfl)
        focus kernel_rfl
        focus kernel_rfl
        focus kernel_rfl
        focus exact (fun _ _ _ h => h)
        refine Or.inl ⟨?_, ?_⟩
        focus (go_simp; done)
        focus (intro w hSw; obtain ⟨_, ⟨⟨x0, x1⟩, _⟩, ⟨⟨y0, y1⟩, _⟩, ⟨⟨z0, z1⟩, _⟩, ⟨⟨j0, j1⟩, _⟩, ⟨⟨m0, m1⟩, _⟩⟩ := hSw; (first | (go_simp; done) | (go_simp; with_reducible rfl)))
        focus assumption
        (try simp only [Act.put, List.setIfInBounds_toArray, List.set_cons_zero, List.set_cons_succ])
        refine' wpAnyH_take (i := 4) (v := _) ?_ ?_ ?_ ?_ ?_ ?_ ?_ ?_
        rotate_left 2
        focus (simp only [List.getElem?_toArray, List.getElem?_cons_succ, List.getElem?_cons_zero]; rfl)
        focus kernel_rfl
        focus kernel_rfl
        focus kernel_rfl
        focus exact (fun _ _ _ h => h)
        refine Or.inl ⟨?_, ?_⟩
        focus (go_simp; done)
        focus (intro w hSw; obtain ⟨_, ⟨⟨x0, x1⟩, _⟩, ⟨⟨y0, y1⟩, _⟩, ⟨⟨z0, z1⟩, _⟩, ⟨⟨j0, j1⟩, _⟩, ⟨⟨m0, m1⟩, _⟩⟩ := hSw; (first | (go_simp; done) | (go_simp; with_reducible rfl)))
        focus assumption
        (try simp only [Act.put, List.setIfInBounds_toArray, List.set_cons_zero, List.set_cons_succ])
        refine' wpAnyH_take (i := 5) (v := _) ?_ ?_ ?_ ?_ ?_ ?_ ?_ ?_
        rotate_left 2
        focus (simp only [List.getElem?_toArray, List.getElem?_cons_succ, List.getElem?_cons_zero]; rfl)
        focus kernel_rfl
        focus kernel_rfl
        focus kernel_rfl
        focus exact (fun _ _ _ h => h)
        refine Or.inl ⟨?_, ?_⟩
        focus (go_simp; done)
        focus (intro w hSw; obtain ⟨_, ⟨⟨x0, x1⟩, _⟩, ⟨⟨y0, y1⟩, _⟩, ⟨⟨z0, z1⟩, _⟩, ⟨⟨j0, j1⟩, _⟩, ⟨⟨m0, m1⟩, _⟩⟩ := hSw; (first | (go_simp; done) | (go_simp; with_reducible rfl)))
        focus assumption
        (try simp only [Act.put, List.setIfInBounds_toArray, List.set_cons_zero, List.set_cons_succ])
        refine wpAnyH_ready (rs := [6]) (by kernel_rfl) (by simp) ?_
        refine' AllReadyH.cons ?_ (fun K hK => ?_) AllReadyH.nil
        rotate_left
        focus (simp only [List.getElem?_toArray, List.getElem?_cons_succ, List.getElem?_cons_zero]; rfl)
        go_simp
        (go_at_call 18; have hTu := HTb.out.below (hHeld.1); refine (cHas_any y.m y.r v t HH.out.2.1 _ hTu).mono ?_; clear hTu; rintro e w4 ⟨rfl, hb⟩)
        refine hK.out _ _ (hHeld.below hb) (fun hHeld => ?_)
        clear hK K
        (try simp only [Act.put, List.setIfInBounds_toArray, List.set_cons_zero, List.set_cons_succ])
        clear hb
        refine' wpAnyH_take (i := 7) (v := _) ?_ ?_ ?_ ?_ ?_ ?_ ?_ ?_
        rotate_left 2
        focus (simp only [List.getElem?_toArray, List.getElem?_cons_succ, List.getElem?_cons_zero]; rfl)
        focus kernel_rfl
        focus kernel_rfl
        focus kernel_rfl
        focus exact (fun _ _ _ h => h)
        refine Or.inl ⟨?_, ?_⟩
        focus (go_simp; done)
        focus (intro w hSw; obtain ⟨_, ⟨⟨x0, x1⟩, _⟩, ⟨⟨y0, y1⟩, _⟩, ⟨⟨z0, z1⟩, _⟩, ⟨⟨j0, j1⟩, _⟩, ⟨⟨m0, m1⟩, _⟩⟩ := hSw; (first | (go_simp; done) | (go_simp; with_reducible rfl)))
        focus assumption
        (try simp only [Act.put, List.setIfInBounds_toArray, List.set_cons_zero, List.set_cons_succ])
        refine wpAnyH_ready (rs := [10]) (by kernel_rfl) (by simp) ?_
        refine' AllReadyH.cons ?_ (fun K hK => ?_) AllReadyH.nil
        rotate_left
        focus (simp only [List.getElem?_toArray, List.getElem?_cons_succ, List.getElem?_cons_zero]; rfl)
        go_simp
        (go_at_call 18; have hTu := HTb.out.below (hHeld.1); refine (cHas_any m.m m.r v t HH.out.2.2 _ hTu).mono ?_; clear hTu; rintro e w4 ⟨rfl, hb⟩)
        refine hK.out _ _ (hHeld.below hb) (fun hHeld => ?_)
        clear hK K
        (try simp only [Act.put, List.setIfInBounds_toArray, List.set_cons_zero, List.set_cons_succ])
        clear hb
        refine' wpAnyH_take (i := 11) (v := _) ?_ ?_ ?_ ?_ ?_ ?_ ?_ ?_
        rotate_left 2
        focus (simp only [List.getElem?_toArray, List.getElem?_cons_succ, List.getElem?_cons_zero]; rfl)
        focus kernel_rfl
        focus kernel_rfl
        focus kernel_rfl
        focus exact (fun _ _ _ h => h)
        refine Or.inl ⟨?_, ?_⟩
        focus (go_simp; done)
        focus (intro w hSw; obtain ⟨_, ⟨⟨x0, x1⟩, _⟩, ⟨⟨y0, y1⟩, _⟩, ⟨⟨z0, z1⟩, _⟩, ⟨⟨j0, j1⟩, _⟩, ⟨⟨m0, m1⟩, _⟩⟩ := hSw; (first | (go_simp; done) | (go_simp; with_reducible rfl)))
        focus assumption
        (try simp only [Act.put, List.setIfInBounds_toArray, List.set_cons_zero, List.set_cons_succ])
        refine' wpAnyH_take (i := 12) (v := _) ?_ ?_ ?_ ?_ ?_ ?_ ?_ ?_
        rotate_left 2
        focus (simp only [List.getElem?_toArray, List.getElem?_cons_succ, List.getElem?_cons_zero]; rfl)
        focus kernel_rfl
        focus kernel_rfl
        focus kernel_rfl
        focus exact (fun _ _ _ h => h)
        refine Or.inl ⟨?_, ?_⟩
        focus (go_simp; done)
        focus (intro w hSw; obtain ⟨_, ⟨⟨x0, x1⟩, _⟩, ⟨⟨y0, y1⟩, _⟩, ⟨⟨z0, z1⟩, _⟩, ⟨⟨j0, j1⟩, _⟩, ⟨⟨m0, m1⟩, _⟩⟩ := hSw; (first | (go_simp; done) | (go_simp; with_reducible rfl)))
        focus assumption
        (try simp only [Act.put, List.setIfInBounds_toArray, List.set_cons_zero, List.set_cons_succ])
        refine' wpAnyH_take (i := 13) (v := _) ?_ ?_ ?_ ?_ ?_ ?_ ?_ ?_
        rotate_left 2
        focus (simp only [List.getElem?_toArray, List.getElem?_cons_succ, List.getElem?_cons_zero]; rfl)
        focus kernel_rfl
        focus kernel_rfl
        focus kernel_rfl
        focus exact (fun _ _ _ h => h)
        refine Or.inl ⟨?_, ?_⟩
        focus (go_simp; done)
        focus (intro w hSw; obtain ⟨_, ⟨⟨x0, x1⟩, _⟩, ⟨⟨y0, y1⟩, _⟩, ⟨⟨z0, z1⟩, _⟩, ⟨⟨j0, j1⟩, _⟩, ⟨⟨m0, m1⟩, _⟩⟩ := hSw; (first | (go_simp; done) | (go_simp; with_reducible rfl)))
        focus assumption
        (try simp only [Act.put, List.setIfInBounds_toArray, List.set_cons_zero, List.set_cons_succ])
        refine' wpAnyH_take (i := 14) (v := _) ?_ ?_ ?_ ?_ ?_ ?_ ?_ ?_
        rotate_left 2
        focus (simp only [List.getElem?_toArray, List.getElem?_cons_succ, List.getElem?_cons_zero]; rfl)
        focus kernel_rfl
        focus kernel_rfl
        focus kernel_rfl
        focus exact (fun _ _ _ h => h)
        refine Or.inl ⟨?_, ?_⟩
        focus (go_simp; done)
        focus (intro w hSw; obtain ⟨_, ⟨⟨x0, x1⟩, _⟩, ⟨⟨y0, y1⟩, _⟩, ⟨⟨z0, z1⟩, _⟩, ⟨⟨j0, j1⟩, _⟩, ⟨⟨m0, m1⟩, _⟩⟩ := hSw; (first | (go_simp; done) | (go_simp; with_reducible rfl)))
        focus assumption
        (try simp only [Act.put, List.setIfInBounds_toArray, List.set_cons_zero, List.set_cons_succ])
        refine' wpAnyH_take (i := 16) (v := _) ?_ ?_ ?_ ?_ ?_ ?_ ?_ ?_
        rotate_left 2
        focus (simp only [List.getElem?_toArray, List.getElem?_cons_succ, List.getElem?_cons_zero]; rfl)
        focus kernel_rfl
        focus kernel_rfl
        focus kernel_rfl
        focus exact (fun _ _ _ h => h)
        refine Or.inl ⟨?_, ?_⟩
        focus (go_simp; done)
        focus (intro w hSw; obtain ⟨_, ⟨⟨x0, x1⟩, _⟩, ⟨⟨y0, y1⟩, _⟩, ⟨⟨z0, z1⟩, _⟩, ⟨⟨j0, j1⟩, _⟩, ⟨⟨m0, m1⟩, _⟩⟩ := hSw; (first | (go_simp; done) | (go_simp; with_reducible rfl)))
        focus assumption
        (try simp only [Act.put, List.setIfInBounds_toArray, List.set_cons_zero, List.set_cons_succ])
        refine wpAnyH_ready (rs := [15]) (by kernel_rfl) (by simp) ?_
        refine' AllReadyH.cons ?_ (fun K hK => ?_) AllReadyH.nil
        rotate_left
        focus (simp only [List.getElem?_toArray, List.getElem?_cons_succ, List.getElem?_cons_zero]; rfl)
        go_simp
        (go_at_call 20; have hTu := HTb.out.below (hHeld.1); refine (cJoin_any y.m y.r x.m x.r j HL.out.2.2.2.2.1 _ hTu).mono ?_; clear hTu; rintro e w4 ⟨rfl, hb⟩)
        refine hK.out _ _ (hHeld.below hb) (fun hHeld => ?_)
        clear hK K
        (try simp only [Act.put, List.setIfInBounds_toArray, List.set_cons_zero, List.set_cons_succ])
        clear hb
        refine' wpAnyH_take (i := 17) (v := _) ?_ ?_ ?_ ?_ ?_ ?_ ?_ ?_
        rotate_left 2
        focus (simp only [List.getElem?_toArray, List.getElem?_cons_succ, List.getElem?_cons_zero]; rfl)
        focus kernel_rfl
        focus kernel_rfl
        focus kernel_rfl
        focus exact (fun _ _ _ h => h)
        refine Or.inl ⟨?_, ?_⟩
        focus (go_simp; done)
        focus (intro w hSw; obtain ⟨_, ⟨⟨x0, x1⟩, _⟩, ⟨⟨y0, y1⟩, _⟩, ⟨⟨z0, z1⟩, _⟩, ⟨⟨j0, j1⟩, _⟩, ⟨⟨m0, m1⟩, _⟩⟩ := hSw; (first | (go_simp; done) | (go_simp; with_reducible rfl)))
        focus assumption
        (try simp only [Act.put, List.setIfInBounds_toArray, List.set_cons_zero, List.set_cons_succ])
        refine' wpAnyH_take (i := 18) (v := _) ?_ ?_ ?_ ?_ ?_ ?_ ?_ ?_
        rotate_left 2
        focus (simp only [List.getElem?_toArray, List.getElem?_cons_succ, List.getElem?_cons_zero]; rfl)
        focus kernel_rfl
        focus kernel_rfl
        focus kernel_rfl
        focus exact (fun _ _ _ h => h)
        refine Or.inl ⟨?_, ?_⟩
        focus (go_simp; done)
        focus (intro w hSw; obtain ⟨_, ⟨⟨x0, x1⟩, _⟩, ⟨⟨y0, y1⟩, _⟩, ⟨⟨z0, z1⟩, _⟩, ⟨⟨j0, j1⟩, _⟩, ⟨⟨m0, m1⟩, _⟩⟩ := hSw; (first | (go_simp; done) | (go_simp; with_reducible rfl)))
        focus assumption
        (try simp only [Act.put, List.setIfInBounds_toArray, List.set_cons_zero, List.set_cons_succ])
        refine' wpAnyH_take (i := 19) (v := _) ?_ ?_ ?_ ?_ ?_ ?_ ?_ ?_
        rotate_left 2
        focus (simp only [List.getElem?_toArray, List.getElem?_cons_succ, List.getElem?_cons_zero]; rfl)
        focus kernel_rfl
        focus kernel_rfl
        focus kernel_rfl
        focus exact (fun _ _ _ h => h)
        refine Or.inl ⟨?_, ?_⟩
        focus (go_simp; done)
        focus (intro w hSw; obtain ⟨_, ⟨⟨x0, x1⟩, _⟩, ⟨⟨y0, y1⟩, _⟩, ⟨⟨z0, z1⟩, _⟩, ⟨⟨j0, j1⟩, _⟩, ⟨⟨m0, m1⟩, _⟩⟩ := hSw; (first | (go_simp; done) | (go_simp; with_reducible rfl)))
        focus assumption
        (try simp only [Act.put, List.setIfInBounds_toArray, List.set_cons_zero, List.set_cons_succ])
        refine' wpAnyH_take (i := 20) (v := _) ?_ ?_ ?_ ?_ ?_ ?_ ?_ ?_
        rotate_left 2
        focus (simp only [List.getElem?_toArray, List.getElem?_cons_succ, List.getElem?_cons_zero]; rfl)
        focus kernel_rfl
        focus kernel_rfl
        focus kernel_rfl
        focus exact (fun _ _ _ h => h)
        refine Or.inl ⟨?_, ?_⟩
        focus (go_simp; done)
        focus (intro w hSw; obtain ⟨_, ⟨⟨x0, x1⟩, _⟩, ⟨⟨y0, y1⟩, _⟩, ⟨⟨z0, z1⟩, _⟩, ⟨⟨j0, j1⟩, _⟩, ⟨⟨m0, m1⟩, _⟩⟩ := hSw; (first | (go_simp; done) | (go_simp; with_reducible rfl)))
        focus assumption
        (try simp only [Act.put, List.setIfInBounds_toArray, List.set_cons_zero, List.set_cons_succ])
        refine' wpAnyH_take (i := 21) (v := _) ?_ ?_ ?_ ?_ ?_ ?_ ?_ ?_
        rotate_left 2
        focus (simp only [List.getElem?_toArray, List.getElem?_cons_succ, List.getElem?_cons_zero]; rfl)
        focus kernel_rfl
        focus kernel_rfl
        focus kernel_rfl
        focus exact (fun _ _ _ h => h)
        refine Or.inl ⟨?_, ?_⟩
        focus (go_simp; done)
        focus (intro w hSw; obtain ⟨_, ⟨⟨x0, x1⟩, _⟩, ⟨⟨y0, y1⟩, _⟩, ⟨⟨z0, z1⟩, _⟩, ⟨⟨j0, j1⟩, _⟩, ⟨⟨m0, m1⟩, _⟩⟩ := hSw; (first | (go_simp; done) | (go_simp; with_reducible rfl)))
        focus assumption
        (try simp only [Act.put, List.setIfInBounds_toArray, List.set_cons_zero, List.set_cons_succ])
        refine wpAnyH_ready (rs := [22]) (by kernel_rfl) (by simp) ?_
        refine' AllReadyH.cons ?_ (fun K hK => ?_) AllReadyH.nil
        rotate_left
        focus (simp only [List.getElem?_toArray, List.getElem?_cons_succ, List.getElem?_cons_zero]; rfl)
        go_simp
        (go_at_call 22; have hTu := HTb.out.below (hHeld.1); refine (cLeq_any x.m x.r x.m x.r true HL.out.2.2.2.2.2 _ hTu).mono ?_; clear hTu; rintro e w4 ⟨rfl, hb⟩)
        refine hK.out _ _ (hHeld.below hb) (fun hHeld => ?_)
        clear hK K
        (try simp only [Act.put, List.setIfInBounds_toArray, List.set_cons_zero, List.set_cons_succ])
        clear hb
        refine' wpAnyH_take (i := 23) (v := _) ?_ ?_ ?_ ?_ ?_ ?_ ?_ ?_
        rotate_left 2
        focus (simp only [List.getElem?_toArray, List.getElem?_cons_succ, List.getElem?_cons_zero]; rfl)
        focus kernel_rfl
        focus kernel_rfl
        focus kernel_rfl
        focus exact (fun _ _ _ h => h)
        refine Or.inl ⟨?_, ?_⟩
        focus (go_simp; done)
        focus (intro w hSw; obtain ⟨_, ⟨⟨x0, x1⟩, _⟩, ⟨⟨y0, y1⟩, _⟩, ⟨⟨z0, z1⟩, _⟩, ⟨⟨j0, j1⟩, _⟩, ⟨⟨m0, m1⟩, _⟩⟩ := hSw; (first | (go_simp; done) | (go_simp; with_reducible rfl)))
        focus assumption
        (try simp only [Act.put, List.setIfInBounds_toArray, List.set_cons_zero, List.set_cons_succ])
        refine' wpAnyH_take (i := 24) (v := _) ?_ ?_ ?_ ?_ ?_ ?_ ?_ ?_
        rotate_left 2
        focus (simp only [List.getElem?_toArray, List.getElem?_cons_succ, List.getElem?_cons_zero]; rfl)
        focus kernel_rfl
        focus kernel_rfl
        focus kernel_rfl
        focus exact (fun _ _ _ h => h)
        refine Or.inl ⟨?_, ?_⟩
        focus (go_simp; done)
        focus (intro w hSw; obtain ⟨_, ⟨⟨x0, x1⟩, _⟩, ⟨⟨y0, y1⟩, _⟩, ⟨⟨z0, z1⟩, _⟩, ⟨⟨j0, j1⟩, _⟩, ⟨⟨m0, m1⟩, _⟩⟩ := hSw; (first | (go_simp; done) | (go_simp; with_reducible rfl)))
        focus assumption
        (try simp only [Act.put, List.setIfInBounds_toArray, List.set_cons_zero, List.set_cons_succ])
        refine wpAnyH_ready (rs := [25]) (by kernel_rfl) (by simp) ?_
        refine' AllReadyH.cons ?_ (fun K hK => ?_) AllReadyH.nil
        rotate_left
        focus (simp only [List.getElem?_toArray, List.getElem?_cons_succ, List.getElem?_cons_zero]; rfl)
        go_simp
        (go_at_call 13; have hTu := HTb.out.below (hHeld.1); refine (awake_any _ hTu).mono ?_; clear hTu; rintro e w4 ⟨rfl, hb⟩)
        refine hK.out _ _ (hHeld.below hb) (fun hHeld => ?_)
        clear hK K
        (try simp only [Act.put, List.setIfInBounds_toArray, List.set_cons_zero, List.set_cons_succ])
        clear hb
        refine' wpAnyH_take (i := 26) (v := _) ?_ ?_ ?_ ?_ ?_ ?_ ?_ ?_
        rotate_left 2
        focus (simp only [List.getElem?_toArray, List.getElem?_cons_succ, List.getElem?_cons_zero]; rfl)
        focus kernel_rfl
        focus kernel_rfl
        focus kernel_rfl
        focus exact (fun _ _ _ h => h)
        refine Or.inl ⟨?_, ?_⟩
        focus (go_simp; done)
        focus (intro w hSw; obtain ⟨_, ⟨⟨x0, x1⟩, _⟩, ⟨⟨y0, y1⟩, _⟩, ⟨⟨z0, z1⟩, _⟩, ⟨⟨j0, j1⟩, _⟩, ⟨⟨m0, m1⟩, _⟩⟩ := hSw; (first | (go_simp; done) | (go_simp; with_reducible rfl)))
        focus assumption
        (try simp only [Act.put, List.setIfInBounds_toArray, List.set_cons_zero, List.set_cons_succ])
        refine' wpAnyH_take (i := 27) (v := _) ?_ ?_ ?_ ?_ ?_ ?_ ?_ ?_
        rotate_left 2
        focus (simp only [List.getElem?_toArray, List.getElem?_cons_succ, List.getElem?_cons_zero]; rfl)
        focus kernel_rfl
        focus kernel_rfl
        focus kernel_rfl
        focus exact (fun _ _ _ h => h)
        refine Or.inl ⟨?_, ?_⟩
        focus (go_simp; done)
        focus (intro w hSw; obtain ⟨_, ⟨⟨x0, x1⟩, _⟩, ⟨⟨y0, y1⟩, _⟩, ⟨⟨z0, z1⟩, _⟩, ⟨⟨j0, j1⟩, _⟩, ⟨⟨m0, m1⟩, _⟩⟩ := hSw; (first | (go_simp; done) | (go_simp; with_reducible rfl)))
        focus assumption
        (try simp only [Act.put, List.setIfInBounds_toArray, List.set_cons_zero, List.set_cons_succ])
        refine wpAnyH_done (by kernel_rfl) ?_ _
        go_wp2
        go_ret
        exact ⟨rfl, hHeld.1⟩
    · have hm0 : (0 : Int) ≤ x.m := by
        obtain ⟨k, h⟩ := hx.resolve_left hxn
        rcases h.m with ⟨h, _⟩ | ⟨h, _, _⟩
        · omega
        · have := Rs.p2_pos k; omega
      have HME := Lib.hid (fun (W : World) => member_any x nu _ (hx.resolve_left hxn).choose_spec HNU.out W)
      clear hxn
      go_wp2_with fail
      refine (HME.out _).mono ?_
      rintro e w6 ⟨rfl, hb⟩
      clear hv x0 x1 xg y0 y1 yg z0 z1 zg j0 j1 jg m0 m1 mg
      replace hT := hT.below hb
      clear hb
      obtain ⟨hv, ⟨⟨x0, x1⟩, xg⟩, ⟨⟨y0, y1⟩, yg⟩, ⟨⟨z0, z1⟩, zg⟩, ⟨⟨j0, j1⟩, jg⟩, ⟨⟨m0, m1⟩, mg⟩⟩ := id hT
      generalize Rs.mem x nu = v at *
      go_wp2_with fail
      have ht := Rs.has_meet hx hy v
      have HXY := Lib.hid (And.intro hx hy)
      cases c1 : Rs.has x v
      · have HH := Lib.hid (show Rs.has x v = false ∧ Rs.has y v = Rs.has y v ∧ Rs.has m v = false from ⟨c1, rfl, by rw [HM2.out]; rw [c1] at ht; exact ht.symm⟩)
        clear c1 ht hx hy HXY
        refine wp_region_held_drew (S := (fun w' => Fiv w x y z j m g1 g2 g3 g4 g5 w')) (by kernel_rfl) (hT.drew) (fun hHeld => ?_)
        refine' wpAnyH_take (i := 0) (v := _) ?_ ?_ ?_ ?_ ?_ ?_ ?_ ?_
        rotate_left 2
        focus (simp only [List.getElem?_toArray, List.getElem?_cons_succ, List.getElem?_cons_zero]; rfl)
        focus kernel_rfl
        focus kernel_rfl
        focus kernel_rfl
        focus exact (fun _ _ _ h => h)
        refine Or.inl ⟨?_, ?_⟩
        focus (go_simp; done)
        focus (intro w hSw; obtain ⟨_, ⟨⟨x0, x1⟩, _⟩, ⟨⟨y0, y1⟩, _⟩, ⟨⟨z0, z1⟩, _⟩, ⟨⟨j0, j1⟩, _⟩, ⟨⟨m0, m1⟩, _⟩⟩ := hSw; (first | (go_simp; done) | (go_simp; with_reducible rfl)))
        focus assumption
        (try simp only [Act.put, List.setIfInBounds_toArray, List.set_cons_zero, List.set_cons_succ])
        refine' wpAnyH_take (i := 1) (v := _) ?_ ?_ ?_ ?_ ?_ ?_ ?_ ?_
        rotate_left 2
        focus (simp only [List.getElem?_toArray, List.getElem?_cons_succ, List.getElem?_cons_zero]; rfl)
        focus kernel_rfl
        focus kernel_rfl
        focus kernel_rfl
        focus exact (fun _ _ _ h => h)
        refine Or.inl ⟨?_, ?_⟩
        focus (go_simp; done)
        focus (intro w hSw; obtain ⟨_, ⟨⟨x0, x1⟩, _⟩, ⟨⟨y0, y1⟩, _⟩, ⟨⟨z0, z1⟩, _⟩, ⟨⟨j0, j1⟩, _⟩, ⟨⟨m0, m1⟩, _⟩⟩ := hSw; (first | (go_simp; done) | (go_simp; with_reducible rfl)))
        focus assumption
        (try simp only [Act.put, List.setIfInBounds_toArray, List.set_cons_zero, List.set_cons_succ])
        refine' wpAnyH_take (i := 8) (v := _) ?_ ?_ ?_ ?_ ?_ ?_ ?_ ?_
        rotate_left 2
        focus (simp only [List.getElem?_toArray, List.getElem?_cons_succ, List.getElem?_cons_zero]; rfl)
        focus kernel_rfl
        focus kernel_rfl
        focus kernel_rfl
        focus exact (fun _ _ _ h => h)
        refine Or.inl ⟨?_, ?_⟩
        focus (go_simp; done)
        focus (intro w hSw; obtain ⟨_, ⟨⟨x0, x1⟩, _⟩, ⟨⟨y0, y1⟩, _⟩, ⟨⟨z0, z1⟩, _⟩, ⟨⟨j0, j1⟩, _⟩, ⟨⟨m0, m1⟩, _⟩⟩ := hSw; (first | (go_simp; done) | (go_simp; with_reducible rfl)))
        focus assumption
        (try simp only [Act.put, List.setIfInBounds_toArray, List.set_cons_zero, List.set_cons_succ])
        refine' wpAnyH_take (i := 9) (v := _) ?_ ?_ ?_ ?_ ?_ ?_ ?_ ?_
        rotate_left 2
        focus (simp only [List.getElem?_toArray, List.getElem?_cons_succ, List.getElem?_cons_zero]; rfl)
        focus kernel_rfl
        focus kernel_rfl
        focus kernel_rfl
        focus exact (fun _ _ _ h => h)
        refine Or.inl ⟨?_, ?_⟩
        focus (go_simp; done)
        focus (intro w hSw; obtain ⟨_, ⟨⟨x0, x1⟩, _⟩, ⟨⟨y0, y1⟩, _⟩, ⟨⟨z0, z1⟩, _⟩, ⟨⟨j0, j1⟩, _⟩, ⟨⟨m0, m1⟩, _⟩⟩ := hSw; (first | (go_simp; done) | (go_simp; with_reducible rfl)))
        focus assumption
        (try simp only [Act.put, List.setIfInBounds_toArray, List.set_cons_zero, List.set_cons_succ])
        refine wpAnyH_ready (rs := [2]) (by kernel_rfl) (by simp) ?_
        refine' AllReadyH.cons ?_ (fun K hK => ?_) AllReadyH.nil
        rotate_left
        focus (simp only [List.getElem?_toArray, List.getElem?_cons_succ, List.getElem?_cons_zero]; rfl)
        go_simp
        (go_at_call 18; have hTu := HTb.out.below (hHeld.1); refine (cHas_any x.m x.r v false HH.out.1 _ hTu).mono ?_; clear hTu; rintro e w4 ⟨rfl, hb⟩)
        refine hK.out _ _ (hHeld.below hb) (fun hHeld => ?_)
        clear hK K
        (try simp only [Act.put, List.setIfInBounds_toArray, List.set_cons_zero, List.set_cons_succ])
        clear hb
        refine' wpAnyH_take (i := 3) (v := _) ?_ ?_ ?_ ?_ ?_ ?_ ?_ ?_
        rotate_left 2
        focus (simp only [List.getElem?_toArray, List.getElem?_cons_succ, List.getElem?_cons_zero]; rfl)
        focus kernel_rfl
        focus kernel_rfl
        focus kernel_rfl
        focus exact (fun _ _ _ h => h)
        refine Or.inl ⟨?_, ?_⟩
        focus (go_simp; done)
        focus (intro w hSw; obtain ⟨_, ⟨⟨x0, x1⟩, _⟩, ⟨⟨y0, y1⟩, _⟩, ⟨⟨z0, z1⟩, _⟩, ⟨⟨j0, j1⟩, _⟩, ⟨⟨m0, m1⟩, _⟩⟩ := hSw; (first | (go_simp; done) | (go_simp; with_reducible rfl)))
        focus assumption
        (try simp only [Act.put, List.setIfInBounds_toArray, List.set_cons_zero, List.set_cons_succ])
        refine' wpAnyH_take (i := 4) (v := undef) ?_ ?_ ?_ ?_ ?_ ?_ ?_ ?_
        rotate_left 1
        focus (simp only [List.getElem?_toArray, List.getElem?_cons_succ, List.getElem?_cons_zero]; rfl)
        focus kernel_rfl
        focus kernel_rfl
        focus kernel_rfl
        focus exact (fun _ _ _ h => h)
        refine Or.inr ⟨?_, rfl⟩
        focus (go_simp; done)
        focus assumption
        (try simp only [Act.put, List.setIfInBounds_toArray, List.set_cons_zero, List.set_cons_succ])
        refine' wpAnyH_take (i := 5) (v := undef) ?_ ?_ ?_ ?_ ?_ ?_ ?_ ?_
        rotate_left 1
        focus (simp only [List.getElem?_toArray, List.getElem?_cons_succ, List.getElem?_cons_zero]; rfl)
        focus kernel_rfl
        focus kernel_rfl
        focus kernel_rfl
        focus exact (fun _ _ _ h => h)
        refine Or.inr ⟨?_, rfl⟩
        focus (go_simp; done)
        focus assumption
        (try simp only [Act.put, List.setIfInBounds_toArray, List.set_cons_zero, List.set_cons_succ])
        refine' wpAnyH_take (i := 6) (v := undef) ?_ ?_ ?_ ?_ ?_ ?_ ?_ ?_
        rotate_left 1
        focus (simp only [List.getElem?_toArray, List.getElem?_cons_succ, List.getElem?_cons_zero]; rfl)
        focus kernel_rfl
        focus kernel_rfl
        focus kernel_rfl
        focus exact (fun _ _ _ h => h)
        refine Or.inr ⟨?_, rfl⟩
        focus (go_simp; done)
        focus assumption
        (try simp only [Act.put, List.setIfInBounds_toArray, List.set_cons_zero, List.set_cons_succ])
        refine' wpAnyH_take (i := 7) (v := _) ?_ ?_ ?_ ?_ ?_ ?_ ?_ ?_
        rotate_left 2
        focus (simp only [List.getElem?_toArray, List.getElem?_cons_succ, List.getElem?_cons_zero]; rfl)
        focus kernel_rfl
        focus kernel_rfl
        focus kernel_rfl
        focus exact (fun _ _ _ h => h)
        refine Or.inl ⟨?_, ?_⟩
        focus (go_simp; done)
        focus (intro w hSw; obtain ⟨_, ⟨⟨x0, x1⟩, _⟩, ⟨⟨y0, y1⟩, _⟩, ⟨⟨z0, z1⟩, _⟩, ⟨⟨j0, j1⟩, _⟩, ⟨⟨m0, m1⟩, _⟩⟩ := hSw; (first | (go_simp; done) | (go_simp; with_reducible rfl)))
        focus assumption
        (try simp only [Act.put, List.setIfInBounds_toArray, List.set_cons_zero, List.set_cons_succ])
        refine wpAnyH_ready (rs := [10]) (by kernel_rfl) (by simp) ?_
        refine' AllReadyH.cons ?_ (fun K hK => ?_) AllReadyH.nil
        rotate_left
        focus (simp only [List.getElem?_toArray, List.getElem?_cons_succ, List.getElem?_cons_zero]; rfl)
        go_simp
        (go_at_call 18; have hTu := HTb.out.below (hHeld.1); refine (cHas_any m.m m.r v false HH.out.2.2 _ hTu).mono ?_; clear hTu; rintro e w4 ⟨rfl, hb⟩)
        refine hK.out _ _ (hHeld.below hb) (fun hHeld => ?_)
        clear hK K
        (try simp only [Act.put, List.setIfInBounds_toArray, List.set_cons_zero, List.set_cons_succ])
        clear hb
        refine' wpAnyH_take (i := 11) (v := _) ?_ ?_ ?_ ?_ ?_ ?_ ?_ ?_
        rotate_left 2
        focus (simp only [List.getElem?_toArray, List.getElem?_cons_succ, List.getElem?_cons_zero]; rfl)
        focus kernel_rfl
        focus kernel_rfl
        focus kernel_rfl
        focus exact (fun _ _ _ h => h)
        refine Or.inl ⟨?_, ?_⟩
        focus (go_simp; done)
        focus (intro w hSw; obtain ⟨_, ⟨⟨x0, x1⟩, _⟩, ⟨⟨y0, y1⟩, _⟩, ⟨⟨z0, z1⟩, _⟩, ⟨⟨j0, j1⟩, _⟩, ⟨⟨m0, m1⟩, _⟩⟩ := hSw; (first | (go_simp; done) | (go_simp; with_reducible rfl)))
        focus assumption
        (try simp only [Act.put, List.setIfInBounds_toArray, List.set_cons_zero, List.set_cons_succ])
        refine' wpAnyH_take (i := 12) (v := _) ?_ ?_ ?_ ?_ ?_ ?_ ?_ ?_
        rotate_left 2
        focus (simp only [List.getElem?_toArray, List.getElem?_cons_succ, List.getElem?_cons_zero]; rfl)
        focus kernel_rfl
        focus kernel_rfl
        focus kernel_rfl
        focus exact (fun _ _ _ h => h)
        refine Or.inl ⟨?_, ?_⟩
        focus (go_simp; done)
        focus (intro w hSw; obtain ⟨_, ⟨⟨x0, x1⟩, _⟩, ⟨⟨y0, y1⟩, _⟩, ⟨⟨z0, z1⟩, _⟩, ⟨⟨j0, j1⟩, _⟩, ⟨⟨m0, m1⟩, _⟩⟩ := hSw; (first | (go_simp; done) | (go_simp; with_reducible rfl)))
        focus assumption
        (try simp only [Act.put, List.setIfInBounds_toArray, List.set_cons_zero, List.set_cons_succ])
        refine' wpAnyH_take (i := 13) (v := _) ?_ ?_ ?_ ?_ ?_ ?_ ?_ ?_
        rotate_left 2
        focus (simp only [List.getElem?_toArray, List.getElem?_cons_succ, List.getElem?_cons_zero]; rfl)
        focus kernel_rfl
        focus kernel_rfl
        focus kernel_rfl
        focus exact (fun _ _ _ h => h)
        refine Or.inl ⟨?_, ?_⟩
        focus (go_simp; done)
        focus (intro w hSw; obtain ⟨_, ⟨⟨x0, x1⟩, _⟩, ⟨⟨y0, y1⟩, _⟩, ⟨⟨z0, z1⟩, _⟩, ⟨⟨j0, j1⟩, _⟩, ⟨⟨m0, m1⟩, _⟩⟩ := hSw; (first | (go_simp; done) | (go_simp; with_reducible rfl)))
        focus assumption
        (try simp only [Act.put, List.setIfInBounds_toArray, List.set_cons_zero, List.set_cons_succ])
        refine' wpAnyH_take (i := 14) (v := _) ?_ ?_ ?_ ?_ ?_ ?_ ?_ ?_
        rotate_left 2
        focus (simp only [List.getElem?_toArray, List.getElem?_cons_succ, List.getElem?_cons_zero]; rfl)
        focus kernel_rfl
        focus kernel_rfl
        focus kernel_rfl
        focus exact (fun _ _ _ h => h)
        refine Or.inl ⟨?_, ?_⟩
        focus (go_simp; done)
        focus (intro w hSw; obtain ⟨_, ⟨⟨x0, x1⟩, _⟩, ⟨⟨y0, y1⟩, _⟩, ⟨⟨z0, z1⟩, _⟩, ⟨⟨j0, j1⟩, _⟩, ⟨⟨m0, m1⟩, _⟩⟩ := hSw; (first | (go_simp; done) | (go_simp; with_reducible rfl)))
        focus assumption
        (try simp only [Act.put, List.setIfInBounds_toArray, List.set_cons_zero, List.set_cons_succ])
        refine' wpAnyH_take (i := 16) (v := _) ?_ ?_ ?_ ?_ ?_ ?_ ?_ ?_
        rotate_left 2
        focus (simp only [List.getElem?_toArray, List.getElem?_cons_succ, List.getElem?_cons_zero]; rfl)
        focus kernel_rfl
        focus kernel_rfl
        focus kernel_rfl
        focus exact (fun _ _ _ h => h)
        refine Or.inl ⟨?_, ?_⟩
        focus (go_simp; done)
        focus (intro w hSw; obtain ⟨_, ⟨⟨x0, x1⟩, _⟩, ⟨⟨y0, y1⟩, _⟩, ⟨⟨z0, z1⟩, _⟩, ⟨⟨j0, j1⟩, _⟩, ⟨⟨m0, m1⟩, _⟩⟩ := hSw; (first | (go_simp; done) | (go_simp; with_reducible rfl)))
        focus assumption
        (try simp only [Act.put, List.setIfInBounds_toArray, List.set_cons_zero, List.set_cons_succ])
        refine wpAnyH_ready (rs := [15]) (by kernel_rfl) (by simp) ?_
        refine' AllReadyH.cons ?_ (fun K hK => ?_) AllReadyH.nil
        rotate_left
        focus (simp only [List.getElem?_toArray, List.getElem?_cons_succ, List.getElem?_cons_zero]; rfl)
        go_simp
        (go_at_call 20; have hTu := HTb.out.below (hHeld.1); refine (cJoin_any y.m y.r x.m x.r j HL.out.2.2.2.2.1 _ hTu).mono ?_; clear hTu; rintro e w4 ⟨rfl, hb⟩)
        refine hK.out _ _ (hHeld.below hb) (fun hHeld => ?_)
        clear hK K
        (try simp only [Act.put, List.setIfInBounds_toArray, List.set_cons_zero, List.set_cons_succ])
        clear hb
        refine' wpAnyH_take (i := 17) (v := _) ?_ ?_ ?_ ?_ ?_ ?_ ?_ ?_
        rotate_left 2
        focus (simp only [List.getElem?_toArray, List.getElem?_cons_succ, List.getElem?_cons_zero]; rfl)
        focus kernel_rfl
        focus kernel_rfl
        focus kernel_rfl
        focus exact (fun _ _ _ h => h)
        refine Or.inl ⟨?_, ?_⟩
        focus (go_simp; done)
        focus (intro w hSw; obtain ⟨_, ⟨⟨x0, x1⟩, _⟩, ⟨⟨y0, y1⟩, _⟩, ⟨⟨z0, z1⟩, _⟩, ⟨⟨j0, j1⟩, _⟩, ⟨⟨m0, m1⟩, _⟩⟩ := hSw; (first | (go_simp; done) | (go_simp; with_reducible rfl)))
        focus assumption
        (try simp only [Act.put, List.setIfInBounds_toArray, List.set_cons_zero, List.set_cons_succ])
        refine' wpAnyH_take (i := 18) (v := _) ?_ ?_ ?_ ?_ ?_ ?_ ?_ ?_
        rotate_left 2
        focus (simp only [List.getElem?_toArray, List.getElem?_cons_succ, List.getElem?_cons_zero]; rfl)
        focus kernel_rfl
        focus kernel_rfl
        focus kernel_rfl
        focus exact (fun _ _ _ h => h)
        refine Or.inl ⟨?_, ?_⟩
        focus (go_simp; done)
        focus (intro w hSw; obtain ⟨_, ⟨⟨x0, x1⟩, _⟩, ⟨⟨y0, y1⟩, _⟩, ⟨⟨z0, z1⟩, _⟩, ⟨⟨j0, j1⟩, _⟩, ⟨⟨m0, m1⟩, _⟩⟩ := hSw; (first | (go_simp; done) | (go_simp; with_reducible rfl)))
        focus assumption
        (try simp only [Act.put, List.setIfInBounds_toArray, List.set_cons_zero, List.set_cons_succ])
        refine' wpAnyH_take (i := 19) (v := _) ?_ ?_ ?_ ?_ ?_ ?_ ?_ ?_
        rotate_left 2
        focus (simp only [List.getElem?_toArray, List.getElem?_cons_succ, List.getElem?_cons_zero]; rfl)
        focus kernel_rfl
        focus kernel_rfl
        focus kernel_rfl
        focus exact (fun _ _ _ h => h)
        refine Or.inl ⟨?_, ?_⟩
        focus (go_simp; done)
        focus (intro w hSw; obtain ⟨_, ⟨⟨x0, x1⟩, _⟩, ⟨⟨y0, y1⟩, _⟩, ⟨⟨z0, z1⟩, _⟩, ⟨⟨j0, j1⟩, _⟩, ⟨⟨m0, m1⟩, _⟩⟩ := hSw; (first | (go_simp; done) | (go_simp; with_reducible rfl)))
        focus assumption
        (try simp only [Act.put, List.setIfInBounds_toArray, List.set_cons_zero, List.set_cons_succ])
        refine' wpAnyH_take (i := 20) (v := _) ?_ ?_ ?_ ?_ ?_ ?_ ?_ ?_
        rotate_left 2
        focus (simp only [List.getElem?_toArray, List.getElem?_cons_succ, List.getElem?_cons_zero]; rfl)
        focus kernel_rfl
        focus kernel_rfl
        focus kernel_rfl
        focus exact (fun _ _ _ h => h)
        refine Or.inl ⟨?_, ?_⟩
        focus (go_simp; done)
        focus (intro w hSw; obtain ⟨_, ⟨⟨x0, x1⟩, _⟩, ⟨⟨y0, y1⟩, _⟩, ⟨⟨z0, z1⟩, _⟩, ⟨⟨j0, j1⟩, _⟩, ⟨⟨m0, m1⟩, _⟩⟩ := hSw; (first | (go_simp; done) | (go_simp; with_reducible rfl)))
        focus assumption
        (try simp only [Act.put, List.setIfInBounds_toArray, List.set_cons_zero, List.set_cons_succ])
        refine' wpAnyH_take (i := 21) (v := _) ?_ ?_ ?_ ?_ ?_ ?_ ?_ ?_
        rotate_left 2
        focus (simp only [List.getElem?_toArray, List.getElem?_cons_succ, List.getElem?_cons_zero]; rfl)
        focus kernel_rfl
        focus kernel_rfl
        focus kernel_rfl
        focus exact (fun _ _ _ h => h)
        refine Or.inl ⟨?_, ?_⟩
        focus (go_simp; done)
        focus (intro w hSw; obtain ⟨_, ⟨⟨x0, x1⟩, _⟩, ⟨⟨y0, y1⟩, _⟩, ⟨⟨z0, z1⟩, _⟩, ⟨⟨j0, j1⟩, _⟩, ⟨⟨m0, m1⟩, _⟩⟩ := hSw; (first | (go_simp; done) | (go_simp; with_reducible rfl)))
        focus assumption
        (try simp only [Act.put, List.setIfInBounds_toArray, List.set_cons_zero, List.set_cons_succ])
        refine wpAnyH_ready (rs := [22]) (by kernel_rfl) (by simp) ?_
        refine' AllReadyH.cons ?_ (fun K hK => ?_) AllReadyH.nil
        rotate_left
        focus (simp only [List.getElem?_toArray, List.getElem?_cons_succ, List.getElem?_cons_zero]; rfl)
        go_simp
        (go_at_call 22; have hTu := HTb.out.below (hHeld.1); refine (cLeq_any x.m x.r x.m x.r true HL.out.2.2.2.2.2 _ hTu).mono ?_; clear hTu; rintro e w4 ⟨rfl, hb⟩)
        refine hK.out _ _ (hHeld.below hb) (fun hHeld => ?_)
        clear hK K
        (try simp only [Act.put, List.setIfInBounds_toArray, List.set_cons_zero, List.set_cons_succ])
        clear hb
        refine' wpAnyH_take (i := 23) (v := _) ?_ ?_ ?_ ?_ ?_ ?_ ?_ ?_
        rotate_left 2
        focus (simp only [List.getElem?_toArray, List.getElem?_cons_succ, List.getElem?_cons_zero]; rfl)
        focus kernel_rfl
        focus kernel_rfl
        focus kernel_rfl
        focus exact (fun _ _ _ h => h)
        refine Or.inl ⟨?_, ?_⟩
        focus (go_simp; done)
        focus (intro w hSw; obtain ⟨_, ⟨⟨x0, x1⟩, _⟩, ⟨⟨y0, y1⟩, _⟩, ⟨⟨z0, z1⟩, _⟩, ⟨⟨j0, j1⟩, _⟩, ⟨⟨m0, m1⟩, _⟩⟩ := hSw; (first | (go_simp; done) | (go_simp; with_reducible rfl)))
        focus assumption
        (try simp only [Act.put, List.setIfInBounds_toArray, List.set_cons_zero, List.set_cons_succ])
        refine' wpAnyH_take (i := 24) (v := _) ?_ ?_ ?_ ?_ ?_ ?_ ?_ ?_
        rotate_left 2
        focus (simp only [List.getElem?_toArray, List.getElem?_cons_succ, List.getElem?_cons_zero]; rfl)
        focus kernel_rfl
        focus kernel_rfl
        focus kernel_rfl
        focus exact (fun _ _ _ h => h)
        refine Or.inl ⟨?_, ?_⟩
        focus (go_simp; done)
        focus (intro w hSw; obtain ⟨_, ⟨⟨x0, x1⟩, _⟩, ⟨⟨y0, y1⟩, _⟩, ⟨⟨z0, z1⟩, _⟩, ⟨⟨j0, j1⟩, _⟩, ⟨⟨m0, m1⟩, _⟩⟩ := hSw; (first | (go_simp; done) | (go_simp; with_reducible rfl)))
        focus assumption
        (try simp only [Act.put, List.setIfInBounds_toArray, List.set_cons_zero, List.set_cons_succ])
        refine wpAnyH_ready (rs := [25]) (by kernel_rfl) (by simp) ?_
        refine' AllReadyH.cons ?_ (fun K hK => ?_) AllReadyH.nil
        rotate_left
        focus (simp only [List.getElem?_toArray, List.getElem?_cons_succ, List.getElem?_cons_zero]; rfl)
        go_simp
        (go_at_call 13; have hTu := HTb.out.below (hHeld.1); refine (awake_any _ hTu).mono ?_; clear hTu; rintro e w4 ⟨rfl, hb⟩)
        refine hK.out _ _ (hHeld.below hb) (fun hHeld => ?_)
        clear hK K
        (try simp only [Act.put, List.setIfInBounds_toArray, List.set_cons_zero, List.set_cons_succ])
        clear hb
        refine' wpAnyH_take (i := 26) (v := _) ?_ ?_ ?_ ?_ ?_ ?_ ?_ ?_
        rotate_left 2
        focus (simp only [List.getElem?_toArray, List.getElem?_cons_succ, List.getElem?_cons_zero]; rfl)
        focus kernel_rfl
        focus kernel_rfl
        focus kernel_rfl
        focus exact (fun _ _ _ h => h)
        refine Or.inl ⟨?_, ?_⟩
        focus (go_simp; done)
        focus (intro w hSw; obtain ⟨_, ⟨⟨x0, x1⟩, _⟩, ⟨⟨y0, y1⟩, _⟩, ⟨⟨z0, z1⟩, _⟩, ⟨⟨j0, j1⟩, _⟩, ⟨⟨m0, m1⟩, _⟩⟩ := hSw; (first | (go_simp; done) | (go_simp; with_reducible rfl)))
        focus assumption
        (try simp only [Act.put, List.setIfInBounds_toArray, List.set_cons_zero, List.set_cons_succ])
        refine' wpAnyH_take (i := 27) (v := _) ?_ ?_ ?_ ?_ ?_ ?_ ?_ ?_
        rotate_left 2
        focus (simp only [List.getElem?_toArray, List.getElem?_cons_succ, List.getElem?_cons_zero]; rfl)
        focus kernel_rfl
        focus kernel_rfl
        focus kernel_rfl
        focus exact (fun _ _ _ h => h)
        refine Or.inl ⟨?_, ?_⟩
        focus (go_simp; done)
        focus (intro w hSw; obtain ⟨_, ⟨⟨x0, x1⟩, _⟩, ⟨⟨y0, y1⟩, _⟩, ⟨⟨z0, z1⟩, _⟩, ⟨⟨j0, j1⟩, _⟩, ⟨⟨m0, m1⟩, _⟩⟩ := hSw; (first | (go_simp; done) | (go_simp; with_reducible rfl)))
        focus assumption
        (try simp only [Act.put, List.setIfInBounds_toArray, List.set_cons_zero, List.set_cons_succ])
        refine wpAnyH_done (by kernel_rfl) ?_ _
        go_wp2
        go_ret
        exact ⟨rfl, hHeld.1⟩
      · obtain ⟨t, ht2⟩ : ∃ t, Rs.has y v = t := ⟨_, rfl⟩
        have HH := Lib.hid (show Rs.has x v = true ∧ Rs.has y v = t ∧ Rs.has m v = t from ⟨c1, ht2, by rw [HM2.out, ← ht, c1, ht2]; rfl⟩)
        have htt : (t == t) = true := by simp
        clear c1 ht ht2 hx hy HXY
        refine wp_region_held_drew (S := (fun w' => Fiv w x y z j m g1 g2 g3 g4 g5 w')) (by kernel_rfl) (hT.drew) (fun hHeld => ?_)
        refine' wpAnyH_take (i := 0) (v := _) ?_ ?_ ?_ ?_ ?_ ?_ ?_ ?_
        rotate_left 2
        focus (simp only [List.getElem?_toArray, List.getElem?_cons_succ, List.getElem?_cons_zero]; rfl)
        focus kernel_rfl
        focus kernel_rfl
        focus kernel_rfl
        focus exact (fun _ _ _ h => h)
        refine Or.inl ⟨?_, ?_⟩
        focus (go_simp; done)
        focus (intro w hSw; obtain ⟨_, ⟨⟨x0, x1⟩, _⟩, ⟨⟨y0, y1⟩, _⟩, ⟨⟨z0, z1⟩, _⟩, ⟨⟨j0, j1⟩, _⟩, ⟨⟨m0, m1⟩, _⟩⟩ := hSw; (first | (go_simp; done) | (go_simp; with_reducible rfl)))
        focus assumption
        (try simp only [Act.put, List.setIfInBounds_toArray, List.set_cons_zero, List.set_cons_succ])
        refine' wpAnyH_take (i := 1) (v := _) ?_ ?_ ?_ ?_ ?_ ?_ ?_ ?_
        rotate_left 2
        focus (simp only [List.getElem?_toArray, List.getElem?_cons_succ, List.getElem?_cons_zero]; rfl)
        focus kernel_rfl
        focus kernel_rfl
        focus kernel_rfl
        focus exact (fun _ _ _ h => h)
        refine Or.inl ⟨?_, ?_⟩
        focus (go_simp; done)
        focus (intro w hSw; obtain ⟨_, ⟨⟨x0, x1⟩, _⟩, ⟨⟨y0, y1⟩, _⟩, ⟨⟨z0, z1⟩, _⟩, ⟨⟨j0, j1⟩, _⟩, ⟨⟨m0, m1⟩, _⟩⟩ := hSw; (first | (go_simp; done) | (go_simp; with_reducible rfl)))
        focus assumption
        (try simp only [Act.put, List.setIfInBounds_toArray, List.set_cons_zero, List.set_cons_succ])
        refine' wpAnyH_take (i := 8) (v := _) ?_ ?_ ?_ ?_ ?_ ?_ ?_ ?_
        rotate_left 2
        focus (simp only [List.getElem?_toArray, List.getElem?_cons_succ, List.getElem?_cons_zero]; rfl)
        focus kernel_rfl
        focus kernel_rfl
        focus kernel_rfl
        focus exact (fun _ _ _ h => h)
        refine Or.inl ⟨?_, ?_⟩
        focus (go_simp; done)
        focus (intro w hSw; obtain ⟨_, ⟨⟨x0, x1⟩, _⟩, ⟨⟨y0, y1⟩, _⟩, ⟨⟨z0, z1⟩, _⟩, ⟨⟨j0, j1⟩, _⟩, ⟨⟨m0, m1⟩, _⟩⟩ := hSw; (first | (go_simp; done) | (go_simp; with_reducible rfl)))
        focus assumption
        (try simp only [Act.put, List.setIfInBounds_toArray, List.set_cons_zero, List.set_cons_succ])
        refine' wpAnyH_take (i := 9) (v := _) ?_ ?_ ?_ ?_ ?_ ?_ ?_ ?_
        rotate_left 2
        focus (simp only [List.getElem?_toArray, List.getElem?_cons_succ, List.getElem?_cons_zero]; rfl)
        focus kernel_rfl
        focus kernel_rfl
        focus kernel_rfl
        focus exact (fun _ _ _ h => h)
        refine Or.inl ⟨?_, ?_⟩
        focus (go_simp; done)
        focus (intro w hSw; obtain ⟨_, ⟨⟨x0, x1⟩, _⟩, ⟨⟨y0, y1⟩, _⟩, ⟨⟨z0, z1⟩, _⟩, ⟨⟨j0, j1⟩, _⟩, ⟨⟨m0, m1⟩, _⟩⟩ := hSw; (first | (go_simp; done) | (go_simp; with_reducible rfl)))
        focus assumption
        (try simp only [Act.put, List.setIfInBounds_toArray, List.set_cons_zero, List.set_cons_succ])
        refine wpAnyH_ready (rs := [2]) (by kernel_rfl) (by simp) ?_
        refine' AllReadyH.cons ?_ (fun K hK => ?_) AllReadyH.nil
        rotate_left
        focus (simp only [List.getElem?_toArray, List.getElem?_cons_succ, List.getElem?_cons_zero]; rfl)
        go_simp
        (go_at_call 18; have hTu := HTb.out.below (hHeld.1); refine (cHas_any x.m x.r v true HH.out.1 _ hTu).mono ?_; clear hTu; rintro e w4 ⟨rfl, hb⟩)
        refine hK.out _ _ (hHeld.below hb) (fun hHeld => ?_)
        clear hK K
        (try simp only [Act.put, List.setIfInBounds_toArray, List.set_cons_zero, List.set_cons_succ])
        clear hb
        refine' wpAnyH_take (i := 3) (v := _) ?_ ?_ ?_ ?_ ?_ ?_ ?_ ?_
        rotate_left 2
        focus (simp only [List.getElem?_toArray, List.getElem?_cons_succ, List.getElem?_cons_zero]; rfl)
        focus kernel_rfl
        focus kernel_rfl
        focus kernel_rfl
        focus exact (fun _ _ _ h => h)
        refine Or.inl ⟨?_, ?_⟩
        focus (go_simp; done)
        focus (intro w hSw; obtain ⟨_, ⟨⟨x0, x1⟩, _⟩, ⟨⟨y0, y1⟩, _⟩, ⟨⟨z0, z1⟩, _⟩, ⟨⟨j0, j1⟩, _⟩, ⟨⟨m0, m1⟩, _⟩⟩ := hSw; (first | (go_simp; done) | (go_simp; with_reducible rfl)))
        focus assumption
        (try simp only [Act.put, List.setIfInBounds_toArray, List.set_cons_zero, List.set_cons_succ])
        refine' wpAnyH_take (i := 4) (v := _) ?_ ?_ ?_ ?_ ?_ ?_ ?_ ?_
        rotate_left 2
        focus (simp only [List.getElem?_toArray, List.getElem?_cons_succ, List.getElem?_cons_zero]; rfl)
        focus kernel_rfl
        focus kernel_rfl
        focus kernel_rfl
        focus exact (fun _ _ _ h => h)
        refine Or.inl ⟨?_, ?_⟩
        focus (go_simp; done)
        focus (intro w hSw; obtain ⟨_, ⟨⟨x0, x1⟩, _⟩, ⟨⟨y0, y1⟩, _⟩, ⟨⟨z0, z1⟩, _⟩, ⟨⟨j0, j1⟩, _⟩, ⟨⟨m0, m1⟩, _⟩⟩ := hSw; (first | (go_simp; done) | (go_simp; with_reducible rfl)))
        focus assumption
        (try simp only [Act.put, List.setIfInBounds_toArray, List.set_cons_zero, List.set_cons_succ])
        refine' wpAnyH_take (i := 5) (v := _) ?_ ?_ ?_ ?_ ?_ ?_ ?_ ?_
        rotate_left 2
        focus (simp only [List.getElem?_toArray, List.getElem?_cons_succ, List.getElem?_cons_zero]; rfl)
        focus kernel_rfl
        focus kernel_rfl
        focus kernel_rfl
        focus exact (fun _ _ _ h => h)
        refine Or.inl ⟨?_, ?_⟩
        focus (go_simp; done)
        focus (intro w hSw; obtain ⟨_, ⟨⟨x0, x1⟩, _⟩, ⟨⟨y0, y1⟩, _⟩, ⟨⟨z0, z1⟩, _⟩, ⟨⟨j0, j1⟩, _⟩, ⟨⟨m0, m1⟩, _⟩⟩ := hSw; (first | (go_simp; done) | (go_simp; with_reducible rfl)))
        focus assumption
        (try simp only [Act.put, List.setIfInBounds_toArray, List.set_cons_zero, List.set_cons_succ])
        refine wpAnyH_ready (rs := [6]) (by kernel_rfl) (by simp) ?_
        refine' AllReadyH.cons ?_ (fun K hK => ?_) AllReadyH.nil
        rotate_left
        focus (simp only [List.getElem?_toArray, List.getElem?_cons_succ, List.getElem?_cons_zero]; rfl)
        go_simp
        (go_at_call 18; have hTu := HTb.out.below (hHeld.1); refine (cHas_any y.m y.r v t HH.out.2.1 _ hTu).mono ?_; clear hTu; rintro e w4 ⟨rfl, hb⟩)
        refine hK.out _ _ (hHeld.below hb) (fun hHeld => ?_)
        clear hK K
        (try simp only [Act.put, List.setIfInBounds_toArray, List.set_cons_zero, List.set_cons_succ])
        clear hb
        refine' wpAnyH_take (i := 7) (v := _) ?_ ?_ ?_ ?_ ?_ ?_ ?_ ?_
        rotate_left 2
        focus (simp only [List.getElem?_toArray, List.getElem?_cons_succ, List.getElem?_cons_zero]; rfl)
        focus kernel_rfl
        focus kernel_rfl
        focus kernel_rfl
        focus exact (fun _ _ _ h => h)
        refine Or.inl ⟨?_, ?_⟩
        focus (go_simp; done)
        focus (intro w hSw; obtain ⟨_, ⟨⟨x0, x1⟩, _⟩, ⟨⟨y0, y1⟩, _⟩, ⟨⟨z0, z1⟩, _⟩, ⟨⟨j0, j1⟩, _⟩, ⟨⟨m0, m1⟩, _⟩⟩ := hSw; (first | (go_simp; done) | (go_simp; with_reducible rfl)))
        focus assumption
        (try simp only [Act.put, List.setIfInBounds_toArray, List.set_cons_zero, List.set_cons_succ])
        refine wpAnyH_ready (rs := [10]) (by kernel_rfl) (by simp) ?_
        refine' AllReadyH.cons ?_ (fun K hK => ?_) AllReadyH.nil
        rotate_left
        focus (simp only [List.getElem?_toArray, List.getElem?_cons_succ, List.getElem?_cons_zero]; rfl)
        go_simp
        (go_at_call 18; have hTu := HTb.out.below (hHeld.1); refine (cHas_any m.m m.r v t HH.out.2.2 _ hTu).mono ?_; clear hTu; rintro e w4 ⟨rfl, hb⟩)
        refine hK.out _ _ (hHeld.below hb) (fun hHeld => ?_)
        clear hK K
        (try simp only [Act.put, List.setIfInBounds_toArray, List.set_cons_zero, List.set_cons_succ])
        clear hb
        refine' wpAnyH_take (i := 11) (v := _) ?_ ?_ ?_ ?_ ?_ ?_ ?_ ?_
        rotate_left 2
        focus (simp only [List.getElem?_toArray, List.getElem?_cons_succ, List.getElem?_cons_zero]; rfl)
        focus kernel_rfl
        focus kernel_rfl
        focus kernel_rfl
        focus exact (fun _ _ _ h => h)
        refine Or.inl ⟨?_, ?_⟩
        focus (go_simp; done)
        focus (intro w hSw; obtain ⟨_, ⟨⟨x0, x1⟩, _⟩, ⟨⟨y0, y1⟩, _⟩, ⟨⟨z0, z1⟩, _⟩, ⟨⟨j0, j1⟩, _⟩, ⟨⟨m0, m1⟩, _⟩⟩ := hSw; (first | (go_simp; done) | (go_simp; with_reducible rfl)))
        focus assumption
        (try simp only [Act.put, List.setIfInBounds_toArray, List.set_cons_zero, List.set_cons_succ])
        refine' wpAnyH_take (i := 12) (v := _) ?_ ?_ ?_ ?_ ?_ ?_ ?_ ?_
        rotate_left 2
        focus (simp only [List.getElem?_toArray, List.getElem?_cons_succ, List.getElem?_cons_zero]; rfl)
        focus kernel_rfl
        focus kernel_rfl
        focus kernel_rfl
        focus exact (fun _ _ _ h => h)
        refine Or.inl ⟨?_, ?_⟩
        focus (go_simp; done)
        focus (intro w hSw; obtain ⟨_, ⟨⟨x0, x1⟩, _⟩, ⟨⟨y0, y1⟩, _⟩, ⟨⟨z0, z1⟩, _⟩, ⟨⟨j0, j1⟩, _⟩, ⟨⟨m0, m1⟩, _⟩⟩ := hSw; (first | (go_simp; done) | (go_simp; with_reducible rfl)))
        focus assumption
        (try simp only [Act.put, List.setIfInBounds_toArray, List.set_cons_zero, List.set_cons_succ])
        refine' wpAnyH_take (i := 13) (v := _) ?_ ?_ ?_ ?_ ?_ ?_ ?_ ?_
        rotate_left 2
        focus (simp only [List.getElem?_toArray, List.getElem?_cons_succ, List.getElem?_cons_zero]; rfl)
        focus kernel_rfl
        focus kernel_rfl
        focus kernel_rfl
        focus exact (fun _ _ _ h => h)
        refine Or.inl ⟨?_, ?_⟩
        focus (go_simp; done)
        focus (intro w hSw; obtain ⟨_, ⟨⟨x0, x1⟩, _⟩, ⟨⟨y0, y1⟩, _⟩, ⟨⟨z0, z1⟩, _⟩, ⟨⟨j0, j1⟩, _⟩, ⟨⟨m0, m1⟩, _⟩⟩ := hSw; (first | (go_simp; done) | (go_simp; with_reducible rfl)))
        focus assumption
        (try simp only [Act.put, List.setIfInBounds_toArray, List.set_cons_zero, List.set_cons_succ])
        refine' wpAnyH_take (i := 14) (v := _) ?_ ?_ ?_ ?_ ?_ ?_ ?_ ?_
        rotate_left 2
        focus (simp only [List.getElem?_toArray, List.getElem?_cons_succ, List.getElem?_cons_zero]; rfl)
        focus kernel_rfl
        focus kernel_rfl
        focus kernel_rfl
        focus exact (fun _ _ _ h => h)
        refine Or.inl ⟨?_, ?_⟩
        focus (go_simp; done)
        focus (intro w hSw; obtain ⟨_, ⟨⟨x0, x1⟩, _⟩, ⟨⟨y0, y1⟩, _⟩, ⟨⟨z0, z1⟩, _⟩, ⟨⟨j0, j1⟩, _⟩, ⟨⟨m0, m1⟩, _⟩⟩ := hSw; (first | (go_simp; done) | (go_simp; with_reducible rfl)))
        focus assumption
        (try simp only [Act.put, List.setIfInBounds_toArray, List.set_cons_zero, List.set_cons_succ])
        refine' wpAnyH_take (i := 16) (v := _) ?_ ?_ ?_ ?_ ?_ ?_ ?_ ?_
        rotate_left 2
        focus (simp only [List.getElem?_toArray, List.getElem?_cons_succ, List.getElem?_cons_zero]; rfl)
        focus kernel_rfl
        focus kernel_rfl
        focus kernel_rfl
        focus exact (fun _ _ _ h => h)
        refine Or.inl ⟨?_, ?_⟩
        focus (go_simp; done)
        focus (intro w hSw; obtain ⟨_, ⟨⟨x0, x1⟩, _⟩, ⟨⟨y0, y1⟩, _⟩, ⟨⟨z0, z1⟩, _⟩, ⟨⟨j0, j1⟩, _⟩, ⟨⟨m0, m1⟩, _⟩⟩ := hSw; (first | (go_simp; done) | (go_simp; with_reducible rfl)))
        focus assumption
        (try simp only [Act.put, List.setIfInBounds_toArray, List.set_cons_zero, List.set_cons_succ])
        refine wpAnyH_ready (rs := [15]) (by kernel_rfl) (by simp) ?_
        refine' AllReadyH.cons ?_ (fun K hK => ?_) AllReadyH.nil
        rotate_left
        focus (simp only [List.getElem?_toArray, List.getElem?_cons_succ, List.getElem?_cons_zero]; rfl)
        go_simp
        (go_at_call 20; have hTu := HTb.out.below (hHeld.1); refine (cJoin_any y.m y.r x.m x.r j HL.out.2.2.2.2.1 _ hTu).mono ?_; clear hTu; rintro e w4 ⟨rfl, hb⟩)
        refine hK.out _ _ (hHeld.below hb) (fun hHeld => ?_)
        clear hK K
        (try simp only [Act.put, List.setIfInBounds_toArray, List.set_cons_zero, List.set_cons_succ])
        clear hb
        refine' wpAnyH_take (i := 17) (v := _) ?_ ?_ ?_ ?_ ?_ ?_ ?_ ?_
        rotate_left 2
        focus (simp only [List.getElem?_toArray, List.getElem?_cons_succ, List.getElem?_cons_zero]; rfl)
        focus kernel_rfl
        focus kernel_rfl
        focus kernel_rfl
        focus exact (fun _ _ _ h => h)
        refine Or.inl ⟨?_, ?_⟩
        focus (go_simp; done)
        focus (intro w hSw; obtain ⟨_, ⟨⟨x0, x1⟩, _⟩, ⟨⟨y0, y1⟩, _⟩, ⟨⟨z0, z1⟩, _⟩, ⟨⟨j0, j1⟩, _⟩, ⟨⟨m0, m1⟩, _⟩⟩ := hSw; (first | (go_simp; done) | (go_simp; with_reducible rfl)))
        focus assumption
        (try simp only [Act.put, List.setIfInBounds_toArray, List.set_cons_zero, List.set_cons_succ])
        refine' wpAnyH_take (i := 18) (v := _) ?_ ?_ ?_ ?_ ?_ ?_ ?_ ?_
        rotate_left 2
        focus (simp only [List.getElem?_toArray, List.getElem?_cons_succ, List.getElem?_cons_zero]; rfl)
        focus kernel_rfl
        focus kernel_rfl
        focus kernel_rfl
        focus exact (fun _ _ _ h => h)
        refine Or.inl ⟨?_, ?_⟩
        focus (go_simp; done)
        focus (intro w hSw; obtain ⟨_, ⟨⟨x0, x1⟩, _⟩, ⟨⟨y0, y1⟩, _⟩, ⟨⟨z0, z1⟩, _⟩, ⟨⟨j0, j1⟩, _⟩, ⟨⟨m0, m1⟩, _⟩⟩ := hSw; (first | (go_simp; done) | (go_simp; with_reducible rfl)))
        focus assumption
        (try simp only [Act.put, List.setIfInBounds_toArray, List.set_cons_zero, List.set_cons_succ])
        refine' wpAnyH_take (i := 19) (v := _) ?_ ?_ ?_ ?_ ?_ ?_ ?_ ?_
        rotate_left 2
        focus (simp only [List.getElem?_toArray, List.getElem?_cons_succ, List.getElem?_cons_zero]; rfl)
        focus kernel_rfl
        focus kernel_rfl
        focus kernel_rfl
        focus exact (fun _ _ _ h => h)
        refine Or.inl ⟨?_, ?_⟩
        focus (go_simp; done)
        focus (intro w hSw; obtain ⟨_, ⟨⟨x0, x1⟩, _⟩, ⟨⟨y0, y1⟩, _⟩, ⟨⟨z0, z1⟩, _⟩, ⟨⟨j0, j1⟩, _⟩, ⟨⟨m0, m1⟩, _⟩⟩ := hSw; (first | (go_simp; done) | (go_simp; with_reducible rfl)))
        focus assumption
        (try simp only [Act.put, List.setIfInBounds_toArray, List.set_cons_zero, List.set_cons_succ])
        refine' wpAnyH_take (i := 20) (v := _) ?_ ?_ ?_ ?_ ?_ ?_ ?_ ?_
        rotate_left 2
        focus (simp only [List.getElem?_toArray, List.getElem?_cons_succ, List.getElem?_cons_zero]; rfl)
        focus kernel_rfl
        focus kernel_rfl
        focus kernel_rfl
        focus exact (fun _ _ _ h => h)
        refine Or.inl ⟨?_, ?_⟩
        focus (go_simp; done)
        focus (intro w hSw; obtain ⟨_, ⟨⟨x0, x1⟩, _⟩, ⟨⟨y0, y1⟩, _⟩, ⟨⟨z0, z1⟩, _⟩, ⟨⟨j0, j1⟩, _⟩, ⟨⟨m0, m1⟩, _⟩⟩ := hSw; (first | (go_simp; done) | (go_simp; with_reducible rfl)))
        focus assumption
        (try simp only [Act.put, List.setIfInBounds_toArray, List.set_cons_zero, List.set_cons_succ])
        refine' wpAnyH_take (i := 21) (v := _) ?_ ?_ ?_ ?_ ?_ ?_ ?_ ?_
        rotate_left 2
        focus (simp only [List.getElem?_toArray, List.getElem?_cons_succ, List.getElem?_cons_zero]; rfl)
        focus kernel_rfl
        focus kernel_rfl
        focus kernel_rfl
        focus exact (fun _ _ _ h => h)
        refine Or.inl ⟨?_, ?_⟩
        focus (go_simp; done)
        focus (intro w hSw; obtain ⟨_, ⟨⟨x0, x1⟩, _⟩, ⟨⟨y0, y1⟩, _⟩, ⟨⟨z0, z1⟩, _⟩, ⟨⟨j0, j1⟩, _⟩, ⟨⟨m0, m1⟩, _⟩⟩ := hSw; (first | (go_simp; done) | (go_simp; with_reducible rfl)))
        focus assumption
        (try simp only [Act.put, List.setIfInBounds_toArray, List.set_cons_zero, List.set_cons_succ])
        refine wpAnyH_ready (rs := [22]) (by kernel_rfl) (by simp) ?_
        refine' AllReadyH.cons ?_ (fun K hK => ?_) AllReadyH.nil
        rotate_left
        focus (simp only [List.getElem?_toArray, List.getElem?_cons_succ, List.getElem?_cons_zero]; rfl)
        go_simp
        (go_at_call 22; have hTu := HTb.out.below (hHeld.1); refine (cLeq_any x.m x.r x.m x.r true HL.out.2.2.2.2.2 _ hTu).mono ?_; clear hTu; rintro e w4 ⟨rfl, hb⟩)
        refine hK.out _ _ (hHeld.below hb) (fun hHeld => ?_)
        clear hK K
        (try simp only [Act.put, List.setIfInBounds_toArray, List.set_cons_zero, List.set_cons_succ])
        clear hb
        refine' wpAnyH_take (i := 23) (v := _) ?_ ?_ ?_ ?_ ?_ ?_ ?_ ?_
        rotate_left 2
        focus (simp only [List.getElem?_toArray, List.getElem?_cons_succ, List.getElem?_cons_zero]; rfl)
        focus kernel_rfl
        focus kernel_rfl
        focus kernel_rfl
        focus exact (fun _ _ _ h => h)
        refine Or.inl ⟨?_, ?_⟩
        focus (go_simp; done)
        focus (intro w hSw; obtain ⟨_, ⟨⟨x0, x1⟩, _⟩, ⟨⟨y0, y1⟩, _⟩, ⟨⟨z0, z1⟩, _⟩, ⟨⟨j0, j1⟩, _⟩, ⟨⟨m0, m1⟩, _⟩⟩ := hSw; (first | (go_simp; done) | (go_simp; with_reducible rfl)))
        focus assumption
        (try simp only [Act.put, List.setIfInBounds_toArray, List.set_cons_zero, List.set_cons_succ])
        refine' wpAnyH_take (i := 24) (v := _) ?_ ?_ ?_ ?_ ?_ ?_ ?_ ?_
        rotate_left 2
        focus (simp only [List.getElem?_toArray, List.getElem?_cons_succ, List.getElem?_cons_zero]; rfl)
        focus kernel_rfl
        focus kernel_rfl
        focus kernel_rfl
        focus exact (fun _ _ _ h => h)
        refine Or.inl ⟨?_, ?_⟩
        focus (go_simp; done)
        focus (intro w hSw; obtain ⟨_, ⟨⟨x0, x1⟩, _⟩, ⟨⟨y0, y1⟩, _⟩, ⟨⟨z0, z1⟩, _⟩, ⟨⟨j0, j1⟩, _⟩, ⟨⟨m0, m1⟩, _⟩⟩ := hSw; (first | (go_simp; done) | (go_simp; with_reducible rfl)))
        focus assumption
        (try simp only [Act.put, List.setIfInBounds_toArray, List.set_cons_zero, List.set_cons_succ])
        refine wpAnyH_ready (rs := [25]) (by kernel_rfl) (by simp) ?_
        refine' AllReadyH.cons ?_ (fun K hK => ?_) AllReadyH.nil
        rotate_left
        focus (simp only [List.getElem?_toArray, List.getElem?_cons_succ, List.getElem?_cons_zero]; rfl)
        go_simp
        (go_at_call 13; have hTu := HTb.out.below (hHeld.1); refine (awake_any _ hTu).mono ?_; clear hTu; rintro e w4 ⟨rfl, hb⟩)
        refine hK.out _ _ (hHeld.below hb) (fun hHeld => ?_)
        clear hK K
        (try simp only [Act.put, List.setIfInBounds_toArray, List.set_cons_zero, List.set_cons_succ])
        clear hb
        refine' wpAnyH_take (i := 26) (v := _) ?_ ?_ ?_ ?_ ?_ ?_ ?_ ?_
        rotate_left 2
        focus (simp only [List.getElem?_toArray, List.getElem?_cons_succ, List.getElem?_cons_zero]; rfl)
        focus kernel_rfl
        focus kernel_rfl
        focus kernel_rfl
        focus exact (fun _ _ _ h => h)
        refine Or.inl ⟨?_, ?_⟩
        focus (go_simp; done)
        focus (intro w hSw; obtain ⟨_, ⟨⟨x0, x1⟩, _⟩, ⟨⟨y0, y1⟩, _⟩, ⟨⟨z0, z1⟩, _⟩, ⟨⟨j0, j1⟩, _⟩, ⟨⟨m0, m1⟩, _⟩⟩ := hSw; (first | (go_simp; done) | (go_simp; with_reducible rfl)))
        focus assumption
        (try simp only [Act.put, List.setIfInBounds_toArray, List.set_cons_zero, List.set_cons_succ])
        refine' wpAnyH_take (i := 27) (v := _) ?_ ?_ ?_ ?_ ?_ ?_ ?_ ?_
        rotate_left 2
        focus (simp only [List.getElem?_toArray, List.getElem?_cons_succ, List.getElem?_cons_zero]; rfl)
        focus kernel_rfl
        focus kernel_rfl
        focus kernel_rfl
        focus exact (fun _ _ _ h => h)
        refine Or.inl ⟨?_, ?_⟩
        focus (go_simp; done)
        focus (intro w hSw; obtain ⟨_, ⟨⟨x0, x1⟩, _⟩, ⟨⟨y0, y1⟩, _⟩, ⟨⟨z0, z1⟩, _⟩, ⟨⟨j0, j1⟩, _⟩, ⟨⟨m0, m1⟩, _⟩⟩ := hSw; (first | (go_simp; done) | (go_simp; with_reducible rfl)))
        focus assumption
        (try simp only [Act.put, List.setIfInBounds_toArray, List.set_cons_zero, List.set_cons_succ])
        refine wpAnyH_done (by kernel_rfl) ?_ _
        go_wp2
        go_ret
        exact ⟨rfl, hHeld.1⟩
end Go.Proofs.YtmdakglbommopaaDoor
