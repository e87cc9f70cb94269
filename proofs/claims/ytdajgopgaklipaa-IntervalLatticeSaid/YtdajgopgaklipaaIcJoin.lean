/- The code of layer 7: Join, Meet, Leq. No condition. -/
import Derived.Test.YtdajgopgaklipaaIcSmall
import Derived.Test.YtdajgopgaklipaaIvRefD
namespace Go.Proofs.Ytdajgopgaklipaa
open Go.RowKit
set_option linter.unusedVariables false
set_option linter.unusedSimpArgs false
attribute [local go_sem] y_undef
theorem bx_of {w w1 : World} {p q r s : Int} {a b : Iv} (hA : Ahead 3 w w1) (a0 : w1.cell? ⟨w.heap.size, 0, none⟩ = some (.int .i64 p)) (a1 : w1.cell? ⟨w.heap.size, 1, none⟩ = some (.int .i64 q))
    (b0 : w1.cell? ⟨w.heap.size + 1, 0, none⟩ = some (.int .i64 r)) (b1 : w1.cell? ⟨w.heap.size + 1, 1, none⟩ = some (.int .i64 s)) (c0 : w1.cell? ⟨w.heap.size + 1 + 1, 0, none⟩ = some (.int .i64 0)) (c1 : w1.cell? ⟨w.heap.size + 1 + 1, 1, none⟩ = some (.int .i64 0)) (hf : ∀ o, w1.frozen? ⟨w.heap.size + 1 + 1, o, none⟩ = false) :
    Bx w a b ((((w1.setCell ⟨w.heap.size, 0, none⟩ (.int .i64 a.lo)).setCell ⟨w.heap.size, 1, none⟩ (.int .i64 a.hi)).setCell ⟨w.heap.size + 1, 0, none⟩ (.int .i64 b.lo)).setCell ⟨w.heap.size + 1, 1, none⟩ (.int .i64 b.hi)) := by
  obtain ⟨h, h0, h1, ⟨h2, h3⟩, h4⟩ := boxes_of (a := a) (b := b) hA a0 a1 b0 b1 c0 c1 hf
  exact ⟨h, h0, h1, ⟨_, _, h2, h3⟩, h4⟩
theorem rz_far {g g' : Nat} {a : World} {x y : Value} (h : Rz g a) (hne : g' ≠ g) : Rz g ((a.setCell ⟨g', 0, none⟩ x).setCell ⟨g', 1, none⟩ y) := h.far hne
theorem by_of {w w1 : World} {p q r s : Int} {a b : Iv} (hA : Ahead 4 w w1) (a0 : w1.cell? ⟨w.heap.size, 0, none⟩ = some (.int .i64 p)) (a1 : w1.cell? ⟨w.heap.size, 1, none⟩ = some (.int .i64 q))
    (b0 : w1.cell? ⟨w.heap.size + 1, 0, none⟩ = some (.int .i64 r)) (b1 : w1.cell? ⟨w.heap.size + 1, 1, none⟩ = some (.int .i64 s)) (c0 : w1.cell? ⟨w.heap.size + 1 + 1, 0, none⟩ = some (.int .i64 0)) (c1 : w1.cell? ⟨w.heap.size + 1 + 1, 1, none⟩ = some (.int .i64 0)) (hf : ∀ o, w1.frozen? ⟨w.heap.size + 1 + 1, o, none⟩ = false)
    (d0 : w1.cell? ⟨w.heap.size + 1 + 1 + 1, 0, none⟩ = some (.int .i64 0)) (d1 : w1.cell? ⟨w.heap.size + 1 + 1 + 1, 1, none⟩ = some (.int .i64 0)) (hf2 : ∀ o, w1.frozen? ⟨w.heap.size + 1 + 1 + 1, o, none⟩ = false) :
    By w a b ((((w1.setCell ⟨w.heap.size, 0, none⟩ (.int .i64 a.lo)).setCell ⟨w.heap.size, 1, none⟩ (.int .i64 a.hi)).setCell ⟨w.heap.size + 1, 0, none⟩ (.int .i64 b.lo)).setCell ⟨w.heap.size + 1, 1, none⟩ (.int .i64 b.hi)) := by
  obtain ⟨h, h0, h1, ⟨h2, h3⟩, h4⟩ := boxes_of (a := a) (b := b) ⟨hA.1, by have := hA.2; omega⟩ a0 a1 b0 b1 c0 c1 hf
  have r : Rz (w.heap.size + 1 + 1 + 1) w1 := ⟨⟨_, _, d0, d1⟩, hf2⟩
  exact ⟨((((hA.set (by omega) _).set (by omega) _).set (by omega) _).set (by omega) _), h0, h1, ⟨⟨_, _, h2, h3⟩, h4⟩, (r.far (by omega)).far (by omega)⟩
set_option maxHeartbeats 4000000 in
theorem iJoin_any (p q r s : Int) (z : Iv) (hz : Iv.join ⟨p, q⟩ ⟨r, s⟩ = z) (w : World) : Calls Try.prog 24 #[.agg #[.int .i64 p, .int .i64 q], .agg #[.int .i64 r, .int .i64 s]] w fun e w' => e = .returned (.agg #[.int .i64 (z).lo, .int .i64 (z).hi]) ∧ Below w.heap.size w w' := by
  have hA := (((Ahead.refl w).alloc (.cells #[.int .i64 p, .int .i64 q] 23)).alloc (.cells #[.int .i64 r, .int .i64 s] 23)).alloc (.cells #[.int .i64 0, .int .i64 0] 23)
  obtain ⟨a, ha⟩ : ∃ a, Iv.form ⟨p, q⟩ = a := ⟨_, rfl⟩
  obtain ⟨b, hb⟩ : ∃ b, Iv.form ⟨r, s⟩ = b := ⟨_, rfl⟩
  have oka : a = Iv.non ∨ (-2147483648 ≤ a.lo ∧ a.lo ≤ a.hi ∧ a.hi ≤ 2147483647) := ha ▸ Iv.form_ok ⟨p, q⟩
  have okb : b = Iv.non ∨ (-2147483648 ≤ b.lo ∧ b.lo ≤ b.hi ∧ b.hi ≤ 2147483647) := hb ▸ Iv.form_ok ⟨r, s⟩
  have hj : (if a = Iv.non then b else if b = Iv.non then a else (⟨min a.lo b.lo, max a.hi b.hi⟩ : Iv)) = z := by
    rw [← hz]
    unfold Iv.join
    rw [ha, hb]
    by_cases h1 : a = Iv.non
    · simp [h1]
    · by_cases h2 : b = Iv.non
      · simp [h1, h2]
      · have g1 := oka.resolve_left h1
        have g2 := okb.resolve_left h2
        rw [if_neg h1, if_neg h2, if_neg h1, if_neg h2]
        unfold Iv.mk'
        rw [if_neg (by omega)]
  have HA := Lib.hid ha
  have HB := Lib.hid hb
  have HJ := Lib.hid hj
  clear ha hb hj hz oka okb
  have hg := iv_guard
  go_enter Try.func24, Try.ntmps24
  go_wp2
  rename_i K hK
  refine' (fun (HK : ∀ w', Bx w a b w' → K _ w') => ?_) (fun w' hHeld => ?_)
  rotate_left
  focus
    go_region_with (go_at_call 33; (first | (with_reducible refine (taken_any p q a HA.out _).mono ?_) | (with_reducible refine (taken_any r s b HB.out _).mono ?_)); rintro e w1 ⟨rfl, hb⟩; obtain ⟨hc, hf⟩ := bcell hb; (first | replace hA := hA.below hb | replace hA := hA.drew.below hb); have hz : w.heap.size + 1 + 1 < w1.heap.size := (by have := hA.2; omega); have hz2 : w.heap.size + 1 + 1 < w1.heap.size := (by omega); have hz1 : w.heap.size + 1 < w1.heap.size := (by omega); have hz0 : w.heap.size < w1.heap.size := (by omega); (try simp only [size_alloc] at hc hf))
    all_goals
      exact HK _ (bx_of (p := p) (q := q) (r := r) (s := s) hA (by go_simp) (by go_simp) (by go_simp) (by go_simp) (by go_simp) (by go_simp) (fun o => by go_simp))
  refine hK _ _ ?_
  clear hA hK
  go_wp2
  by_cases hn : a = Iv.non
  · have he := iv_eql a.lo a.hi 1 0 true (iv_is a hn)
    have hj := HJ.out
    rw [if_pos hn] at hj
    subst hj
    clear HJ HA HB hn
    refine wp_region_held_drew (S := (fun w' => Bx w a b w')) (by kernel_rfl) (hHeld.drew) (fun hHeld => ?_)
    generalize w'.drew = u0 at *
    refine' wpAnyH_take (i := 0) (v := _) ?_ ?_ ?_ ?_ ?_ ?_ ?_ ?_
    rotate_left 2
    focus (simp only [List.getElem?_toArray, List.getElem?_cons_succ, List.getElem?_cons_zero]; rfl)
    focus kernel_rfl
    focus kernel_rfl
    focus kernel_rfl
    focus exact (fun _ _ _ h => h)
    refine Or.inl ⟨?_, ?_⟩
    focus (go_simp; done)
    focus (intro w hSw; obtain ⟨_, ⟨a0, a1⟩, ⟨b0, b1⟩, _⟩ := hSw; (first | (go_simp; done) | (go_simp; with_reducible rfl)))
    focus assumption
    (try simp only [Act.put, List.setIfInBounds_toArray, List.set_cons_zero, List.set_cons_succ])
    refine wpAnyH_ready (rs := [1]) (by kernel_rfl) (by simp) ?_
    refine' AllReadyH.cons ?_ (fun K hK => ?_) AllReadyH.nil
    rotate_left
    focus (simp only [List.getElem?_toArray, List.getElem?_cons_succ, List.getElem?_cons_zero]; rfl)
    go_simp
    (go_at_call 12; (with_reducible refine (iNone_any _).mono ?_); rintro e u1 ⟨rfl, hb⟩)
    have hS := Bx.below hHeld hb
    clear hb
    refine hK.out _ _ hS (fun hHeld => ?_)
    clear hK K hS
    (try simp only [Act.put, List.setIfInBounds_toArray, List.set_cons_zero, List.set_cons_succ])
    refine' wpAnyH_take (i := 2) (v := _) ?_ ?_ ?_ ?_ ?_ ?_ ?_ ?_
    rotate_left 2
    focus (simp only [List.getElem?_toArray, List.getElem?_cons_succ, List.getElem?_cons_zero]; rfl)
    focus kernel_rfl
    focus kernel_rfl
    focus kernel_rfl
    focus exact (fun _ _ _ h => h)
    refine Or.inl ⟨?_, ?_⟩
    focus (go_simp; done)
    focus (intro w hSw; obtain ⟨_, ⟨a0, a1⟩, ⟨b0, b1⟩, _⟩ := hSw; (first | (go_simp; done) | (go_simp; with_reducible rfl)))
    focus assumption
    (try simp only [Act.put, List.setIfInBounds_toArray, List.set_cons_zero, List.set_cons_succ])
    refine wpAnyH_done (by kernel_rfl) ?_ _
    obtain ⟨hA, ⟨a0, a1⟩, ⟨b0, b1⟩, ⟨x, y, c0, c1⟩, f2⟩ := id hHeld; have hy0 := hA.lt0 (by omega); have hy1 := hA.lt1 (by omega); have hy2 := hA.lt2 (by omega)
    go_wp2
    refine bodyPost_ret (v := .agg #[.int .i64 (b).lo, .int .i64 (b).hi]) ?_ rfl ⟨rfl, hHeld.set.1.1⟩
    simp [results, Try.results24, go_sem, b0, b1, c0, c1]
  · have he := iv_eql a.lo a.hi 1 0 false (iv_not a hn)
    have hj := HJ.out
    rw [if_neg hn] at hj
    have HJ' := Lib.hid hj
    clear HJ HA HB hn hj
    refine wp_region_held_drew (S := (fun w' => Bx w a b w')) (by kernel_rfl) (hHeld.drew) (fun hHeld => ?_)
    generalize w'.drew = u0 at *
    refine' wpAnyH_take (i := 0) (v := _) ?_ ?_ ?_ ?_ ?_ ?_ ?_ ?_
    rotate_left 2
    focus (simp only [List.getElem?_toArray, List.getElem?_cons_succ, List.getElem?_cons_zero]; rfl)
    focus kernel_rfl
    focus kernel_rfl
    focus kernel_rfl
    focus exact (fun _ _ _ h => h)
    refine Or.inl ⟨?_, ?_⟩
    focus (go_simp; done)
    focus (intro w hSw; obtain ⟨_, ⟨a0, a1⟩, ⟨b0, b1⟩, _⟩ := hSw; (first | (go_simp; done) | (go_simp; with_reducible rfl)))
    focus assumption
    (try simp only [Act.put, List.setIfInBounds_toArray, List.set_cons_zero, List.set_cons_succ])
    refine wpAnyH_ready (rs := [1]) (by kernel_rfl) (by simp) ?_
    refine' AllReadyH.cons ?_ (fun K hK => ?_) AllReadyH.nil
    rotate_left
    focus (simp only [List.getElem?_toArray, List.getElem?_cons_succ, List.getElem?_cons_zero]; rfl)
    go_simp
    (go_at_call 12; (with_reducible refine (iNone_any _).mono ?_); rintro e u1 ⟨rfl, hb⟩)
    have hS := Bx.below hHeld hb
    clear hb
    refine hK.out _ _ hS (fun hHeld => ?_)
    clear hK K hS
    (try simp only [Act.put, List.setIfInBounds_toArray, List.set_cons_zero, List.set_cons_succ])
    refine' wpAnyH_take (i := 2) (v := _) ?_ ?_ ?_ ?_ ?_ ?_ ?_ ?_
    rotate_left 2
    focus (simp only [List.getElem?_toArray, List.getElem?_cons_succ, List.getElem?_cons_zero]; rfl)
    focus kernel_rfl
    focus kernel_rfl
    focus kernel_rfl
    focus exact (fun _ _ _ h => h)
    refine Or.inl ⟨?_, ?_⟩
    focus (go_simp; done)
    focus (intro w hSw; obtain ⟨_, ⟨a0, a1⟩, ⟨b0, b1⟩, _⟩ := hSw; (first | (go_simp; done) | (go_simp; with_reducible rfl)))
    focus assumption
    (try simp only [Act.put, List.setIfInBounds_toArray, List.set_cons_zero, List.set_cons_succ])
    refine wpAnyH_done (by kernel_rfl) ?_ _
    go_wp2
    by_cases hn : b = Iv.non
    · have he := iv_eql b.lo b.hi 1 0 true (iv_is b hn)
      have hj := HJ'.out
      rw [if_pos hn] at hj
      subst hj
      clear HJ' hn
      refine wp_region_held_drew (S := (fun w' => Bx w a b w')) (by kernel_rfl) (hHeld.drew) (fun hHeld => ?_)
      generalize u1.drew = u0 at *
      refine' wpAnyH_take (i := 0) (v := _) ?_ ?_ ?_ ?_ ?_ ?_ ?_ ?_
      rotate_left 2
      focus (simp only [List.getElem?_toArray, List.getElem?_cons_succ, List.getElem?_cons_zero]; rfl)
      focus kernel_rfl
      focus kernel_rfl
      focus kernel_rfl
      focus exact (fun _ _ _ h => h)
      refine Or.inl ⟨?_, ?_⟩
      focus (go_simp; done)
      focus (intro w hSw; obtain ⟨_, ⟨a0, a1⟩, ⟨b0, b1⟩, _⟩ := hSw; (first | (go_simp; done) | (go_simp; with_reducible rfl)))
      focus assumption
      (try simp only [Act.put, List.setIfInBounds_toArray, List.set_cons_zero, List.set_cons_succ])
      refine wpAnyH_ready (rs := [1]) (by kernel_rfl) (by simp) ?_
      refine' AllReadyH.cons ?_ (fun K hK => ?_) AllReadyH.nil
      rotate_left
      focus (simp only [List.getElem?_toArray, List.getElem?_cons_succ, List.getElem?_cons_zero]; rfl)
      go_simp
      (go_at_call 12; (with_reducible refine (iNone_any _).mono ?_); rintro e u1 ⟨rfl, hb⟩)
      have hS := Bx.below hHeld hb
      clear hb
      refine hK.out _ _ hS (fun hHeld => ?_)
      clear hK K hS
      (try simp only [Act.put, List.setIfInBounds_toArray, List.set_cons_zero, List.set_cons_succ])
      refine' wpAnyH_take (i := 2) (v := _) ?_ ?_ ?_ ?_ ?_ ?_ ?_ ?_
      rotate_left 2
      focus (simp only [List.getElem?_toArray, List.getElem?_cons_succ, List.getElem?_cons_zero]; rfl)
      focus kernel_rfl
      focus kernel_rfl
      focus kernel_rfl
      focus exact (fun _ _ _ h => h)
      refine Or.inl ⟨?_, ?_⟩
      focus (go_simp; done)
      focus (intro w hSw; obtain ⟨_, ⟨a0, a1⟩, ⟨b0, b1⟩, _⟩ := hSw; (first | (go_simp; done) | (go_simp; with_reducible rfl)))
      focus assumption
      (try simp only [Act.put, List.setIfInBounds_toArray, List.set_cons_zero, List.set_cons_succ])
      refine wpAnyH_done (by kernel_rfl) ?_ _
      obtain ⟨hA, ⟨a0, a1⟩, ⟨b0, b1⟩, ⟨x, y, c0, c1⟩, f2⟩ := id hHeld; have hy0 := hA.lt0 (by omega); have hy1 := hA.lt1 (by omega); have hy2 := hA.lt2 (by omega)
      go_wp2
      refine bodyPost_ret (v := .agg #[.int .i64 (a).lo, .int .i64 (a).hi]) ?_ rfl ⟨rfl, hHeld.set.1.1⟩
      simp [results, Try.results24, go_sem, a0, a1, c0, c1]
    · have he := iv_eql b.lo b.hi 1 0 false (iv_not b hn)
      have hj := HJ'.out
      rw [if_neg hn] at hj
      clear HJ' hn
      obtain ⟨m1, hm1⟩ : ∃ m, min a.lo b.lo = m := ⟨_, rfl⟩
      obtain ⟨m2, hm2⟩ : ∃ m, max a.hi b.hi = m := ⟨_, rfl⟩
      rw [hm1, hm2] at hj
      subst hj
      have HM1 := Lib.hid hm1
      have HM2 := Lib.hid hm2
      clear hm1 hm2
      refine wp_region_held_drew (S := (fun w' => Bx w a b w')) (by kernel_rfl) (hHeld.drew) (fun hHeld => ?_)
      generalize u1.drew = u0 at *
      refine' wpAnyH_take (i := 0) (v := _) ?_ ?_ ?_ ?_ ?_ ?_ ?_ ?_
      rotate_left 2
      focus (simp only [List.getElem?_toArray, List.getElem?_cons_succ, List.getElem?_cons_zero]; rfl)
      focus kernel_rfl
      focus kernel_rfl
      focus kernel_rfl
      focus exact (fun _ _ _ h => h)
      refine Or.inl ⟨?_, ?_⟩
      focus (go_simp; done)
      focus (intro w hSw; obtain ⟨_, ⟨a0, a1⟩, ⟨b0, b1⟩, _⟩ := hSw; (first | (go_simp; done) | (go_simp; with_reducible rfl)))
      focus assumption
      (try simp only [Act.put, List.setIfInBounds_toArray, List.set_cons_zero, List.set_cons_succ])
      refine wpAnyH_ready (rs := [1]) (by kernel_rfl) (by simp) ?_
      refine' AllReadyH.cons ?_ (fun K hK => ?_) AllReadyH.nil
      rotate_left
      focus (simp only [List.getElem?_toArray, List.getElem?_cons_succ, List.getElem?_cons_zero]; rfl)
      go_simp
      (go_at_call 12; (with_reducible refine (iNone_any _).mono ?_); rintro e u1 ⟨rfl, hb⟩)
      have hS := Bx.below hHeld hb
      clear hb
      refine hK.out _ _ hS (fun hHeld => ?_)
      clear hK K hS
      (try simp only [Act.put, List.setIfInBounds_toArray, List.set_cons_zero, List.set_cons_succ])
      refine' wpAnyH_take (i := 2) (v := _) ?_ ?_ ?_ ?_ ?_ ?_ ?_ ?_
      rotate_left 2
      focus (simp only [List.getElem?_toArray, List.getElem?_cons_succ, List.getElem?_cons_zero]; rfl)
      focus kernel_rfl
      focus kernel_rfl
      focus kernel_rfl
      focus exact (fun _ _ _ h => h)
      refine Or.inl ⟨?_, ?_⟩
      focus (go_simp; done)
      focus (intro w hSw; obtain ⟨_, ⟨a0, a1⟩, ⟨b0, b1⟩, _⟩ := hSw; (first | (go_simp; done) | (go_simp; with_reducible rfl)))
      focus assumption
      (try simp only [Act.put, List.setIfInBounds_toArray, List.set_cons_zero, List.set_cons_succ])
      refine wpAnyH_done (by kernel_rfl) ?_ _
      go_wp2
      refine wp_region_held_drew (S := (fun w' => Bx w a b w')) (by kernel_rfl) (hHeld.drew) (fun hHeld => ?_)
      generalize u1.drew = u0 at *
      refine' mh2 (Pre := fun (v4 : Value) (v10 : Value) (w' : World) => Sl [b.lo] v4 w' ∧ Sl [b.hi] v10 w' ∧ ((fun w' => Bx w a b w')) w') _ #[true, true, true, true, true, true, true, true, true, true, true, false, false, false] _ (fun HK5_abc => ?ha5_abc) (fun v4 v10 w' hpre => ?hb5_abc)
      case' ha5_abc => skip
      refine' mh2 (Pre := fun (v4 : Value) (v10 : Value) (w' : World) => Sl [b.lo] v4 w' ∧ Sl [b.hi] v10 w' ∧ ((fun w' => Bx w a b w')) w') _ #[true, true, true, true, true, false, true, true, true, true, true, false, false, false] _ (fun HK5_ac => ?ha5_ac) (fun v4 v10 w' hpre => ?hb5_ac)
      case ha5_ac =>
        refine' wpAnyH_take (i := 0) (v := _) ?_ ?_ ?_ ?_ ?_ ?_ ?_ ?_
        rotate_left 2
        focus (simp only [List.getElem?_toArray, List.getElem?_cons_succ, List.getElem?_cons_zero]; rfl)
        focus kernel_rfl
        focus kernel_rfl
        focus kernel_rfl
        focus exact (fun _ _ _ h => h)
        refine Or.inl ⟨?_, ?_⟩
        focus (go_simp; done)
        focus (intro w hSw; obtain ⟨_, ⟨a0, a1⟩, ⟨b0, b1⟩, _⟩ := hSw; (first | (go_simp; done) | (go_simp; with_reducible rfl)))
        focus assumption
        (try simp only [Act.put, List.setIfInBounds_toArray, List.set_cons_zero, List.set_cons_succ])
        refine' wpAnyH_take (i := 1) (v := _) ?_ ?_ ?_ ?_ ?_ ?_ ?_ ?_
        rotate_left 2
        focus (simp only [List.getElem?_toArray, List.getElem?_cons_succ, List.getElem?_cons_zero]; rfl)
        focus kernel_rfl
        focus kernel_rfl
        focus kernel_rfl
        focus exact (fun _ _ _ h => h)
        refine Or.inl ⟨?_, ?_⟩
        focus (go_simp; done)
        focus (intro w hSw; obtain ⟨_, ⟨a0, a1⟩, ⟨b0, b1⟩, _⟩ := hSw; (first | (go_simp; done) | (go_simp; with_reducible rfl)))
        focus assumption
        (try simp only [Act.put, List.setIfInBounds_toArray, List.set_cons_zero, List.set_cons_succ])
        refine' wpAnyH_take (i := 2) (v := _) ?_ ?_ ?_ ?_ ?_ ?_ ?_ ?_
        rotate_left 2
        focus (simp only [List.getElem?_toArray, List.getElem?_cons_succ, List.getElem?_cons_zero]; rfl)
        focus kernel_rfl
        focus kernel_rfl
        focus kernel_rfl
        focus exact (fun _ _ _ h => h)
        refine Or.inl ⟨?_, ?_⟩
        focus (go_simp; done)
        focus (intro w hSw; obtain ⟨_, ⟨a0, a1⟩, ⟨b0, b1⟩, _⟩ := hSw; (first | (go_simp; done) | (go_simp; with_reducible rfl)))
        focus assumption
        (try simp only [Act.put, List.setIfInBounds_toArray, List.set_cons_zero, List.set_cons_succ])
        refine' wpAnyH_take (i := 3) (v := _) ?_ ?_ ?_ ?_ ?_ ?_ ?_ ?_
        rotate_left 2
        focus (simp only [List.getElem?_toArray, List.getElem?_cons_succ, List.getElem?_cons_zero]; rfl)
        focus kernel_rfl
        focus kernel_rfl
        focus kernel_rfl
        focus exact (fun _ _ _ h => h)
        refine Or.inl ⟨?_, ?_⟩
        focus (go_simp; done)
        focus (intro w hSw; obtain ⟨_, ⟨a0, a1⟩, ⟨b0, b1⟩, _⟩ := hSw; (first | (go_simp; done) | (go_simp; with_reducible rfl)))
        focus assumption
        (try simp only [Act.put, List.setIfInBounds_toArray, List.set_cons_zero, List.set_cons_succ])
        refine' wpAnyH_take (i := 6) (v := _) ?_ ?_ ?_ ?_ ?_ ?_ ?_ ?_
        rotate_left 2
        focus (simp only [List.getElem?_toArray, List.getElem?_cons_succ, List.getElem?_cons_zero]; rfl)
        focus kernel_rfl
        focus kernel_rfl
        focus kernel_rfl
        focus exact (fun _ _ _ h => h)
        refine Or.inl ⟨?_, ?_⟩
        focus (go_simp; done)
        focus (intro w hSw; obtain ⟨_, ⟨a0, a1⟩, ⟨b0, b1⟩, _⟩ := hSw; (first | (go_simp; done) | (go_simp; with_reducible rfl)))
        focus assumption
        (try simp only [Act.put, List.setIfInBounds_toArray, List.set_cons_zero, List.set_cons_succ])
        refine' wpAnyH_take (i := 7) (v := _) ?_ ?_ ?_ ?_ ?_ ?_ ?_ ?_
        rotate_left 2
        focus (simp only [List.getElem?_toArray, List.getElem?_cons_succ, List.getElem?_cons_zero]; rfl)
        focus kernel_rfl
        focus kernel_rfl
        focus kernel_rfl
        focus exact (fun _ _ _ h => h)
        refine Or.inl ⟨?_, ?_⟩
        focus (go_simp; done)
        focus (intro w hSw; obtain ⟨_, ⟨a0, a1⟩, ⟨b0, b1⟩, _⟩ := hSw; (first | (go_simp; done) | (go_simp; with_reducible rfl)))
        focus assumption
        (try simp only [Act.put, List.setIfInBounds_toArray, List.set_cons_zero, List.set_cons_succ])
        refine' wpAnyH_take (i := 8) (v := _) ?_ ?_ ?_ ?_ ?_ ?_ ?_ ?_
        rotate_left 2
        focus (simp only [List.getElem?_toArray, List.getElem?_cons_succ, List.getElem?_cons_zero]; rfl)
        focus kernel_rfl
        focus kernel_rfl
        focus kernel_rfl
        focus exact (fun _ _ _ h => h)
        refine Or.inl ⟨?_, ?_⟩
        focus (go_simp; done)
        focus (intro w hSw; obtain ⟨_, ⟨a0, a1⟩, ⟨b0, b1⟩, _⟩ := hSw; (first | (go_simp; done) | (go_simp; with_reducible rfl)))
        focus assumption
        (try simp only [Act.put, List.setIfInBounds_toArray, List.set_cons_zero, List.set_cons_succ])
        refine' wpAnyH_take (i := 9) (v := _) ?_ ?_ ?_ ?_ ?_ ?_ ?_ ?_
        rotate_left 2
        focus (simp only [List.getElem?_toArray, List.getElem?_cons_succ, List.getElem?_cons_zero]; rfl)
        focus kernel_rfl
        focus kernel_rfl
        focus kernel_rfl
        focus exact (fun _ _ _ h => h)
        refine Or.inl ⟨?_, ?_⟩
        focus (go_simp; done)
        focus (intro w hSw; obtain ⟨_, ⟨a0, a1⟩, ⟨b0, b1⟩, _⟩ := hSw; (first | (go_simp; done) | (go_simp; with_reducible rfl)))
        focus assumption
        (try simp only [Act.put, List.setIfInBounds_toArray, List.set_cons_zero, List.set_cons_succ])
        refine wpAnyH_ready (rs := [4, 10]) (by kernel_rfl) (by simp) ?_
        refine' AllReadyH.cons ?_ (fun K hK => ?_) ?_
        rotate_left
        focus (simp only [List.getElem?_toArray, List.getElem?_cons_succ, List.getElem?_cons_zero]; rfl)
        focus
          go_simp
          have hb := (Below.refl u0.heap.size u0).alloc (Nat.le_refl _) (.cells #[.int .i64 (b.lo)] 3)
          have hS := Bx.below hHeld hb
          clear hb
          have hs4 := sl_new1 (b.lo) 3 u0
          generalize (Value.slice (some ⟨u0.heap.size, 0, none⟩) 1 1) = v4 at *
          generalize (u0.alloc (.cells #[.int .i64 (b.lo)] 3)) = u4 at *
          refine hK.out _ _ hS (fun hHeld => ?_)
          clear hK K hS
          (try simp only [Act.put, List.setIfInBounds_toArray, List.set_cons_zero, List.set_cons_succ])
          refine wpAnyH_ready (rs := [5, 10]) (by kernel_rfl) (by simp) ?_
          refine' AllReadyH.cons ?_ (fun K hK => ?_) ?_
          rotate_left
          focus (simp only [List.getElem?_toArray, List.getElem?_cons_succ, List.getElem?_cons_zero]; rfl)
          focus
            go_simp
            (go_at_call 50; (with_reducible refine (least1 _ _ m1 HM1.out _ _ hs4).mono ?_); rintro e u5 ⟨rfl, hb⟩)
            have hS := Bx.below hHeld hb
            replace hs4 := hs4.below hb
            clear hb
            refine hK.out _ _ hS (fun hHeld => ?_)
            clear hK K hS
            (try simp only [Act.put, List.setIfInBounds_toArray, List.set_cons_zero, List.set_cons_succ])
            refine wpAnyH_ready (rs := [10]) (by kernel_rfl) (by simp) ?_
            refine' AllReadyH.cons ?_ (fun K hK => ?_) AllReadyH.nil
            rotate_left
            focus (simp only [List.getElem?_toArray, List.getElem?_cons_succ, List.getElem?_cons_zero]; rfl)
            go_simp
            have hb := (Below.refl u5.heap.size u5).alloc (Nat.le_refl _) (.cells #[.int .i64 (b.hi)] 3)
            have hS := Bx.below hHeld hb
            replace hs4 := hs4.below hb
            clear hb
            have hs10 := sl_new1 (b.hi) 3 u5
            generalize (Value.slice (some ⟨u5.heap.size, 0, none⟩) 1 1) = v10 at *
            generalize (u5.alloc (.cells #[.int .i64 (b.hi)] 3)) = u10 at *
            refine hK.out _ _ hS (fun hHeld => ?_)
            clear hK K hS
            (try simp only [Act.put, List.setIfInBounds_toArray, List.set_cons_zero, List.set_cons_succ])
            refine wpAnyH_listed (listed' := #[true, true, true, true, true, true, true, true, true, true, true, false, false, false]) (by kernel_rfl) ?_
            exact HK5_abc v4 v10 u10 ⟨hs4, hs10, hHeld⟩
          refine' AllReadyH.cons ?_ (fun K hK => ?_) ?_
          rotate_left
          focus (simp only [List.getElem?_toArray, List.getElem?_cons_succ, List.getElem?_cons_zero]; rfl)
          focus
            go_simp
            have hb := (Below.refl u4.heap.size u4).alloc (Nat.le_refl _) (.cells #[.int .i64 (b.hi)] 3)
            have hS := Bx.below hHeld hb
            replace hs4 := hs4.below hb
            clear hb
            have hs10 := sl_new1 (b.hi) 3 u4
            generalize (Value.slice (some ⟨u4.heap.size, 0, none⟩) 1 1) = v10 at *
            generalize (u4.alloc (.cells #[.int .i64 (b.hi)] 3)) = u10 at *
            refine hK.out _ _ hS (fun hHeld => ?_)
            clear hK K hS
            (try simp only [Act.put, List.setIfInBounds_toArray, List.set_cons_zero, List.set_cons_succ])
            refine wpAnyH_listed (listed' := #[true, true, true, true, true, false, true, true, true, true, true, false, false, false]) (by kernel_rfl) ?_
            exact HK5_ac v4 v10 u10 ⟨hs4, hs10, hHeld⟩
          exact AllReadyH.nil
        refine' AllReadyH.cons ?_ (fun K hK => ?_) ?_
        rotate_left
        focus (simp only [List.getElem?_toArray, List.getElem?_cons_succ, List.getElem?_cons_zero]; rfl)
        focus
          go_simp
          have hb := (Below.refl u0.heap.size u0).alloc (Nat.le_refl _) (.cells #[.int .i64 (b.hi)] 3)
          have hS := Bx.below hHeld hb
          clear hb
          have hs10 := sl_new1 (b.hi) 3 u0
          generalize (Value.slice (some ⟨u0.heap.size, 0, none⟩) 1 1) = v10 at *
          generalize (u0.alloc (.cells #[.int .i64 (b.hi)] 3)) = u10 at *
          refine hK.out _ _ hS (fun hHeld => ?_)
          clear hK K hS
          (try simp only [Act.put, List.setIfInBounds_toArray, List.set_cons_zero, List.set_cons_succ])
          refine wpAnyH_ready (rs := [4]) (by kernel_rfl) (by simp) ?_
          refine' AllReadyH.cons ?_ (fun K hK => ?_) AllReadyH.nil
          rotate_left
          focus (simp only [List.getElem?_toArray, List.getElem?_cons_succ, List.getElem?_cons_zero]; rfl)
          go_simp
          have hb := (Below.refl u10.heap.size u10).alloc (Nat.le_refl _) (.cells #[.int .i64 (b.lo)] 3)
          have hS := Bx.below hHeld hb
          replace hs10 := hs10.below hb
          clear hb
          have hs4 := sl_new1 (b.lo) 3 u10
          generalize (Value.slice (some ⟨u10.heap.size, 0, none⟩) 1 1) = v4 at *
          generalize (u10.alloc (.cells #[.int .i64 (b.lo)] 3)) = u4 at *
          refine hK.out _ _ hS (fun hHeld => ?_)
          clear hK K hS
          (try simp only [Act.put, List.setIfInBounds_toArray, List.set_cons_zero, List.set_cons_succ])
          refine wpAnyH_listed (listed' := #[true, true, true, true, true, false, true, true, true, true, true, false, false, false]) (by kernel_rfl) ?_
          exact HK5_ac v4 v10 u4 ⟨hs4, hs10, hHeld⟩
        exact AllReadyH.nil
      case hb5_ac =>
        obtain ⟨hs4, hs10, hHeld⟩ := hpre
        refine wpAnyH_ready (rs := [5]) (by kernel_rfl) (by simp) ?_
        refine' AllReadyH.cons ?_ (fun K hK => ?_) AllReadyH.nil
        rotate_left
        focus (simp only [List.getElem?_toArray, List.getElem?_cons_succ, List.getElem?_cons_zero]; rfl)
        go_simp
        (go_at_call 50; (with_reducible refine (least1 _ _ m1 HM1.out _ _ hs4).mono ?_); rintro e u5 ⟨rfl, hb⟩)
        have hS := Bx.below hHeld hb
        replace hs4 := hs4.below hb
        replace hs10 := hs10.below hb
        clear hb
        refine hK.out _ _ hS (fun hHeld => ?_)
        clear hK K hS
        (try simp only [Act.put, List.setIfInBounds_toArray, List.set_cons_zero, List.set_cons_succ])
        refine wpAnyH_listed (listed' := #[true, true, true, true, true, true, true, true, true, true, true, false, false, false]) (by kernel_rfl) ?_
        exact HK5_abc v4 v10 u5 ⟨hs4, hs10, hHeld⟩
      obtain ⟨hs4, hs10, hHeld⟩ := hpre
      refine wpAnyH_ready (rs := [11]) (by kernel_rfl) (by simp) ?_
      refine' AllReadyH.cons ?_ (fun K hK => ?_) AllReadyH.nil
      rotate_left
      focus (simp only [List.getElem?_toArray, List.getElem?_cons_succ, List.getElem?_cons_zero]; rfl)
      go_simp
      (go_at_call 42; (with_reducible refine (greatest1 _ _ m2 HM2.out _ _ hs10).mono ?_); rintro e u11 ⟨rfl, hb⟩)
      have hS := Bx.below hHeld hb
      replace hs4 := hs4.below hb
      replace hs10 := hs10.below hb
      clear hb
      refine hK.out _ _ hS (fun hHeld => ?_)
      clear hK K hS
      (try simp only [Act.put, List.setIfInBounds_toArray, List.set_cons_zero, List.set_cons_succ])
      refine' wpAnyH_take (i := 12) (v := _) ?_ ?_ ?_ ?_ ?_ ?_ ?_ ?_
      rotate_left 2
      focus (simp only [List.getElem?_toArray, List.getElem?_cons_succ, List.getElem?_cons_zero]; rfl)
      focus kernel_rfl
      focus kernel_rfl
      focus kernel_rfl
      focus exact (fun _ _ _ h => h)
      refine Or.inl ⟨?_, ?_⟩
      focus (go_simp; done)
      focus (intro w hSw; obtain ⟨_, ⟨a0, a1⟩, ⟨b0, b1⟩, _⟩ := hSw; (first | (go_simp; done) | (go_simp; with_reducible rfl)))
      focus assumption
      (try simp only [Act.put, List.setIfInBounds_toArray, List.set_cons_zero, List.set_cons_succ])
      refine wpAnyH_ready (rs := [13]) (by kernel_rfl) (by simp) ?_
      refine' AllReadyH.cons ?_ (fun K hK => ?_) AllReadyH.nil
      rotate_left
      focus (simp only [List.getElem?_toArray, List.getElem?_cons_succ, List.getElem?_cons_zero]; rfl)
      obtain ⟨hA, ⟨a0, a1⟩, ⟨b0, b1⟩, ⟨x, y, c0, c1⟩, f2⟩ := id hHeld; have hy0 := hA.lt0 (by omega); have hy1 := hA.lt1 (by omega); have hy2 := hA.lt2 (by omega)
      go_simp
      have hS := Bx.set (x := .int .i64 (m1)) (y := .int .i64 (m2)) hHeld
      refine hK.out _ _ hS (fun hHeld => ?_)
      clear hK K hS
      (try simp only [Act.put, List.setIfInBounds_toArray, List.set_cons_zero, List.set_cons_succ])
      refine wpAnyH_done (by kernel_rfl) ?_ _
      go_wp2
      refine bodyPost_ret (v := .agg #[.int .i64 m1, .int .i64 m2]) ?_ rfl ⟨rfl, hHeld.1.1⟩
      simp [results, Try.results24, go_sem, c0, c1]
set_option maxHeartbeats 4000000 in
theorem iMeet_any (p q r s : Int) (z : Iv) (hz : Iv.meet ⟨p, q⟩ ⟨r, s⟩ = z) (w : World) : Calls Try.prog 25 #[.agg #[.int .i64 p, .int .i64 q], .agg #[.int .i64 r, .int .i64 s]] w fun e w' => e = .returned (.agg #[.int .i64 (z).lo, .int .i64 (z).hi]) ∧ Below w.heap.size w w' := by
  have hA := (((Ahead.refl w).alloc (.cells #[.int .i64 p, .int .i64 q] 23)).alloc (.cells #[.int .i64 r, .int .i64 s] 23)).alloc (.cells #[.int .i64 0, .int .i64 0] 23)
  obtain ⟨a, ha⟩ : ∃ a, Iv.form ⟨p, q⟩ = a := ⟨_, rfl⟩
  obtain ⟨b, hb⟩ : ∃ b, Iv.form ⟨r, s⟩ = b := ⟨_, rfl⟩
  have oka : a = Iv.non ∨ (-2147483648 ≤ a.lo ∧ a.lo ≤ a.hi ∧ a.hi ≤ 2147483647) := ha ▸ Iv.form_ok ⟨p, q⟩
  have okb : b = Iv.non ∨ (-2147483648 ≤ b.lo ∧ b.lo ≤ b.hi ∧ b.hi ≤ 2147483647) := hb ▸ Iv.form_ok ⟨r, s⟩
  have hj : Iv.mk' (max a.lo b.lo) (min a.hi b.hi) = z := by
    rw [← hz]
    unfold Iv.meet
    rw [ha, hb]
    by_cases h1 : a = Iv.non ∨ b = Iv.non
    · rw [if_pos h1]
      unfold Iv.mk'
      rw [if_pos]
      rcases h1 with h1 | h1
      · rw [h1]; show min (0 : Int) b.hi < max 1 b.lo; omega
      · rw [h1]; show min a.hi (0 : Int) < max a.lo 1; omega
    · rw [if_neg h1]
  obtain ⟨m1, hm1⟩ : ∃ m, max a.lo b.lo = m := ⟨_, rfl⟩
  obtain ⟨m2, hm2⟩ : ∃ m, min a.hi b.hi = m := ⟨_, rfl⟩
  rw [hm1, hm2] at hj
  have HA := Lib.hid ha
  have HB := Lib.hid hb
  have HJ := Lib.hid hj
  have HM1 := Lib.hid hm1
  have HM2 := Lib.hid hm2
  clear ha hb hj hz oka okb hm1 hm2
  go_enter Try.func25, Try.ntmps25
  go_wp2
  rename_i K hK
  refine' (fun (HK : ∀ w', Bx w a b w' → K _ w') => ?_) (fun w' hHeld => ?_)
  rotate_left
  focus
    go_region_with (go_at_call 33; (first | (with_reducible refine (taken_any p q a HA.out _).mono ?_) | (with_reducible refine (taken_any r s b HB.out _).mono ?_)); rintro e w1 ⟨rfl, hb⟩; obtain ⟨hc, hf⟩ := bcell hb; (first | replace hA := hA.below hb | replace hA := hA.drew.below hb); have hz : w.heap.size + 1 + 1 < w1.heap.size := (by have := hA.2; omega); have hz2 : w.heap.size + 1 + 1 < w1.heap.size := (by omega); have hz1 : w.heap.size + 1 < w1.heap.size := (by omega); have hz0 : w.heap.size < w1.heap.size := (by omega); (try simp only [size_alloc] at hc hf))
    all_goals
      exact HK _ (bx_of (p := p) (q := q) (r := r) (s := s) hA (by go_simp) (by go_simp) (by go_simp) (by go_simp) (by go_simp) (by go_simp) (fun o => by go_simp))
  refine hK _ _ ?_
  clear hA hK
  go_wp2
  refine wp_region_held_drew (S := (fun w' => Bx w a b w')) (by kernel_rfl) (hHeld.drew) (fun hHeld => ?_)
  generalize w'.drew = u0 at *
  refine' mh2 (Pre := fun (v4 : Value) (v10 : Value) (w' : World) => Sl [b.lo] v4 w' ∧ Sl [b.hi] v10 w' ∧ ((fun w' => Bx w a b w')) w') _ #[true, true, true, true, true, true, true, true, true, true, true, false, false, false] _ (fun HK6_abc => ?ha6_abc) (fun v4 v10 w' hpre => ?hb6_abc)
  case' ha6_abc => skip
  refine' mh2 (Pre := fun (v4 : Value) (v10 : Value) (w' : World) => Sl [b.lo] v4 w' ∧ Sl [b.hi] v10 w' ∧ ((fun w' => Bx w a b w')) w') _ #[true, true, true, true, true, false, true, true, true, true, true, false, false, false] _ (fun HK6_ac => ?ha6_ac) (fun v4 v10 w' hpre => ?hb6_ac)
  case ha6_ac =>
    refine' wpAnyH_take (i := 0) (v := _) ?_ ?_ ?_ ?_ ?_ ?_ ?_ ?_
    rotate_left 2
    focus (simp only [List.getElem?_toArray, List.getElem?_cons_succ, List.getElem?_cons_zero]; rfl)
    focus kernel_rfl
    focus kernel_rfl
    focus kernel_rfl
    focus exact (fun _ _ _ h => h)
    refine Or.inl ⟨?_, ?_⟩
    focus (go_simp; done)
    focus (intro w hSw; obtain ⟨_, ⟨a0, a1⟩, ⟨b0, b1⟩, _⟩ := hSw; (first | (go_simp; done) | (go_simp; with_reducible rfl)))
    focus assumption
    (try simp only [Act.put, List.setIfInBounds_toArray, List.set_cons_zero, List.set_cons_succ])
    refine' wpAnyH_take (i := 1) (v := _) ?_ ?_ ?_ ?_ ?_ ?_ ?_ ?_
    rotate_left 2
    focus (simp only [List.getElem?_toArray, List.getElem?_cons_succ, List.getElem?_cons_zero]; rfl)
    focus kernel_rfl
    focus kernel_rfl
    focus kernel_rfl
    focus exact (fun _ _ _ h => h)
    refine Or.inl ⟨?_, ?_⟩
    focus (go_simp; done)
    focus (intro w hSw; obtain ⟨_, ⟨a0, a1⟩, ⟨b0, b1⟩, _⟩ := hSw; (first | (go_simp; done) | (go_simp; with_reducible rfl)))
    focus assumption
    (try simp only [Act.put, List.setIfInBounds_toArray, List.set_cons_zero, List.set_cons_succ])
    refine' wpAnyH_take (i := 2) (v := _) ?_ ?_ ?_ ?_ ?_ ?_ ?_ ?_
    rotate_left 2
    focus (simp only [List.getElem?_toArray, List.getElem?_cons_succ, List.getElem?_cons_zero]; rfl)
    focus kernel_rfl
    focus kernel_rfl
    focus kernel_rfl
    focus exact (fun _ _ _ h => h)
    refine Or.inl ⟨?_, ?_⟩
    focus (go_simp; done)
    focus (intro w hSw; obtain ⟨_, ⟨a0, a1⟩, ⟨b0, b1⟩, _⟩ := hSw; (first | (go_simp; done) | (go_simp; with_reducible rfl)))
    focus assumption
    (try simp only [Act.put, List.setIfInBounds_toArray, List.set_cons_zero, List.set_cons_succ])
    refine' wpAnyH_take (i := 3) (v := _) ?_ ?_ ?_ ?_ ?_ ?_ ?_ ?_
    rotate_left 2
    focus (simp only [List.getElem?_toArray, List.getElem?_cons_succ, List.getElem?_cons_zero]; rfl)
    focus kernel_rfl
    focus kernel_rfl
    focus kernel_rfl
    focus exact (fun _ _ _ h => h)
    refine Or.inl ⟨?_, ?_⟩
    focus (go_simp; done)
    focus (intro w hSw; obtain ⟨_, ⟨a0, a1⟩, ⟨b0, b1⟩, _⟩ := hSw; (first | (go_simp; done) | (go_simp; with_reducible rfl)))
    focus assumption
    (try simp only [Act.put, List.setIfInBounds_toArray, List.set_cons_zero, List.set_cons_succ])
    refine' wpAnyH_take (i := 6) (v := _) ?_ ?_ ?_ ?_ ?_ ?_ ?_ ?_
    rotate_left 2
    focus (simp only [List.getElem?_toArray, List.getElem?_cons_succ, List.getElem?_cons_zero]; rfl)
    focus kernel_rfl
    focus kernel_rfl
    focus kernel_rfl
    focus exact (fun _ _ _ h => h)
    refine Or.inl ⟨?_, ?_⟩
    focus (go_simp; done)
    focus (intro w hSw; obtain ⟨_, ⟨a0, a1⟩, ⟨b0, b1⟩, _⟩ := hSw; (first | (go_simp; done) | (go_simp; with_reducible rfl)))
    focus assumption
    (try simp only [Act.put, List.setIfInBounds_toArray, List.set_cons_zero, List.set_cons_succ])
    refine' wpAnyH_take (i := 7) (v := _) ?_ ?_ ?_ ?_ ?_ ?_ ?_ ?_
    rotate_left 2
    focus (simp only [List.getElem?_toArray, List.getElem?_cons_succ, List.getElem?_cons_zero]; rfl)
    focus kernel_rfl
    focus kernel_rfl
    focus kernel_rfl
    focus exact (fun _ _ _ h => h)
    refine Or.inl ⟨?_, ?_⟩
    focus (go_simp; done)
    focus (intro w hSw; obtain ⟨_, ⟨a0, a1⟩, ⟨b0, b1⟩, _⟩ := hSw; (first | (go_simp; done) | (go_simp; with_reducible rfl)))
    focus assumption
    (try simp only [Act.put, List.setIfInBounds_toArray, List.set_cons_zero, List.set_cons_succ])
    refine' wpAnyH_take (i := 8) (v := _) ?_ ?_ ?_ ?_ ?_ ?_ ?_ ?_
    rotate_left 2
    focus (simp only [List.getElem?_toArray, List.getElem?_cons_succ, List.getElem?_cons_zero]; rfl)
    focus kernel_rfl
    focus kernel_rfl
    focus kernel_rfl
    focus exact (fun _ _ _ h => h)
    refine Or.inl ⟨?_, ?_⟩
    focus (go_simp; done)
    focus (intro w hSw; obtain ⟨_, ⟨a0, a1⟩, ⟨b0, b1⟩, _⟩ := hSw; (first | (go_simp; done) | (go_simp; with_reducible rfl)))
    focus assumption
    (try simp only [Act.put, List.setIfInBounds_toArray, List.set_cons_zero, List.set_cons_succ])
    refine' wpAnyH_take (i := 9) (v := _) ?_ ?_ ?_ ?_ ?_ ?_ ?_ ?_
    rotate_left 2
    focus (simp only [List.getElem?_toArray, List.getElem?_cons_succ, List.getElem?_cons_zero]; rfl)
    focus kernel_rfl
    focus kernel_rfl
    focus kernel_rfl
    focus exact (fun _ _ _ h => h)
    refine Or.inl ⟨?_, ?_⟩
    focus (go_simp; done)
    focus (intro w hSw; obtain ⟨_, ⟨a0, a1⟩, ⟨b0, b1⟩, _⟩ := hSw; (first | (go_simp; done) | (go_simp; with_reducible rfl)))
    focus assumption
    (try simp only [Act.put, List.setIfInBounds_toArray, List.set_cons_zero, List.set_cons_succ])
    refine wpAnyH_ready (rs := [4, 10]) (by kernel_rfl) (by simp) ?_
    refine' AllReadyH.cons ?_ (fun K hK => ?_) ?_
    rotate_left
    focus (simp only [List.getElem?_toArray, List.getElem?_cons_succ, List.getElem?_cons_zero]; rfl)
    focus
      go_simp
      have hb := (Below.refl u0.heap.size u0).alloc (Nat.le_refl _) (.cells #[.int .i64 (b.lo)] 3)
      have hS := Bx.below hHeld hb
      clear hb
      have hs4 := sl_new1 (b.lo) 3 u0
      generalize (Value.slice (some ⟨u0.heap.size, 0, none⟩) 1 1) = v4 at *
      generalize (u0.alloc (.cells #[.int .i64 (b.lo)] 3)) = u4 at *
      refine hK.out _ _ hS (fun hHeld => ?_)
      clear hK K hS
      (try simp only [Act.put, List.setIfInBounds_toArray, List.set_cons_zero, List.set_cons_succ])
      refine wpAnyH_ready (rs := [5, 10]) (by kernel_rfl) (by simp) ?_
      refine' AllReadyH.cons ?_ (fun K hK => ?_) ?_
      rotate_left
      focus (simp only [List.getElem?_toArray, List.getElem?_cons_succ, List.getElem?_cons_zero]; rfl)
      focus
        go_simp
        (go_at_call 42; (with_reducible refine (greatest1 _ _ m1 HM1.out _ _ hs4).mono ?_); rintro e u5 ⟨rfl, hb⟩)
        have hS := Bx.below hHeld hb
        replace hs4 := hs4.below hb
        clear hb
        refine hK.out _ _ hS (fun hHeld => ?_)
        clear hK K hS
        (try simp only [Act.put, List.setIfInBounds_toArray, List.set_cons_zero, List.set_cons_succ])
        refine wpAnyH_ready (rs := [10]) (by kernel_rfl) (by simp) ?_
        refine' AllReadyH.cons ?_ (fun K hK => ?_) AllReadyH.nil
        rotate_left
        focus (simp only [List.getElem?_toArray, List.getElem?_cons_succ, List.getElem?_cons_zero]; rfl)
        go_simp
        have hb := (Below.refl u5.heap.size u5).alloc (Nat.le_refl _) (.cells #[.int .i64 (b.hi)] 3)
        have hS := Bx.below hHeld hb
        replace hs4 := hs4.below hb
        clear hb
        have hs10 := sl_new1 (b.hi) 3 u5
        generalize (Value.slice (some ⟨u5.heap.size, 0, none⟩) 1 1) = v10 at *
        generalize (u5.alloc (.cells #[.int .i64 (b.hi)] 3)) = u10 at *
        refine hK.out _ _ hS (fun hHeld => ?_)
        clear hK K hS
        (try simp only [Act.put, List.setIfInBounds_toArray, List.set_cons_zero, List.set_cons_succ])
        refine wpAnyH_listed (listed' := #[true, true, true, true, true, true, true, true, true, true, true, false, false, false]) (by kernel_rfl) ?_
        exact HK6_abc v4 v10 u10 ⟨hs4, hs10, hHeld⟩
      refine' AllReadyH.cons ?_ (fun K hK => ?_) ?_
      rotate_left
      focus (simp only [List.getElem?_toArray, List.getElem?_cons_succ, List.getElem?_cons_zero]; rfl)
      focus
        go_simp
        have hb := (Below.refl u4.heap.size u4).alloc (Nat.le_refl _) (.cells #[.int .i64 (b.hi)] 3)
        have hS := Bx.below hHeld hb
        replace hs4 := hs4.below hb
        clear hb
        have hs10 := sl_new1 (b.hi) 3 u4
        generalize (Value.slice (some ⟨u4.heap.size, 0, none⟩) 1 1) = v10 at *
        generalize (u4.alloc (.cells #[.int .i64 (b.hi)] 3)) = u10 at *
        refine hK.out _ _ hS (fun hHeld => ?_)
        clear hK K hS
        (try simp only [Act.put, List.setIfInBounds_toArray, List.set_cons_zero, List.set_cons_succ])
        refine wpAnyH_listed (listed' := #[true, true, true, true, true, false, true, true, true, true, true, false, false, false]) (by kernel_rfl) ?_
        exact HK6_ac v4 v10 u10 ⟨hs4, hs10, hHeld⟩
      exact AllReadyH.nil
    refine' AllReadyH.cons ?_ (fun K hK => ?_) ?_
    rotate_left
    focus (simp only [List.getElem?_toArray, List.getElem?_cons_succ, List.getElem?_cons_zero]; rfl)
    focus
      go_simp
      have hb := (Below.refl u0.heap.size u0).alloc (Nat.le_refl _) (.cells #[.int .i64 (b.hi)] 3)
      have hS := Bx.below hHeld hb
      clear hb
      have hs10 := sl_new1 (b.hi) 3 u0
      generalize (Value.slice (some ⟨u0.heap.size, 0, none⟩) 1 1) = v10 at *
      generalize (u0.alloc (.cells #[.int .i64 (b.hi)] 3)) = u10 at *
      refine hK.out _ _ hS (fun hHeld => ?_)
      clear hK K hS
      (try simp only [Act.put, List.setIfInBounds_toArray, List.set_cons_zero, List.set_cons_succ])
      refine wpAnyH_ready (rs := [4]) (by kernel_rfl) (by simp) ?_
      refine' AllReadyH.cons ?_ (fun K hK => ?_) AllReadyH.nil
      rotate_left
      focus (simp only [List.getElem?_toArray, List.getElem?_cons_succ, List.getElem?_cons_zero]; rfl)
      go_simp
      have hb := (Below.refl u10.heap.size u10).alloc (Nat.le_refl _) (.cells #[.int .i64 (b.lo)] 3)
      have hS := Bx.below hHeld hb
      replace hs10 := hs10.below hb
      clear hb
      have hs4 := sl_new1 (b.lo) 3 u10
      generalize (Value.slice (some ⟨u10.heap.size, 0, none⟩) 1 1) = v4 at *
      generalize (u10.alloc (.cells #[.int .i64 (b.lo)] 3)) = u4 at *
      refine hK.out _ _ hS (fun hHeld => ?_)
      clear hK K hS
      (try simp only [Act.put, List.setIfInBounds_toArray, List.set_cons_zero, List.set_cons_succ])
      refine wpAnyH_listed (listed' := #[true, true, true, true, true, false, true, true, true, true, true, false, false, false]) (by kernel_rfl) ?_
      exact HK6_ac v4 v10 u4 ⟨hs4, hs10, hHeld⟩
    exact AllReadyH.nil
  case hb6_ac =>
    obtain ⟨hs4, hs10, hHeld⟩ := hpre
    refine wpAnyH_ready (rs := [5]) (by kernel_rfl) (by simp) ?_
    refine' AllReadyH.cons ?_ (fun K hK => ?_) AllReadyH.nil
    rotate_left
    focus (simp only [List.getElem?_toArray, List.getElem?_cons_succ, List.getElem?_cons_zero]; rfl)
    go_simp
    (go_at_call 42; (with_reducible refine (greatest1 _ _ m1 HM1.out _ _ hs4).mono ?_); rintro e u5 ⟨rfl, hb⟩)
    have hS := Bx.below hHeld hb
    replace hs4 := hs4.below hb
    replace hs10 := hs10.below hb
    clear hb
    refine hK.out _ _ hS (fun hHeld => ?_)
    clear hK K hS
    (try simp only [Act.put, List.setIfInBounds_toArray, List.set_cons_zero, List.set_cons_succ])
    refine wpAnyH_listed (listed' := #[true, true, true, true, true, true, true, true, true, true, true, false, false, false]) (by kernel_rfl) ?_
    exact HK6_abc v4 v10 u5 ⟨hs4, hs10, hHeld⟩
  obtain ⟨hs4, hs10, hHeld⟩ := hpre
  refine wpAnyH_ready (rs := [11]) (by kernel_rfl) (by simp) ?_
  refine' AllReadyH.cons ?_ (fun K hK => ?_) AllReadyH.nil
  rotate_left
  focus (simp only [List.getElem?_toArray, List.getElem?_cons_succ, List.getElem?_cons_zero]; rfl)
  go_simp
  (go_at_call 50; (with_reducible refine (least1 _ _ m2 HM2.out _ _ hs10).mono ?_); rintro e u11 ⟨rfl, hb⟩)
  have hS := Bx.below hHeld hb
  replace hs4 := hs4.below hb
  replace hs10 := hs10.below hb
  clear hb
  refine hK.out _ _ hS (fun hHeld => ?_)
  clear hK K hS
  (try simp only [Act.put, List.setIfInBounds_toArray, List.set_cons_zero, List.set_cons_succ])
  refine wpAnyH_ready (rs := [12]) (by kernel_rfl) (by simp) ?_
  refine' AllReadyH.cons ?_ (fun K hK => ?_) AllReadyH.nil
  rotate_left
  focus (simp only [List.getElem?_toArray, List.getElem?_cons_succ, List.getElem?_cons_zero]; rfl)
  go_simp
  (go_at_call 51; (with_reducible refine (span_any m1 m2 z HJ.out _).mono ?_); rintro e u12 ⟨rfl, hb⟩)
  have hS := Bx.below hHeld hb
  replace hs4 := hs4.below hb
  replace hs10 := hs10.below hb
  clear hb
  refine hK.out _ _ hS (fun hHeld => ?_)
  clear hK K hS
  (try simp only [Act.put, List.setIfInBounds_toArray, List.set_cons_zero, List.set_cons_succ])
  refine wpAnyH_ready (rs := [13]) (by kernel_rfl) (by simp) ?_
  refine' AllReadyH.cons ?_ (fun K hK => ?_) AllReadyH.nil
  rotate_left
  focus (simp only [List.getElem?_toArray, List.getElem?_cons_succ, List.getElem?_cons_zero]; rfl)
  obtain ⟨hA, ⟨a0, a1⟩, ⟨b0, b1⟩, ⟨x, y, c0, c1⟩, f2⟩ := id hHeld; have hy0 := hA.lt0 (by omega); have hy1 := hA.lt1 (by omega); have hy2 := hA.lt2 (by omega)
  go_simp
  have hS := Bx.set (x := .int .i64 (z.lo)) (y := .int .i64 (z.hi)) hHeld
  refine hK.out _ _ hS (fun hHeld => ?_)
  clear hK K hS
  (try simp only [Act.put, List.setIfInBounds_toArray, List.set_cons_zero, List.set_cons_succ])
  refine wpAnyH_done (by kernel_rfl) ?_ _
  go_wp2
  refine bodyPost_ret (v := .agg #[.int .i64 (z).lo, .int .i64 (z).hi]) ?_ rfl ⟨rfl, hHeld.1.1⟩
  simp [results, Try.results25, go_sem, c0, c1]
/-- Two boxes. -/
def B2 (w : World) (a b : Iv) (u : World) : Prop := Ahead 2 w u ∧ (u.cell? ⟨w.heap.size, 0, none⟩ = some (.int .i64 a.lo) ∧ u.cell? ⟨w.heap.size, 1, none⟩ = some (.int .i64 a.hi)) ∧ (u.cell? ⟨w.heap.size + 1, 0, none⟩ = some (.int .i64 b.lo) ∧ u.cell? ⟨w.heap.size + 1, 1, none⟩ = some (.int .i64 b.hi))
theorem B2.below {w u v : World} {a b : Iv} (h : B2 w a b u) (hb : Below u.heap.size u v) : B2 w a b v := by
  obtain ⟨hA, ⟨a0, a1⟩, ⟨b0, b1⟩⟩ := h
  exact ⟨hA.below hb, ⟨hA.cell0 hb a0 (by omega), hA.cell0 hb a1 (by omega)⟩, ⟨hA.cell hb b0 (by omega), hA.cell hb b1 (by omega)⟩⟩
theorem B2.drew {w u : World} {a b : Iv} (h : B2 w a b u) : B2 w a b u.drew := h.below (below_drewN _ u 1)
theorem b2_new (w : World) (a b : Iv) (t : TypeId) : B2 w a b ((w.alloc (.cells #[.int .i64 a.lo, .int .i64 a.hi] t)).alloc (.cells #[.int .i64 b.lo, .int .i64 b.hi] t)) :=
  ⟨((Ahead.refl w).alloc _).alloc _, ⟨by go_simp, by go_simp⟩, ⟨by go_simp, by go_simp⟩⟩
set_option maxHeartbeats 4000000 in
theorem iLeq_any (p q r s : Int) (t : Bool) (ht : Iv.leq ⟨p, q⟩ ⟨r, s⟩ = t) (w : World) : Calls Try.prog 22 #[.agg #[.int .i64 p, .int .i64 q], .agg #[.int .i64 r, .int .i64 s]] w fun e w' => e = .returned (.bool t) ∧ Below w.heap.size w w' := by
  have hHeld := b2_new w ⟨p, q⟩ ⟨r, s⟩ 23
  obtain ⟨a, ha⟩ : ∃ a, Iv.form ⟨p, q⟩ = a := ⟨_, rfl⟩
  obtain ⟨m, hm⟩ : ∃ m, Iv.meet ⟨p, q⟩ ⟨r, s⟩ = m := ⟨_, rfl⟩
  have hj : ((m.lo == a.lo) && (m.hi == a.hi)) = t := by
    rw [← ht]
    unfold Iv.leq
    rw [hm, ha, Bool.eq_iff_iff]
    simp
    exact ⟨fun h => Iv.iv_ext h.1 h.2, fun h => by rw [h]; exact ⟨rfl, rfl⟩⟩
  have hg := iv_guard
  have he := iv_eql m.lo m.hi a.lo a.hi t hj
  have HA := Lib.hid ha
  have HM := Lib.hid hm
  clear ha hm hj ht
  go_enter Try.func22, Try.ntmps22
  go_wp2
  refine wp_region_held_drew (S := (fun w' => B2 w ⟨p, q⟩ ⟨r, s⟩ w')) (by kernel_rfl) (hHeld.drew) (fun hHeld => ?_)
  generalize ((w.alloc (.cells #[.int .i64 p, .int .i64 q] 23)).alloc (.cells #[.int .i64 r, .int .i64 s] 23)).drew = u0 at *
  refine' wpAnyH_take (i := 0) (v := _) ?_ ?_ ?_ ?_ ?_ ?_ ?_ ?_
  rotate_left 2
  focus (simp only [List.getElem?_toArray, List.getElem?_cons_succ, List.getElem?_cons_zero]; rfl)
  focus kernel_rfl
  focus kernel_rfl
  focus kernel_rfl
  focus exact (fun _ _ _ h => h)
  refine Or.inl ⟨?_, ?_⟩
  focus (go_simp; done)
  focus (intro w hSw; obtain ⟨_, ⟨a0, a1⟩, ⟨b0, b1⟩⟩ := hSw; (first | (go_simp; done) | (go_simp; with_reducible rfl)))
  focus assumption
  (try simp only [Act.put, List.setIfInBounds_toArray, List.set_cons_zero, List.set_cons_succ])
  refine' wpAnyH_take (i := 1) (v := _) ?_ ?_ ?_ ?_ ?_ ?_ ?_ ?_
  rotate_left 2
  focus (simp only [List.getElem?_toArray, List.getElem?_cons_succ, List.getElem?_cons_zero]; rfl)
  focus kernel_rfl
  focus kernel_rfl
  focus kernel_rfl
  focus exact (fun _ _ _ h => h)
  refine Or.inl ⟨?_, ?_⟩
  focus (go_simp; done)
  focus (intro w hSw; obtain ⟨_, ⟨a0, a1⟩, ⟨b0, b1⟩⟩ := hSw; (first | (go_simp; done) | (go_simp; with_reducible rfl)))
  focus assumption
  (try simp only [Act.put, List.setIfInBounds_toArray, List.set_cons_zero, List.set_cons_succ])
  refine' wpAnyH_take (i := 3) (v := _) ?_ ?_ ?_ ?_ ?_ ?_ ?_ ?_
  rotate_left 2
  focus (simp only [List.getElem?_toArray, List.getElem?_cons_succ, List.getElem?_cons_zero]; rfl)
  focus kernel_rfl
  focus kernel_rfl
  focus kernel_rfl
  focus exact (fun _ _ _ h => h)
  refine Or.inl ⟨?_, ?_⟩
  focus (go_simp; done)
  focus (intro w hSw; obtain ⟨_, ⟨a0, a1⟩, ⟨b0, b1⟩⟩ := hSw; (first | (go_simp; done) | (go_simp; with_reducible rfl)))
  focus assumption
  (try simp only [Act.put, List.setIfInBounds_toArray, List.set_cons_zero, List.set_cons_succ])
  refine wpAnyH_ready (rs := [2]) (by kernel_rfl) (by simp) ?_
  refine' AllReadyH.cons ?_ (fun K hK => ?_) AllReadyH.nil
  rotate_left
  focus (simp only [List.getElem?_toArray, List.getElem?_cons_succ, List.getElem?_cons_zero]; rfl)
  go_simp
  (go_at_call 25; (with_reducible refine (iMeet_any p q r s m HM.out _).mono ?_); rintro e u2 ⟨rfl, hb⟩)
  have hS := B2.below hHeld hb
  clear hb
  refine hK.out _ _ hS (fun hHeld => ?_)
  clear hK K hS
  (try simp only [Act.put, List.setIfInBounds_toArray, List.set_cons_zero, List.set_cons_succ])
  refine wpAnyH_ready (rs := [4]) (by kernel_rfl) (by simp) ?_
  refine' AllReadyH.cons ?_ (fun K hK => ?_) AllReadyH.nil
  rotate_left
  focus (simp only [List.getElem?_toArray, List.getElem?_cons_succ, List.getElem?_cons_zero]; rfl)
  go_simp
  (go_at_call 33; (with_reducible refine (taken_any p q a HA.out _).mono ?_); rintro e u4 ⟨rfl, hb⟩)
  have hS := B2.below hHeld hb
  clear hb
  refine hK.out _ _ hS (fun hHeld => ?_)
  clear hK K hS
  (try simp only [Act.put, List.setIfInBounds_toArray, List.set_cons_zero, List.set_cons_succ])
  refine' wpAnyH_take (i := 5) (v := _) ?_ ?_ ?_ ?_ ?_ ?_ ?_ ?_
  rotate_left 2
  focus (simp only [List.getElem?_toArray, List.getElem?_cons_succ, List.getElem?_cons_zero]; rfl)
  focus kernel_rfl
  focus kernel_rfl
  focus kernel_rfl
  focus exact (fun _ _ _ h => h)
  refine Or.inl ⟨?_, ?_⟩
  focus (go_simp; done)
  focus (intro w hSw; obtain ⟨_, ⟨a0, a1⟩, ⟨b0, b1⟩⟩ := hSw; (first | (go_simp; done) | (go_simp; with_reducible rfl)))
  focus assumption
  (try simp only [Act.put, List.setIfInBounds_toArray, List.set_cons_zero, List.set_cons_succ])
  refine' wpAnyH_take (i := 6) (v := _) ?_ ?_ ?_ ?_ ?_ ?_ ?_ ?_
  rotate_left 2
  focus (simp only [List.getElem?_toArray, List.getElem?_cons_succ, List.getElem?_cons_zero]; rfl)
  focus kernel_rfl
  focus kernel_rfl
  focus kernel_rfl
  focus exact (fun _ _ _ h => h)
  refine Or.inl ⟨?_, ?_⟩
  focus (go_simp; done)
  focus (intro w hSw; obtain ⟨_, ⟨a0, a1⟩, ⟨b0, b1⟩⟩ := hSw; (first | (go_simp; done) | (go_simp; with_reducible rfl)))
  focus assumption
  (try simp only [Act.put, List.setIfInBounds_toArray, List.set_cons_zero, List.set_cons_succ])
  refine wpAnyH_done (by kernel_rfl) ?_ _
  go_wp2
  go_ret
  exact ⟨rfl, hHeld.1.1⟩
end Go.Proofs.Ytdajgopgaklipaa
