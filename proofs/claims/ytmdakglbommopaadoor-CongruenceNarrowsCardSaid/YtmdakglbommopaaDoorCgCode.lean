/- The code of layer 8: Do. Condition: the library's table of trailing zeros lies in the world. -/
import Derived.Test.YtmdakglbommopaaDoorCcAround
namespace Go.Proofs.YtmdakglbommopaaDoor
open Go.RowKit
set_option linter.unusedVariables false
set_option linter.unusedSimpArgs false
attribute [local go_sem] y_undef
set_option maxHeartbeats 8000000 in
theorem cDo_any (o p q r s : Int) (z : Rs) (hz : Rs.act o ⟨p, q⟩ ⟨r, s⟩ = z) (w : World) (htb : Tb w) : Calls Tryd.prog 15 #[.int .i64 o, .agg #[.int .i64 p, .int .i64 q], .agg #[.int .i64 r, .int .i64 s]] w fun e w' => e = .returned (.agg #[.int .i64 z.m, .int .i64 z.r]) ∧ Below w.heap.size w w' := by
  have hA := (((Ahead.refl w).alloc (.cells #[.int .i64 p, .int .i64 q] 23)).alloc (.cells #[.int .i64 r, .int .i64 s] 23)).alloc (.cells #[.int .i64 0, .int .i64 0] 23)
  obtain ⟨a, ha⟩ : ∃ a, Rs.form ⟨p, q⟩ = a := ⟨_, rfl⟩
  obtain ⟨b, hb⟩ : ∃ b, Rs.form ⟨r, s⟩ = b := ⟨_, rfl⟩
  have oka : Rs.F a := ha ▸ Rs.f_form ⟨p, q⟩
  have okb : Rs.F b := hb ▸ Rs.f_form ⟨r, s⟩
  have HA := Lib.hid ha
  have HB := Lib.hid hb
  have HTb := Lib.hid htb
  clear htb
  have hj : (if a = Rs.non ∨ b = Rs.non then Rs.non else Rs.op o a b) = z := by rw [← hz, ← ha, ← hb]; rfl
  have HOK := Lib.hid (And.intro oka okb)
  have HJ := Lib.hid hj
  clear ha hb hj hz oka okb
  have hg := rs_guard
  go_enter Tryd.func15, Tryd.ntmps15
  go_wp2
  rename_i K hK
  refine' (fun (HK : ∀ w', C3 w a b w' → K _ w') => ?_) (fun w' hHeld => ?_)
  rotate_left
  focus
    go_region_with (have hTa := HTb.out.below hA.1; have hTd := HTb.out.below hA.drew.1; go_at_call 31; (first | (with_reducible refine (taken_any p q a HA.out _ hTa).mono ?_) | (with_reducible refine (taken_any p q a HA.out _ hTd).mono ?_) | (with_reducible refine (taken_any r s b HB.out _ hTa).mono ?_) | (with_reducible refine (taken_any r s b HB.out _ hTd).mono ?_) | fail); clear hTa hTd; rintro e w1 ⟨rfl, hb⟩; obtain ⟨hc, hf⟩ := bcell hb; (first | replace hA := hA.below hb | replace hA := hA.drew.below hb); have hz : w.heap.size + 1 + 1 < w1.heap.size := (by have := hA.2; omega); have hz0 : w.heap.size < w1.heap.size := (by omega); have hz1 : w.heap.size + 1 < w1.heap.size := (by omega); (try simp only [size_alloc] at hc hf))
    all_goals
      exact HK _ (c3_of (rbox3_of (p := p) (q := q) (r := r) (s := s) hA (by go_simp) (by go_simp) (by go_simp) (by go_simp) (by go_simp) (by go_simp) (fun o => by go_simp)))
  refine hK _ _ ?_
  clear hA hK
  by_cases hn : a = Rs.non
  · have he := rs_eql a.m a.r (-1) 0 true (rs_is a hn)
    have HZ := Lib.hid (show Rs.non = z by rw [← HJ.out, if_pos (.inl hn)])
    clear hn HJ HA HB
    go_wp2_with fail
    refine wp_region_held_drew (S := (fun w' => C3 w a b w')) (by kernel_rfl) (hHeld.drew) (fun hHeld => ?_)
    generalize w'.drew = u0 at *
    refine' wpAnyH_take (i := 0) (v := _) ?_ ?_ ?_ ?_ ?_ ?_ ?_ ?_
    rotate_left 2
    focus (simp only [List.getElem?_toArray, List.getElem?_cons_succ, List.getElem?_cons_zero]; rfl)
    focus kernel_rfl
    focus kernel_rfl
    focus kernel_rfl
    focus exact (fun _ _ _ h => h)
    refine Or.inl ⟨?_, ?_⟩
    focus (go_simp; done)
    focus (intro w hSw; obtain ⟨_, ⟨a0, a1⟩, ⟨b0, b1⟩, _⟩ := hSw; (first | (go_simp; done) | (go_simp; with_reducible rfl)))
    focus assumption
    (try simp only [Act.put, List.setIfInBounds_toArray, List.set_cons_zero, List.set_cons_succ])
    refine wpAnyH_ready (rs := [1]) (by kernel_rfl) (by simp) ?_
    refine' AllReadyH.cons ?_ (fun K hK => ?_) AllReadyH.nil
    rotate_left
    focus (simp only [List.getElem?_toArray, List.getElem?_cons_succ, List.getElem?_cons_zero]; rfl)
    go_simp
    (go_at_call 11; (with_reducible refine (cNone_any _).mono ?_); rintro e u1 ⟨rfl, hb⟩)
    have hS := C3.below hHeld hb
    clear hb
    refine hK.out _ _ hS (fun hHeld => ?_)
    clear hK K hS
    (try simp only [Act.put, List.setIfInBounds_toArray, List.set_cons_zero, List.set_cons_succ])
    refine' wpAnyH_take (i := 2) (v := _) ?_ ?_ ?_ ?_ ?_ ?_ ?_ ?_
    rotate_left 2
    focus (simp only [List.getElem?_toArray, List.getElem?_cons_succ, List.getElem?_cons_zero]; rfl)
    focus kernel_rfl
    focus kernel_rfl
    focus kernel_rfl
    focus exact (fun _ _ _ h => h)
    refine Or.inl ⟨?_, ?_⟩
    focus (go_simp; done)
    focus (intro w hSw; obtain ⟨_, ⟨a0, a1⟩, ⟨b0, b1⟩, _⟩ := hSw; (first | (go_simp; done) | (go_simp; with_reducible rfl)))
    focus assumption
    (try simp only [Act.put, List.setIfInBounds_toArray, List.set_cons_zero, List.set_cons_succ])
    refine' wpAnyH_take (i := 3) (v := _) ?_ ?_ ?_ ?_ ?_ ?_ ?_ ?_
    rotate_left 2
    focus (simp only [List.getElem?_toArray, List.getElem?_cons_succ, List.getElem?_cons_zero]; rfl)
    focus kernel_rfl
    focus kernel_rfl
    focus kernel_rfl
    focus exact (fun _ _ _ h => h)
    refine Or.inl ⟨?_, ?_⟩
    focus (go_simp; done)
    focus (intro w hSw; obtain ⟨_, ⟨a0, a1⟩, ⟨b0, b1⟩, _⟩ := hSw; (first | (go_simp; done) | (go_simp; with_reducible rfl)))
    focus assumption
    (try simp only [Act.put, List.setIfInBounds_toArray, List.set_cons_zero, List.set_cons_succ])
    refine' wpAnyH_take (i := 4) (v := undef) ?_ ?_ ?_ ?_ ?_ ?_ ?_ ?_
    rotate_left 1
    focus (simp only [List.getElem?_toArray, List.getElem?_cons_succ, List.getElem?_cons_zero]; rfl)
    focus kernel_rfl
    focus kernel_rfl
    focus kernel_rfl
    focus exact (fun _ _ _ h => h)
    refine Or.inr ⟨?_, rfl⟩
    focus (go_simp; done)
    focus assumption
    (try simp only [Act.put, List.setIfInBounds_toArray, List.set_cons_zero, List.set_cons_succ])
    refine' wpAnyH_take (i := 5) (v := undef) ?_ ?_ ?_ ?_ ?_ ?_ ?_ ?_
    rotate_left 1
    focus (simp only [List.getElem?_toArray, List.getElem?_cons_succ, List.getElem?_cons_zero]; rfl)
    focus kernel_rfl
    focus kernel_rfl
    focus kernel_rfl
    focus exact (fun _ _ _ h => h)
    refine Or.inr ⟨?_, rfl⟩
    focus (go_simp; done)
    focus assumption
    (try simp only [Act.put, List.setIfInBounds_toArray, List.set_cons_zero, List.set_cons_succ])
    refine' wpAnyH_take (i := 6) (v := undef) ?_ ?_ ?_ ?_ ?_ ?_ ?_ ?_
    rotate_left 1
    focus (simp only [List.getElem?_toArray, List.getElem?_cons_succ, List.getElem?_cons_zero]; rfl)
    focus kernel_rfl
    focus kernel_rfl
    focus kernel_rfl
    focus exact (fun _ _ _ h => h)
    refine Or.inr ⟨?_, rfl⟩
    focus (go_simp; done)
    focus assumption
    (try simp only [Act.put, List.setIfInBounds_toArray, List.set_cons_zero, List.set_cons_succ])
    refine' wpAnyH_take (i := 7) (v := _) ?_ ?_ ?_ ?_ ?_ ?_ ?_ ?_
    rotate_left 2
    focus (simp only [List.getElem?_toArray, List.getElem?_cons_succ, List.getElem?_cons_zero]; rfl)
    focus kernel_rfl
    focus kernel_rfl
    focus kernel_rfl
    focus exact (fun _ _ _ h => h)
    refine Or.inl ⟨?_, ?_⟩
    focus (go_simp; done)
    focus (intro w hSw; obtain ⟨_, ⟨a0, a1⟩, ⟨b0, b1⟩, _⟩ := hSw; (first | (go_simp; done) | (go_simp; with_reducible rfl)))
    focus assumption
    (try simp only [Act.put, List.setIfInBounds_toArray, List.set_cons_zero, List.set_cons_succ])
    refine wpAnyH_done (by kernel_rfl) ?_ _
    obtain ⟨hA, ⟨a0, a1⟩, ⟨b0, b1⟩, ⟨x, y, c0, c1⟩, f2⟩ := id hHeld; have hy0 := hA.lt0 (by omega); have hy1 := hA.lt1 (by omega); have hy2 := hA.lt2 (by omega)
    go_wp2_with fail
    refine (cNone_any _).mono ?_
    rintro e w4 ⟨rfl, hb⟩
    clear hA a0 a1 b0 b1 c0 c1 f2 hy0 hy1 hy2 x y
    replace hHeld := hHeld.below hb
    clear hb
    obtain ⟨hA, ⟨a0, a1⟩, ⟨b0, b1⟩, ⟨x, y, c0, c1⟩, f2⟩ := id hHeld; have hy0 := hA.lt0 (by omega); have hy1 := hA.lt1 (by omega); have hy2 := hA.lt2 (by omega)
    go_wp2
    rw [← HZ.out]
    refine bodyPost_ret (v := .agg #[.int .i64 Rs.non.m, .int .i64 Rs.non.r]) ?_ rfl ⟨rfl, hHeld.set.1.1⟩
    simp [results, Tryd.results15, go_sem, c0, c1, hy2, Rs.non]
  · have he := rs_eql a.m a.r (-1) 0 false (rs_not a hn)
    by_cases hm : b = Rs.non
    · have he2 := rs_eql b.m b.r (-1) 0 true (rs_is b hm)
      have HZ := Lib.hid (show Rs.non = z by rw [← HJ.out, if_pos (.inr hm)])
      clear hn hm HJ HA HB
      go_wp2_with fail
      refine wp_region_held_drew (S := (fun w' => C3 w a b w')) (by kernel_rfl) (hHeld.drew) (fun hHeld => ?_)
      generalize w'.drew = u0 at *
      refine' wpAnyH_take (i := 0) (v := _) ?_ ?_ ?_ ?_ ?_ ?_ ?_ ?_
      rotate_left 2
      focus (simp only [List.getElem?_toArray, List.getElem?_cons_succ, List.getElem?_cons_zero]; rfl)
      focus kernel_rfl
      focus kernel_rfl
      focus kernel_rfl
      focus exact (fun _ _ _ h => h)
      refine Or.inl ⟨?_, ?_⟩
      focus (go_simp; done)
      focus (intro w hSw; obtain ⟨_, ⟨a0, a1⟩, ⟨b0, b1⟩, _⟩ := hSw; (first | (go_simp; done) | (go_simp; with_reducible rfl)))
      focus assumption
      (try simp only [Act.put, List.setIfInBounds_toArray, List.set_cons_zero, List.set_cons_succ])
      refine wpAnyH_ready (rs := [1]) (by kernel_rfl) (by simp) ?_
      refine' AllReadyH.cons ?_ (fun K hK => ?_) AllReadyH.nil
      rotate_left
      focus (simp only [List.getElem?_toArray, List.getElem?_cons_succ, List.getElem?_cons_zero]; rfl)
      go_simp
      (go_at_call 11; (with_reducible refine (cNone_any _).mono ?_); rintro e u1 ⟨rfl, hb⟩)
      have hS := C3.below hHeld hb
      clear hb
      refine hK.out _ _ hS (fun hHeld => ?_)
      clear hK K hS
      (try simp only [Act.put, List.setIfInBounds_toArray, List.set_cons_zero, List.set_cons_succ])
      refine' wpAnyH_take (i := 2) (v := _) ?_ ?_ ?_ ?_ ?_ ?_ ?_ ?_
      rotate_left 2
      focus (simp only [List.getElem?_toArray, List.getElem?_cons_succ, List.getElem?_cons_zero]; rfl)
      focus kernel_rfl
      focus kernel_rfl
      focus kernel_rfl
      focus exact (fun _ _ _ h => h)
      refine Or.inl ⟨?_, ?_⟩
      focus (go_simp; done)
      focus (intro w hSw; obtain ⟨_, ⟨a0, a1⟩, ⟨b0, b1⟩, _⟩ := hSw; (first | (go_simp; done) | (go_simp; with_reducible rfl)))
      focus assumption
      (try simp only [Act.put, List.setIfInBounds_toArray, List.set_cons_zero, List.set_cons_succ])
      refine' wpAnyH_take (i := 3) (v := _) ?_ ?_ ?_ ?_ ?_ ?_ ?_ ?_
      rotate_left 2
      focus (simp only [List.getElem?_toArray, List.getElem?_cons_succ, List.getElem?_cons_zero]; rfl)
      focus kernel_rfl
      focus kernel_rfl
      focus kernel_rfl
      focus exact (fun _ _ _ h => h)
      refine Or.inl ⟨?_, ?_⟩
      focus (go_simp; done)
      focus (intro w hSw; obtain ⟨_, ⟨a0, a1⟩, ⟨b0, b1⟩, _⟩ := hSw; (first | (go_simp; done) | (go_simp; with_reducible rfl)))
      focus assumption
      (try simp only [Act.put, List.setIfInBounds_toArray, List.set_cons_zero, List.set_cons_succ])
      refine' wpAnyH_take (i := 4) (v := _) ?_ ?_ ?_ ?_ ?_ ?_ ?_ ?_
      rotate_left 2
      focus (simp only [List.getElem?_toArray, List.getElem?_cons_succ, List.getElem?_cons_zero]; rfl)
      focus kernel_rfl
      focus kernel_rfl
      focus kernel_rfl
      focus exact (fun _ _ _ h => h)
      refine Or.inl ⟨?_, ?_⟩
      focus (go_simp; done)
      focus (intro w hSw; obtain ⟨_, ⟨a0, a1⟩, ⟨b0, b1⟩, _⟩ := hSw; (first | (go_simp; done) | (go_simp; with_reducible rfl)))
      focus assumption
      (try simp only [Act.put, List.setIfInBounds_toArray, List.set_cons_zero, List.set_cons_succ])
      refine wpAnyH_ready (rs := [5]) (by kernel_rfl) (by simp) ?_
      refine' AllReadyH.cons ?_ (fun K hK => ?_) AllReadyH.nil
      rotate_left
      focus (simp only [List.getElem?_toArray, List.getElem?_cons_succ, List.getElem?_cons_zero]; rfl)
      go_simp
      (go_at_call 11; (with_reducible refine (cNone_any _).mono ?_); rintro e u5 ⟨rfl, hb⟩)
      have hS := C3.below hHeld hb
      clear hb
      refine hK.out _ _ hS (fun hHeld => ?_)
      clear hK K hS
      (try simp only [Act.put, List.setIfInBounds_toArray, List.set_cons_zero, List.set_cons_succ])
      refine' wpAnyH_take (i := 6) (v := _) ?_ ?_ ?_ ?_ ?_ ?_ ?_ ?_
      rotate_left 2
      focus (simp only [List.getElem?_toArray, List.getElem?_cons_succ, List.getElem?_cons_zero]; rfl)
      focus kernel_rfl
      focus kernel_rfl
      focus kernel_rfl
      focus exact (fun _ _ _ h => h)
      refine Or.inl ⟨?_, ?_⟩
      focus (go_simp; done)
      focus (intro w hSw; obtain ⟨_, ⟨a0, a1⟩, ⟨b0, b1⟩, _⟩ := hSw; (first | (go_simp; done) | (go_simp; with_reducible rfl)))
      focus assumption
      (try simp only [Act.put, List.setIfInBounds_toArray, List.set_cons_zero, List.set_cons_succ])
      refine' wpAnyH_take (i := 7) (v := _) ?_ ?_ ?_ ?_ ?_ ?_ ?_ ?_
      rotate_left 2
      focus (simp only [List.getElem?_toArray, List.getElem?_cons_succ, List.getElem?_cons_zero]; rfl)
      focus kernel_rfl
      focus kernel_rfl
      focus kernel_rfl
      focus exact (fun _ _ _ h => h)
      refine Or.inl ⟨?_, ?_⟩
      focus (go_simp; done)
      focus (intro w hSw; obtain ⟨_, ⟨a0, a1⟩, ⟨b0, b1⟩, _⟩ := hSw; (first | (go_simp; done) | (go_simp; with_reducible rfl)))
      focus assumption
      (try simp only [Act.put, List.setIfInBounds_toArray, List.set_cons_zero, List.set_cons_succ])
      refine wpAnyH_done (by kernel_rfl) ?_ _
      obtain ⟨hA, ⟨a0, a1⟩, ⟨b0, b1⟩, ⟨x, y, c0, c1⟩, f2⟩ := id hHeld; have hy0 := hA.lt0 (by omega); have hy1 := hA.lt1 (by omega); have hy2 := hA.lt2 (by omega)
      go_wp2_with fail
      refine (cNone_any _).mono ?_
      rintro e w4 ⟨rfl, hb⟩
      clear hA a0 a1 b0 b1 c0 c1 f2 hy0 hy1 hy2 x y
      replace hHeld := hHeld.below hb
      clear hb
      obtain ⟨hA, ⟨a0, a1⟩, ⟨b0, b1⟩, ⟨x, y, c0, c1⟩, f2⟩ := id hHeld; have hy0 := hA.lt0 (by omega); have hy1 := hA.lt1 (by omega); have hy2 := hA.lt2 (by omega)
      go_wp2
      rw [← HZ.out]
      refine bodyPost_ret (v := .agg #[.int .i64 Rs.non.m, .int .i64 Rs.non.r]) ?_ rfl ⟨rfl, hHeld.set.1.1⟩
      simp [results, Tryd.results15, go_sem, c0, c1, hy2, Rs.non]
    · have he2 := rs_eql b.m b.r (-1) 0 false (rs_not b hm)
      have HO := Lib.hid (show Rs.op o a b = z by rw [← HJ.out, if_neg (fun h => h.elim hn hm)])
      obtain ⟨i, gA⟩ := HOK.out.1.resolve_left hn
      obtain ⟨j, gB⟩ := HOK.out.2.resolve_left hm
      have HGA := Lib.hid gA
      have HGB := Lib.hid gB
      clear hn hm HJ HA HB gA gB
      go_wp2_with fail
      refine wp_region_held_drew (S := (fun w' => C3 w a b w')) (by kernel_rfl) (hHeld.drew) (fun hHeld => ?_)
      generalize w'.drew = u0 at *
      refine' wpAnyH_take (i := 0) (v := _) ?_ ?_ ?_ ?_ ?_ ?_ ?_ ?_
      rotate_left 2
      focus (simp only [List.getElem?_toArray, List.getElem?_cons_succ, List.getElem?_cons_zero]; rfl)
      focus kernel_rfl
      focus kernel_rfl
      focus kernel_rfl
      focus exact (fun _ _ _ h => h)
      refine Or.inl ⟨?_, ?_⟩
      focus (go_simp; done)
      focus (intro w hSw; obtain ⟨_, ⟨a0, a1⟩, ⟨b0, b1⟩, _⟩ := hSw; (first | (go_simp; done) | (go_simp; with_reducible rfl)))
      focus assumption
      (try simp only [Act.put, List.setIfInBounds_toArray, List.set_cons_zero, List.set_cons_succ])
      refine wpAnyH_ready (rs := [1]) (by kernel_rfl) (by simp) ?_
      refine' AllReadyH.cons ?_ (fun K hK => ?_) AllReadyH.nil
      rotate_left
      focus (simp only [List.getElem?_toArray, List.getElem?_cons_succ, List.getElem?_cons_zero]; rfl)
      go_simp
      (go_at_call 11; (with_reducible refine (cNone_any _).mono ?_); rintro e u1 ⟨rfl, hb⟩)
      have hS := C3.below hHeld hb
      clear hb
      refine hK.out _ _ hS (fun hHeld => ?_)
      clear hK K hS
      (try simp only [Act.put, List.setIfInBounds_toArray, List.set_cons_zero, List.set_cons_succ])
      refine' wpAnyH_take (i := 2) (v := _) ?_ ?_ ?_ ?_ ?_ ?_ ?_ ?_
      rotate_left 2
      focus (simp only [List.getElem?_toArray, List.getElem?_cons_succ, List.getElem?_cons_zero]; rfl)
      focus kernel_rfl
      focus kernel_rfl
      focus kernel_rfl
      focus exact (fun _ _ _ h => h)
      refine Or.inl ⟨?_, ?_⟩
      focus (go_simp; done)
      focus (intro w hSw; obtain ⟨_, ⟨a0, a1⟩, ⟨b0, b1⟩, _⟩ := hSw; (first | (go_simp; done) | (go_simp; with_reducible rfl)))
      focus assumption
      (try simp only [Act.put, List.setIfInBounds_toArray, List.set_cons_zero, List.set_cons_succ])
      refine' wpAnyH_take (i := 3) (v := _) ?_ ?_ ?_ ?_ ?_ ?_ ?_ ?_
      rotate_left 2
      focus (simp only [List.getElem?_toArray, List.getElem?_cons_succ, List.getElem?_cons_zero]; rfl)
      focus kernel_rfl
      focus kernel_rfl
      focus kernel_rfl
      focus exact (fun _ _ _ h => h)
      refine Or.inl ⟨?_, ?_⟩
      focus (go_simp; done)
      focus (intro w hSw; obtain ⟨_, ⟨a0, a1⟩, ⟨b0, b1⟩, _⟩ := hSw; (first | (go_simp; done) | (go_simp; with_reducible rfl)))
      focus assumption
      (try simp only [Act.put, List.setIfInBounds_toArray, List.set_cons_zero, List.set_cons_succ])
      refine' wpAnyH_take (i := 4) (v := _) ?_ ?_ ?_ ?_ ?_ ?_ ?_ ?_
      rotate_left 2
      focus (simp only [List.getElem?_toArray, List.getElem?_cons_succ, List.getElem?_cons_zero]; rfl)
      focus kernel_rfl
      focus kernel_rfl
      focus kernel_rfl
      focus exact (fun _ _ _ h => h)
      refine Or.inl ⟨?_, ?_⟩
      focus (go_simp; done)
      focus (intro w hSw; obtain ⟨_, ⟨a0, a1⟩, ⟨b0, b1⟩, _⟩ := hSw; (first | (go_simp; done) | (go_simp; with_reducible rfl)))
      focus assumption
      (try simp only [Act.put, List.setIfInBounds_toArray, List.set_cons_zero, List.set_cons_succ])
      refine wpAnyH_ready (rs := [5]) (by kernel_rfl) (by simp) ?_
      refine' AllReadyH.cons ?_ (fun K hK => ?_) AllReadyH.nil
      rotate_left
      focus (simp only [List.getElem?_toArray, List.getElem?_cons_succ, List.getElem?_cons_zero]; rfl)
      go_simp
      (go_at_call 11; (with_reducible refine (cNone_any _).mono ?_); rintro e u5 ⟨rfl, hb⟩)
      have hS := C3.below hHeld hb
      clear hb
      refine hK.out _ _ hS (fun hHeld => ?_)
      clear hK K hS
      (try simp only [Act.put, List.setIfInBounds_toArray, List.set_cons_zero, List.set_cons_succ])
      refine' wpAnyH_take (i := 6) (v := _) ?_ ?_ ?_ ?_ ?_ ?_ ?_ ?_
      rotate_left 2
      focus (simp only [List.getElem?_toArray, List.getElem?_cons_succ, List.getElem?_cons_zero]; rfl)
      focus kernel_rfl
      focus kernel_rfl
      focus kernel_rfl
      focus exact (fun _ _ _ h => h)
      refine Or.inl ⟨?_, ?_⟩
      focus (go_simp; done)
      focus (intro w hSw; obtain ⟨_, ⟨a0, a1⟩, ⟨b0, b1⟩, _⟩ := hSw; (first | (go_simp; done) | (go_simp; with_reducible rfl)))
      focus assumption
      (try simp only [Act.put, List.setIfInBounds_toArray, List.set_cons_zero, List.set_cons_succ])
      refine' wpAnyH_take (i := 7) (v := _) ?_ ?_ ?_ ?_ ?_ ?_ ?_ ?_
      rotate_left 2
      focus (simp only [List.getElem?_toArray, List.getElem?_cons_succ, List.getElem?_cons_zero]; rfl)
      focus kernel_rfl
      focus kernel_rfl
      focus kernel_rfl
      focus exact (fun _ _ _ h => h)
      refine Or.inl ⟨?_, ?_⟩
      focus (go_simp; done)
      focus (intro w hSw; obtain ⟨_, ⟨a0, a1⟩, ⟨b0, b1⟩, _⟩ := hSw; (first | (go_simp; done) | (go_simp; with_reducible rfl)))
      focus assumption
      (try simp only [Act.put, List.setIfInBounds_toArray, List.set_cons_zero, List.set_cons_succ])
      refine wpAnyH_done (by kernel_rfl) ?_ _
      obtain ⟨hA, ⟨a0, a1⟩, ⟨b0, b1⟩, ⟨x, y, c0, c1⟩, f2⟩ := id hHeld; have hy0 := hA.lt0 (by omega); have hy1 := hA.lt1 (by omega); have hy2 := hA.lt2 (by omega)
      clear he he2 hg
      by_cases ho : 1 ≤ o ∧ o ≤ 14
      · obtain ⟨n, hn⟩ : ∃ n, val o a.r b.r = n := ⟨_, rfl⟩
        have HN := Lib.hid hn
        have HD := Lib.hid (fun (W : World) => by have q := do_any o a.r b.r W; rw [fault_yes ho, hn] at q; exact q)
        have H2 := Lib.hid (fun hs : a.m = 0 ∧ b.m = 0 => show Rs.sing n = z by rw [← HO.out, Rs.op_two hs, if_pos ho, hn])
        clear ho hn
        go_wp2_with fail
        refine (HD.out _).mono ?_
        rintro e w5 ⟨rfl, hb⟩
        clear hA a0 a1 b0 b1 c0 c1 f2 hy0 hy1 hy2 x y
        replace hHeld := hHeld.below hb
        clear hb
        obtain ⟨hA, ⟨a0, a1⟩, ⟨b0, b1⟩, ⟨x, y, c0, c1⟩, f2⟩ := id hHeld; have hy0 := hA.lt0 (by omega); have hy1 := hA.lt1 (by omega); have hy2 := hA.lt2 (by omega)
        by_cases h1 : a.m = 0
        · have HS1 := Lib.hid (show (a.m == 0) = true by simp [h1])
          by_cases h2 : b.m = 0
          · have HS2 := Lib.hid (show (b.m == 0) = true by simp [h2])
            have HZ := Lib.hid (H2.out ⟨h1, h2⟩)
            clear h1 h2 H2
            go_wp2_with fail
            refine (single_any a.m a.r true HS1.out _).mono ?_
            rintro e w6 ⟨rfl, hb⟩
            clear hA a0 a1 b0 b1 c0 c1 f2 hy0 hy1 hy2 x y
            replace hHeld := hHeld.below hb
            clear hb
            obtain ⟨hA, ⟨a0, a1⟩, ⟨b0, b1⟩, ⟨x, y, c0, c1⟩, f2⟩ := id hHeld; have hy0 := hA.lt0 (by omega); have hy1 := hA.lt1 (by omega); have hy2 := hA.lt2 (by omega)
            go_wp2_with fail
            refine (single_any b.m b.r true HS2.out _).mono ?_
            rintro e w7 ⟨rfl, hb⟩
            clear hA a0 a1 b0 b1 c0 c1 f2 hy0 hy1 hy2 x y
            replace hHeld := hHeld.below hb
            clear hb
            obtain ⟨hA, ⟨a0, a1⟩, ⟨b0, b1⟩, ⟨x, y, c0, c1⟩, f2⟩ := id hHeld; have hy0 := hA.lt0 (by omega); have hy1 := hA.lt1 (by omega); have hy2 := hA.lt2 (by omega)
            go_wp2_with fail
            refine (cOf_any n z HZ.out _).mono ?_
            rintro e w8 ⟨rfl, hb⟩
            clear hA a0 a1 b0 b1 c0 c1 f2 hy0 hy1 hy2 x y
            replace hHeld := hHeld.below hb
            clear hb
            obtain ⟨hA, ⟨a0, a1⟩, ⟨b0, b1⟩, ⟨x, y, c0, c1⟩, f2⟩ := id hHeld; have hy0 := hA.lt0 (by omega); have hy1 := hA.lt1 (by omega); have hy2 := hA.lt2 (by omega)
            go_wp2
            refine bodyPost_ret (v := .agg #[.int .i64 z.m, .int .i64 z.r]) ?_ rfl ⟨rfl, hHeld.set.1.1⟩
            simp [results, Tryd.results15, go_sem, c0, c1, hy2]
          · have HS2 := Lib.hid (show (b.m == 0) = false by simp [h2])
            have HNS := Lib.hid (show ¬ (a.m = 0 ∧ b.m = 0) from fun h => h2 h.2)
            clear h1 h2 H2
            go_wp2_with fail
            refine (single_any a.m a.r true HS1.out _).mono ?_
            rintro e w6 ⟨rfl, hb⟩
            clear hA a0 a1 b0 b1 c0 c1 f2 hy0 hy1 hy2 x y
            replace hHeld := hHeld.below hb
            clear hb
            obtain ⟨hA, ⟨a0, a1⟩, ⟨b0, b1⟩, ⟨x, y, c0, c1⟩, f2⟩ := id hHeld; have hy0 := hA.lt0 (by omega); have hy1 := hA.lt1 (by omega); have hy2 := hA.lt2 (by omega)
            go_wp2_with fail
            refine (single_any b.m b.r false HS2.out _).mono ?_
            rintro e w7 ⟨rfl, hb⟩
            clear hA a0 a1 b0 b1 c0 c1 f2 hy0 hy1 hy2 x y
            replace hHeld := hHeld.below hb
            clear hb
            obtain ⟨hA, ⟨a0, a1⟩, ⟨b0, b1⟩, ⟨x, y, c0, c1⟩, f2⟩ := id hHeld; have hy0 := hA.lt0 (by omega); have hy1 := hA.lt1 (by omega); have hy2 := hA.lt2 (by omega)
            have hTu := HTb.out.below hHeld.1.1
            go_wp2_with fail
            refine (around_any o n a b z i j HGA.out HGB.out HNS.out HN.out HO.out _ hTu).mono ?_
            rintro e w9 ⟨rfl, hb⟩
            clear hA a0 a1 b0 b1 c0 c1 f2 hy0 hy1 hy2 x y
            replace hHeld := hHeld.below hb
            clear hb
            obtain ⟨hA, ⟨a0, a1⟩, ⟨b0, b1⟩, ⟨x, y, c0, c1⟩, f2⟩ := id hHeld; have hy0 := hA.lt0 (by omega); have hy1 := hA.lt1 (by omega); have hy2 := hA.lt2 (by omega)
            go_wp2
            refine bodyPost_ret (v := .agg #[.int .i64 z.m, .int .i64 z.r]) ?_ rfl ⟨rfl, hHeld.set.1.1⟩
            simp [results, Tryd.results15, go_sem, c0, c1, hy2]
        · have HS1 := Lib.hid (show (a.m == 0) = false by simp [h1])
          have HNS := Lib.hid (show ¬ (a.m = 0 ∧ b.m = 0) from fun h => h1 h.1)
          clear h1 H2
          go_wp2_with fail
          refine (single_any a.m a.r false HS1.out _).mono ?_
          rintro e w6 ⟨rfl, hb⟩
          clear hA a0 a1 b0 b1 c0 c1 f2 hy0 hy1 hy2 x y
          replace hHeld := hHeld.below hb
          clear hb
          obtain ⟨hA, ⟨a0, a1⟩, ⟨b0, b1⟩, ⟨x, y, c0, c1⟩, f2⟩ := id hHeld; have hy0 := hA.lt0 (by omega); have hy1 := hA.lt1 (by omega); have hy2 := hA.lt2 (by omega)
          have hTu := HTb.out.below hHeld.1.1
          go_wp2_with fail
          refine (around_any o n a b z i j HGA.out HGB.out HNS.out HN.out HO.out _ hTu).mono ?_
          rintro e w9 ⟨rfl, hb⟩
          clear hA a0 a1 b0 b1 c0 c1 f2 hy0 hy1 hy2 x y
          replace hHeld := hHeld.below hb
          clear hb
          obtain ⟨hA, ⟨a0, a1⟩, ⟨b0, b1⟩, ⟨x, y, c0, c1⟩, f2⟩ := id hHeld; have hy0 := hA.lt0 (by omega); have hy1 := hA.lt1 (by omega); have hy2 := hA.lt2 (by omega)
          go_wp2
          refine bodyPost_ret (v := .agg #[.int .i64 z.m, .int .i64 z.r]) ?_ rfl ⟨rfl, hHeld.set.1.1⟩
          simp [results, Tryd.results15, go_sem, c0, c1, hy2]
      · have HZ := Lib.hid (show Rs.all = z by rw [← HO.out, Rs.op_no ho])
        have HD := Lib.hid (fun (W : World) => by have q := do_any o a.r b.r W; rw [fault_no ho] at q; exact q)
        clear ho
        go_wp2_with fail
        refine (HD.out _).mono ?_
        rintro e w5 ⟨rfl, hb⟩
        clear hA a0 a1 b0 b1 c0 c1 f2 hy0 hy1 hy2 x y
        replace hHeld := hHeld.below hb
        clear hb
        obtain ⟨hA, ⟨a0, a1⟩, ⟨b0, b1⟩, ⟨x, y, c0, c1⟩, f2⟩ := id hHeld; have hy0 := hA.lt0 (by omega); have hy1 := hA.lt1 (by omega); have hy2 := hA.lt2 (by omega)
        go_wp2_with fail
        refine (cAll_any _).mono ?_
        rintro e w6 ⟨rfl, hb⟩
        clear hA a0 a1 b0 b1 c0 c1 f2 hy0 hy1 hy2 x y
        replace hHeld := hHeld.below hb
        clear hb
        obtain ⟨hA, ⟨a0, a1⟩, ⟨b0, b1⟩, ⟨x, y, c0, c1⟩, f2⟩ := id hHeld; have hy0 := hA.lt0 (by omega); have hy1 := hA.lt1 (by omega); have hy2 := hA.lt2 (by omega)
        go_wp2
        rw [← HZ.out]
        refine bodyPost_ret (v := .agg #[.int .i64 Rs.all.m, .int .i64 Rs.all.r]) ?_ rfl ⟨rfl, hHeld.set.1.1⟩
        simp [results, Tryd.results15, go_sem, c0, c1, hy2, Rs.all]
end Go.Proofs.YtmdakglbommopaaDoor
