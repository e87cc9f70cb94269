/- The code of layer 8: Leq, Has, Join, Meet. Condition: the library's table of trailing zeros lies in the world. -/
import Derived.Test.YtmdakglbommopaaDoorCcBase
namespace Go.Proofs.YtmdakglbommopaaDoor
open Go.RowKit
set_option linter.unusedVariables false
set_option linter.unusedSimpArgs false
attribute [local go_sem] y_undef
set_option maxHeartbeats 8000000 in
theorem cLeq_any (p q r s : Int) (t : Bool) (ht : Rs.leq ⟨p, q⟩ ⟨r, s⟩ = t) (w : World) (htb : Tb w) : Calls Tryd.prog 22 #[.agg #[.int .i64 p, .int .i64 q], .agg #[.int .i64 r, .int .i64 s]] w fun e w' => e = .returned (.bool t) ∧ Below w.heap.size w w' := by
  have hA := ((Ahead.refl w).alloc (.cells #[.int .i64 p, .int .i64 q] 23)).alloc (.cells #[.int .i64 r, .int .i64 s] 23)
  obtain ⟨a, ha⟩ : ∃ a, Rs.form ⟨p, q⟩ = a := ⟨_, rfl⟩
  obtain ⟨b, hb⟩ : ∃ b, Rs.form ⟨r, s⟩ = b := ⟨_, rfl⟩
  have oka : Rs.F a := ha ▸ Rs.f_form ⟨p, q⟩
  have okb : Rs.F b := hb ▸ Rs.f_form ⟨r, s⟩
  have HA := Lib.hid ha
  have HB := Lib.hid hb
  have HTb := Lib.hid htb
  clear htb
  have hj : Rs.leq a b = t := by rw [← ht, ← ha, ← hb]; unfold Rs.leq; rw [Rs.form_form, Rs.form_form]
  have HJ0 := Lib.hid (And.intro oka (And.intro okb hj))
  clear ha hb hj ht oka okb
  have hg := rs_guard
  go_enter Tryd.func22, Tryd.ntmps22
  go_wp2
  rename_i K hK
  refine' (fun (HK : ∀ w', C2 w a b w' → K _ w') => ?_) (fun w' hHeld => ?_)
  rotate_left
  focus
    go_region_with (have hTa := HTb.out.below hA.1; have hTd := HTb.out.below hA.drew.1; go_at_call 31; (first | (with_reducible refine (taken_any p q a HA.out _ hTa).mono ?_) | (with_reducible refine (taken_any p q a HA.out _ hTd).mono ?_) | (with_reducible refine (taken_any r s b HB.out _ hTa).mono ?_) | (with_reducible refine (taken_any r s b HB.out _ hTd).mono ?_) | fail); clear hTa hTd; rintro e w1 ⟨rfl, hb⟩; obtain ⟨hc, hf⟩ := bcell hb; (first | replace hA := hA.below hb | replace hA := hA.drew.below hb); have hz : w.heap.size + 1 < w1.heap.size := (by have := hA.2; omega); have hz0 : w.heap.size < w1.heap.size := (by omega); (try simp only [size_alloc] at hc hf))
    all_goals
      exact HK _ (c2_of (rbox2_of (p := p) (q := q) (r := r) (s := s) hA (by go_simp) (by go_simp) (by go_simp) (by go_simp) ))
  refine hK _ _ ?_
  clear hA hK
  go_wp2
  by_cases h1 : a = b
  · have he := rs_eql a.m a.r b.m b.r true (by simp [h1])
    have HF := Lib.hid (show true = t by rw [← HJ0.out.2.2, Rs.leq_same HJ0.out.1 h1])
    clear h1
    refine wp_region_held_drew (S := (fun w' => C2 w a b w')) (by kernel_rfl) (hHeld.drew) (fun hHeld => ?_)
    generalize w'.drew = u0 at *
    refine' wpAnyH_take (i := 0) (v := _) ?_ ?_ ?_ ?_ ?_ ?_ ?_ ?_
    rotate_left 2
    focus (simp only [List.getElem?_toArray, List.getElem?_cons_succ, List.getElem?_cons_zero]; rfl)
    focus kernel_rfl
    focus kernel_rfl
    focus kernel_rfl
    focus exact (fun _ _ _ h => h)
    refine Or.inl ⟨?_, ?_⟩
    focus (go_simp; done)
    focus (intro w hSw; obtain ⟨_, ⟨a0, a1⟩, ⟨b0, b1⟩⟩ := hSw; (first | (go_simp; done) | (go_simp; with_reducible rfl)))
    focus assumption
    (try simp only [Act.put, List.setIfInBounds_toArray, List.set_cons_zero, List.set_cons_succ])
    refine' wpAnyH_take (i := 1) (v := _) ?_ ?_ ?_ ?_ ?_ ?_ ?_ ?_
    rotate_left 2
    focus (simp only [List.getElem?_toArray, List.getElem?_cons_succ, List.getElem?_cons_zero]; rfl)
    focus kernel_rfl
    focus kernel_rfl
    focus kernel_rfl
    focus exact (fun _ _ _ h => h)
    refine Or.inl ⟨?_, ?_⟩
    focus (go_simp; done)
    focus (intro w hSw; obtain ⟨_, ⟨a0, a1⟩, ⟨b0, b1⟩⟩ := hSw; (first | (go_simp; done) | (go_simp; with_reducible rfl)))
    focus assumption
    (try simp only [Act.put, List.setIfInBounds_toArray, List.set_cons_zero, List.set_cons_succ])
    refine' wpAnyH_take (i := 2) (v := _) ?_ ?_ ?_ ?_ ?_ ?_ ?_ ?_
    rotate_left 2
    focus (simp only [List.getElem?_toArray, List.getElem?_cons_succ, List.getElem?_cons_zero]; rfl)
    focus kernel_rfl
    focus kernel_rfl
    focus kernel_rfl
    focus exact (fun _ _ _ h => h)
    refine Or.inl ⟨?_, ?_⟩
    focus (go_simp; done)
    focus (intro w hSw; obtain ⟨_, ⟨a0, a1⟩, ⟨b0, b1⟩⟩ := hSw; (first | (go_simp; done) | (go_simp; with_reducible rfl)))
    focus assumption
    (try simp only [Act.put, List.setIfInBounds_toArray, List.set_cons_zero, List.set_cons_succ])
    refine' wpAnyH_take (i := 3) (v := _) ?_ ?_ ?_ ?_ ?_ ?_ ?_ ?_
    rotate_left 2
    focus (simp only [List.getElem?_toArray, List.getElem?_cons_succ, List.getElem?_cons_zero]; rfl)
    focus kernel_rfl
    focus kernel_rfl
    focus kernel_rfl
    focus exact (fun _ _ _ h => h)
    refine Or.inl ⟨?_, ?_⟩
    focus (go_simp; done)
    focus (intro w hSw; obtain ⟨_, ⟨a0, a1⟩, ⟨b0, b1⟩⟩ := hSw; (first | (go_simp; done) | (go_simp; with_reducible rfl)))
    focus assumption
    (try simp only [Act.put, List.setIfInBounds_toArray, List.set_cons_zero, List.set_cons_succ])
    refine' wpAnyH_take (i := 4) (v := undef) ?_ ?_ ?_ ?_ ?_ ?_ ?_ ?_
    rotate_left 1
    focus (simp only [List.getElem?_toArray, List.getElem?_cons_succ, List.getElem?_cons_zero]; rfl)
    focus kernel_rfl
    focus kernel_rfl
    focus kernel_rfl
    focus exact (fun _ _ _ h => h)
    refine Or.inr ⟨?_, rfl⟩
    focus (go_simp; done)
    focus assumption
    (try simp only [Act.put, List.setIfInBounds_toArray, List.set_cons_zero, List.set_cons_succ])
    refine' wpAnyH_take (i := 5) (v := undef) ?_ ?_ ?_ ?_ ?_ ?_ ?_ ?_
    rotate_left 1
    focus (simp only [List.getElem?_toArray, List.getElem?_cons_succ, List.getElem?_cons_zero]; rfl)
    focus kernel_rfl
    focus kernel_rfl
    focus kernel_rfl
    focus exact (fun _ _ _ h => h)
    refine Or.inr ⟨?_, rfl⟩
    focus (go_simp; done)
    focus assumption
    (try simp only [Act.put, List.setIfInBounds_toArray, List.set_cons_zero, List.set_cons_succ])
    refine' wpAnyH_take (i := 6) (v := undef) ?_ ?_ ?_ ?_ ?_ ?_ ?_ ?_
    rotate_left 1
    focus (simp only [List.getElem?_toArray, List.getElem?_cons_succ, List.getElem?_cons_zero]; rfl)
    focus kernel_rfl
    focus kernel_rfl
    focus kernel_rfl
    focus exact (fun _ _ _ h => h)
    refine Or.inr ⟨?_, rfl⟩
    focus (go_simp; done)
    focus assumption
    (try simp only [Act.put, List.setIfInBounds_toArray, List.set_cons_zero, List.set_cons_succ])
    refine' wpAnyH_take (i := 7) (v := _) ?_ ?_ ?_ ?_ ?_ ?_ ?_ ?_
    rotate_left 2
    focus (simp only [List.getElem?_toArray, List.getElem?_cons_succ, List.getElem?_cons_zero]; rfl)
    focus kernel_rfl
    focus kernel_rfl
    focus kernel_rfl
    focus exact (fun _ _ _ h => h)
    refine Or.inl ⟨?_, ?_⟩
    focus (go_simp; done)
    focus (intro w hSw; obtain ⟨_, ⟨a0, a1⟩, ⟨b0, b1⟩⟩ := hSw; (first | (go_simp; done) | (go_simp; with_reducible rfl)))
    focus assumption
    (try simp only [Act.put, List.setIfInBounds_toArray, List.set_cons_zero, List.set_cons_succ])
    refine' wpAnyH_take (i := 8) (v := _) ?_ ?_ ?_ ?_ ?_ ?_ ?_ ?_
    rotate_left 2
    focus (simp only [List.getElem?_toArray, List.getElem?_cons_succ, List.getElem?_cons_zero]; rfl)
    focus kernel_rfl
    focus kernel_rfl
    focus kernel_rfl
    focus exact (fun _ _ _ h => h)
    refine Or.inl ⟨?_, ?_⟩
    focus (go_simp; done)
    focus (intro w hSw; obtain ⟨_, ⟨a0, a1⟩, ⟨b0, b1⟩⟩ := hSw; (first | (go_simp; done) | (go_simp; with_reducible rfl)))
    focus assumption
    (try simp only [Act.put, List.setIfInBounds_toArray, List.set_cons_zero, List.set_cons_succ])
    refine' wpAnyH_take (i := 9) (v := undef) ?_ ?_ ?_ ?_ ?_ ?_ ?_ ?_
    rotate_left 1
    focus (simp only [List.getElem?_toArray, List.getElem?_cons_succ, List.getElem?_cons_zero]; rfl)
    focus kernel_rfl
    focus kernel_rfl
    focus kernel_rfl
    focus exact (fun _ _ _ h => h)
    refine Or.inr ⟨?_, rfl⟩
    focus (go_simp; done)
    focus assumption
    (try simp only [Act.put, List.setIfInBounds_toArray, List.set_cons_zero, List.set_cons_succ])
    refine' wpAnyH_take (i := 10) (v := undef) ?_ ?_ ?_ ?_ ?_ ?_ ?_ ?_
    rotate_left 1
    focus (simp only [List.getElem?_toArray, List.getElem?_cons_succ, List.getElem?_cons_zero]; rfl)
    focus kernel_rfl
    focus kernel_rfl
    focus kernel_rfl
    focus exact (fun _ _ _ h => h)
    refine Or.inr ⟨?_, rfl⟩
    focus (go_simp; done)
    focus assumption
    (try simp only [Act.put, List.setIfInBounds_toArray, List.set_cons_zero, List.set_cons_succ])
    refine' wpAnyH_take (i := 11) (v := undef) ?_ ?_ ?_ ?_ ?_ ?_ ?_ ?_
    rotate_left 1
    focus (simp only [List.getElem?_toArray, List.getElem?_cons_succ, List.getElem?_cons_zero]; rfl)
    focus kernel_rfl
    focus kernel_rfl
    focus kernel_rfl
    focus exact (fun _ _ _ h => h)
    refine Or.inr ⟨?_, rfl⟩
    focus (go_simp; done)
    focus assumption
    (try simp only [Act.put, List.setIfInBounds_toArray, List.set_cons_zero, List.set_cons_succ])
    refine' wpAnyH_take (i := 12) (v := undef) ?_ ?_ ?_ ?_ ?_ ?_ ?_ ?_
    rotate_left 1
    focus (simp only [List.getElem?_toArray, List.getElem?_cons_succ, List.getElem?_cons_zero]; rfl)
    focus kernel_rfl
    focus kernel_rfl
    focus kernel_rfl
    focus exact (fun _ _ _ h => h)
    refine Or.inr ⟨?_, rfl⟩
    focus (go_simp; done)
    focus assumption
    (try simp only [Act.put, List.setIfInBounds_toArray, List.set_cons_zero, List.set_cons_succ])
    refine' wpAnyH_take (i := 13) (v := undef) ?_ ?_ ?_ ?_ ?_ ?_ ?_ ?_
    rotate_left 1
    focus (simp only [List.getElem?_toArray, List.getElem?_cons_succ, List.getElem?_cons_zero]; rfl)
    focus kernel_rfl
    focus kernel_rfl
    focus kernel_rfl
    focus exact (fun _ _ _ h => h)
    refine Or.inr ⟨?_, rfl⟩
    focus (go_simp; done)
    focus assumption
    (try simp only [Act.put, List.setIfInBounds_toArray, List.set_cons_zero, List.set_cons_succ])
    refine' wpAnyH_take (i := 14) (v := undef) ?_ ?_ ?_ ?_ ?_ ?_ ?_ ?_
    rotate_left 1
    focus (simp only [List.getElem?_toArray, List.getElem?_cons_succ, List.getElem?_cons_zero]; rfl)
    focus kernel_rfl
    focus kernel_rfl
    focus kernel_rfl
    focus exact (fun _ _ _ h => h)
    refine Or.inr ⟨?_, rfl⟩
    focus (go_simp; done)
    focus assumption
    (try simp only [Act.put, List.setIfInBounds_toArray, List.set_cons_zero, List.set_cons_succ])
    refine' wpAnyH_take (i := 15) (v := undef) ?_ ?_ ?_ ?_ ?_ ?_ ?_ ?_
    rotate_left 1
    focus (simp only [List.getElem?_toArray, List.getElem?_cons_succ, List.getElem?_cons_zero]; rfl)
    focus kernel_rfl
    focus kernel_rfl
    focus kernel_rfl
    focus exact (fun _ _ _ h => h)
    refine Or.inr ⟨?_, rfl⟩
    focus (go_simp; done)
    focus assumption
    (try simp only [Act.put, List.setIfInBounds_toArray, List.set_cons_zero, List.set_cons_succ])
    refine' wpAnyH_take (i := 16) (v := undef) ?_ ?_ ?_ ?_ ?_ ?_ ?_ ?_
    rotate_left 1
    focus (simp only [List.getElem?_toArray, List.getElem?_cons_succ, List.getElem?_cons_zero]; rfl)
    focus kernel_rfl
    focus kernel_rfl
    focus kernel_rfl
    focus exact (fun _ _ _ h => h)
    refine Or.inr ⟨?_, rfl⟩
    focus (go_simp; done)
    focus assumption
    (try simp only [Act.put, List.setIfInBounds_toArray, List.set_cons_zero, List.set_cons_succ])
    refine' wpAnyH_take (i := 17) (v := undef) ?_ ?_ ?_ ?_ ?_ ?_ ?_ ?_
    rotate_left 1
    focus (simp only [List.getElem?_toArray, List.getElem?_cons_succ, List.getElem?_cons_zero]; rfl)
    focus kernel_rfl
    focus kernel_rfl
    focus kernel_rfl
    focus exact (fun _ _ _ h => h)
    refine Or.inr ⟨?_, rfl⟩
    focus (go_simp; done)
    focus assumption
    (try simp only [Act.put, List.setIfInBounds_toArray, List.set_cons_zero, List.set_cons_succ])
    refine' wpAnyH_take (i := 18) (v := undef) ?_ ?_ ?_ ?_ ?_ ?_ ?_ ?_
    rotate_left 1
    focus (simp only [List.getElem?_toArray, List.getElem?_cons_succ, List.getElem?_cons_zero]; rfl)
    focus kernel_rfl
    focus kernel_rfl
    focus kernel_rfl
    focus exact (fun _ _ _ h => h)
    refine Or.inr ⟨?_, rfl⟩
    focus (go_simp; done)
    focus assumption
    (try simp only [Act.put, List.setIfInBounds_toArray, List.set_cons_zero, List.set_cons_succ])
    refine' wpAnyH_take (i := 19) (v := undef) ?_ ?_ ?_ ?_ ?_ ?_ ?_ ?_
    rotate_left 1
    focus (simp only [List.getElem?_toArray, List.getElem?_cons_succ, List.getElem?_cons_zero]; rfl)
    focus kernel_rfl
    focus kernel_rfl
    focus kernel_rfl
    focus exact (fun _ _ _ h => h)
    refine Or.inr ⟨?_, rfl⟩
    focus (go_simp; done)
    focus assumption
    (try simp only [Act.put, List.setIfInBounds_toArray, List.set_cons_zero, List.set_cons_succ])
    refine' wpAnyH_take (i := 20) (v := undef) ?_ ?_ ?_ ?_ ?_ ?_ ?_ ?_
    rotate_left 1
    focus (simp only [List.getElem?_toArray, List.getElem?_cons_succ, List.getElem?_cons_zero]; rfl)
    focus kernel_rfl
    focus kernel_rfl
    focus kernel_rfl
    focus exact (fun _ _ _ h => h)
    refine Or.inr ⟨?_, rfl⟩
    focus (go_simp; done)
    focus assumption
    (try simp only [Act.put, List.setIfInBounds_toArray, List.set_cons_zero, List.set_cons_succ])
    refine' wpAnyH_take (i := 21) (v := undef) ?_ ?_ ?_ ?_ ?_ ?_ ?_ ?_
    rotate_left 1
    focus (simp only [List.getElem?_toArray, List.getElem?_cons_succ, List.getElem?_cons_zero]; rfl)
    focus kernel_rfl
    focus kernel_rfl
    focus kernel_rfl
    focus exact (fun _ _ _ h => h)
    refine Or.inr ⟨?_, rfl⟩
    focus (go_simp; done)
    focus assumption
    (try simp only [Act.put, List.setIfInBounds_toArray, List.set_cons_zero, List.set_cons_succ])
    refine' wpAnyH_take (i := 22) (v := undef) ?_ ?_ ?_ ?_ ?_ ?_ ?_ ?_
    rotate_left 1
    focus (simp only [List.getElem?_toArray, List.getElem?_cons_succ, List.getElem?_cons_zero]; rfl)
    focus kernel_rfl
    focus kernel_rfl
    focus kernel_rfl
    focus exact (fun _ _ _ h => h)
    refine Or.inr ⟨?_, rfl⟩
    focus (go_simp; done)
    focus assumption
    (try simp only [Act.put, List.setIfInBounds_toArray, List.set_cons_zero, List.set_cons_succ])
    refine' wpAnyH_take (i := 23) (v := _) ?_ ?_ ?_ ?_ ?_ ?_ ?_ ?_
    rotate_left 2
    focus (simp only [List.getElem?_toArray, List.getElem?_cons_succ, List.getElem?_cons_zero]; rfl)
    focus kernel_rfl
    focus kernel_rfl
    focus kernel_rfl
    focus exact (fun _ _ _ h => h)
    refine Or.inl ⟨?_, ?_⟩
    focus (go_simp; done)
    focus (intro w hSw; obtain ⟨_, ⟨a0, a1⟩, ⟨b0, b1⟩⟩ := hSw; (first | (go_simp; done) | (go_simp; with_reducible rfl)))
    focus assumption
    (try simp only [Act.put, List.setIfInBounds_toArray, List.set_cons_zero, List.set_cons_succ])
    refine' wpAnyH_take (i := 24) (v := _) ?_ ?_ ?_ ?_ ?_ ?_ ?_ ?_
    rotate_left 2
    focus (simp only [List.getElem?_toArray, List.getElem?_cons_succ, List.getElem?_cons_zero]; rfl)
    focus kernel_rfl
    focus kernel_rfl
    focus kernel_rfl
    focus exact (fun _ _ _ h => h)
    refine Or.inl ⟨?_, ?_⟩
    focus (go_simp; done)
    focus (intro w hSw; obtain ⟨_, ⟨a0, a1⟩, ⟨b0, b1⟩⟩ := hSw; (first | (go_simp; done) | (go_simp; with_reducible rfl)))
    focus assumption
    (try simp only [Act.put, List.setIfInBounds_toArray, List.set_cons_zero, List.set_cons_succ])
    refine wpAnyH_done (by kernel_rfl) ?_ _
    go_wp2
    go_ret
    exact ⟨ret_bool HF.out, hHeld.1.1⟩
  · have he := rs_eql a.m a.r b.m b.r false (by rw [rs_same]; exact decide_eq_false h1)
    by_cases h2 : a = Rs.non
    · have he2 := rs_eql a.m a.r (-1) 0 true (rs_is a h2)
      have HF := Lib.hid (show true = t by rw [← HJ0.out.2.2, h2, Rs.leq_non])
      clear h1 h2
      refine wp_region_held_drew (S := (fun w' => C2 w a b w')) (by kernel_rfl) (hHeld.drew) (fun hHeld => ?_)
      generalize w'.drew = u0 at *
      refine' wpAnyH_take (i := 0) (v := _) ?_ ?_ ?_ ?_ ?_ ?_ ?_ ?_
      rotate_left 2
      focus (simp only [List.getElem?_toArray, List.getElem?_cons_succ, List.getElem?_cons_zero]; rfl)
      focus kernel_rfl
      focus kernel_rfl
      focus kernel_rfl
      focus exact (fun _ _ _ h => h)
      refine Or.inl ⟨?_, ?_⟩
      focus (go_simp; done)
      focus (intro w hSw; obtain ⟨_, ⟨a0, a1⟩, ⟨b0, b1⟩⟩ := hSw; (first | (go_simp; done) | (go_simp; with_reducible rfl)))
      focus assumption
      (try simp only [Act.put, List.setIfInBounds_toArray, List.set_cons_zero, List.set_cons_succ])
      refine' wpAnyH_take (i := 1) (v := _) ?_ ?_ ?_ ?_ ?_ ?_ ?_ ?_
      rotate_left 2
      focus (simp only [List.getElem?_toArray, List.getElem?_cons_succ, List.getElem?_cons_zero]; rfl)
      focus kernel_rfl
      focus kernel_rfl
      focus kernel_rfl
      focus exact (fun _ _ _ h => h)
      refine Or.inl ⟨?_, ?_⟩
      focus (go_simp; done)
      focus (intro w hSw; obtain ⟨_, ⟨a0, a1⟩, ⟨b0, b1⟩⟩ := hSw; (first | (go_simp; done) | (go_simp; with_reducible rfl)))
      focus assumption
      (try simp only [Act.put, List.setIfInBounds_toArray, List.set_cons_zero, List.set_cons_succ])
      refine' wpAnyH_take (i := 2) (v := _) ?_ ?_ ?_ ?_ ?_ ?_ ?_ ?_
      rotate_left 2
      focus (simp only [List.getElem?_toArray, List.getElem?_cons_succ, List.getElem?_cons_zero]; rfl)
      focus kernel_rfl
      focus kernel_rfl
      focus kernel_rfl
      focus exact (fun _ _ _ h => h)
      refine Or.inl ⟨?_, ?_⟩
      focus (go_simp; done)
      focus (intro w hSw; obtain ⟨_, ⟨a0, a1⟩, ⟨b0, b1⟩⟩ := hSw; (first | (go_simp; done) | (go_simp; with_reducible rfl)))
      focus assumption
      (try simp only [Act.put, List.setIfInBounds_toArray, List.set_cons_zero, List.set_cons_succ])
      refine' wpAnyH_take (i := 3) (v := _) ?_ ?_ ?_ ?_ ?_ ?_ ?_ ?_
      rotate_left 2
      focus (simp only [List.getElem?_toArray, List.getElem?_cons_succ, List.getElem?_cons_zero]; rfl)
      focus kernel_rfl
      focus kernel_rfl
      focus kernel_rfl
      focus exact (fun _ _ _ h => h)
      refine Or.inl ⟨?_, ?_⟩
      focus (go_simp; done)
      focus (intro w hSw; obtain ⟨_, ⟨a0, a1⟩, ⟨b0, b1⟩⟩ := hSw; (first | (go_simp; done) | (go_simp; with_reducible rfl)))
      focus assumption
      (try simp only [Act.put, List.setIfInBounds_toArray, List.set_cons_zero, List.set_cons_succ])
      refine' wpAnyH_take (i := 4) (v := _) ?_ ?_ ?_ ?_ ?_ ?_ ?_ ?_
      rotate_left 2
      focus (simp only [List.getElem?_toArray, List.getElem?_cons_succ, List.getElem?_cons_zero]; rfl)
      focus kernel_rfl
      focus kernel_rfl
      focus kernel_rfl
      focus exact (fun _ _ _ h => h)
      refine Or.inl ⟨?_, ?_⟩
      focus (go_simp; done)
      focus (intro w hSw; obtain ⟨_, ⟨a0, a1⟩, ⟨b0, b1⟩⟩ := hSw; (first | (go_simp; done) | (go_simp; with_reducible rfl)))
      focus assumption
      (try simp only [Act.put, List.setIfInBounds_toArray, List.set_cons_zero, List.set_cons_succ])
      refine wpAnyH_ready (rs := [5]) (by kernel_rfl) (by simp) ?_
      refine' AllReadyH.cons ?_ (fun K hK => ?_) AllReadyH.nil
      rotate_left
      focus (simp only [List.getElem?_toArray, List.getElem?_cons_succ, List.getElem?_cons_zero]; rfl)
      go_simp
      (go_at_call 11; (with_reducible refine (cNone_any _).mono ?_); rintro e u5 ⟨rfl, hb⟩)
      have hS := C2.below hHeld hb
      clear hb
      refine hK.out _ _ hS (fun hHeld => ?_)
      clear hK K hS
      (try simp only [Act.put, List.setIfInBounds_toArray, List.set_cons_zero, List.set_cons_succ])
      refine' wpAnyH_take (i := 6) (v := _) ?_ ?_ ?_ ?_ ?_ ?_ ?_ ?_
      rotate_left 2
      focus (simp only [List.getElem?_toArray, List.getElem?_cons_succ, List.getElem?_cons_zero]; rfl)
      focus kernel_rfl
      focus kernel_rfl
      focus kernel_rfl
      focus exact (fun _ _ _ h => h)
      refine Or.inl ⟨?_, ?_⟩
      focus (go_simp; done)
      focus (intro w hSw; obtain ⟨_, ⟨a0, a1⟩, ⟨b0, b1⟩⟩ := hSw; (first | (go_simp; done) | (go_simp; with_reducible rfl)))
      focus assumption
      (try simp only [Act.put, List.setIfInBounds_toArray, List.set_cons_zero, List.set_cons_succ])
      refine' wpAnyH_take (i := 7) (v := _) ?_ ?_ ?_ ?_ ?_ ?_ ?_ ?_
      rotate_left 2
      focus (simp only [List.getElem?_toArray, List.getElem?_cons_succ, List.getElem?_cons_zero]; rfl)
      focus kernel_rfl
      focus kernel_rfl
      focus kernel_rfl
      focus exact (fun _ _ _ h => h)
      refine Or.inl ⟨?_, ?_⟩
      focus (go_simp; done)
      focus (intro w hSw; obtain ⟨_, ⟨a0, a1⟩, ⟨b0, b1⟩⟩ := hSw; (first | (go_simp; done) | (go_simp; with_reducible rfl)))
      focus assumption
      (try simp only [Act.put, List.setIfInBounds_toArray, List.set_cons_zero, List.set_cons_succ])
      refine' wpAnyH_take (i := 8) (v := _) ?_ ?_ ?_ ?_ ?_ ?_ ?_ ?_
      rotate_left 2
      focus (simp only [List.getElem?_toArray, List.getElem?_cons_succ, List.getElem?_cons_zero]; rfl)
      focus kernel_rfl
      focus kernel_rfl
      focus kernel_rfl
      focus exact (fun _ _ _ h => h)
      refine Or.inl ⟨?_, ?_⟩
      focus (go_simp; done)
      focus (intro w hSw; obtain ⟨_, ⟨a0, a1⟩, ⟨b0, b1⟩⟩ := hSw; (first | (go_simp; done) | (go_simp; with_reducible rfl)))
      focus assumption
      (try simp only [Act.put, List.setIfInBounds_toArray, List.set_cons_zero, List.set_cons_succ])
      refine' wpAnyH_take (i := 9) (v := undef) ?_ ?_ ?_ ?_ ?_ ?_ ?_ ?_
      rotate_left 1
      focus (simp only [List.getElem?_toArray, List.getElem?_cons_succ, List.getElem?_cons_zero]; rfl)
      focus kernel_rfl
      focus kernel_rfl
      focus kernel_rfl
      focus exact (fun _ _ _ h => h)
      refine Or.inr ⟨?_, rfl⟩
      focus (go_simp; done)
      focus assumption
      (try simp only [Act.put, List.setIfInBounds_toArray, List.set_cons_zero, List.set_cons_succ])
      refine' wpAnyH_take (i := 10) (v := undef) ?_ ?_ ?_ ?_ ?_ ?_ ?_ ?_
      rotate_left 1
      focus (simp only [List.getElem?_toArray, List.getElem?_cons_succ, List.getElem?_cons_zero]; rfl)
      focus kernel_rfl
      focus kernel_rfl
      focus kernel_rfl
      focus exact (fun _ _ _ h => h)
      refine Or.inr ⟨?_, rfl⟩
      focus (go_simp; done)
      focus assumption
      (try simp only [Act.put, List.setIfInBounds_toArray, List.set_cons_zero, List.set_cons_succ])
      refine' wpAnyH_take (i := 11) (v := undef) ?_ ?_ ?_ ?_ ?_ ?_ ?_ ?_
      rotate_left 1
      focus (simp only [List.getElem?_toArray, List.getElem?_cons_succ, List.getElem?_cons_zero]; rfl)
      focus kernel_rfl
      focus kernel_rfl
      focus kernel_rfl
      focus exact (fun _ _ _ h => h)
      refine Or.inr ⟨?_, rfl⟩
      focus (go_simp; done)
      focus assumption
      (try simp only [Act.put, List.setIfInBounds_toArray, List.set_cons_zero, List.set_cons_succ])
      refine' wpAnyH_take (i := 12) (v := undef) ?_ ?_ ?_ ?_ ?_ ?_ ?_ ?_
      rotate_left 1
      focus (simp only [List.getElem?_toArray, List.getElem?_cons_succ, List.getElem?_cons_zero]; rfl)
      focus kernel_rfl
      focus kernel_rfl
      focus kernel_rfl
      focus exact (fun _ _ _ h => h)
      refine Or.inr ⟨?_, rfl⟩
      focus (go_simp; done)
      focus assumption
      (try simp only [Act.put, List.setIfInBounds_toArray, List.set_cons_zero, List.set_cons_succ])
      refine' wpAnyH_take (i := 13) (v := undef) ?_ ?_ ?_ ?_ ?_ ?_ ?_ ?_
      rotate_left 1
      focus (simp only [List.getElem?_toArray, List.getElem?_cons_succ, List.getElem?_cons_zero]; rfl)
      focus kernel_rfl
      focus kernel_rfl
      focus kernel_rfl
      focus exact (fun _ _ _ h => h)
      refine Or.inr ⟨?_, rfl⟩
      focus (go_simp; done)
      focus assumption
      (try simp only [Act.put, List.setIfInBounds_toArray, List.set_cons_zero, List.set_cons_succ])
      refine' wpAnyH_take (i := 14) (v := undef) ?_ ?_ ?_ ?_ ?_ ?_ ?_ ?_
      rotate_left 1
      focus (simp only [List.getElem?_toArray, List.getElem?_cons_succ, List.getElem?_cons_zero]; rfl)
      focus kernel_rfl
      focus kernel_rfl
      focus kernel_rfl
      focus exact (fun _ _ _ h => h)
      refine Or.inr ⟨?_, rfl⟩
      focus (go_simp; done)
      focus assumption
      (try simp only [Act.put, List.setIfInBounds_toArray, List.set_cons_zero, List.set_cons_succ])
      refine' wpAnyH_take (i := 15) (v := undef) ?_ ?_ ?_ ?_ ?_ ?_ ?_ ?_
      rotate_left 1
      focus (simp only [List.getElem?_toArray, List.getElem?_cons_succ, List.getElem?_cons_zero]; rfl)
      focus kernel_rfl
      focus kernel_rfl
      focus kernel_rfl
      focus exact (fun _ _ _ h => h)
      refine Or.inr ⟨?_, rfl⟩
      focus (go_simp; done)
      focus assumption
      (try simp only [Act.put, List.setIfInBounds_toArray, List.set_cons_zero, List.set_cons_succ])
      refine' wpAnyH_take (i := 16) (v := undef) ?_ ?_ ?_ ?_ ?_ ?_ ?_ ?_
      rotate_left 1
      focus (simp only [List.getElem?_toArray, List.getElem?_cons_succ, List.getElem?_cons_zero]; rfl)
      focus kernel_rfl
      focus kernel_rfl
      focus kernel_rfl
      focus exact (fun _ _ _ h => h)
      refine Or.inr ⟨?_, rfl⟩
      focus (go_simp; done)
      focus assumption
      (try simp only [Act.put, List.setIfInBounds_toArray, List.set_cons_zero, List.set_cons_succ])
      refine' wpAnyH_take (i := 17) (v := undef) ?_ ?_ ?_ ?_ ?_ ?_ ?_ ?_
      rotate_left 1
      focus (simp only [List.getElem?_toArray, List.getElem?_cons_succ, List.getElem?_cons_zero]; rfl)
      focus kernel_rfl
      focus kernel_rfl
      focus kernel_rfl
      focus exact (fun _ _ _ h => h)
      refine Or.inr ⟨?_, rfl⟩
      focus (go_simp; done)
      focus assumption
      (try simp only [Act.put, List.setIfInBounds_toArray, List.set_cons_zero, List.set_cons_succ])
      refine' wpAnyH_take (i := 18) (v := undef) ?_ ?_ ?_ ?_ ?_ ?_ ?_ ?_
      rotate_left 1
      focus (simp only [List.getElem?_toArray, List.getElem?_cons_succ, List.getElem?_cons_zero]; rfl)
      focus kernel_rfl
      focus kernel_rfl
      focus kernel_rfl
      focus exact (fun _ _ _ h => h)
      refine Or.inr ⟨?_, rfl⟩
      focus (go_simp; done)
      focus assumption
      (try simp only [Act.put, List.setIfInBounds_toArray, List.set_cons_zero, List.set_cons_succ])
      refine' wpAnyH_take (i := 19) (v := undef) ?_ ?_ ?_ ?_ ?_ ?_ ?_ ?_
      rotate_left 1
      focus (simp only [List.getElem?_toArray, List.getElem?_cons_succ, List.getElem?_cons_zero]; rfl)
      focus kernel_rfl
      focus kernel_rfl
      focus kernel_rfl
      focus exact (fun _ _ _ h => h)
      refine Or.inr ⟨?_, rfl⟩
      focus (go_simp; done)
      focus assumption
      (try simp only [Act.put, List.setIfInBounds_toArray, List.set_cons_zero, List.set_cons_succ])
      refine' wpAnyH_take (i := 20) (v := undef) ?_ ?_ ?_ ?_ ?_ ?_ ?_ ?_
      rotate_left 1
      focus (simp only [List.getElem?_toArray, List.getElem?_cons_succ, List.getElem?_cons_zero]; rfl)
      focus kernel_rfl
      focus kernel_rfl
      focus kernel_rfl
      focus exact (fun _ _ _ h => h)
      refine Or.inr ⟨?_, rfl⟩
      focus (go_simp; done)
      focus assumption
      (try simp only [Act.put, List.setIfInBounds_toArray, List.set_cons_zero, List.set_cons_succ])
      refine' wpAnyH_take (i := 21) (v := undef) ?_ ?_ ?_ ?_ ?_ ?_ ?_ ?_
      rotate_left 1
      focus (simp only [List.getElem?_toArray, List.getElem?_cons_succ, List.getElem?_cons_zero]; rfl)
      focus kernel_rfl
      focus kernel_rfl
      focus kernel_rfl
      focus exact (fun _ _ _ h => h)
      refine Or.inr ⟨?_, rfl⟩
      focus (go_simp; done)
      focus assumption
      (try simp only [Act.put, List.setIfInBounds_toArray, List.set_cons_zero, List.set_cons_succ])
      refine' wpAnyH_take (i := 22) (v := undef) ?_ ?_ ?_ ?_ ?_ ?_ ?_ ?_
      rotate_left 1
      focus (simp only [List.getElem?_toArray, List.getElem?_cons_succ, List.getElem?_cons_zero]; rfl)
      focus kernel_rfl
      focus kernel_rfl
      focus kernel_rfl
      focus exact (fun _ _ _ h => h)
      refine Or.inr ⟨?_, rfl⟩
      focus (go_simp; done)
      focus assumption
      (try simp only [Act.put, List.setIfInBounds_toArray, List.set_cons_zero, List.set_cons_succ])
      refine' wpAnyH_take (i := 23) (v := _) ?_ ?_ ?_ ?_ ?_ ?_ ?_ ?_
      rotate_left 2
      focus (simp only [List.getElem?_toArray, List.getElem?_cons_succ, List.getElem?_cons_zero]; rfl)
      focus kernel_rfl
      focus kernel_rfl
      focus kernel_rfl
      focus exact (fun _ _ _ h => h)
      refine Or.inl ⟨?_, ?_⟩
      focus (go_simp; done)
      focus (intro w hSw; obtain ⟨_, ⟨a0, a1⟩, ⟨b0, b1⟩⟩ := hSw; (first | (go_simp; done) | (go_simp; with_reducible rfl)))
      focus assumption
      (try simp only [Act.put, List.setIfInBounds_toArray, List.set_cons_zero, List.set_cons_succ])
      refine' wpAnyH_take (i := 24) (v := _) ?_ ?_ ?_ ?_ ?_ ?_ ?_ ?_
      rotate_left 2
      focus (simp only [List.getElem?_toArray, List.getElem?_cons_succ, List.getElem?_cons_zero]; rfl)
      focus kernel_rfl
      focus kernel_rfl
      focus kernel_rfl
      focus exact (fun _ _ _ h => h)
      refine Or.inl ⟨?_, ?_⟩
      focus (go_simp; done)
      focus (intro w hSw; obtain ⟨_, ⟨a0, a1⟩, ⟨b0, b1⟩⟩ := hSw; (first | (go_simp; done) | (go_simp; with_reducible rfl)))
      focus assumption
      (try simp only [Act.put, List.setIfInBounds_toArray, List.set_cons_zero, List.set_cons_succ])
      refine wpAnyH_done (by kernel_rfl) ?_ _
      go_wp2
      go_ret
      exact ⟨ret_bool HF.out, hHeld.1.1⟩
    · have he2 := rs_eql a.m a.r (-1) 0 false (rs_not a h2)
      obtain ⟨i, hi⟩ : ∃ i, Rs.sz a.m = i := ⟨_, rfl⟩
      obtain ⟨j, hj⟩ : ∃ j, Rs.sz b.m = j := ⟨_, rfl⟩
      have HI := Lib.hid hi
      have HJ := Lib.hid hj
      by_cases h3 : j < i
      · have h4 : (j : Int) < i := by omega
        obtain ⟨z, hz⟩ : ∃ z, Rs.low a.r j = z := ⟨_, rfl⟩
        have he3 := rs_eql z.m z.r b.m b.r t (by rw [← HJ0.out.2.2, Rs.leq_more HJ0.out.1 HJ0.out.2.1 h2 (by rw [hi, hj]; exact h3), hj, hz])
        have HL := Lib.hid hz
        clear h1 h2 hi hj h3 hz
        refine wp_region_held_drew (S := (fun w' => C2 w a b w')) (by kernel_rfl) (hHeld.drew) (fun hHeld => ?_)
        generalize w'.drew = u0 at *
        refine' wpAnyH_take (i := 0) (v := _) ?_ ?_ ?_ ?_ ?_ ?_ ?_ ?_
        rotate_left 2
        focus (simp only [List.getElem?_toArray, List.getElem?_cons_succ, List.getElem?_cons_zero]; rfl)
        focus kernel_rfl
        focus kernel_rfl
        focus kernel_rfl
        focus exact (fun _ _ _ h => h)
        refine Or.inl ⟨?_, ?_⟩
        focus (go_simp; done)
        focus (intro w hSw; obtain ⟨_, ⟨a0, a1⟩, ⟨b0, b1⟩⟩ := hSw; (first | (go_simp; done) | (go_simp; with_reducible rfl)))
        focus assumption
        (try simp only [Act.put, List.setIfInBounds_toArray, List.set_cons_zero, List.set_cons_succ])
        refine' wpAnyH_take (i := 1) (v := _) ?_ ?_ ?_ ?_ ?_ ?_ ?_ ?_
        rotate_left 2
        focus (simp only [List.getElem?_toArray, List.getElem?_cons_succ, List.getElem?_cons_zero]; rfl)
        focus kernel_rfl
        focus kernel_rfl
        focus kernel_rfl
        focus exact (fun _ _ _ h => h)
        refine Or.inl ⟨?_, ?_⟩
        focus (go_simp; done)
        focus (intro w hSw; obtain ⟨_, ⟨a0, a1⟩, ⟨b0, b1⟩⟩ := hSw; (first | (go_simp; done) | (go_simp; with_reducible rfl)))
        focus assumption
        (try simp only [Act.put, List.setIfInBounds_toArray, List.set_cons_zero, List.set_cons_succ])
        refine' wpAnyH_take (i := 2) (v := _) ?_ ?_ ?_ ?_ ?_ ?_ ?_ ?_
        rotate_left 2
        focus (simp only [List.getElem?_toArray, List.getElem?_cons_succ, List.getElem?_cons_zero]; rfl)
        focus kernel_rfl
        focus kernel_rfl
        focus kernel_rfl
        focus exact (fun _ _ _ h => h)
        refine Or.inl ⟨?_, ?_⟩
        focus (go_simp; done)
        focus (intro w hSw; obtain ⟨_, ⟨a0, a1⟩, ⟨b0, b1⟩⟩ := hSw; (first | (go_simp; done) | (go_simp; with_reducible rfl)))
        focus assumption
        (try simp only [Act.put, List.setIfInBounds_toArray, List.set_cons_zero, List.set_cons_succ])
        refine' wpAnyH_take (i := 3) (v := _) ?_ ?_ ?_ ?_ ?_ ?_ ?_ ?_
        rotate_left 2
        focus (simp only [List.getElem?_toArray, List.getElem?_cons_succ, List.getElem?_cons_zero]; rfl)
        focus kernel_rfl
        focus kernel_rfl
        focus kernel_rfl
        focus exact (fun _ _ _ h => h)
        refine Or.inl ⟨?_, ?_⟩
        focus (go_simp; done)
        focus (intro w hSw; obtain ⟨_, ⟨a0, a1⟩, ⟨b0, b1⟩⟩ := hSw; (first | (go_simp; done) | (go_simp; with_reducible rfl)))
        focus assumption
        (try simp only [Act.put, List.setIfInBounds_toArray, List.set_cons_zero, List.set_cons_succ])
        refine' wpAnyH_take (i := 4) (v := _) ?_ ?_ ?_ ?_ ?_ ?_ ?_ ?_
        rotate_left 2
        focus (simp only [List.getElem?_toArray, List.getElem?_cons_succ, List.getElem?_cons_zero]; rfl)
        focus kernel_rfl
        focus kernel_rfl
        focus kernel_rfl
        focus exact (fun _ _ _ h => h)
        refine Or.inl ⟨?_, ?_⟩
        focus (go_simp; done)
        focus (intro w hSw; obtain ⟨_, ⟨a0, a1⟩, ⟨b0, b1⟩⟩ := hSw; (first | (go_simp; done) | (go_simp; with_reducible rfl)))
        focus assumption
        (try simp only [Act.put, List.setIfInBounds_toArray, List.set_cons_zero, List.set_cons_succ])
        refine wpAnyH_ready (rs := [5]) (by kernel_rfl) (by simp) ?_
        refine' AllReadyH.cons ?_ (fun K hK => ?_) AllReadyH.nil
        rotate_left
        focus (simp only [List.getElem?_toArray, List.getElem?_cons_succ, List.getElem?_cons_zero]; rfl)
        go_simp
        (go_at_call 11; (with_reducible refine (cNone_any _).mono ?_); rintro e u5 ⟨rfl, hb⟩)
        have hS := C2.below hHeld hb
        clear hb
        refine hK.out _ _ hS (fun hHeld => ?_)
        clear hK K hS
        (try simp only [Act.put, List.setIfInBounds_toArray, List.set_cons_zero, List.set_cons_succ])
        refine' wpAnyH_take (i := 6) (v := _) ?_ ?_ ?_ ?_ ?_ ?_ ?_ ?_
        rotate_left 2
        focus (simp only [List.getElem?_toArray, List.getElem?_cons_succ, List.getElem?_cons_zero]; rfl)
        focus kernel_rfl
        focus kernel_rfl
        focus kernel_rfl
        focus exact (fun _ _ _ h => h)
        refine Or.inl ⟨?_, ?_⟩
        focus (go_simp; done)
        focus (intro w hSw; obtain ⟨_, ⟨a0, a1⟩, ⟨b0, b1⟩⟩ := hSw; (first | (go_simp; done) | (go_simp; with_reducible rfl)))
        focus assumption
        (try simp only [Act.put, List.setIfInBounds_toArray, List.set_cons_zero, List.set_cons_succ])
        refine' wpAnyH_take (i := 7) (v := _) ?_ ?_ ?_ ?_ ?_ ?_ ?_ ?_
        rotate_left 2
        focus (simp only [List.getElem?_toArray, List.getElem?_cons_succ, List.getElem?_cons_zero]; rfl)
        focus kernel_rfl
        focus kernel_rfl
        focus kernel_rfl
        focus exact (fun _ _ _ h => h)
        refine Or.inl ⟨?_, ?_⟩
        focus (go_simp; done)
        focus (intro w hSw; obtain ⟨_, ⟨a0, a1⟩, ⟨b0, b1⟩⟩ := hSw; (first | (go_simp; done) | (go_simp; with_reducible rfl)))
        focus assumption
        (try simp only [Act.put, List.setIfInBounds_toArray, List.set_cons_zero, List.set_cons_succ])
        refine' wpAnyH_take (i := 8) (v := _) ?_ ?_ ?_ ?_ ?_ ?_ ?_ ?_
        rotate_left 2
        focus (simp only [List.getElem?_toArray, List.getElem?_cons_succ, List.getElem?_cons_zero]; rfl)
        focus kernel_rfl
        focus kernel_rfl
        focus kernel_rfl
        focus exact (fun _ _ _ h => h)
        refine Or.inl ⟨?_, ?_⟩
        focus (go_simp; done)
        focus (intro w hSw; obtain ⟨_, ⟨a0, a1⟩, ⟨b0, b1⟩⟩ := hSw; (first | (go_simp; done) | (go_simp; with_reducible rfl)))
        focus assumption
        (try simp only [Act.put, List.setIfInBounds_toArray, List.set_cons_zero, List.set_cons_succ])
        refine' wpAnyH_take (i := 9) (v := _) ?_ ?_ ?_ ?_ ?_ ?_ ?_ ?_
        rotate_left 2
        focus (simp only [List.getElem?_toArray, List.getElem?_cons_succ, List.getElem?_cons_zero]; rfl)
        focus kernel_rfl
        focus kernel_rfl
        focus kernel_rfl
        focus exact (fun _ _ _ h => h)
        refine Or.inl ⟨?_, ?_⟩
        focus (go_simp; done)
        focus (intro w hSw; obtain ⟨_, ⟨a0, a1⟩, ⟨b0, b1⟩⟩ := hSw; (first | (go_simp; done) | (go_simp; with_reducible rfl)))
        focus assumption
        (try simp only [Act.put, List.setIfInBounds_toArray, List.set_cons_zero, List.set_cons_succ])
        refine' wpAnyH_take (i := 11) (v := _) ?_ ?_ ?_ ?_ ?_ ?_ ?_ ?_
        rotate_left 2
        focus (simp only [List.getElem?_toArray, List.getElem?_cons_succ, List.getElem?_cons_zero]; rfl)
        focus kernel_rfl
        focus kernel_rfl
        focus kernel_rfl
        focus exact (fun _ _ _ h => h)
        refine Or.inl ⟨?_, ?_⟩
        focus (go_simp; done)
        focus (intro w hSw; obtain ⟨_, ⟨a0, a1⟩, ⟨b0, b1⟩⟩ := hSw; (first | (go_simp; done) | (go_simp; with_reducible rfl)))
        focus assumption
        (try simp only [Act.put, List.setIfInBounds_toArray, List.set_cons_zero, List.set_cons_succ])
        refine wpAnyH_ready (rs := [10]) (by kernel_rfl) (by simp) ?_
        refine' AllReadyH.cons ?_ (fun K hK => ?_) AllReadyH.nil
        rotate_left
        focus (simp only [List.getElem?_toArray, List.getElem?_cons_succ, List.getElem?_cons_zero]; rfl)
        go_simp
        (have hTu := HTb.out.below (hHeld.1.1); go_at_call 39; (with_reducible refine (size_any a.m a.r i HI.out _ hTu).mono ?_); clear hTu; rintro e u10 ⟨rfl, hb⟩)
        have hS := C2.below hHeld hb
        clear hb
        refine hK.out _ _ hS (fun hHeld => ?_)
        clear hK K hS
        (try simp only [Act.put, List.setIfInBounds_toArray, List.set_cons_zero, List.set_cons_succ])
        refine wpAnyH_ready (rs := [12]) (by kernel_rfl) (by simp) ?_
        refine' AllReadyH.cons ?_ (fun K hK => ?_) AllReadyH.nil
        rotate_left
        focus (simp only [List.getElem?_toArray, List.getElem?_cons_succ, List.getElem?_cons_zero]; rfl)
        go_simp
        (have hTu := HTb.out.below (hHeld.1.1); go_at_call 39; (with_reducible refine (size_any b.m b.r j HJ.out _ hTu).mono ?_); clear hTu; rintro e u12 ⟨rfl, hb⟩)
        have hS := C2.below hHeld hb
        clear hb
        refine hK.out _ _ hS (fun hHeld => ?_)
        clear hK K hS
        (try simp only [Act.put, List.setIfInBounds_toArray, List.set_cons_zero, List.set_cons_succ])
        refine' wpAnyH_take (i := 13) (v := _) ?_ ?_ ?_ ?_ ?_ ?_ ?_ ?_
        rotate_left 2
        focus (simp only [List.getElem?_toArray, List.getElem?_cons_succ, List.getElem?_cons_zero]; rfl)
        focus kernel_rfl
        focus kernel_rfl
        focus kernel_rfl
        focus exact (fun _ _ _ h => h)
        refine Or.inl ⟨?_, ?_⟩
        focus (go_simp; done)
        focus (intro w hSw; obtain ⟨_, ⟨a0, a1⟩, ⟨b0, b1⟩⟩ := hSw; (first | (go_simp; done) | (go_simp; with_reducible rfl)))
        focus assumption
        (try simp only [Act.put, List.setIfInBounds_toArray, List.set_cons_zero, List.set_cons_succ])
        refine' wpAnyH_take (i := 14) (v := _) ?_ ?_ ?_ ?_ ?_ ?_ ?_ ?_
        rotate_left 2
        focus (simp only [List.getElem?_toArray, List.getElem?_cons_succ, List.getElem?_cons_zero]; rfl)
        focus kernel_rfl
        focus kernel_rfl
        focus kernel_rfl
        focus exact (fun _ _ _ h => h)
        refine Or.inl ⟨?_, ?_⟩
        focus (go_simp; done)
        focus (intro w hSw; obtain ⟨_, ⟨a0, a1⟩, ⟨b0, b1⟩⟩ := hSw; (first | (go_simp; done) | (go_simp; with_reducible rfl)))
        focus assumption
        (try simp only [Act.put, List.setIfInBounds_toArray, List.set_cons_zero, List.set_cons_succ])
        refine' wpAnyH_take (i := 15) (v := _) ?_ ?_ ?_ ?_ ?_ ?_ ?_ ?_
        rotate_left 2
        focus (simp only [List.getElem?_toArray, List.getElem?_cons_succ, List.getElem?_cons_zero]; rfl)
        focus kernel_rfl
        focus kernel_rfl
        focus kernel_rfl
        focus exact (fun _ _ _ h => h)
        refine Or.inl ⟨?_, ?_⟩
        focus (go_simp; done)
        focus (intro w hSw; obtain ⟨_, ⟨a0, a1⟩, ⟨b0, b1⟩⟩ := hSw; (first | (go_simp; done) | (go_simp; with_reducible rfl)))
        focus assumption
        (try simp only [Act.put, List.setIfInBounds_toArray, List.set_cons_zero, List.set_cons_succ])
        refine' wpAnyH_take (i := 16) (v := _) ?_ ?_ ?_ ?_ ?_ ?_ ?_ ?_
        rotate_left 2
        focus (simp only [List.getElem?_toArray, List.getElem?_cons_succ, List.getElem?_cons_zero]; rfl)
        focus kernel_rfl
        focus kernel_rfl
        focus kernel_rfl
        focus exact (fun _ _ _ h => h)
        refine Or.inl ⟨?_, ?_⟩
        focus (go_simp; done)
        focus (intro w hSw; obtain ⟨_, ⟨a0, a1⟩, ⟨b0, b1⟩⟩ := hSw; (first | (go_simp; done) | (go_simp; with_reducible rfl)))
        focus assumption
        (try simp only [Act.put, List.setIfInBounds_toArray, List.set_cons_zero, List.set_cons_succ])
        refine' wpAnyH_take (i := 17) (v := _) ?_ ?_ ?_ ?_ ?_ ?_ ?_ ?_
        rotate_left 2
        focus (simp only [List.getElem?_toArray, List.getElem?_cons_succ, List.getElem?_cons_zero]; rfl)
        focus kernel_rfl
        focus kernel_rfl
        focus kernel_rfl
        focus exact (fun _ _ _ h => h)
        refine Or.inl ⟨?_, ?_⟩
        focus (go_simp; done)
        focus (intro w hSw; obtain ⟨_, ⟨a0, a1⟩, ⟨b0, b1⟩⟩ := hSw; (first | (go_simp; done) | (go_simp; with_reducible rfl)))
        focus assumption
        (try simp only [Act.put, List.setIfInBounds_toArray, List.set_cons_zero, List.set_cons_succ])
        refine' wpAnyH_take (i := 20) (v := _) ?_ ?_ ?_ ?_ ?_ ?_ ?_ ?_
        rotate_left 2
        focus (simp only [List.getElem?_toArray, List.getElem?_cons_succ, List.getElem?_cons_zero]; rfl)
        focus kernel_rfl
        focus kernel_rfl
        focus kernel_rfl
        focus exact (fun _ _ _ h => h)
        refine Or.inl ⟨?_, ?_⟩
        focus (go_simp; done)
        focus (intro w hSw; obtain ⟨_, ⟨a0, a1⟩, ⟨b0, b1⟩⟩ := hSw; (first | (go_simp; done) | (go_simp; with_reducible rfl)))
        focus assumption
        (try simp only [Act.put, List.setIfInBounds_toArray, List.set_cons_zero, List.set_cons_succ])
        refine wpAnyH_ready (rs := [18]) (by kernel_rfl) (by simp) ?_
        refine' AllReadyH.cons ?_ (fun K hK => ?_) AllReadyH.nil
        rotate_left
        focus (simp only [List.getElem?_toArray, List.getElem?_cons_succ, List.getElem?_cons_zero]; rfl)
        go_simp
        (have hTu := HTb.out.below (hHeld.1.1); go_at_call 39; (with_reducible refine (size_any b.m b.r j HJ.out _ hTu).mono ?_); clear hTu; rintro e u18 ⟨rfl, hb⟩)
        have hS := C2.below hHeld hb
        clear hb
        refine hK.out _ _ hS (fun hHeld => ?_)
        clear hK K hS
        (try simp only [Act.put, List.setIfInBounds_toArray, List.set_cons_zero, List.set_cons_succ])
        refine wpAnyH_ready (rs := [19]) (by kernel_rfl) (by simp) ?_
        refine' AllReadyH.cons ?_ (fun K hK => ?_) AllReadyH.nil
        rotate_left
        focus (simp only [List.getElem?_toArray, List.getElem?_cons_succ, List.getElem?_cons_zero]; rfl)
        go_simp
        (go_at_call 38; (with_reducible refine (class_any a.r j z HL.out _).mono ?_); rintro e u19 ⟨rfl, hb⟩)
        have hS := C2.below hHeld hb
        clear hb
        refine hK.out _ _ hS (fun hHeld => ?_)
        clear hK K hS
        (try simp only [Act.put, List.setIfInBounds_toArray, List.set_cons_zero, List.set_cons_succ])
        refine' wpAnyH_take (i := 21) (v := _) ?_ ?_ ?_ ?_ ?_ ?_ ?_ ?_
        rotate_left 2
        focus (simp only [List.getElem?_toArray, List.getElem?_cons_succ, List.getElem?_cons_zero]; rfl)
        focus kernel_rfl
        focus kernel_rfl
        focus kernel_rfl
        focus exact (fun _ _ _ h => h)
        refine Or.inl ⟨?_, ?_⟩
        focus (go_simp; done)
        focus (intro w hSw; obtain ⟨_, ⟨a0, a1⟩, ⟨b0, b1⟩⟩ := hSw; (first | (go_simp; done) | (go_simp; with_reducible rfl)))
        focus assumption
        (try simp only [Act.put, List.setIfInBounds_toArray, List.set_cons_zero, List.set_cons_succ])
        refine' wpAnyH_take (i := 22) (v := _) ?_ ?_ ?_ ?_ ?_ ?_ ?_ ?_
        rotate_left 2
        focus (simp only [List.getElem?_toArray, List.getElem?_cons_succ, List.getElem?_cons_zero]; rfl)
        focus kernel_rfl
        focus kernel_rfl
        focus kernel_rfl
        focus exact (fun _ _ _ h => h)
        refine Or.inl ⟨?_, ?_⟩
        focus (go_simp; done)
        focus (intro w hSw; obtain ⟨_, ⟨a0, a1⟩, ⟨b0, b1⟩⟩ := hSw; (first | (go_simp; done) | (go_simp; with_reducible rfl)))
        focus assumption
        (try simp only [Act.put, List.setIfInBounds_toArray, List.set_cons_zero, List.set_cons_succ])
        refine' wpAnyH_take (i := 23) (v := _) ?_ ?_ ?_ ?_ ?_ ?_ ?_ ?_
        rotate_left 2
        focus (simp only [List.getElem?_toArray, List.getElem?_cons_succ, List.getElem?_cons_zero]; rfl)
        focus kernel_rfl
        focus kernel_rfl
        focus kernel_rfl
        focus exact (fun _ _ _ h => h)
        refine Or.inl ⟨?_, ?_⟩
        focus (go_simp; done)
        focus (intro w hSw; obtain ⟨_, ⟨a0, a1⟩, ⟨b0, b1⟩⟩ := hSw; (first | (go_simp; done) | (go_simp; with_reducible rfl)))
        focus assumption
        (try simp only [Act.put, List.setIfInBounds_toArray, List.set_cons_zero, List.set_cons_succ])
        refine' wpAnyH_take (i := 24) (v := _) ?_ ?_ ?_ ?_ ?_ ?_ ?_ ?_
        rotate_left 2
        focus (simp only [List.getElem?_toArray, List.getElem?_cons_succ, List.getElem?_cons_zero]; rfl)
        focus kernel_rfl
        focus kernel_rfl
        focus kernel_rfl
        focus exact (fun _ _ _ h => h)
        refine Or.inl ⟨?_, ?_⟩
        focus (go_simp; done)
        focus (intro w hSw; obtain ⟨_, ⟨a0, a1⟩, ⟨b0, b1⟩⟩ := hSw; (first | (go_simp; done) | (go_simp; with_reducible rfl)))
        focus assumption
        (try simp only [Act.put, List.setIfInBounds_toArray, List.set_cons_zero, List.set_cons_succ])
        refine wpAnyH_done (by kernel_rfl) ?_ _
        go_wp2
        go_ret
        exact ⟨ret_bool rfl, hHeld.1.1⟩
      · have h4 : ¬ (j : Int) < i := by omega
        have HF := Lib.hid (show false = t by rw [← HJ0.out.2.2, Rs.leq_less HJ0.out.1 HJ0.out.2.1 h1 h2 (by rw [hi, hj]; exact h3)])
        clear h1 h2 hi hj h3
        refine wp_region_held_drew (S := (fun w' => C2 w a b w')) (by kernel_rfl) (hHeld.drew) (fun hHeld => ?_)
        generalize w'.drew = u0 at *
        refine' wpAnyH_take (i := 0) (v := _) ?_ ?_ ?_ ?_ ?_ ?_ ?_ ?_
        rotate_left 2
        focus (simp only [List.getElem?_toArray, List.getElem?_cons_succ, List.getElem?_cons_zero]; rfl)
        focus kernel_rfl
        focus kernel_rfl
        focus kernel_rfl
        focus exact (fun _ _ _ h => h)
        refine Or.inl ⟨?_, ?_⟩
        focus (go_simp; done)
        focus (intro w hSw; obtain ⟨_, ⟨a0, a1⟩, ⟨b0, b1⟩⟩ := hSw; (first | (go_simp; done) | (go_simp; with_reducible rfl)))
        focus assumption
        (try simp only [Act.put, List.setIfInBounds_toArray, List.set_cons_zero, List.set_cons_succ])
        refine' wpAnyH_take (i := 1) (v := _) ?_ ?_ ?_ ?_ ?_ ?_ ?_ ?_
        rotate_left 2
        focus (simp only [List.getElem?_toArray, List.getElem?_cons_succ, List.getElem?_cons_zero]; rfl)
        focus kernel_rfl
        focus kernel_rfl
        focus kernel_rfl
        focus exact (fun _ _ _ h => h)
        refine Or.inl ⟨?_, ?_⟩
        focus (go_simp; done)
        focus (intro w hSw; obtain ⟨_, ⟨a0, a1⟩, ⟨b0, b1⟩⟩ := hSw; (first | (go_simp; done) | (go_simp; with_reducible rfl)))
        focus assumption
        (try simp only [Act.put, List.setIfInBounds_toArray, List.set_cons_zero, List.set_cons_succ])
        refine' wpAnyH_take (i := 2) (v := _) ?_ ?_ ?_ ?_ ?_ ?_ ?_ ?_
        rotate_left 2
        focus (simp only [List.getElem?_toArray, List.getElem?_cons_succ, List.getElem?_cons_zero]; rfl)
        focus kernel_rfl
        focus kernel_rfl
        focus kernel_rfl
        focus exact (fun _ _ _ h => h)
        refine Or.inl ⟨?_, ?_⟩
        focus (go_simp; done)
        focus (intro w hSw; obtain ⟨_, ⟨a0, a1⟩, ⟨b0, b1⟩⟩ := hSw; (first | (go_simp; done) | (go_simp; with_reducible rfl)))
        focus assumption
        (try simp only [Act.put, List.setIfInBounds_toArray, List.set_cons_zero, List.set_cons_succ])
        refine' wpAnyH_take (i := 3) (v := _) ?_ ?_ ?_ ?_ ?_ ?_ ?_ ?_
        rotate_left 2
        focus (simp only [List.getElem?_toArray, List.getElem?_cons_succ, List.getElem?_cons_zero]; rfl)
        focus kernel_rfl
        focus kernel_rfl
        focus kernel_rfl
        focus exact (fun _ _ _ h => h)
        refine Or.inl ⟨?_, ?_⟩
        focus (go_simp; done)
        focus (intro w hSw; obtain ⟨_, ⟨a0, a1⟩, ⟨b0, b1⟩⟩ := hSw; (first | (go_simp; done) | (go_simp; with_reducible rfl)))
        focus assumption
        (try simp only [Act.put, List.setIfInBounds_toArray, List.set_cons_zero, List.set_cons_succ])
        refine' wpAnyH_take (i := 4) (v := _) ?_ ?_ ?_ ?_ ?_ ?_ ?_ ?_
        rotate_left 2
        focus (simp only [List.getElem?_toArray, List.getElem?_cons_succ, List.getElem?_cons_zero]; rfl)
        focus kernel_rfl
        focus kernel_rfl
        focus kernel_rfl
        focus exact (fun _ _ _ h => h)
        refine Or.inl ⟨?_, ?_⟩
        focus (go_simp; done)
        focus (intro w hSw; obtain ⟨_, ⟨a0, a1⟩, ⟨b0, b1⟩⟩ := hSw; (first | (go_simp; done) | (go_simp; with_reducible rfl)))
        focus assumption
        (try simp only [Act.put, List.setIfInBounds_toArray, List.set_cons_zero, List.set_cons_succ])
        refine wpAnyH_ready (rs := [5]) (by kernel_rfl) (by simp) ?_
        refine' AllReadyH.cons ?_ (fun K hK => ?_) AllReadyH.nil
        rotate_left
        focus (simp only [List.getElem?_toArray, List.getElem?_cons_succ, List.getElem?_cons_zero]; rfl)
        go_simp
        (go_at_call 11; (with_reducible refine (cNone_any _).mono ?_); rintro e u5 ⟨rfl, hb⟩)
        have hS := C2.below hHeld hb
        clear hb
        refine hK.out _ _ hS (fun hHeld => ?_)
        clear hK K hS
        (try simp only [Act.put, List.setIfInBounds_toArray, List.set_cons_zero, List.set_cons_succ])
        refine' wpAnyH_take (i := 6) (v := _) ?_ ?_ ?_ ?_ ?_ ?_ ?_ ?_
        rotate_left 2
        focus (simp only [List.getElem?_toArray, List.getElem?_cons_succ, List.getElem?_cons_zero]; rfl)
        focus kernel_rfl
        focus kernel_rfl
        focus kernel_rfl
        focus exact (fun _ _ _ h => h)
        refine Or.inl ⟨?_, ?_⟩
        focus (go_simp; done)
        focus (intro w hSw; obtain ⟨_, ⟨a0, a1⟩, ⟨b0, b1⟩⟩ := hSw; (first | (go_simp; done) | (go_simp; with_reducible rfl)))
        focus assumption
        (try simp only [Act.put, List.setIfInBounds_toArray, List.set_cons_zero, List.set_cons_succ])
        refine' wpAnyH_take (i := 7) (v := _) ?_ ?_ ?_ ?_ ?_ ?_ ?_ ?_
        rotate_left 2
        focus (simp only [List.getElem?_toArray, List.getElem?_cons_succ, List.getElem?_cons_zero]; rfl)
        focus kernel_rfl
        focus kernel_rfl
        focus kernel_rfl
        focus exact (fun _ _ _ h => h)
        refine Or.inl ⟨?_, ?_⟩
        focus (go_simp; done)
        focus (intro w hSw; obtain ⟨_, ⟨a0, a1⟩, ⟨b0, b1⟩⟩ := hSw; (first | (go_simp; done) | (go_simp; with_reducible rfl)))
        focus assumption
        (try simp only [Act.put, List.setIfInBounds_toArray, List.set_cons_zero, List.set_cons_succ])
        refine' wpAnyH_take (i := 8) (v := _) ?_ ?_ ?_ ?_ ?_ ?_ ?_ ?_
        rotate_left 2
        focus (simp only [List.getElem?_toArray, List.getElem?_cons_succ, List.getElem?_cons_zero]; rfl)
        focus kernel_rfl
        focus kernel_rfl
        focus kernel_rfl
        focus exact (fun _ _ _ h => h)
        refine Or.inl ⟨?_, ?_⟩
        focus (go_simp; done)
        focus (intro w hSw; obtain ⟨_, ⟨a0, a1⟩, ⟨b0, b1⟩⟩ := hSw; (first | (go_simp; done) | (go_simp; with_reducible rfl)))
        focus assumption
        (try simp only [Act.put, List.setIfInBounds_toArray, List.set_cons_zero, List.set_cons_succ])
        refine' wpAnyH_take (i := 9) (v := _) ?_ ?_ ?_ ?_ ?_ ?_ ?_ ?_
        rotate_left 2
        focus (simp only [List.getElem?_toArray, List.getElem?_cons_succ, List.getElem?_cons_zero]; rfl)
        focus kernel_rfl
        focus kernel_rfl
        focus kernel_rfl
        focus exact (fun _ _ _ h => h)
        refine Or.inl ⟨?_, ?_⟩
        focus (go_simp; done)
        focus (intro w hSw; obtain ⟨_, ⟨a0, a1⟩, ⟨b0, b1⟩⟩ := hSw; (first | (go_simp; done) | (go_simp; with_reducible rfl)))
        focus assumption
        (try simp only [Act.put, List.setIfInBounds_toArray, List.set_cons_zero, List.set_cons_succ])
        refine' wpAnyH_take (i := 11) (v := _) ?_ ?_ ?_ ?_ ?_ ?_ ?_ ?_
        rotate_left 2
        focus (simp only [List.getElem?_toArray, List.getElem?_cons_succ, List.getElem?_cons_zero]; rfl)
        focus kernel_rfl
        focus kernel_rfl
        focus kernel_rfl
        focus exact (fun _ _ _ h => h)
        refine Or.inl ⟨?_, ?_⟩
        focus (go_simp; done)
        focus (intro w hSw; obtain ⟨_, ⟨a0, a1⟩, ⟨b0, b1⟩⟩ := hSw; (first | (go_simp; done) | (go_simp; with_reducible rfl)))
        focus assumption
        (try simp only [Act.put, List.setIfInBounds_toArray, List.set_cons_zero, List.set_cons_succ])
        refine wpAnyH_ready (rs := [10]) (by kernel_rfl) (by simp) ?_
        refine' AllReadyH.cons ?_ (fun K hK => ?_) AllReadyH.nil
        rotate_left
        focus (simp only [List.getElem?_toArray, List.getElem?_cons_succ, List.getElem?_cons_zero]; rfl)
        go_simp
        (have hTu := HTb.out.below (hHeld.1.1); go_at_call 39; (with_reducible refine (size_any a.m a.r i HI.out _ hTu).mono ?_); clear hTu; rintro e u10 ⟨rfl, hb⟩)
        have hS := C2.below hHeld hb
        clear hb
        refine hK.out _ _ hS (fun hHeld => ?_)
        clear hK K hS
        (try simp only [Act.put, List.setIfInBounds_toArray, List.set_cons_zero, List.set_cons_succ])
        refine wpAnyH_ready (rs := [12]) (by kernel_rfl) (by simp) ?_
        refine' AllReadyH.cons ?_ (fun K hK => ?_) AllReadyH.nil
        rotate_left
        focus (simp only [List.getElem?_toArray, List.getElem?_cons_succ, List.getElem?_cons_zero]; rfl)
        go_simp
        (have hTu := HTb.out.below (hHeld.1.1); go_at_call 39; (with_reducible refine (size_any b.m b.r j HJ.out _ hTu).mono ?_); clear hTu; rintro e u12 ⟨rfl, hb⟩)
        have hS := C2.below hHeld hb
        clear hb
        refine hK.out _ _ hS (fun hHeld => ?_)
        clear hK K hS
        (try simp only [Act.put, List.setIfInBounds_toArray, List.set_cons_zero, List.set_cons_succ])
        refine' wpAnyH_take (i := 13) (v := _) ?_ ?_ ?_ ?_ ?_ ?_ ?_ ?_
        rotate_left 2
        focus (simp only [List.getElem?_toArray, List.getElem?_cons_succ, List.getElem?_cons_zero]; rfl)
        focus kernel_rfl
        focus kernel_rfl
        focus kernel_rfl
        focus exact (fun _ _ _ h => h)
        refine Or.inl ⟨?_, ?_⟩
        focus (go_simp; done)
        focus (intro w hSw; obtain ⟨_, ⟨a0, a1⟩, ⟨b0, b1⟩⟩ := hSw; (first | (go_simp; done) | (go_simp; with_reducible rfl)))
        focus assumption
        (try simp only [Act.put, List.setIfInBounds_toArray, List.set_cons_zero, List.set_cons_succ])
        refine' wpAnyH_take (i := 14) (v := _) ?_ ?_ ?_ ?_ ?_ ?_ ?_ ?_
        rotate_left 2
        focus (simp only [List.getElem?_toArray, List.getElem?_cons_succ, List.getElem?_cons_zero]; rfl)
        focus kernel_rfl
        focus kernel_rfl
        focus kernel_rfl
        focus exact (fun _ _ _ h => h)
        refine Or.inl ⟨?_, ?_⟩
        focus (go_simp; done)
        focus (intro w hSw; obtain ⟨_, ⟨a0, a1⟩, ⟨b0, b1⟩⟩ := hSw; (first | (go_simp; done) | (go_simp; with_reducible rfl)))
        focus assumption
        (try simp only [Act.put, List.setIfInBounds_toArray, List.set_cons_zero, List.set_cons_succ])
        refine' wpAnyH_take (i := 15) (v := undef) ?_ ?_ ?_ ?_ ?_ ?_ ?_ ?_
        rotate_left 1
        focus (simp only [List.getElem?_toArray, List.getElem?_cons_succ, List.getElem?_cons_zero]; rfl)
        focus kernel_rfl
        focus kernel_rfl
        focus kernel_rfl
        focus exact (fun _ _ _ h => h)
        refine Or.inr ⟨?_, rfl⟩
        focus (go_simp; done)
        focus assumption
        (try simp only [Act.put, List.setIfInBounds_toArray, List.set_cons_zero, List.set_cons_succ])
        refine' wpAnyH_take (i := 16) (v := undef) ?_ ?_ ?_ ?_ ?_ ?_ ?_ ?_
        rotate_left 1
        focus (simp only [List.getElem?_toArray, List.getElem?_cons_succ, List.getElem?_cons_zero]; rfl)
        focus kernel_rfl
        focus kernel_rfl
        focus kernel_rfl
        focus exact (fun _ _ _ h => h)
        refine Or.inr ⟨?_, rfl⟩
        focus (go_simp; done)
        focus assumption
        (try simp only [Act.put, List.setIfInBounds_toArray, List.set_cons_zero, List.set_cons_succ])
        refine' wpAnyH_take (i := 17) (v := undef) ?_ ?_ ?_ ?_ ?_ ?_ ?_ ?_
        rotate_left 1
        focus (simp only [List.getElem?_toArray, List.getElem?_cons_succ, List.getElem?_cons_zero]; rfl)
        focus kernel_rfl
        focus kernel_rfl
        focus kernel_rfl
        focus exact (fun _ _ _ h => h)
        refine Or.inr ⟨?_, rfl⟩
        focus (go_simp; done)
        focus assumption
        (try simp only [Act.put, List.setIfInBounds_toArray, List.set_cons_zero, List.set_cons_succ])
        refine' wpAnyH_take (i := 18) (v := undef) ?_ ?_ ?_ ?_ ?_ ?_ ?_ ?_
        rotate_left 1
        focus (simp only [List.getElem?_toArray, List.getElem?_cons_succ, List.getElem?_cons_zero]; rfl)
        focus kernel_rfl
        focus kernel_rfl
        focus kernel_rfl
        focus exact (fun _ _ _ h => h)
        refine Or.inr ⟨?_, rfl⟩
        focus (go_simp; done)
        focus assumption
        (try simp only [Act.put, List.setIfInBounds_toArray, List.set_cons_zero, List.set_cons_succ])
        refine' wpAnyH_take (i := 19) (v := undef) ?_ ?_ ?_ ?_ ?_ ?_ ?_ ?_
        rotate_left 1
        focus (simp only [List.getElem?_toArray, List.getElem?_cons_succ, List.getElem?_cons_zero]; rfl)
        focus kernel_rfl
        focus kernel_rfl
        focus kernel_rfl
        focus exact (fun _ _ _ h => h)
        refine Or.inr ⟨?_, rfl⟩
        focus (go_simp; done)
        focus assumption
        (try simp only [Act.put, List.setIfInBounds_toArray, List.set_cons_zero, List.set_cons_succ])
        refine' wpAnyH_take (i := 20) (v := undef) ?_ ?_ ?_ ?_ ?_ ?_ ?_ ?_
        rotate_left 1
        focus (simp only [List.getElem?_toArray, List.getElem?_cons_succ, List.getElem?_cons_zero]; rfl)
        focus kernel_rfl
        focus kernel_rfl
        focus kernel_rfl
        focus exact (fun _ _ _ h => h)
        refine Or.inr ⟨?_, rfl⟩
        focus (go_simp; done)
        focus assumption
        (try simp only [Act.put, List.setIfInBounds_toArray, List.set_cons_zero, List.set_cons_succ])
        refine' wpAnyH_take (i := 21) (v := undef) ?_ ?_ ?_ ?_ ?_ ?_ ?_ ?_
        rotate_left 1
        focus (simp only [List.getElem?_toArray, List.getElem?_cons_succ, List.getElem?_cons_zero]; rfl)
        focus kernel_rfl
        focus kernel_rfl
        focus kernel_rfl
        focus exact (fun _ _ _ h => h)
        refine Or.inr ⟨?_, rfl⟩
        focus (go_simp; done)
        focus assumption
        (try simp only [Act.put, List.setIfInBounds_toArray, List.set_cons_zero, List.set_cons_succ])
        refine' wpAnyH_take (i := 22) (v := _) ?_ ?_ ?_ ?_ ?_ ?_ ?_ ?_
        rotate_left 2
        focus (simp only [List.getElem?_toArray, List.getElem?_cons_succ, List.getElem?_cons_zero]; rfl)
        focus kernel_rfl
        focus kernel_rfl
        focus kernel_rfl
        focus exact (fun _ _ _ h => h)
        refine Or.inl ⟨?_, ?_⟩
        focus (go_simp; done)
        focus (intro w hSw; obtain ⟨_, ⟨a0, a1⟩, ⟨b0, b1⟩⟩ := hSw; (first | (go_simp; done) | (go_simp; with_reducible rfl)))
        focus assumption
        (try simp only [Act.put, List.setIfInBounds_toArray, List.set_cons_zero, List.set_cons_succ])
        refine' wpAnyH_take (i := 23) (v := _) ?_ ?_ ?_ ?_ ?_ ?_ ?_ ?_
        rotate_left 2
        focus (simp only [List.getElem?_toArray, List.getElem?_cons_succ, List.getElem?_cons_zero]; rfl)
        focus kernel_rfl
        focus kernel_rfl
        focus kernel_rfl
        focus exact (fun _ _ _ h => h)
        refine Or.inl ⟨?_, ?_⟩
        focus (go_simp; done)
        focus (intro w hSw; obtain ⟨_, ⟨a0, a1⟩, ⟨b0, b1⟩⟩ := hSw; (first | (go_simp; done) | (go_simp; with_reducible rfl)))
        focus assumption
        (try simp only [Act.put, List.setIfInBounds_toArray, List.set_cons_zero, List.set_cons_succ])
        refine' wpAnyH_take (i := 24) (v := _) ?_ ?_ ?_ ?_ ?_ ?_ ?_ ?_
        rotate_left 2
        focus (simp only [List.getElem?_toArray, List.getElem?_cons_succ, List.getElem?_cons_zero]; rfl)
        focus kernel_rfl
        focus kernel_rfl
        focus kernel_rfl
        focus exact (fun _ _ _ h => h)
        refine Or.inl ⟨?_, ?_⟩
        focus (go_simp; done)
        focus (intro w hSw; obtain ⟨_, ⟨a0, a1⟩, ⟨b0, b1⟩⟩ := hSw; (first | (go_simp; done) | (go_simp; with_reducible rfl)))
        focus assumption
        (try simp only [Act.put, List.setIfInBounds_toArray, List.set_cons_zero, List.set_cons_succ])
        refine wpAnyH_done (by kernel_rfl) ?_ _
        go_wp2
        go_ret
        exact ⟨ret_bool HF.out, hHeld.1.1⟩
theorem wrapB_any (n : Int) (w : World) : Calls Tryd.prog 37 #[.int .i64 n] w fun e w' => e = .returned (.int .i64 (wrap32 n)) ∧ Below w.heap.size w w' :=
  (wWrap_c n w).mono fun e w' ⟨he, hw⟩ => ⟨he, hw ▸ Below.refl _ _⟩
set_option maxHeartbeats 4000000 in
theorem cHas_any (p q n : Int) (t : Bool) (ht : Rs.has ⟨p, q⟩ n = t) (w : World) (htb : Tb w) : Calls Tryd.prog 18 #[.agg #[.int .i64 p, .int .i64 q], .int .i64 n] w fun e w' => e = .returned (.bool t) ∧ Below w.heap.size w w' := by
  have hHeld := c1_new w ⟨p, q⟩ 23
  have HTb := Lib.hid htb
  clear htb
  have hj := Rs.has_code ⟨p, q⟩ n
  rw [ht] at hj
  by_cases h1 : wrap32 n = n
  · have he : (wrap32 n == n) = true := by simp [h1]
    have HL := Lib.hid (show Rs.leq ⟨(Rs.sing n).m, (Rs.sing n).r⟩ ⟨p, q⟩ = t by rw [hj, h1]; simp)
    clear hj ht h1
    go_enter Tryd.func18, Tryd.ntmps18
    go_wp2
    refine wp_region_held_drew (S := (fun w' => C1 w ⟨p, q⟩ w')) (by kernel_rfl) (hHeld.drew) (fun hHeld => ?_)
    generalize (w.alloc (.cells #[.int .i64 p, .int .i64 q] 23)).drew = u0 at *
    refine' wpAnyH_take (i := 0) (v := _) ?_ ?_ ?_ ?_ ?_ ?_ ?_ ?_
    rotate_left 2
    focus (simp only [List.getElem?_toArray, List.getElem?_cons_succ, List.getElem?_cons_zero]; rfl)
    focus kernel_rfl
    focus kernel_rfl
    focus kernel_rfl
    focus exact (fun _ _ _ h => h)
    refine Or.inl ⟨?_, ?_⟩
    focus (go_simp; done)
    focus (intro w hSw; obtain ⟨_, a0, a1⟩ := hSw; (first | (go_simp; done) | (go_simp; with_reducible rfl)))
    focus assumption
    (try simp only [Act.put, List.setIfInBounds_toArray, List.set_cons_zero, List.set_cons_succ])
    refine' wpAnyH_take (i := 2) (v := _) ?_ ?_ ?_ ?_ ?_ ?_ ?_ ?_
    rotate_left 2
    focus (simp only [List.getElem?_toArray, List.getElem?_cons_succ, List.getElem?_cons_zero]; rfl)
    focus kernel_rfl
    focus kernel_rfl
    focus kernel_rfl
    focus exact (fun _ _ _ h => h)
    refine Or.inl ⟨?_, ?_⟩
    focus (go_simp; done)
    focus (intro w hSw; obtain ⟨_, a0, a1⟩ := hSw; (first | (go_simp; done) | (go_simp; with_reducible rfl)))
    focus assumption
    (try simp only [Act.put, List.setIfInBounds_toArray, List.set_cons_zero, List.set_cons_succ])
    refine wpAnyH_ready (rs := [1]) (by kernel_rfl) (by simp) ?_
    refine' AllReadyH.cons ?_ (fun K hK => ?_) AllReadyH.nil
    rotate_left
    focus (simp only [List.getElem?_toArray, List.getElem?_cons_succ, List.getElem?_cons_zero]; rfl)
    go_simp
    (go_at_call 37; (with_reducible refine (wrapB_any n _).mono ?_); rintro e u1 ⟨rfl, hb⟩)
    have hS := C1.below hHeld hb
    clear hb
    refine hK.out _ _ hS (fun hHeld => ?_)
    clear hK K hS
    (try simp only [Act.put, List.setIfInBounds_toArray, List.set_cons_zero, List.set_cons_succ])
    refine' wpAnyH_take (i := 3) (v := _) ?_ ?_ ?_ ?_ ?_ ?_ ?_ ?_
    rotate_left 2
    focus (simp only [List.getElem?_toArray, List.getElem?_cons_succ, List.getElem?_cons_zero]; rfl)
    focus kernel_rfl
    focus kernel_rfl
    focus kernel_rfl
    focus exact (fun _ _ _ h => h)
    refine Or.inl ⟨?_, ?_⟩
    focus (go_simp; done)
    focus (intro w hSw; obtain ⟨_, a0, a1⟩ := hSw; (first | (go_simp; done) | (go_simp; with_reducible rfl)))
    focus assumption
    (try simp only [Act.put, List.setIfInBounds_toArray, List.set_cons_zero, List.set_cons_succ])
    refine' wpAnyH_take (i := 4) (v := _) ?_ ?_ ?_ ?_ ?_ ?_ ?_ ?_
    rotate_left 2
    focus (simp only [List.getElem?_toArray, List.getElem?_cons_succ, List.getElem?_cons_zero]; rfl)
    focus kernel_rfl
    focus kernel_rfl
    focus kernel_rfl
    focus exact (fun _ _ _ h => h)
    refine Or.inl ⟨?_, ?_⟩
    focus (go_simp; done)
    focus (intro w hSw; obtain ⟨_, a0, a1⟩ := hSw; (first | (go_simp; done) | (go_simp; with_reducible rfl)))
    focus assumption
    (try simp only [Act.put, List.setIfInBounds_toArray, List.set_cons_zero, List.set_cons_succ])
    refine' wpAnyH_take (i := 5) (v := _) ?_ ?_ ?_ ?_ ?_ ?_ ?_ ?_
    rotate_left 2
    focus (simp only [List.getElem?_toArray, List.getElem?_cons_succ, List.getElem?_cons_zero]; rfl)
    focus kernel_rfl
    focus kernel_rfl
    focus kernel_rfl
    focus exact (fun _ _ _ h => h)
    refine Or.inl ⟨?_, ?_⟩
    focus (go_simp; done)
    focus (intro w hSw; obtain ⟨_, a0, a1⟩ := hSw; (first | (go_simp; done) | (go_simp; with_reducible rfl)))
    focus assumption
    (try simp only [Act.put, List.setIfInBounds_toArray, List.set_cons_zero, List.set_cons_succ])
    refine' wpAnyH_take (i := 7) (v := _) ?_ ?_ ?_ ?_ ?_ ?_ ?_ ?_
    rotate_left 2
    focus (simp only [List.getElem?_toArray, List.getElem?_cons_succ, List.getElem?_cons_zero]; rfl)
    focus kernel_rfl
    focus kernel_rfl
    focus kernel_rfl
    focus exact (fun _ _ _ h => h)
    refine Or.inl ⟨?_, ?_⟩
    focus (go_simp; done)
    focus (intro w hSw; obtain ⟨_, a0, a1⟩ := hSw; (first | (go_simp; done) | (go_simp; with_reducible rfl)))
    focus assumption
    (try simp only [Act.put, List.setIfInBounds_toArray, List.set_cons_zero, List.set_cons_succ])
    refine wpAnyH_ready (rs := [6]) (by kernel_rfl) (by simp) ?_
    refine' AllReadyH.cons ?_ (fun K hK => ?_) AllReadyH.nil
    rotate_left
    focus (simp only [List.getElem?_toArray, List.getElem?_cons_succ, List.getElem?_cons_zero]; rfl)
    go_simp
    (go_at_call 23; (with_reducible refine (cOf_any n (Rs.sing n) rfl _).mono ?_); rintro e u6 ⟨rfl, hb⟩)
    have hS := C1.below hHeld hb
    clear hb
    refine hK.out _ _ hS (fun hHeld => ?_)
    clear hK K hS
    (try simp only [Act.put, List.setIfInBounds_toArray, List.set_cons_zero, List.set_cons_succ])
    refine wpAnyH_ready (rs := [8]) (by kernel_rfl) (by simp) ?_
    refine' AllReadyH.cons ?_ (fun K hK => ?_) AllReadyH.nil
    rotate_left
    focus (simp only [List.getElem?_toArray, List.getElem?_cons_succ, List.getElem?_cons_zero]; rfl)
    go_simp
    (have hTu := HTb.out.below (hHeld.1.1); go_at_call 22; (with_reducible refine (cLeq_any _ _ p q t HL.out _ hTu).mono ?_); clear hTu; rintro e u8 ⟨rfl, hb⟩)
    have hS := C1.below hHeld hb
    clear hb
    refine hK.out _ _ hS (fun hHeld => ?_)
    clear hK K hS
    (try simp only [Act.put, List.setIfInBounds_toArray, List.set_cons_zero, List.set_cons_succ])
    refine' wpAnyH_take (i := 9) (v := _) ?_ ?_ ?_ ?_ ?_ ?_ ?_ ?_
    rotate_left 2
    focus (simp only [List.getElem?_toArray, List.getElem?_cons_succ, List.getElem?_cons_zero]; rfl)
    focus kernel_rfl
    focus kernel_rfl
    focus kernel_rfl
    focus exact (fun _ _ _ h => h)
    refine Or.inl ⟨?_, ?_⟩
    focus (go_simp; done)
    focus (intro w hSw; obtain ⟨_, a0, a1⟩ := hSw; (first | (go_simp; done) | (go_simp; with_reducible rfl)))
    focus assumption
    (try simp only [Act.put, List.setIfInBounds_toArray, List.set_cons_zero, List.set_cons_succ])
    refine' wpAnyH_take (i := 10) (v := _) ?_ ?_ ?_ ?_ ?_ ?_ ?_ ?_
    rotate_left 2
    focus (simp only [List.getElem?_toArray, List.getElem?_cons_succ, List.getElem?_cons_zero]; rfl)
    focus kernel_rfl
    focus kernel_rfl
    focus kernel_rfl
    focus exact (fun _ _ _ h => h)
    refine Or.inl ⟨?_, ?_⟩
    focus (go_simp; done)
    focus (intro w hSw; obtain ⟨_, a0, a1⟩ := hSw; (first | (go_simp; done) | (go_simp; with_reducible rfl)))
    focus assumption
    (try simp only [Act.put, List.setIfInBounds_toArray, List.set_cons_zero, List.set_cons_succ])
    refine wpAnyH_done (by kernel_rfl) ?_ _
    go_wp2
    go_ret
    exact ⟨rfl, hHeld.1.1⟩
  · have he : (wrap32 n == n) = false := by simp [h1]
    have HF := Lib.hid (show false = t by rw [hj]; simp [h1])
    clear hj ht h1
    go_enter Tryd.func18, Tryd.ntmps18
    go_wp2
    refine wp_region_held_drew (S := (fun w' => C1 w ⟨p, q⟩ w')) (by kernel_rfl) (hHeld.drew) (fun hHeld => ?_)
    generalize (w.alloc (.cells #[.int .i64 p, .int .i64 q] 23)).drew = u0 at *
    refine' wpAnyH_take (i := 0) (v := _) ?_ ?_ ?_ ?_ ?_ ?_ ?_ ?_
    rotate_left 2
    focus (simp only [List.getElem?_toArray, List.getElem?_cons_succ, List.getElem?_cons_zero]; rfl)
    focus kernel_rfl
    focus kernel_rfl
    focus kernel_rfl
    focus exact (fun _ _ _ h => h)
    refine Or.inl ⟨?_, ?_⟩
    focus (go_simp; done)
    focus (intro w hSw; obtain ⟨_, a0, a1⟩ := hSw; (first | (go_simp; done) | (go_simp; with_reducible rfl)))
    focus assumption
    (try simp only [Act.put, List.setIfInBounds_toArray, List.set_cons_zero, List.set_cons_succ])
    refine' wpAnyH_take (i := 2) (v := _) ?_ ?_ ?_ ?_ ?_ ?_ ?_ ?_
    rotate_left 2
    focus (simp only [List.getElem?_toArray, List.getElem?_cons_succ, List.getElem?_cons_zero]; rfl)
    focus kernel_rfl
    focus kernel_rfl
    focus kernel_rfl
    focus exact (fun _ _ _ h => h)
    refine Or.inl ⟨?_, ?_⟩
    focus (go_simp; done)
    focus (intro w hSw; obtain ⟨_, a0, a1⟩ := hSw; (first | (go_simp; done) | (go_simp; with_reducible rfl)))
    focus assumption
    (try simp only [Act.put, List.setIfInBounds_toArray, List.set_cons_zero, List.set_cons_succ])
    refine wpAnyH_ready (rs := [1]) (by kernel_rfl) (by simp) ?_
    refine' AllReadyH.cons ?_ (fun K hK => ?_) AllReadyH.nil
    rotate_left
    focus (simp only [List.getElem?_toArray, List.getElem?_cons_succ, List.getElem?_cons_zero]; rfl)
    go_simp
    (go_at_call 37; (with_reducible refine (wrapB_any n _).mono ?_); rintro e u1 ⟨rfl, hb⟩)
    have hS := C1.below hHeld hb
    clear hb
    refine hK.out _ _ hS (fun hHeld => ?_)
    clear hK K hS
    (try simp only [Act.put, List.setIfInBounds_toArray, List.set_cons_zero, List.set_cons_succ])
    refine' wpAnyH_take (i := 3) (v := _) ?_ ?_ ?_ ?_ ?_ ?_ ?_ ?_
    rotate_left 2
    focus (simp only [List.getElem?_toArray, List.getElem?_cons_succ, List.getElem?_cons_zero]; rfl)
    focus kernel_rfl
    focus kernel_rfl
    focus kernel_rfl
    focus exact (fun _ _ _ h => h)
    refine Or.inl ⟨?_, ?_⟩
    focus (go_simp; done)
    focus (intro w hSw; obtain ⟨_, a0, a1⟩ := hSw; (first | (go_simp; done) | (go_simp; with_reducible rfl)))
    focus assumption
    (try simp only [Act.put, List.setIfInBounds_toArray, List.set_cons_zero, List.set_cons_succ])
    refine' wpAnyH_take (i := 4) (v := _) ?_ ?_ ?_ ?_ ?_ ?_ ?_ ?_
    rotate_left 2
    focus (simp only [List.getElem?_toArray, List.getElem?_cons_succ, List.getElem?_cons_zero]; rfl)
    focus kernel_rfl
    focus kernel_rfl
    focus kernel_rfl
    focus exact (fun _ _ _ h => h)
    refine Or.inl ⟨?_, ?_⟩
    focus (go_simp; done)
    focus (intro w hSw; obtain ⟨_, a0, a1⟩ := hSw; (first | (go_simp; done) | (go_simp; with_reducible rfl)))
    focus assumption
    (try simp only [Act.put, List.setIfInBounds_toArray, List.set_cons_zero, List.set_cons_succ])
    refine' wpAnyH_take (i := 5) (v := undef) ?_ ?_ ?_ ?_ ?_ ?_ ?_ ?_
    rotate_left 1
    focus (simp only [List.getElem?_toArray, List.getElem?_cons_succ, List.getElem?_cons_zero]; rfl)
    focus kernel_rfl
    focus kernel_rfl
    focus kernel_rfl
    focus exact (fun _ _ _ h => h)
    refine Or.inr ⟨?_, rfl⟩
    focus (go_simp; done)
    focus assumption
    (try simp only [Act.put, List.setIfInBounds_toArray, List.set_cons_zero, List.set_cons_succ])
    refine' wpAnyH_take (i := 6) (v := undef) ?_ ?_ ?_ ?_ ?_ ?_ ?_ ?_
    rotate_left 1
    focus (simp only [List.getElem?_toArray, List.getElem?_cons_succ, List.getElem?_cons_zero]; rfl)
    focus kernel_rfl
    focus kernel_rfl
    focus kernel_rfl
    focus exact (fun _ _ _ h => h)
    refine Or.inr ⟨?_, rfl⟩
    focus (go_simp; done)
    focus assumption
    (try simp only [Act.put, List.setIfInBounds_toArray, List.set_cons_zero, List.set_cons_succ])
    refine' wpAnyH_take (i := 7) (v := undef) ?_ ?_ ?_ ?_ ?_ ?_ ?_ ?_
    rotate_left 1
    focus (simp only [List.getElem?_toArray, List.getElem?_cons_succ, List.getElem?_cons_zero]; rfl)
    focus kernel_rfl
    focus kernel_rfl
    focus kernel_rfl
    focus exact (fun _ _ _ h => h)
    refine Or.inr ⟨?_, rfl⟩
    focus (go_simp; done)
    focus assumption
    (try simp only [Act.put, List.setIfInBounds_toArray, List.set_cons_zero, List.set_cons_succ])
    refine' wpAnyH_take (i := 8) (v := undef) ?_ ?_ ?_ ?_ ?_ ?_ ?_ ?_
    rotate_left 1
    focus (simp only [List.getElem?_toArray, List.getElem?_cons_succ, List.getElem?_cons_zero]; rfl)
    focus kernel_rfl
    focus kernel_rfl
    focus kernel_rfl
    focus exact (fun _ _ _ h => h)
    refine Or.inr ⟨?_, rfl⟩
    focus (go_simp; done)
    focus assumption
    (try simp only [Act.put, List.setIfInBounds_toArray, List.set_cons_zero, List.set_cons_succ])
    refine' wpAnyH_take (i := 9) (v := _) ?_ ?_ ?_ ?_ ?_ ?_ ?_ ?_
    rotate_left 2
    focus (simp only [List.getElem?_toArray, List.getElem?_cons_succ, List.getElem?_cons_zero]; rfl)
    focus kernel_rfl
    focus kernel_rfl
    focus kernel_rfl
    focus exact (fun _ _ _ h => h)
    refine Or.inl ⟨?_, ?_⟩
    focus (go_simp; done)
    focus (intro w hSw; obtain ⟨_, a0, a1⟩ := hSw; (first | (go_simp; done) | (go_simp; with_reducible rfl)))
    focus assumption
    (try simp only [Act.put, List.setIfInBounds_toArray, List.set_cons_zero, List.set_cons_succ])
    refine' wpAnyH_take (i := 10) (v := _) ?_ ?_ ?_ ?_ ?_ ?_ ?_ ?_
    rotate_left 2
    focus (simp only [List.getElem?_toArray, List.getElem?_cons_succ, List.getElem?_cons_zero]; rfl)
    focus kernel_rfl
    focus kernel_rfl
    focus kernel_rfl
    focus exact (fun _ _ _ h => h)
    refine Or.inl ⟨?_, ?_⟩
    focus (go_simp; done)
    focus (intro w hSw; obtain ⟨_, a0, a1⟩ := hSw; (first | (go_simp; done) | (go_simp; with_reducible rfl)))
    focus assumption
    (try simp only [Act.put, List.setIfInBounds_toArray, List.set_cons_zero, List.set_cons_succ])
    refine wpAnyH_done (by kernel_rfl) ?_ _
    go_wp2
    go_ret
    exact ⟨ret_bool HF.out, hHeld.1.1⟩
set_option maxHeartbeats 4000000 in
theorem cJoin_any (p q r s : Int) (z : Rs) (hz : Rs.join ⟨p, q⟩ ⟨r, s⟩ = z) (w : World) (htb : Tb w) : Calls Tryd.prog 20 #[.agg #[.int .i64 p, .int .i64 q], .agg #[.int .i64 r, .int .i64 s]] w fun e w' => e = .returned (.agg #[.int .i64 z.m, .int .i64 z.r]) ∧ Below w.heap.size w w' := by
  have hA := (((Ahead.refl w).alloc (.cells #[.int .i64 p, .int .i64 q] 23)).alloc (.cells #[.int .i64 r, .int .i64 s] 23)).alloc (.cells #[.int .i64 0, .int .i64 0] 23)
  obtain ⟨a, ha⟩ : ∃ a, Rs.form ⟨p, q⟩ = a := ⟨_, rfl⟩
  obtain ⟨b, hb⟩ : ∃ b, Rs.form ⟨r, s⟩ = b := ⟨_, rfl⟩
  have oka : Rs.F a := ha ▸ Rs.f_form ⟨p, q⟩
  have okb : Rs.F b := hb ▸ Rs.f_form ⟨r, s⟩
  have HA := Lib.hid ha
  have HB := Lib.hid hb
  have HTb := Lib.hid htb
  clear htb
  have hj : Rs.join a b = z := by rw [← hz, ← ha, ← hb]; unfold Rs.join; rw [Rs.form_form, Rs.form_form]
  have HO := Lib.hid (And.intro oka okb)
  have HJ := Lib.hid hj
  clear ha hb hj hz oka okb
  go_enter Tryd.func20, Tryd.ntmps20
  go_wp2
  rename_i K hK
  refine' (fun (HK : ∀ w', C3 w a b w' → K _ w') => ?_) (fun w' hHeld => ?_)
  rotate_left
  focus
    go_region_with (have hTa := HTb.out.below hA.1; have hTd := HTb.out.below hA.drew.1; go_at_call 31; (first | (with_reducible refine (taken_any p q a HA.out _ hTa).mono ?_) | (with_reducible refine (taken_any p q a HA.out _ hTd).mono ?_) | (with_reducible refine (taken_any r s b HB.out _ hTa).mono ?_) | (with_reducible refine (taken_any r s b HB.out _ hTd).mono ?_) | fail); clear hTa hTd; rintro e w1 ⟨rfl, hb⟩; obtain ⟨hc, hf⟩ := bcell hb; (first | replace hA := hA.below hb | replace hA := hA.drew.below hb); have hz : w.heap.size + 1 + 1 < w1.heap.size := (by have := hA.2; omega); have hz0 : w.heap.size < w1.heap.size := (by omega); have hz1 : w.heap.size + 1 < w1.heap.size := (by omega); (try simp only [size_alloc] at hc hf))
    all_goals
      exact HK _ (c3_of (rbox3_of (p := p) (q := q) (r := r) (s := s) hA (by go_simp) (by go_simp) (by go_simp) (by go_simp) (by go_simp) (by go_simp) (fun o => by go_simp)))
  refine hK _ _ ?_
  clear hA hK
  obtain ⟨hA, ⟨a0, a1⟩, ⟨b0, b1⟩, ⟨x, y, c0, c1⟩, f2⟩ := id hHeld; have hy0 := hA.lt0 (by omega); have hy1 := hA.lt1 (by omega); have hy2 := hA.lt2 (by omega)
  cases h1 : Rs.leq a b
  · cases h2 : Rs.leq b a
    · have HZ := Lib.hid (show Rs.low a.r (Rs.tz (a.r - b.r)) = z by rw [← HJ.out]; exact Rs.join_code HO.out.1 HO.out.2 h1 h2)
      have HQ := Lib.hid h1
      have HQ2 := Lib.hid h2
      clear h1 h2
      have hTu := HTb.out.below hHeld.1.1
      go_wp2_with fail
      refine (cLeq_any a.m a.r b.m b.r false HQ.out _ hTu).mono ?_
      rintro e w1 ⟨rfl, hb⟩
      clear hA a0 a1 b0 b1 c0 c1 f2 hy0 hy1 hy2 x y
      replace hHeld := hHeld.below hb
      clear hb hTu
      obtain ⟨hA, ⟨a0, a1⟩, ⟨b0, b1⟩, ⟨x, y, c0, c1⟩, f2⟩ := id hHeld; have hy0 := hA.lt0 (by omega); have hy1 := hA.lt1 (by omega); have hy2 := hA.lt2 (by omega)
      have hTu := HTb.out.below hHeld.1.1
      go_wp2_with fail
      refine (cLeq_any b.m b.r a.m a.r false HQ2.out _ hTu).mono ?_
      rintro e w2 ⟨rfl, hb⟩
      clear hA a0 a1 b0 b1 c0 c1 f2 hy0 hy1 hy2 x y
      replace hHeld := hHeld.below hb
      clear hb hTu
      obtain ⟨hA, ⟨a0, a1⟩, ⟨b0, b1⟩, ⟨x, y, c0, c1⟩, f2⟩ := id hHeld; have hy0 := hA.lt0 (by omega); have hy1 := hA.lt1 (by omega); have hy2 := hA.lt2 (by omega)
      go_wp2
      obtain ⟨k, hk⟩ : ∃ k, Rs.tz (a.r - b.r) = k := ⟨_, rfl⟩
      have hc := HZ.out
      rw [hk] at hc
      have HL := Lib.hid hc
      have HK := Lib.hid hk
      clear hk hc
      have wd : IntKind.i64.wrap (a.r - b.r) = a.r - b.r := IntWalk.i64_in _ (by have := Rs.f_word HO.out.1; have := Rs.f_word HO.out.2; omega)
      obtain ⟨v, hv⟩ : ∃ v, IntKind.u64.wrap (a.r - b.r) = v := ⟨_, rfl⟩
      have HV := Lib.hid hv
      clear hA a0 a1 b0 b1 c0 c1 f2 hy0 hy1 hy2 x y
      refine wp_region_held_drew (S := (fun w' => C3 w a b w')) (by kernel_rfl) (hHeld.drew) (fun hHeld => ?_)
      generalize w2.drew = u0 at *
      refine' wpAnyH_take (i := 0) (v := _) ?_ ?_ ?_ ?_ ?_ ?_ ?_ ?_
      rotate_left 2
      focus (simp only [List.getElem?_toArray, List.getElem?_cons_succ, List.getElem?_cons_zero]; rfl)
      focus kernel_rfl
      focus kernel_rfl
      focus kernel_rfl
      focus exact (fun _ _ _ h => h)
      refine Or.inl ⟨?_, ?_⟩
      focus (go_simp; done)
      focus (intro w hSw; obtain ⟨_, ⟨a0, a1⟩, ⟨b0, b1⟩, _⟩ := hSw; (first | (go_simp; done) | (go_simp; with_reducible rfl)))
      focus assumption
      (try simp only [Act.put, List.setIfInBounds_toArray, List.set_cons_zero, List.set_cons_succ])
      refine' wpAnyH_take (i := 1) (v := _) ?_ ?_ ?_ ?_ ?_ ?_ ?_ ?_
      rotate_left 2
      focus (simp only [List.getElem?_toArray, List.getElem?_cons_succ, List.getElem?_cons_zero]; rfl)
      focus kernel_rfl
      focus kernel_rfl
      focus kernel_rfl
      focus exact (fun _ _ _ h => h)
      refine Or.inl ⟨?_, ?_⟩
      focus (go_simp; done)
      focus (intro w hSw; obtain ⟨_, ⟨a0, a1⟩, ⟨b0, b1⟩, _⟩ := hSw; (first | (go_simp; done) | (go_simp; with_reducible rfl)))
      focus assumption
      (try simp only [Act.put, List.setIfInBounds_toArray, List.set_cons_zero, List.set_cons_succ])
      refine' wpAnyH_take (i := 2) (v := _) ?_ ?_ ?_ ?_ ?_ ?_ ?_ ?_
      rotate_left 2
      focus (simp only [List.getElem?_toArray, List.getElem?_cons_succ, List.getElem?_cons_zero]; rfl)
      focus kernel_rfl
      focus kernel_rfl
      focus kernel_rfl
      focus exact (fun _ _ _ h => h)
      refine Or.inl ⟨?_, ?_⟩
      focus (go_simp; done)
      focus (intro w hSw; obtain ⟨_, ⟨a0, a1⟩, ⟨b0, b1⟩, _⟩ := hSw; (first | (go_simp; done) | (go_simp; with_reducible rfl)))
      focus assumption
      (try simp only [Act.put, List.setIfInBounds_toArray, List.set_cons_zero, List.set_cons_succ])
      refine' wpAnyH_take (i := 3) (v := _) ?_ ?_ ?_ ?_ ?_ ?_ ?_ ?_
      rotate_left 2
      focus (simp only [List.getElem?_toArray, List.getElem?_cons_succ, List.getElem?_cons_zero]; rfl)
      focus kernel_rfl
      focus kernel_rfl
      focus kernel_rfl
      focus exact (fun _ _ _ h => h)
      refine Or.inl ⟨?_, ?_⟩
      focus (go_simp; done)
      focus (intro w hSw; obtain ⟨_, ⟨a0, a1⟩, ⟨b0, b1⟩, _⟩ := hSw; (first | (go_simp; done) | (go_simp; with_reducible rfl)))
      focus assumption
      (try simp only [Act.put, List.setIfInBounds_toArray, List.set_cons_zero, List.set_cons_succ])
      refine' wpAnyH_take (i := 4) (v := _) ?_ ?_ ?_ ?_ ?_ ?_ ?_ ?_
      rotate_left 2
      focus (simp only [List.getElem?_toArray, List.getElem?_cons_succ, List.getElem?_cons_zero]; rfl)
      focus kernel_rfl
      focus kernel_rfl
      focus kernel_rfl
      focus exact (fun _ _ _ h => h)
      refine Or.inl ⟨?_, ?_⟩
      focus (go_simp; done)
      focus (intro w hSw; obtain ⟨_, ⟨a0, a1⟩, ⟨b0, b1⟩, _⟩ := hSw; (first | (go_simp; done) | (go_simp; with_reducible rfl)))
      focus assumption
      (try simp only [Act.put, List.setIfInBounds_toArray, List.set_cons_zero, List.set_cons_succ])
      refine' wpAnyH_take (i := 5) (v := _) ?_ ?_ ?_ ?_ ?_ ?_ ?_ ?_
      rotate_left 2
      focus (simp only [List.getElem?_toArray, List.getElem?_cons_succ, List.getElem?_cons_zero]; rfl)
      focus kernel_rfl
      focus kernel_rfl
      focus kernel_rfl
      focus exact (fun _ _ _ h => h)
      refine Or.inl ⟨?_, ?_⟩
      focus (go_simp; done)
      focus (intro w hSw; obtain ⟨_, ⟨a0, a1⟩, ⟨b0, b1⟩, _⟩ := hSw; (first | (go_simp; done) | (go_simp; with_reducible rfl)))
      focus assumption
      (try simp only [Act.put, List.setIfInBounds_toArray, List.set_cons_zero, List.set_cons_succ])
      refine' wpAnyH_take (i := 6) (v := _) ?_ ?_ ?_ ?_ ?_ ?_ ?_ ?_
      rotate_left 2
      focus (simp only [List.getElem?_toArray, List.getElem?_cons_succ, List.getElem?_cons_zero]; rfl)
      focus kernel_rfl
      focus kernel_rfl
      focus kernel_rfl
      focus exact (fun _ _ _ h => h)
      refine Or.inl ⟨?_, ?_⟩
      focus (go_simp; done)
      focus (intro w hSw; obtain ⟨_, ⟨a0, a1⟩, ⟨b0, b1⟩, _⟩ := hSw; (first | (go_simp; done) | (go_simp; with_reducible rfl)))
      focus assumption
      (try simp only [Act.put, List.setIfInBounds_toArray, List.set_cons_zero, List.set_cons_succ])
      refine' wpAnyH_take (i := 7) (v := _) ?_ ?_ ?_ ?_ ?_ ?_ ?_ ?_
      rotate_left 2
      focus (simp only [List.getElem?_toArray, List.getElem?_cons_succ, List.getElem?_cons_zero]; rfl)
      focus kernel_rfl
      focus kernel_rfl
      focus kernel_rfl
      focus exact (fun _ _ _ h => h)
      refine Or.inl ⟨?_, ?_⟩
      focus (go_simp; done)
      focus (intro w hSw; obtain ⟨_, ⟨a0, a1⟩, ⟨b0, b1⟩, _⟩ := hSw; (first | (go_simp; done) | (go_simp; with_reducible rfl)))
      focus assumption
      (try simp only [Act.put, List.setIfInBounds_toArray, List.set_cons_zero, List.set_cons_succ])
      refine wpAnyH_ready (rs := [8]) (by kernel_rfl) (by simp) ?_
      refine' AllReadyH.cons ?_ (fun K hK => ?_) AllReadyH.nil
      rotate_left
      focus (simp only [List.getElem?_toArray, List.getElem?_cons_succ, List.getElem?_cons_zero]; rfl)
      go_simp
      (have hTu := HTb.out.below (hHeld.1.1); go_at_call 40; (refine (tz_c (a.r - b.r) _ (by first | exact HV.out | rfl) k HK.out _ hTu).mono ?_); clear hTu; rintro e u8 ⟨rfl, hb⟩)
      have hS := C3.below hHeld hb
      clear hb
      refine hK.out _ _ hS (fun hHeld => ?_)
      clear hK K hS
      (try simp only [Act.put, List.setIfInBounds_toArray, List.set_cons_zero, List.set_cons_succ])
      refine wpAnyH_ready (rs := [9]) (by kernel_rfl) (by simp) ?_
      refine' AllReadyH.cons ?_ (fun K hK => ?_) AllReadyH.nil
      rotate_left
      focus (simp only [List.getElem?_toArray, List.getElem?_cons_succ, List.getElem?_cons_zero]; rfl)
      go_simp
      (go_at_call 38; (with_reducible refine (class_any a.r k z HL.out _).mono ?_); rintro e u9 ⟨rfl, hb⟩)
      have hS := C3.below hHeld hb
      clear hb
      refine hK.out _ _ hS (fun hHeld => ?_)
      clear hK K hS
      (try simp only [Act.put, List.setIfInBounds_toArray, List.set_cons_zero, List.set_cons_succ])
      refine wpAnyH_ready (rs := [10]) (by kernel_rfl) (by simp) ?_
      refine' AllReadyH.cons ?_ (fun K hK => ?_) AllReadyH.nil
      rotate_left
      focus (simp only [List.getElem?_toArray, List.getElem?_cons_succ, List.getElem?_cons_zero]; rfl)
      obtain ⟨hA, ⟨a0, a1⟩, ⟨b0, b1⟩, ⟨x, y, c0, c1⟩, f2⟩ := id hHeld; have hy0 := hA.lt0 (by omega); have hy1 := hA.lt1 (by omega); have hy2 := hA.lt2 (by omega)
      go_simp
      have hS := C3.set (x := .int .i64 (z.m)) (y := .int .i64 (z.r)) hHeld
      refine hK.out _ _ hS (fun hHeld => ?_)
      clear hK K hS
      (try simp only [Act.put, List.setIfInBounds_toArray, List.set_cons_zero, List.set_cons_succ])
      refine wpAnyH_done (by kernel_rfl) ?_ _
      go_wp2
      refine bodyPost_ret (v := .agg #[.int .i64 z.m, .int .i64 z.r]) ?_ rfl ⟨rfl, hHeld.1.1⟩
      simp [results, Tryd.results20, go_sem, c0, c1]
    · have HZ : a = z := by rw [← HJ.out]; exact (Rs.join_of_geq HO.out.1 HO.out.2 h2).symm
      subst HZ
      have HQ := Lib.hid h1
      have HQ2 := Lib.hid h2
      clear h1 h2
      have hTu := HTb.out.below hHeld.1.1
      go_wp2_with fail
      refine (cLeq_any a.m a.r b.m b.r false HQ.out _ hTu).mono ?_
      rintro e w1 ⟨rfl, hb⟩
      clear hA a0 a1 b0 b1 c0 c1 f2 hy0 hy1 hy2 x y
      replace hHeld := hHeld.below hb
      clear hb hTu
      obtain ⟨hA, ⟨a0, a1⟩, ⟨b0, b1⟩, ⟨x, y, c0, c1⟩, f2⟩ := id hHeld; have hy0 := hA.lt0 (by omega); have hy1 := hA.lt1 (by omega); have hy2 := hA.lt2 (by omega)
      have hTu := HTb.out.below hHeld.1.1
      go_wp2_with fail
      refine (cLeq_any b.m b.r a.m a.r true HQ2.out _ hTu).mono ?_
      rintro e w2 ⟨rfl, hb⟩
      clear hA a0 a1 b0 b1 c0 c1 f2 hy0 hy1 hy2 x y
      replace hHeld := hHeld.below hb
      clear hb hTu
      obtain ⟨hA, ⟨a0, a1⟩, ⟨b0, b1⟩, ⟨x, y, c0, c1⟩, f2⟩ := id hHeld; have hy0 := hA.lt0 (by omega); have hy1 := hA.lt1 (by omega); have hy2 := hA.lt2 (by omega)
      go_wp2
      refine bodyPost_ret (v := .agg #[.int .i64 a.m, .int .i64 a.r]) ?_ rfl ⟨rfl, hHeld.set.1.1⟩
      simp [results, Tryd.results20, go_sem, a0, a1, c0, c1, hy2]
  · have HZ : b = z := by rw [← HJ.out]; exact (Rs.join_of_leq HO.out.1 HO.out.2 h1).symm
    subst HZ
    have HQ := Lib.hid h1
    clear h1
    have hTu := HTb.out.below hHeld.1.1
    go_wp2_with fail
    refine (cLeq_any a.m a.r b.m b.r true HQ.out _ hTu).mono ?_
    rintro e w1 ⟨rfl, hb⟩
    clear hA a0 a1 b0 b1 c0 c1 f2 hy0 hy1 hy2 x y
    replace hHeld := hHeld.below hb
    clear hb hTu
    obtain ⟨hA, ⟨a0, a1⟩, ⟨b0, b1⟩, ⟨x, y, c0, c1⟩, f2⟩ := id hHeld; have hy0 := hA.lt0 (by omega); have hy1 := hA.lt1 (by omega); have hy2 := hA.lt2 (by omega)
    go_wp2
    refine bodyPost_ret (v := .agg #[.int .i64 b.m, .int .i64 b.r]) ?_ rfl ⟨rfl, hHeld.set.1.1⟩
    simp [results, Tryd.results20, go_sem, b0, b1, c0, c1, hy2]
set_option maxHeartbeats 4000000 in
theorem cMeet_any (p q r s : Int) (z : Rs) (hz : Rs.meet ⟨p, q⟩ ⟨r, s⟩ = z) (w : World) (htb : Tb w) : Calls Tryd.prog 21 #[.agg #[.int .i64 p, .int .i64 q], .agg #[.int .i64 r, .int .i64 s]] w fun e w' => e = .returned (.agg #[.int .i64 z.m, .int .i64 z.r]) ∧ Below w.heap.size w w' := by
  have hA := (((Ahead.refl w).alloc (.cells #[.int .i64 p, .int .i64 q] 23)).alloc (.cells #[.int .i64 r, .int .i64 s] 23)).alloc (.cells #[.int .i64 0, .int .i64 0] 23)
  obtain ⟨a, ha⟩ : ∃ a, Rs.form ⟨p, q⟩ = a := ⟨_, rfl⟩
  obtain ⟨b, hb⟩ : ∃ b, Rs.form ⟨r, s⟩ = b := ⟨_, rfl⟩
  have oka : Rs.F a := ha ▸ Rs.f_form ⟨p, q⟩
  have okb : Rs.F b := hb ▸ Rs.f_form ⟨r, s⟩
  have HA := Lib.hid ha
  have HB := Lib.hid hb
  have HTb := Lib.hid htb
  clear htb
  have hj : Rs.meet a b = z := by rw [← hz, ← ha, ← hb]; unfold Rs.meet; unfold Rs.leq; rw [Rs.form_form, Rs.form_form]
  have HO := Lib.hid (And.intro oka okb)
  have HJ := Lib.hid hj
  clear ha hb hj hz oka okb
  go_enter Tryd.func21, Tryd.ntmps21
  go_wp2
  rename_i K hK
  refine' (fun (HK : ∀ w', C3 w a b w' → K _ w') => ?_) (fun w' hHeld => ?_)
  rotate_left
  focus
    go_region_with (have hTa := HTb.out.below hA.1; have hTd := HTb.out.below hA.drew.1; go_at_call 31; (first | (with_reducible refine (taken_any p q a HA.out _ hTa).mono ?_) | (with_reducible refine (taken_any p q a HA.out _ hTd).mono ?_) | (with_reducible refine (taken_any r s b HB.out _ hTa).mono ?_) | (with_reducible refine (taken_any r s b HB.out _ hTd).mono ?_) | fail); clear hTa hTd; rintro e w1 ⟨rfl, hb⟩; obtain ⟨hc, hf⟩ := bcell hb; (first | replace hA := hA.below hb | replace hA := hA.drew.below hb); have hz : w.heap.size + 1 + 1 < w1.heap.size := (by have := hA.2; omega); have hz0 : w.heap.size < w1.heap.size := (by omega); have hz1 : w.heap.size + 1 < w1.heap.size := (by omega); (try simp only [size_alloc] at hc hf))
    all_goals
      exact HK _ (c3_of (rbox3_of (p := p) (q := q) (r := r) (s := s) hA (by go_simp) (by go_simp) (by go_simp) (by go_simp) (by go_simp) (by go_simp) (fun o => by go_simp)))
  refine hK _ _ ?_
  clear hA hK
  obtain ⟨hA, ⟨a0, a1⟩, ⟨b0, b1⟩, ⟨x, y, c0, c1⟩, f2⟩ := id hHeld; have hy0 := hA.lt0 (by omega); have hy1 := hA.lt1 (by omega); have hy2 := hA.lt2 (by omega)
  cases h1 : Rs.leq a b
  · cases h2 : Rs.leq b a
    · have HZ := Lib.hid (show Rs.non = z by rw [← HJ.out]; exact (show Rs.meet a b = Rs.non by rw [Rs.meet_form HO.out.1 HO.out.2, if_neg (by simp [h1]), if_neg (by simp [h2])]).symm)
      have HQ := Lib.hid h1
      have HQ2 := Lib.hid h2
      clear h1 h2
      have hTu := HTb.out.below hHeld.1.1
      go_wp2_with fail
      refine (cLeq_any a.m a.r b.m b.r false HQ.out _ hTu).mono ?_
      rintro e w1 ⟨rfl, hb⟩
      clear hA a0 a1 b0 b1 c0 c1 f2 hy0 hy1 hy2 x y
      replace hHeld := hHeld.below hb
      clear hb hTu
      obtain ⟨hA, ⟨a0, a1⟩, ⟨b0, b1⟩, ⟨x, y, c0, c1⟩, f2⟩ := id hHeld; have hy0 := hA.lt0 (by omega); have hy1 := hA.lt1 (by omega); have hy2 := hA.lt2 (by omega)
      have hTu := HTb.out.below hHeld.1.1
      go_wp2_with fail
      refine (cLeq_any b.m b.r a.m a.r false HQ2.out _ hTu).mono ?_
      rintro e w2 ⟨rfl, hb⟩
      clear hA a0 a1 b0 b1 c0 c1 f2 hy0 hy1 hy2 x y
      replace hHeld := hHeld.below hb
      clear hb hTu
      obtain ⟨hA, ⟨a0, a1⟩, ⟨b0, b1⟩, ⟨x, y, c0, c1⟩, f2⟩ := id hHeld; have hy0 := hA.lt0 (by omega); have hy1 := hA.lt1 (by omega); have hy2 := hA.lt2 (by omega)
      go_wp2_with fail
      refine (cNone_any _).mono ?_
      rintro e w3 ⟨rfl, hb⟩
      clear hA a0 a1 b0 b1 c0 c1 f2 hy0 hy1 hy2 x y
      replace hHeld := hHeld.below hb
      clear hb
      obtain ⟨hA, ⟨a0, a1⟩, ⟨b0, b1⟩, ⟨x, y, c0, c1⟩, f2⟩ := id hHeld; have hy0 := hA.lt0 (by omega); have hy1 := hA.lt1 (by omega); have hy2 := hA.lt2 (by omega)
      go_wp2
      rw [← HZ.out]
      refine bodyPost_ret (v := .agg #[.int .i64 Rs.non.m, .int .i64 Rs.non.r]) ?_ rfl ⟨rfl, hHeld.set.1.1⟩
      simp [results, Tryd.results21, go_sem, c0, c1, hy2, Rs.non]
    · have HZ : b = z := by rw [← HJ.out]; exact (show Rs.meet a b = b by rw [Rs.meet_form HO.out.1 HO.out.2, if_neg (by simp [h1]), if_pos h2]).symm
      subst HZ
      have HQ := Lib.hid h1
      have HQ2 := Lib.hid h2
      clear h1 h2
      have hTu := HTb.out.below hHeld.1.1
      go_wp2_with fail
      refine (cLeq_any a.m a.r b.m b.r false HQ.out _ hTu).mono ?_
      rintro e w1 ⟨rfl, hb⟩
      clear hA a0 a1 b0 b1 c0 c1 f2 hy0 hy1 hy2 x y
      replace hHeld := hHeld.below hb
      clear hb hTu
      obtain ⟨hA, ⟨a0, a1⟩, ⟨b0, b1⟩, ⟨x, y, c0, c1⟩, f2⟩ := id hHeld; have hy0 := hA.lt0 (by omega); have hy1 := hA.lt1 (by omega); have hy2 := hA.lt2 (by omega)
      have hTu := HTb.out.below hHeld.1.1
      go_wp2_with fail
      refine (cLeq_any b.m b.r a.m a.r true HQ2.out _ hTu).mono ?_
      rintro e w2 ⟨rfl, hb⟩
      clear hA a0 a1 b0 b1 c0 c1 f2 hy0 hy1 hy2 x y
      replace hHeld := hHeld.below hb
      clear hb hTu
      obtain ⟨hA, ⟨a0, a1⟩, ⟨b0, b1⟩, ⟨x, y, c0, c1⟩, f2⟩ := id hHeld; have hy0 := hA.lt0 (by omega); have hy1 := hA.lt1 (by omega); have hy2 := hA.lt2 (by omega)
      go_wp2
      refine bodyPost_ret (v := .agg #[.int .i64 b.m, .int .i64 b.r]) ?_ rfl ⟨rfl, hHeld.set.1.1⟩
      simp [results, Tryd.results21, go_sem, b0, b1, c0, c1, hy2]
  · have HZ : a = z := by rw [← HJ.out]; exact (show Rs.meet a b = a by rw [Rs.meet_form HO.out.1 HO.out.2, if_pos h1]).symm
    subst HZ
    have HQ := Lib.hid h1
    clear h1
    have hTu := HTb.out.below hHeld.1.1
    go_wp2_with fail
    refine (cLeq_any a.m a.r b.m b.r true HQ.out _ hTu).mono ?_
    rintro e w1 ⟨rfl, hb⟩
    clear hA a0 a1 b0 b1 c0 c1 f2 hy0 hy1 hy2 x y
    replace hHeld := hHeld.below hb
    clear hb hTu
    obtain ⟨hA, ⟨a0, a1⟩, ⟨b0, b1⟩, ⟨x, y, c0, c1⟩, f2⟩ := id hHeld; have hy0 := hA.lt0 (by omega); have hy1 := hA.lt1 (by omega); have hy2 := hA.lt2 (by omega)
    go_wp2
    refine bodyPost_ret (v := .agg #[.int .i64 a.m, .int .i64 a.r]) ?_ rfl ⟨rfl, hHeld.set.1.1⟩
    simp [results, Tryd.results21, go_sem, a0, a1, c0, c1, hy2]
end Go.Proofs.YtmdakglbommopaaDoor
