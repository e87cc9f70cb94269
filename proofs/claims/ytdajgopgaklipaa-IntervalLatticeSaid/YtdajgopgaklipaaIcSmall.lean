/- The code of layer 7: Valid, taken, span, one, places, Has. No condition. -/
import Derived.Test.YtdajgopgaklipaaIcBase
namespace Go.Proofs.Ytdajgopgaklipaa
open Go.RowKit
set_option linter.unusedVariables false
set_option linter.unusedSimpArgs false
attribute [local go_sem] y_undef
def wd (n : Int) : Bool := decide (-2147483648 ≤ n) && decide (n ≤ 2147483647)
theorem isWordD_any (n : Int) (b : Bool) (hb : wd n = b) (w : World) : Calls Try.prog 48 #[.int .i64 n] w fun e w' => e = .returned (.bool b) ∧ Below w.heap.size w w' := isWord_any n b hb w
theorem ok_code (lo hi : Int) (h : ¬ (lo = 1 ∧ hi = 0)) : Iv.ok ⟨lo, hi⟩ = (wd lo && wd hi && decide (lo ≤ hi)) := by
  unfold Iv.ok wd Iv.non
  rw [Bool.eq_iff_iff]
  simp
  omega
set_option maxHeartbeats 4000000 in
theorem iValid_any (lo hi : Int) (b : Bool) (h : Iv.ok ⟨lo, hi⟩ = b) (w : World) : Calls Try.prog 20 #[.agg #[.int .i64 lo, .int .i64 hi]] w fun e w' => e = .returned (.bool b) ∧ Below w.heap.size w w' := by
  have hB := b1_new w ⟨lo, hi⟩ 23
  have hg := iv_guard
  by_cases h0 : lo = 1 ∧ hi = 0
  · obtain ⟨rfl, rfl⟩ := h0
    subst h
    go_enter Try.func20, Try.ntmps20
    go_wp2
    have he := iv_eql 1 0 1 0 true (by decide)
    refine wp_region_held_drew (S := (fun w' => B1 w ⟨1, 0⟩ w')) (by kernel_rfl) (hB.drew) (fun hHeld => ?_)
    generalize (w.alloc (.cells #[.int .i64 1, .int .i64 0] 23)).drew = u0 at *
    clear hB
    refine' wpAnyH_take (i := 0) (v := _) ?_ ?_ ?_ ?_ ?_ ?_ ?_ ?_
    rotate_left 2
    focus (simp only [List.getElem?_toArray, List.getElem?_cons_succ, List.getElem?_cons_zero]; rfl)
    focus kernel_rfl
    focus kernel_rfl
    focus kernel_rfl
    focus exact (fun _ _ _ h => h)
    refine Or.inl ⟨?_, ?_⟩
    focus (go_simp; done)
    focus (intro w hSw; obtain ⟨_, a0, a1⟩ := hSw; (first | (go_simp; done) | (go_simp; with_reducible rfl)))
    focus assumption
    (try simp only [Act.put, List.setIfInBounds_toArray, List.set_cons_zero, List.set_cons_succ])
    refine wpAnyH_ready (rs := [1]) (by kernel_rfl) (by simp) ?_
    refine' AllReadyH.cons ?_ (fun K hK => ?_) AllReadyH.nil
    rotate_left
    focus (simp only [List.getElem?_toArray, List.getElem?_cons_succ, List.getElem?_cons_zero]; rfl)
    go_simp
    (go_at_call 12; (with_reducible refine (iNone_any _).mono ?_); rintro e u1 ⟨rfl, hb⟩)
    have hS := B1.below hHeld hb
    clear hb hHeld
    refine hK.out _ _ hS (fun hHeld => ?_)
    clear hK K hS
    (try simp only [Act.put, List.setIfInBounds_toArray, List.set_cons_zero, List.set_cons_succ])
    refine' wpAnyH_take (i := 2) (v := _) ?_ ?_ ?_ ?_ ?_ ?_ ?_ ?_
    rotate_left 2
    focus (simp only [List.getElem?_toArray, List.getElem?_cons_succ, List.getElem?_cons_zero]; rfl)
    focus kernel_rfl
    focus kernel_rfl
    focus kernel_rfl
    focus exact (fun _ _ _ h => h)
    refine Or.inl ⟨?_, ?_⟩
    focus (go_simp; done)
    focus (intro w hSw; obtain ⟨_, a0, a1⟩ := hSw; (first | (go_simp; done) | (go_simp; with_reducible rfl)))
    focus assumption
    (try simp only [Act.put, List.setIfInBounds_toArray, List.set_cons_zero, List.set_cons_succ])
    refine' wpAnyH_take (i := 3) (v := _) ?_ ?_ ?_ ?_ ?_ ?_ ?_ ?_
    rotate_left 2
    focus (simp only [List.getElem?_toArray, List.getElem?_cons_succ, List.getElem?_cons_zero]; rfl)
    focus kernel_rfl
    focus kernel_rfl
    focus kernel_rfl
    focus exact (fun _ _ _ h => h)
    refine Or.inl ⟨?_, ?_⟩
    focus (go_simp; done)
    focus (intro w hSw; obtain ⟨_, a0, a1⟩ := hSw; (first | (go_simp; done) | (go_simp; with_reducible rfl)))
    focus assumption
    (try simp only [Act.put, List.setIfInBounds_toArray, List.set_cons_zero, List.set_cons_succ])
    refine' wpAnyH_take (i := 4) (v := undef) ?_ ?_ ?_ ?_ ?_ ?_ ?_ ?_
    rotate_left 1
    focus (simp only [List.getElem?_toArray, List.getElem?_cons_succ, List.getElem?_cons_zero]; rfl)
    focus kernel_rfl
    focus kernel_rfl
    focus kernel_rfl
    focus exact (fun _ _ _ h => h)
    refine Or.inr ⟨?_, rfl⟩
    focus (go_simp; done)
    focus assumption
    (try simp only [Act.put, List.setIfInBounds_toArray, List.set_cons_zero, List.set_cons_succ])
    refine' wpAnyH_take (i := 5) (v := undef) ?_ ?_ ?_ ?_ ?_ ?_ ?_ ?_
    rotate_left 1
    focus (simp only [List.getElem?_toArray, List.getElem?_cons_succ, List.getElem?_cons_zero]; rfl)
    focus kernel_rfl
    focus kernel_rfl
    focus kernel_rfl
    focus exact (fun _ _ _ h => h)
    refine Or.inr ⟨?_, rfl⟩
    focus (go_simp; done)
    focus assumption
    (try simp only [Act.put, List.setIfInBounds_toArray, List.set_cons_zero, List.set_cons_succ])
    refine' wpAnyH_take (i := 6) (v := undef) ?_ ?_ ?_ ?_ ?_ ?_ ?_ ?_
    rotate_left 1
    focus (simp only [List.getElem?_toArray, List.getElem?_cons_succ, List.getElem?_cons_zero]; rfl)
    focus kernel_rfl
    focus kernel_rfl
    focus kernel_rfl
    focus exact (fun _ _ _ h => h)
    refine Or.inr ⟨?_, rfl⟩
    focus (go_simp; done)
    focus assumption
    (try simp only [Act.put, List.setIfInBounds_toArray, List.set_cons_zero, List.set_cons_succ])
    refine' wpAnyH_take (i := 7) (v := undef) ?_ ?_ ?_ ?_ ?_ ?_ ?_ ?_
    rotate_left 1
    focus (simp only [List.getElem?_toArray, List.getElem?_cons_succ, List.getElem?_cons_zero]; rfl)
    focus kernel_rfl
    focus kernel_rfl
    focus kernel_rfl
    focus exact (fun _ _ _ h => h)
    refine Or.inr ⟨?_, rfl⟩
    focus (go_simp; done)
    focus assumption
    (try simp only [Act.put, List.setIfInBounds_toArray, List.set_cons_zero, List.set_cons_succ])
    refine' wpAnyH_take (i := 8) (v := undef) ?_ ?_ ?_ ?_ ?_ ?_ ?_ ?_
    rotate_left 1
    focus (simp only [List.getElem?_toArray, List.getElem?_cons_succ, List.getElem?_cons_zero]; rfl)
    focus kernel_rfl
    focus kernel_rfl
    focus kernel_rfl
    focus exact (fun _ _ _ h => h)
    refine Or.inr ⟨?_, rfl⟩
    focus (go_simp; done)
    focus assumption
    (try simp only [Act.put, List.setIfInBounds_toArray, List.set_cons_zero, List.set_cons_succ])
    refine' wpAnyH_take (i := 9) (v := undef) ?_ ?_ ?_ ?_ ?_ ?_ ?_ ?_
    rotate_left 1
    focus (simp only [List.getElem?_toArray, List.getElem?_cons_succ, List.getElem?_cons_zero]; rfl)
    focus kernel_rfl
    focus kernel_rfl
    focus kernel_rfl
    focus exact (fun _ _ _ h => h)
    refine Or.inr ⟨?_, rfl⟩
    focus (go_simp; done)
    focus assumption
    (try simp only [Act.put, List.setIfInBounds_toArray, List.set_cons_zero, List.set_cons_succ])
    refine' wpAnyH_take (i := 10) (v := undef) ?_ ?_ ?_ ?_ ?_ ?_ ?_ ?_
    rotate_left 1
    focus (simp only [List.getElem?_toArray, List.getElem?_cons_succ, List.getElem?_cons_zero]; rfl)
    focus kernel_rfl
    focus kernel_rfl
    focus kernel_rfl
    focus exact (fun _ _ _ h => h)
    refine Or.inr ⟨?_, rfl⟩
    focus (go_simp; done)
    focus assumption
    (try simp only [Act.put, List.setIfInBounds_toArray, List.set_cons_zero, List.set_cons_succ])
    refine' wpAnyH_take (i := 11) (v := undef) ?_ ?_ ?_ ?_ ?_ ?_ ?_ ?_
    rotate_left 1
    focus (simp only [List.getElem?_toArray, List.getElem?_cons_succ, List.getElem?_cons_zero]; rfl)
    focus kernel_rfl
    focus kernel_rfl
    focus kernel_rfl
    focus exact (fun _ _ _ h => h)
    refine Or.inr ⟨?_, rfl⟩
    focus (go_simp; done)
    focus assumption
    (try simp only [Act.put, List.setIfInBounds_toArray, List.set_cons_zero, List.set_cons_succ])
    refine' wpAnyH_take (i := 12) (v := undef) ?_ ?_ ?_ ?_ ?_ ?_ ?_ ?_
    rotate_left 1
    focus (simp only [List.getElem?_toArray, List.getElem?_cons_succ, List.getElem?_cons_zero]; rfl)
    focus kernel_rfl
    focus kernel_rfl
    focus kernel_rfl
    focus exact (fun _ _ _ h => h)
    refine Or.inr ⟨?_, rfl⟩
    focus (go_simp; done)
    focus assumption
    (try simp only [Act.put, List.setIfInBounds_toArray, List.set_cons_zero, List.set_cons_succ])
    refine' wpAnyH_take (i := 13) (v := undef) ?_ ?_ ?_ ?_ ?_ ?_ ?_ ?_
    rotate_left 1
    focus (simp only [List.getElem?_toArray, List.getElem?_cons_succ, List.getElem?_cons_zero]; rfl)
    focus kernel_rfl
    focus kernel_rfl
    focus kernel_rfl
    focus exact (fun _ _ _ h => h)
    refine Or.inr ⟨?_, rfl⟩
    focus (go_simp; done)
    focus assumption
    (try simp only [Act.put, List.setIfInBounds_toArray, List.set_cons_zero, List.set_cons_succ])
    refine' wpAnyH_take (i := 14) (v := undef) ?_ ?_ ?_ ?_ ?_ ?_ ?_ ?_
    rotate_left 1
    focus (simp only [List.getElem?_toArray, List.getElem?_cons_succ, List.getElem?_cons_zero]; rfl)
    focus kernel_rfl
    focus kernel_rfl
    focus kernel_rfl
    focus exact (fun _ _ _ h => h)
    refine Or.inr ⟨?_, rfl⟩
    focus (go_simp; done)
    focus assumption
    (try simp only [Act.put, List.setIfInBounds_toArray, List.set_cons_zero, List.set_cons_succ])
    refine' wpAnyH_take (i := 15) (v := undef) ?_ ?_ ?_ ?_ ?_ ?_ ?_ ?_
    rotate_left 1
    focus (simp only [List.getElem?_toArray, List.getElem?_cons_succ, List.getElem?_cons_zero]; rfl)
    focus kernel_rfl
    focus kernel_rfl
    focus kernel_rfl
    focus exact (fun _ _ _ h => h)
    refine Or.inr ⟨?_, rfl⟩
    focus (go_simp; done)
    focus assumption
    (try simp only [Act.put, List.setIfInBounds_toArray, List.set_cons_zero, List.set_cons_succ])
    refine' wpAnyH_take (i := 16) (v := undef) ?_ ?_ ?_ ?_ ?_ ?_ ?_ ?_
    rotate_left 1
    focus (simp only [List.getElem?_toArray, List.getElem?_cons_succ, List.getElem?_cons_zero]; rfl)
    focus kernel_rfl
    focus kernel_rfl
    focus kernel_rfl
    focus exact (fun _ _ _ h => h)
    refine Or.inr ⟨?_, rfl⟩
    focus (go_simp; done)
    focus assumption
    (try simp only [Act.put, List.setIfInBounds_toArray, List.set_cons_zero, List.set_cons_succ])
    refine' wpAnyH_take (i := 17) (v := undef) ?_ ?_ ?_ ?_ ?_ ?_ ?_ ?_
    rotate_left 1
    focus (simp only [List.getElem?_toArray, List.getElem?_cons_succ, List.getElem?_cons_zero]; rfl)
    focus kernel_rfl
    focus kernel_rfl
    focus kernel_rfl
    focus exact (fun _ _ _ h => h)
    refine Or.inr ⟨?_, rfl⟩
    focus (go_simp; done)
    focus assumption
    (try simp only [Act.put, List.setIfInBounds_toArray, List.set_cons_zero, List.set_cons_succ])
    refine' wpAnyH_take (i := 18) (v := undef) ?_ ?_ ?_ ?_ ?_ ?_ ?_ ?_
    rotate_left 1
    focus (simp only [List.getElem?_toArray, List.getElem?_cons_succ, List.getElem?_cons_zero]; rfl)
    focus kernel_rfl
    focus kernel_rfl
    focus kernel_rfl
    focus exact (fun _ _ _ h => h)
    refine Or.inr ⟨?_, rfl⟩
    focus (go_simp; done)
    focus assumption
    (try simp only [Act.put, List.setIfInBounds_toArray, List.set_cons_zero, List.set_cons_succ])
    refine' wpAnyH_take (i := 19) (v := _) ?_ ?_ ?_ ?_ ?_ ?_ ?_ ?_
    rotate_left 2
    focus (simp only [List.getElem?_toArray, List.getElem?_cons_succ, List.getElem?_cons_zero]; rfl)
    focus kernel_rfl
    focus kernel_rfl
    focus kernel_rfl
    focus exact (fun _ _ _ h => h)
    refine Or.inl ⟨?_, ?_⟩
    focus (go_simp; done)
    focus (intro w hSw; obtain ⟨_, a0, a1⟩ := hSw; (first | (go_simp; done) | (go_simp; with_reducible rfl)))
    focus assumption
    (try simp only [Act.put, List.setIfInBounds_toArray, List.set_cons_zero, List.set_cons_succ])
    refine' wpAnyH_take (i := 20) (v := _) ?_ ?_ ?_ ?_ ?_ ?_ ?_ ?_
    rotate_left 2
    focus (simp only [List.getElem?_toArray, List.getElem?_cons_succ, List.getElem?_cons_zero]; rfl)
    focus kernel_rfl
    focus kernel_rfl
    focus kernel_rfl
    focus exact (fun _ _ _ h => h)
    refine Or.inl ⟨?_, ?_⟩
    focus (go_simp; done)
    focus (intro w hSw; obtain ⟨_, a0, a1⟩ := hSw; (first | (go_simp; done) | (go_simp; with_reducible rfl)))
    focus assumption
    (try simp only [Act.put, List.setIfInBounds_toArray, List.set_cons_zero, List.set_cons_succ])
    refine wpAnyH_done (by kernel_rfl) ?_ _
    go_wp2
    go_ret
    exact ⟨ret_bool (by decide), hHeld.1.1⟩
  · have he := iv_eql lo hi 1 0 false (by simp; omega)
    have hF := Lib.hid h
    have h0' := Lib.hid h0
    clear h h0
    cases h1 : wd lo
    case false =>
      go_enter Try.func20, Try.ntmps20
      go_wp2
      refine wp_region_held_drew (S := (fun w' => B1 w ⟨lo, hi⟩ w')) (by kernel_rfl) (hB.drew) (fun hHeld => ?_)
      generalize (w.alloc (.cells #[.int .i64 lo, .int .i64 hi] 23)).drew = u0 at *
      clear hB
      refine' wpAnyH_take (i := 0) (v := _) ?_ ?_ ?_ ?_ ?_ ?_ ?_ ?_
      rotate_left 2
      focus (simp only [List.getElem?_toArray, List.getElem?_cons_succ, List.getElem?_cons_zero]; rfl)
      focus kernel_rfl
      focus kernel_rfl
      focus kernel_rfl
      focus exact (fun _ _ _ h => h)
      refine Or.inl ⟨?_, ?_⟩
      focus (go_simp; done)
      focus (intro w hSw; obtain ⟨_, a0, a1⟩ := hSw; (first | (go_simp; done) | (go_simp; with_reducible rfl)))
      focus assumption
      (try simp only [Act.put, List.setIfInBounds_toArray, List.set_cons_zero, List.set_cons_succ])
      refine wpAnyH_ready (rs := [1]) (by kernel_rfl) (by simp) ?_
      refine' AllReadyH.cons ?_ (fun K hK => ?_) AllReadyH.nil
      rotate_left
      focus (simp only [List.getElem?_toArray, List.getElem?_cons_succ, List.getElem?_cons_zero]; rfl)
      go_simp
      (go_at_call 12; (with_reducible refine (iNone_any _).mono ?_); rintro e u1 ⟨rfl, hb⟩)
      have hS := B1.below hHeld hb
      clear hb hHeld
      refine hK.out _ _ hS (fun hHeld => ?_)
      clear hK K hS
      (try simp only [Act.put, List.setIfInBounds_toArray, List.set_cons_zero, List.set_cons_succ])
      refine' wpAnyH_take (i := 2) (v := _) ?_ ?_ ?_ ?_ ?_ ?_ ?_ ?_
      rotate_left 2
      focus (simp only [List.getElem?_toArray, List.getElem?_cons_succ, List.getElem?_cons_zero]; rfl)
      focus kernel_rfl
      focus kernel_rfl
      focus kernel_rfl
      focus exact (fun _ _ _ h => h)
      refine Or.inl ⟨?_, ?_⟩
      focus (go_simp; done)
      focus (intro w hSw; obtain ⟨_, a0, a1⟩ := hSw; (first | (go_simp; done) | (go_simp; with_reducible rfl)))
      focus assumption
      (try simp only [Act.put, List.setIfInBounds_toArray, List.set_cons_zero, List.set_cons_succ])
      refine' wpAnyH_take (i := 3) (v := _) ?_ ?_ ?_ ?_ ?_ ?_ ?_ ?_
      rotate_left 2
      focus (simp only [List.getElem?_toArray, List.getElem?_cons_succ, List.getElem?_cons_zero]; rfl)
      focus kernel_rfl
      focus kernel_rfl
      focus kernel_rfl
      focus exact (fun _ _ _ h => h)
      refine Or.inl ⟨?_, ?_⟩
      focus (go_simp; done)
      focus (intro w hSw; obtain ⟨_, a0, a1⟩ := hSw; (first | (go_simp; done) | (go_simp; with_reducible rfl)))
      focus assumption
      (try simp only [Act.put, List.setIfInBounds_toArray, List.set_cons_zero, List.set_cons_succ])
      refine' wpAnyH_take (i := 4) (v := _) ?_ ?_ ?_ ?_ ?_ ?_ ?_ ?_
      rotate_left 2
      focus (simp only [List.getElem?_toArray, List.getElem?_cons_succ, List.getElem?_cons_zero]; rfl)
      focus kernel_rfl
      focus kernel_rfl
      focus kernel_rfl
      focus exact (fun _ _ _ h => h)
      refine Or.inl ⟨?_, ?_⟩
      focus (go_simp; done)
      focus (intro w hSw; obtain ⟨_, a0, a1⟩ := hSw; (first | (go_simp; done) | (go_simp; with_reducible rfl)))
      focus assumption
      (try simp only [Act.put, List.setIfInBounds_toArray, List.set_cons_zero, List.set_cons_succ])
      refine' wpAnyH_take (i := 5) (v := _) ?_ ?_ ?_ ?_ ?_ ?_ ?_ ?_
      rotate_left 2
      focus (simp only [List.getElem?_toArray, List.getElem?_cons_succ, List.getElem?_cons_zero]; rfl)
      focus kernel_rfl
      focus kernel_rfl
      focus kernel_rfl
      focus exact (fun _ _ _ h => h)
      refine Or.inl ⟨?_, ?_⟩
      focus (go_simp; done)
      focus (intro w hSw; obtain ⟨_, a0, a1⟩ := hSw; (first | (go_simp; done) | (go_simp; with_reducible rfl)))
      focus assumption
      (try simp only [Act.put, List.setIfInBounds_toArray, List.set_cons_zero, List.set_cons_succ])
      refine wpAnyH_ready (rs := [6]) (by kernel_rfl) (by simp) ?_
      refine' AllReadyH.cons ?_ (fun K hK => ?_) AllReadyH.nil
      rotate_left
      focus (simp only [List.getElem?_toArray, List.getElem?_cons_succ, List.getElem?_cons_zero]; rfl)
      go_simp
      (go_at_call 48; (with_reducible refine (isWordD_any lo _ h1 _).mono ?_); rintro e u6 ⟨rfl, hb⟩)
      have hS := B1.below hHeld hb
      clear hb hHeld
      refine hK.out _ _ hS (fun hHeld => ?_)
      clear hK K hS
      (try simp only [Act.put, List.setIfInBounds_toArray, List.set_cons_zero, List.set_cons_succ])
      refine' wpAnyH_take (i := 7) (v := _) ?_ ?_ ?_ ?_ ?_ ?_ ?_ ?_
      rotate_left 2
      focus (simp only [List.getElem?_toArray, List.getElem?_cons_succ, List.getElem?_cons_zero]; rfl)
      focus kernel_rfl
      focus kernel_rfl
      focus kernel_rfl
      focus exact (fun _ _ _ h => h)
      refine Or.inl ⟨?_, ?_⟩
      focus (go_simp; done)
      focus (intro w hSw; obtain ⟨_, a0, a1⟩ := hSw; (first | (go_simp; done) | (go_simp; with_reducible rfl)))
      focus assumption
      (try simp only [Act.put, List.setIfInBounds_toArray, List.set_cons_zero, List.set_cons_succ])
      refine' wpAnyH_take (i := 8) (v := undef) ?_ ?_ ?_ ?_ ?_ ?_ ?_ ?_
      rotate_left 1
      focus (simp only [List.getElem?_toArray, List.getElem?_cons_succ, List.getElem?_cons_zero]; rfl)
      focus kernel_rfl
      focus kernel_rfl
      focus kernel_rfl
      focus exact (fun _ _ _ h => h)
      refine Or.inr ⟨?_, rfl⟩
      focus (go_simp; done)
      focus assumption
      (try simp only [Act.put, List.setIfInBounds_toArray, List.set_cons_zero, List.set_cons_succ])
      refine' wpAnyH_take (i := 9) (v := undef) ?_ ?_ ?_ ?_ ?_ ?_ ?_ ?_
      rotate_left 1
      focus (simp only [List.getElem?_toArray, List.getElem?_cons_succ, List.getElem?_cons_zero]; rfl)
      focus kernel_rfl
      focus kernel_rfl
      focus kernel_rfl
      focus exact (fun _ _ _ h => h)
      refine Or.inr ⟨?_, rfl⟩
      focus (go_simp; done)
      focus assumption
      (try simp only [Act.put, List.setIfInBounds_toArray, List.set_cons_zero, List.set_cons_succ])
      refine' wpAnyH_take (i := 10) (v := undef) ?_ ?_ ?_ ?_ ?_ ?_ ?_ ?_
      rotate_left 1
      focus (simp only [List.getElem?_toArray, List.getElem?_cons_succ, List.getElem?_cons_zero]; rfl)
      focus kernel_rfl
      focus kernel_rfl
      focus kernel_rfl
      focus exact (fun _ _ _ h => h)
      refine Or.inr ⟨?_, rfl⟩
      focus (go_simp; done)
      focus assumption
      (try simp only [Act.put, List.setIfInBounds_toArray, List.set_cons_zero, List.set_cons_succ])
      refine' wpAnyH_take (i := 11) (v := _) ?_ ?_ ?_ ?_ ?_ ?_ ?_ ?_
      rotate_left 2
      focus (simp only [List.getElem?_toArray, List.getElem?_cons_succ, List.getElem?_cons_zero]; rfl)
      focus kernel_rfl
      focus kernel_rfl
      focus kernel_rfl
      focus exact (fun _ _ _ h => h)
      refine Or.inl ⟨?_, ?_⟩
      focus (go_simp; done)
      focus (intro w hSw; obtain ⟨_, a0, a1⟩ := hSw; (first | (go_simp; done) | (go_simp; with_reducible rfl)))
      focus assumption
      (try simp only [Act.put, List.setIfInBounds_toArray, List.set_cons_zero, List.set_cons_succ])
      refine' wpAnyH_take (i := 12) (v := _) ?_ ?_ ?_ ?_ ?_ ?_ ?_ ?_
      rotate_left 2
      focus (simp only [List.getElem?_toArray, List.getElem?_cons_succ, List.getElem?_cons_zero]; rfl)
      focus kernel_rfl
      focus kernel_rfl
      focus kernel_rfl
      focus exact (fun _ _ _ h => h)
      refine Or.inl ⟨?_, ?_⟩
      focus (go_simp; done)
      focus (intro w hSw; obtain ⟨_, a0, a1⟩ := hSw; (first | (go_simp; done) | (go_simp; with_reducible rfl)))
      focus assumption
      (try simp only [Act.put, List.setIfInBounds_toArray, List.set_cons_zero, List.set_cons_succ])
      refine' wpAnyH_take (i := 13) (v := undef) ?_ ?_ ?_ ?_ ?_ ?_ ?_ ?_
      rotate_left 1
      focus (simp only [List.getElem?_toArray, List.getElem?_cons_succ, List.getElem?_cons_zero]; rfl)
      focus kernel_rfl
      focus kernel_rfl
      focus kernel_rfl
      focus exact (fun _ _ _ h => h)
      refine Or.inr ⟨?_, rfl⟩
      focus (go_simp; done)
      focus assumption
      (try simp only [Act.put, List.setIfInBounds_toArray, List.set_cons_zero, List.set_cons_succ])
      refine' wpAnyH_take (i := 14) (v := undef) ?_ ?_ ?_ ?_ ?_ ?_ ?_ ?_
      rotate_left 1
      focus (simp only [List.getElem?_toArray, List.getElem?_cons_succ, List.getElem?_cons_zero]; rfl)
      focus kernel_rfl
      focus kernel_rfl
      focus kernel_rfl
      focus exact (fun _ _ _ h => h)
      refine Or.inr ⟨?_, rfl⟩
      focus (go_simp; done)
      focus assumption
      (try simp only [Act.put, List.setIfInBounds_toArray, List.set_cons_zero, List.set_cons_succ])
      refine' wpAnyH_take (i := 15) (v := undef) ?_ ?_ ?_ ?_ ?_ ?_ ?_ ?_
      rotate_left 1
      focus (simp only [List.getElem?_toArray, List.getElem?_cons_succ, List.getElem?_cons_zero]; rfl)
      focus kernel_rfl
      focus kernel_rfl
      focus kernel_rfl
      focus exact (fun _ _ _ h => h)
      refine Or.inr ⟨?_, rfl⟩
      focus (go_simp; done)
      focus assumption
      (try simp only [Act.put, List.setIfInBounds_toArray, List.set_cons_zero, List.set_cons_succ])
      refine' wpAnyH_take (i := 16) (v := undef) ?_ ?_ ?_ ?_ ?_ ?_ ?_ ?_
      rotate_left 1
      focus (simp only [List.getElem?_toArray, List.getElem?_cons_succ, List.getElem?_cons_zero]; rfl)
      focus kernel_rfl
      focus kernel_rfl
      focus kernel_rfl
      focus exact (fun _ _ _ h => h)
      refine Or.inr ⟨?_, rfl⟩
      focus (go_simp; done)
      focus assumption
      (try simp only [Act.put, List.setIfInBounds_toArray, List.set_cons_zero, List.set_cons_succ])
      refine' wpAnyH_take (i := 17) (v := undef) ?_ ?_ ?_ ?_ ?_ ?_ ?_ ?_
      rotate_left 1
      focus (simp only [List.getElem?_toArray, List.getElem?_cons_succ, List.getElem?_cons_zero]; rfl)
      focus kernel_rfl
      focus kernel_rfl
      focus kernel_rfl
      focus exact (fun _ _ _ h => h)
      refine Or.inr ⟨?_, rfl⟩
      focus (go_simp; done)
      focus assumption
      (try simp only [Act.put, List.setIfInBounds_toArray, List.set_cons_zero, List.set_cons_succ])
      refine' wpAnyH_take (i := 18) (v := _) ?_ ?_ ?_ ?_ ?_ ?_ ?_ ?_
      rotate_left 2
      focus (simp only [List.getElem?_toArray, List.getElem?_cons_succ, List.getElem?_cons_zero]; rfl)
      focus kernel_rfl
      focus kernel_rfl
      focus kernel_rfl
      focus exact (fun _ _ _ h => h)
      refine Or.inl ⟨?_, ?_⟩
      focus (go_simp; done)
      focus (intro w hSw; obtain ⟨_, a0, a1⟩ := hSw; (first | (go_simp; done) | (go_simp; with_reducible rfl)))
      focus assumption
      (try simp only [Act.put, List.setIfInBounds_toArray, List.set_cons_zero, List.set_cons_succ])
      refine' wpAnyH_take (i := 19) (v := _) ?_ ?_ ?_ ?_ ?_ ?_ ?_ ?_
      rotate_left 2
      focus (simp only [List.getElem?_toArray, List.getElem?_cons_succ, List.getElem?_cons_zero]; rfl)
      focus kernel_rfl
      focus kernel_rfl
      focus kernel_rfl
      focus exact (fun _ _ _ h => h)
      refine Or.inl ⟨?_, ?_⟩
      focus (go_simp; done)
      focus (intro w hSw; obtain ⟨_, a0, a1⟩ := hSw; (first | (go_simp; done) | (go_simp; with_reducible rfl)))
      focus assumption
      (try simp only [Act.put, List.setIfInBounds_toArray, List.set_cons_zero, List.set_cons_succ])
      refine' wpAnyH_take (i := 20) (v := _) ?_ ?_ ?_ ?_ ?_ ?_ ?_ ?_
      rotate_left 2
      focus (simp only [List.getElem?_toArray, List.getElem?_cons_succ, List.getElem?_cons_zero]; rfl)
      focus kernel_rfl
      focus kernel_rfl
      focus kernel_rfl
      focus exact (fun _ _ _ h => h)
      refine Or.inl ⟨?_, ?_⟩
      focus (go_simp; done)
      focus (intro w hSw; obtain ⟨_, a0, a1⟩ := hSw; (first | (go_simp; done) | (go_simp; with_reducible rfl)))
      focus assumption
      (try simp only [Act.put, List.setIfInBounds_toArray, List.set_cons_zero, List.set_cons_succ])
      refine wpAnyH_done (by kernel_rfl) ?_ _
      go_wp2
      go_ret
      refine ⟨ret_bool ?_, hHeld.1.1⟩
      rw [← hF.out, ok_code _ _ h0'.out]
      simp [h1]
    case true =>
      cases h2 : wd hi
      case false =>
        go_enter Try.func20, Try.ntmps20
        go_wp2
        refine wp_region_held_drew (S := (fun w' => B1 w ⟨lo, hi⟩ w')) (by kernel_rfl) (hB.drew) (fun hHeld => ?_)
        generalize (w.alloc (.cells #[.int .i64 lo, .int .i64 hi] 23)).drew = u0 at *
        clear hB
        refine' wpAnyH_take (i := 0) (v := _) ?_ ?_ ?_ ?_ ?_ ?_ ?_ ?_
        rotate_left 2
        focus (simp only [List.getElem?_toArray, List.getElem?_cons_succ, List.getElem?_cons_zero]; rfl)
        focus kernel_rfl
        focus kernel_rfl
        focus kernel_rfl
        focus exact (fun _ _ _ h => h)
        refine Or.inl ⟨?_, ?_⟩
        focus (go_simp; done)
        focus (intro w hSw; obtain ⟨_, a0, a1⟩ := hSw; (first | (go_simp; done) | (go_simp; with_reducible rfl)))
        focus assumption
        (try simp only [Act.put, List.setIfInBounds_toArray, List.set_cons_zero, List.set_cons_succ])
        refine wpAnyH_ready (rs := [1]) (by kernel_rfl) (by simp) ?_
        refine' AllReadyH.cons ?_ (fun K hK => ?_) AllReadyH.nil
        rotate_left
        focus (simp only [List.getElem?_toArray, List.getElem?_cons_succ, List.getElem?_cons_zero]; rfl)
        go_simp
        (go_at_call 12; (with_reducible refine (iNone_any _).mono ?_); rintro e u1 ⟨rfl, hb⟩)
        have hS := B1.below hHeld hb
        clear hb hHeld
        refine hK.out _ _ hS (fun hHeld => ?_)
        clear hK K hS
        (try simp only [Act.put, List.setIfInBounds_toArray, List.set_cons_zero, List.set_cons_succ])
        refine' wpAnyH_take (i := 2) (v := _) ?_ ?_ ?_ ?_ ?_ ?_ ?_ ?_
        rotate_left 2
        focus (simp only [List.getElem?_toArray, List.getElem?_cons_succ, List.getElem?_cons_zero]; rfl)
        focus kernel_rfl
        focus kernel_rfl
        focus kernel_rfl
        focus exact (fun _ _ _ h => h)
        refine Or.inl ⟨?_, ?_⟩
        focus (go_simp; done)
        focus (intro w hSw; obtain ⟨_, a0, a1⟩ := hSw; (first | (go_simp; done) | (go_simp; with_reducible rfl)))
        focus assumption
        (try simp only [Act.put, List.setIfInBounds_toArray, List.set_cons_zero, List.set_cons_succ])
        refine' wpAnyH_take (i := 3) (v := _) ?_ ?_ ?_ ?_ ?_ ?_ ?_ ?_
        rotate_left 2
        focus (simp only [List.getElem?_toArray, List.getElem?_cons_succ, List.getElem?_cons_zero]; rfl)
        focus kernel_rfl
        focus kernel_rfl
        focus kernel_rfl
        focus exact (fun _ _ _ h => h)
        refine Or.inl ⟨?_, ?_⟩
        focus (go_simp; done)
        focus (intro w hSw; obtain ⟨_, a0, a1⟩ := hSw; (first | (go_simp; done) | (go_simp; with_reducible rfl)))
        focus assumption
        (try simp only [Act.put, List.setIfInBounds_toArray, List.set_cons_zero, List.set_cons_succ])
        refine' wpAnyH_take (i := 4) (v := _) ?_ ?_ ?_ ?_ ?_ ?_ ?_ ?_
        rotate_left 2
        focus (simp only [List.getElem?_toArray, List.getElem?_cons_succ, List.getElem?_cons_zero]; rfl)
        focus kernel_rfl
        focus kernel_rfl
        focus kernel_rfl
        focus exact (fun _ _ _ h => h)
        refine Or.inl ⟨?_, ?_⟩
        focus (go_simp; done)
        focus (intro w hSw; obtain ⟨_, a0, a1⟩ := hSw; (first | (go_simp; done) | (go_simp; with_reducible rfl)))
        focus assumption
        (try simp only [Act.put, List.setIfInBounds_toArray, List.set_cons_zero, List.set_cons_succ])
        refine' wpAnyH_take (i := 5) (v := _) ?_ ?_ ?_ ?_ ?_ ?_ ?_ ?_
        rotate_left 2
        focus (simp only [List.getElem?_toArray, List.getElem?_cons_succ, List.getElem?_cons_zero]; rfl)
        focus kernel_rfl
        focus kernel_rfl
        focus kernel_rfl
        focus exact (fun _ _ _ h => h)
        refine Or.inl ⟨?_, ?_⟩
        focus (go_simp; done)
        focus (intro w hSw; obtain ⟨_, a0, a1⟩ := hSw; (first | (go_simp; done) | (go_simp; with_reducible rfl)))
        focus assumption
        (try simp only [Act.put, List.setIfInBounds_toArray, List.set_cons_zero, List.set_cons_succ])
        refine wpAnyH_ready (rs := [6]) (by kernel_rfl) (by simp) ?_
        refine' AllReadyH.cons ?_ (fun K hK => ?_) AllReadyH.nil
        rotate_left
        focus (simp only [List.getElem?_toArray, List.getElem?_cons_succ, List.getElem?_cons_zero]; rfl)
        go_simp
        (go_at_call 48; (with_reducible refine (isWordD_any lo _ h1 _).mono ?_); rintro e u6 ⟨rfl, hb⟩)
        have hS := B1.below hHeld hb
        clear hb hHeld
        refine hK.out _ _ hS (fun hHeld => ?_)
        clear hK K hS
        (try simp only [Act.put, List.setIfInBounds_toArray, List.set_cons_zero, List.set_cons_succ])
        refine' wpAnyH_take (i := 7) (v := _) ?_ ?_ ?_ ?_ ?_ ?_ ?_ ?_
        rotate_left 2
        focus (simp only [List.getElem?_toArray, List.getElem?_cons_succ, List.getElem?_cons_zero]; rfl)
        focus kernel_rfl
        focus kernel_rfl
        focus kernel_rfl
        focus exact (fun _ _ _ h => h)
        refine Or.inl ⟨?_, ?_⟩
        focus (go_simp; done)
        focus (intro w hSw; obtain ⟨_, a0, a1⟩ := hSw; (first | (go_simp; done) | (go_simp; with_reducible rfl)))
        focus assumption
        (try simp only [Act.put, List.setIfInBounds_toArray, List.set_cons_zero, List.set_cons_succ])
        refine' wpAnyH_take (i := 8) (v := _) ?_ ?_ ?_ ?_ ?_ ?_ ?_ ?_
        rotate_left 2
        focus (simp only [List.getElem?_toArray, List.getElem?_cons_succ, List.getElem?_cons_zero]; rfl)
        focus kernel_rfl
        focus kernel_rfl
        focus kernel_rfl
        focus exact (fun _ _ _ h => h)
        refine Or.inl ⟨?_, ?_⟩
        focus (go_simp; done)
        focus (intro w hSw; obtain ⟨_, a0, a1⟩ := hSw; (first | (go_simp; done) | (go_simp; with_reducible rfl)))
        focus assumption
        (try simp only [Act.put, List.setIfInBounds_toArray, List.set_cons_zero, List.set_cons_succ])
        refine' wpAnyH_take (i := 9) (v := _) ?_ ?_ ?_ ?_ ?_ ?_ ?_ ?_
        rotate_left 2
        focus (simp only [List.getElem?_toArray, List.getElem?_cons_succ, List.getElem?_cons_zero]; rfl)
        focus kernel_rfl
        focus kernel_rfl
        focus kernel_rfl
        focus exact (fun _ _ _ h => h)
        refine Or.inl ⟨?_, ?_⟩
        focus (go_simp; done)
        focus (intro w hSw; obtain ⟨_, a0, a1⟩ := hSw; (first | (go_simp; done) | (go_simp; with_reducible rfl)))
        focus assumption
        (try simp only [Act.put, List.setIfInBounds_toArray, List.set_cons_zero, List.set_cons_succ])
        refine wpAnyH_ready (rs := [10]) (by kernel_rfl) (by simp) ?_
        refine' AllReadyH.cons ?_ (fun K hK => ?_) AllReadyH.nil
        rotate_left
        focus (simp only [List.getElem?_toArray, List.getElem?_cons_succ, List.getElem?_cons_zero]; rfl)
        go_simp
        (go_at_call 48; (with_reducible refine (isWordD_any hi _ h2 _).mono ?_); rintro e u10 ⟨rfl, hb⟩)
        have hS := B1.below hHeld hb
        clear hb hHeld
        refine hK.out _ _ hS (fun hHeld => ?_)
        clear hK K hS
        (try simp only [Act.put, List.setIfInBounds_toArray, List.set_cons_zero, List.set_cons_succ])
        refine' wpAnyH_take (i := 11) (v := _) ?_ ?_ ?_ ?_ ?_ ?_ ?_ ?_
        rotate_left 2
        focus (simp only [List.getElem?_toArray, List.getElem?_cons_succ, List.getElem?_cons_zero]; rfl)
        focus kernel_rfl
        focus kernel_rfl
        focus kernel_rfl
        focus exact (fun _ _ _ h => h)
        refine Or.inl ⟨?_, ?_⟩
        focus (go_simp; done)
        focus (intro w hSw; obtain ⟨_, a0, a1⟩ := hSw; (first | (go_simp; done) | (go_simp; with_reducible rfl)))
        focus assumption
        (try simp only [Act.put, List.setIfInBounds_toArray, List.set_cons_zero, List.set_cons_succ])
        refine' wpAnyH_take (i := 12) (v := _) ?_ ?_ ?_ ?_ ?_ ?_ ?_ ?_
        rotate_left 2
        focus (simp only [List.getElem?_toArray, List.getElem?_cons_succ, List.getElem?_cons_zero]; rfl)
        focus kernel_rfl
        focus kernel_rfl
        focus kernel_rfl
        focus exact (fun _ _ _ h => h)
        refine Or.inl ⟨?_, ?_⟩
        focus (go_simp; done)
        focus (intro w hSw; obtain ⟨_, a0, a1⟩ := hSw; (first | (go_simp; done) | (go_simp; with_reducible rfl)))
        focus assumption
        (try simp only [Act.put, List.setIfInBounds_toArray, List.set_cons_zero, List.set_cons_succ])
        refine' wpAnyH_take (i := 13) (v := undef) ?_ ?_ ?_ ?_ ?_ ?_ ?_ ?_
        rotate_left 1
        focus (simp only [List.getElem?_toArray, List.getElem?_cons_succ, List.getElem?_cons_zero]; rfl)
        focus kernel_rfl
        focus kernel_rfl
        focus kernel_rfl
        focus exact (fun _ _ _ h => h)
        refine Or.inr ⟨?_, rfl⟩
        focus (go_simp; done)
        focus assumption
        (try simp only [Act.put, List.setIfInBounds_toArray, List.set_cons_zero, List.set_cons_succ])
        refine' wpAnyH_take (i := 14) (v := undef) ?_ ?_ ?_ ?_ ?_ ?_ ?_ ?_
        rotate_left 1
        focus (simp only [List.getElem?_toArray, List.getElem?_cons_succ, List.getElem?_cons_zero]; rfl)
        focus kernel_rfl
        focus kernel_rfl
        focus kernel_rfl
        focus exact (fun _ _ _ h => h)
        refine Or.inr ⟨?_, rfl⟩
        focus (go_simp; done)
        focus assumption
        (try simp only [Act.put, List.setIfInBounds_toArray, List.set_cons_zero, List.set_cons_succ])
        refine' wpAnyH_take (i := 15) (v := undef) ?_ ?_ ?_ ?_ ?_ ?_ ?_ ?_
        rotate_left 1
        focus (simp only [List.getElem?_toArray, List.getElem?_cons_succ, List.getElem?_cons_zero]; rfl)
        focus kernel_rfl
        focus kernel_rfl
        focus kernel_rfl
        focus exact (fun _ _ _ h => h)
        refine Or.inr ⟨?_, rfl⟩
        focus (go_simp; done)
        focus assumption
        (try simp only [Act.put, List.setIfInBounds_toArray, List.set_cons_zero, List.set_cons_succ])
        refine' wpAnyH_take (i := 16) (v := undef) ?_ ?_ ?_ ?_ ?_ ?_ ?_ ?_
        rotate_left 1
        focus (simp only [List.getElem?_toArray, List.getElem?_cons_succ, List.getElem?_cons_zero]; rfl)
        focus kernel_rfl
        focus kernel_rfl
        focus kernel_rfl
        focus exact (fun _ _ _ h => h)
        refine Or.inr ⟨?_, rfl⟩
        focus (go_simp; done)
        focus assumption
        (try simp only [Act.put, List.setIfInBounds_toArray, List.set_cons_zero, List.set_cons_succ])
        refine' wpAnyH_take (i := 17) (v := undef) ?_ ?_ ?_ ?_ ?_ ?_ ?_ ?_
        rotate_left 1
        focus (simp only [List.getElem?_toArray, List.getElem?_cons_succ, List.getElem?_cons_zero]; rfl)
        focus kernel_rfl
        focus kernel_rfl
        focus kernel_rfl
        focus exact (fun _ _ _ h => h)
        refine Or.inr ⟨?_, rfl⟩
        focus (go_simp; done)
        focus assumption
        (try simp only [Act.put, List.setIfInBounds_toArray, List.set_cons_zero, List.set_cons_succ])
        refine' wpAnyH_take (i := 18) (v := _) ?_ ?_ ?_ ?_ ?_ ?_ ?_ ?_
        rotate_left 2
        focus (simp only [List.getElem?_toArray, List.getElem?_cons_succ, List.getElem?_cons_zero]; rfl)
        focus kernel_rfl
        focus kernel_rfl
        focus kernel_rfl
        focus exact (fun _ _ _ h => h)
        refine Or.inl ⟨?_, ?_⟩
        focus (go_simp; done)
        focus (intro w hSw; obtain ⟨_, a0, a1⟩ := hSw; (first | (go_simp; done) | (go_simp; with_reducible rfl)))
        focus assumption
        (try simp only [Act.put, List.setIfInBounds_toArray, List.set_cons_zero, List.set_cons_succ])
        refine' wpAnyH_take (i := 19) (v := _) ?_ ?_ ?_ ?_ ?_ ?_ ?_ ?_
        rotate_left 2
        focus (simp only [List.getElem?_toArray, List.getElem?_cons_succ, List.getElem?_cons_zero]; rfl)
        focus kernel_rfl
        focus kernel_rfl
        focus kernel_rfl
        focus exact (fun _ _ _ h => h)
        refine Or.inl ⟨?_, ?_⟩
        focus (go_simp; done)
        focus (intro w hSw; obtain ⟨_, a0, a1⟩ := hSw; (first | (go_simp; done) | (go_simp; with_reducible rfl)))
        focus assumption
        (try simp only [Act.put, List.setIfInBounds_toArray, List.set_cons_zero, List.set_cons_succ])
        refine' wpAnyH_take (i := 20) (v := _) ?_ ?_ ?_ ?_ ?_ ?_ ?_ ?_
        rotate_left 2
        focus (simp only [List.getElem?_toArray, List.getElem?_cons_succ, List.getElem?_cons_zero]; rfl)
        focus kernel_rfl
        focus kernel_rfl
        focus kernel_rfl
        focus exact (fun _ _ _ h => h)
        refine Or.inl ⟨?_, ?_⟩
        focus (go_simp; done)
        focus (intro w hSw; obtain ⟨_, a0, a1⟩ := hSw; (first | (go_simp; done) | (go_simp; with_reducible rfl)))
        focus assumption
        (try simp only [Act.put, List.setIfInBounds_toArray, List.set_cons_zero, List.set_cons_succ])
        refine wpAnyH_done (by kernel_rfl) ?_ _
        go_wp2
        go_ret
        refine ⟨ret_bool ?_, hHeld.1.1⟩
        rw [← hF.out, ok_code _ _ h0'.out]
        simp [h1, h2]
      case true =>
        go_enter Try.func20, Try.ntmps20
        go_wp2
        refine wp_region_held_drew (S := (fun w' => B1 w ⟨lo, hi⟩ w')) (by kernel_rfl) (hB.drew) (fun hHeld => ?_)
        generalize (w.alloc (.cells #[.int .i64 lo, .int .i64 hi] 23)).drew = u0 at *
        clear hB
        refine' wpAnyH_take (i := 0) (v := _) ?_ ?_ ?_ ?_ ?_ ?_ ?_ ?_
        rotate_left 2
        focus (simp only [List.getElem?_toArray, List.getElem?_cons_succ, List.getElem?_cons_zero]; rfl)
        focus kernel_rfl
        focus kernel_rfl
        focus kernel_rfl
        focus exact (fun _ _ _ h => h)
        refine Or.inl ⟨?_, ?_⟩
        focus (go_simp; done)
        focus (intro w hSw; obtain ⟨_, a0, a1⟩ := hSw; (first | (go_simp; done) | (go_simp; with_reducible rfl)))
        focus assumption
        (try simp only [Act.put, List.setIfInBounds_toArray, List.set_cons_zero, List.set_cons_succ])
        refine wpAnyH_ready (rs := [1]) (by kernel_rfl) (by simp) ?_
        refine' AllReadyH.cons ?_ (fun K hK => ?_) AllReadyH.nil
        rotate_left
        focus (simp only [List.getElem?_toArray, List.getElem?_cons_succ, List.getElem?_cons_zero]; rfl)
        go_simp
        (go_at_call 12; (with_reducible refine (iNone_any _).mono ?_); rintro e u1 ⟨rfl, hb⟩)
        have hS := B1.below hHeld hb
        clear hb hHeld
        refine hK.out _ _ hS (fun hHeld => ?_)
        clear hK K hS
        (try simp only [Act.put, List.setIfInBounds_toArray, List.set_cons_zero, List.set_cons_succ])
        refine' wpAnyH_take (i := 2) (v := _) ?_ ?_ ?_ ?_ ?_ ?_ ?_ ?_
        rotate_left 2
        focus (simp only [List.getElem?_toArray, List.getElem?_cons_succ, List.getElem?_cons_zero]; rfl)
        focus kernel_rfl
        focus kernel_rfl
        focus kernel_rfl
        focus exact (fun _ _ _ h => h)
        refine Or.inl ⟨?_, ?_⟩
        focus (go_simp; done)
        focus (intro w hSw; obtain ⟨_, a0, a1⟩ := hSw; (first | (go_simp; done) | (go_simp; with_reducible rfl)))
        focus assumption
        (try simp only [Act.put, List.setIfInBounds_toArray, List.set_cons_zero, List.set_cons_succ])
        refine' wpAnyH_take (i := 3) (v := _) ?_ ?_ ?_ ?_ ?_ ?_ ?_ ?_
        rotate_left 2
        focus (simp only [List.getElem?_toArray, List.getElem?_cons_succ, List.getElem?_cons_zero]; rfl)
        focus kernel_rfl
        focus kernel_rfl
        focus kernel_rfl
        focus exact (fun _ _ _ h => h)
        refine Or.inl ⟨?_, ?_⟩
        focus (go_simp; done)
        focus (intro w hSw; obtain ⟨_, a0, a1⟩ := hSw; (first | (go_simp; done) | (go_simp; with_reducible rfl)))
        focus assumption
        (try simp only [Act.put, List.setIfInBounds_toArray, List.set_cons_zero, List.set_cons_succ])
        refine' wpAnyH_take (i := 4) (v := _) ?_ ?_ ?_ ?_ ?_ ?_ ?_ ?_
        rotate_left 2
        focus (simp only [List.getElem?_toArray, List.getElem?_cons_succ, List.getElem?_cons_zero]; rfl)
        focus kernel_rfl
        focus kernel_rfl
        focus kernel_rfl
        focus exact (fun _ _ _ h => h)
        refine Or.inl ⟨?_, ?_⟩
        focus (go_simp; done)
        focus (intro w hSw; obtain ⟨_, a0, a1⟩ := hSw; (first | (go_simp; done) | (go_simp; with_reducible rfl)))
        focus assumption
        (try simp only [Act.put, List.setIfInBounds_toArray, List.set_cons_zero, List.set_cons_succ])
        refine' wpAnyH_take (i := 5) (v := _) ?_ ?_ ?_ ?_ ?_ ?_ ?_ ?_
        rotate_left 2
        focus (simp only [List.getElem?_toArray, List.getElem?_cons_succ, List.getElem?_cons_zero]; rfl)
        focus kernel_rfl
        focus kernel_rfl
        focus kernel_rfl
        focus exact (fun _ _ _ h => h)
        refine Or.inl ⟨?_, ?_⟩
        focus (go_simp; done)
        focus (intro w hSw; obtain ⟨_, a0, a1⟩ := hSw; (first | (go_simp; done) | (go_simp; with_reducible rfl)))
        focus assumption
        (try simp only [Act.put, List.setIfInBounds_toArray, List.set_cons_zero, List.set_cons_succ])
        refine wpAnyH_ready (rs := [6]) (by kernel_rfl) (by simp) ?_
        refine' AllReadyH.cons ?_ (fun K hK => ?_) AllReadyH.nil
        rotate_left
        focus (simp only [List.getElem?_toArray, List.getElem?_cons_succ, List.getElem?_cons_zero]; rfl)
        go_simp
        (go_at_call 48; (with_reducible refine (isWordD_any lo _ h1 _).mono ?_); rintro e u6 ⟨rfl, hb⟩)
        have hS := B1.below hHeld hb
        clear hb hHeld
        refine hK.out _ _ hS (fun hHeld => ?_)
        clear hK K hS
        (try simp only [Act.put, List.setIfInBounds_toArray, List.set_cons_zero, List.set_cons_succ])
        refine' wpAnyH_take (i := 7) (v := _) ?_ ?_ ?_ ?_ ?_ ?_ ?_ ?_
        rotate_left 2
        focus (simp only [List.getElem?_toArray, List.getElem?_cons_succ, List.getElem?_cons_zero]; rfl)
        focus kernel_rfl
        focus kernel_rfl
        focus kernel_rfl
        focus exact (fun _ _ _ h => h)
        refine Or.inl ⟨?_, ?_⟩
        focus (go_simp; done)
        focus (intro w hSw; obtain ⟨_, a0, a1⟩ := hSw; (first | (go_simp; done) | (go_simp; with_reducible rfl)))
        focus assumption
        (try simp only [Act.put, List.setIfInBounds_toArray, List.set_cons_zero, List.set_cons_succ])
        refine' wpAnyH_take (i := 8) (v := _) ?_ ?_ ?_ ?_ ?_ ?_ ?_ ?_
        rotate_left 2
        focus (simp only [List.getElem?_toArray, List.getElem?_cons_succ, List.getElem?_cons_zero]; rfl)
        focus kernel_rfl
        focus kernel_rfl
        focus kernel_rfl
        focus exact (fun _ _ _ h => h)
        refine Or.inl ⟨?_, ?_⟩
        focus (go_simp; done)
        focus (intro w hSw; obtain ⟨_, a0, a1⟩ := hSw; (first | (go_simp; done) | (go_simp; with_reducible rfl)))
        focus assumption
        (try simp only [Act.put, List.setIfInBounds_toArray, List.set_cons_zero, List.set_cons_succ])
        refine' wpAnyH_take (i := 9) (v := _) ?_ ?_ ?_ ?_ ?_ ?_ ?_ ?_
        rotate_left 2
        focus (simp only [List.getElem?_toArray, List.getElem?_cons_succ, List.getElem?_cons_zero]; rfl)
        focus kernel_rfl
        focus kernel_rfl
        focus kernel_rfl
        focus exact (fun _ _ _ h => h)
        refine Or.inl ⟨?_, ?_⟩
        focus (go_simp; done)
        focus (intro w hSw; obtain ⟨_, a0, a1⟩ := hSw; (first | (go_simp; done) | (go_simp; with_reducible rfl)))
        focus assumption
        (try simp only [Act.put, List.setIfInBounds_toArray, List.set_cons_zero, List.set_cons_succ])
        refine wpAnyH_ready (rs := [10]) (by kernel_rfl) (by simp) ?_
        refine' AllReadyH.cons ?_ (fun K hK => ?_) AllReadyH.nil
        rotate_left
        focus (simp only [List.getElem?_toArray, List.getElem?_cons_succ, List.getElem?_cons_zero]; rfl)
        go_simp
        (go_at_call 48; (with_reducible refine (isWordD_any hi _ h2 _).mono ?_); rintro e u10 ⟨rfl, hb⟩)
        have hS := B1.below hHeld hb
        clear hb hHeld
        refine hK.out _ _ hS (fun hHeld => ?_)
        clear hK K hS
        (try simp only [Act.put, List.setIfInBounds_toArray, List.set_cons_zero, List.set_cons_succ])
        refine' wpAnyH_take (i := 11) (v := _) ?_ ?_ ?_ ?_ ?_ ?_ ?_ ?_
        rotate_left 2
        focus (simp only [List.getElem?_toArray, List.getElem?_cons_succ, List.getElem?_cons_zero]; rfl)
        focus kernel_rfl
        focus kernel_rfl
        focus kernel_rfl
        focus exact (fun _ _ _ h => h)
        refine Or.inl ⟨?_, ?_⟩
        focus (go_simp; done)
        focus (intro w hSw; obtain ⟨_, a0, a1⟩ := hSw; (first | (go_simp; done) | (go_simp; with_reducible rfl)))
        focus assumption
        (try simp only [Act.put, List.setIfInBounds_toArray, List.set_cons_zero, List.set_cons_succ])
        refine' wpAnyH_take (i := 12) (v := _) ?_ ?_ ?_ ?_ ?_ ?_ ?_ ?_
        rotate_left 2
        focus (simp only [List.getElem?_toArray, List.getElem?_cons_succ, List.getElem?_cons_zero]; rfl)
        focus kernel_rfl
        focus kernel_rfl
        focus kernel_rfl
        focus exact (fun _ _ _ h => h)
        refine Or.inl ⟨?_, ?_⟩
        focus (go_simp; done)
        focus (intro w hSw; obtain ⟨_, a0, a1⟩ := hSw; (first | (go_simp; done) | (go_simp; with_reducible rfl)))
        focus assumption
        (try simp only [Act.put, List.setIfInBounds_toArray, List.set_cons_zero, List.set_cons_succ])
        refine' wpAnyH_take (i := 13) (v := _) ?_ ?_ ?_ ?_ ?_ ?_ ?_ ?_
        rotate_left 2
        focus (simp only [List.getElem?_toArray, List.getElem?_cons_succ, List.getElem?_cons_zero]; rfl)
        focus kernel_rfl
        focus kernel_rfl
        focus kernel_rfl
        focus exact (fun _ _ _ h => h)
        refine Or.inl ⟨?_, ?_⟩
        focus (go_simp; done)
        focus (intro w hSw; obtain ⟨_, a0, a1⟩ := hSw; (first | (go_simp; done) | (go_simp; with_reducible rfl)))
        focus assumption
        (try simp only [Act.put, List.setIfInBounds_toArray, List.set_cons_zero, List.set_cons_succ])
        refine' wpAnyH_take (i := 14) (v := _) ?_ ?_ ?_ ?_ ?_ ?_ ?_ ?_
        rotate_left 2
        focus (simp only [List.getElem?_toArray, List.getElem?_cons_succ, List.getElem?_cons_zero]; rfl)
        focus kernel_rfl
        focus kernel_rfl
        focus kernel_rfl
        focus exact (fun _ _ _ h => h)
        refine Or.inl ⟨?_, ?_⟩
        focus (go_simp; done)
        focus (intro w hSw; obtain ⟨_, a0, a1⟩ := hSw; (first | (go_simp; done) | (go_simp; with_reducible rfl)))
        focus assumption
        (try simp only [Act.put, List.setIfInBounds_toArray, List.set_cons_zero, List.set_cons_succ])
        refine' wpAnyH_take (i := 15) (v := _) ?_ ?_ ?_ ?_ ?_ ?_ ?_ ?_
        rotate_left 2
        focus (simp only [List.getElem?_toArray, List.getElem?_cons_succ, List.getElem?_cons_zero]; rfl)
        focus kernel_rfl
        focus kernel_rfl
        focus kernel_rfl
        focus exact (fun _ _ _ h => h)
        refine Or.inl ⟨?_, ?_⟩
        focus (go_simp; done)
        focus (intro w hSw; obtain ⟨_, a0, a1⟩ := hSw; (first | (go_simp; done) | (go_simp; with_reducible rfl)))
        focus assumption
        (try simp only [Act.put, List.setIfInBounds_toArray, List.set_cons_zero, List.set_cons_succ])
        refine' wpAnyH_take (i := 16) (v := _) ?_ ?_ ?_ ?_ ?_ ?_ ?_ ?_
        rotate_left 2
        focus (simp only [List.getElem?_toArray, List.getElem?_cons_succ, List.getElem?_cons_zero]; rfl)
        focus kernel_rfl
        focus kernel_rfl
        focus kernel_rfl
        focus exact (fun _ _ _ h => h)
        refine Or.inl ⟨?_, ?_⟩
        focus (go_simp; done)
        focus (intro w hSw; obtain ⟨_, a0, a1⟩ := hSw; (first | (go_simp; done) | (go_simp; with_reducible rfl)))
        focus assumption
        (try simp only [Act.put, List.setIfInBounds_toArray, List.set_cons_zero, List.set_cons_succ])
        refine' wpAnyH_take (i := 17) (v := _) ?_ ?_ ?_ ?_ ?_ ?_ ?_ ?_
        rotate_left 2
        focus (simp only [List.getElem?_toArray, List.getElem?_cons_succ, List.getElem?_cons_zero]; rfl)
        focus kernel_rfl
        focus kernel_rfl
        focus kernel_rfl
        focus exact (fun _ _ _ h => h)
        refine Or.inl ⟨?_, ?_⟩
        focus (go_simp; done)
        focus (intro w hSw; obtain ⟨_, a0, a1⟩ := hSw; (first | (go_simp; done) | (go_simp; with_reducible rfl)))
        focus assumption
        (try simp only [Act.put, List.setIfInBounds_toArray, List.set_cons_zero, List.set_cons_succ])
        refine' wpAnyH_take (i := 18) (v := _) ?_ ?_ ?_ ?_ ?_ ?_ ?_ ?_
        rotate_left 2
        focus (simp only [List.getElem?_toArray, List.getElem?_cons_succ, List.getElem?_cons_zero]; rfl)
        focus kernel_rfl
        focus kernel_rfl
        focus kernel_rfl
        focus exact (fun _ _ _ h => h)
        refine Or.inl ⟨?_, ?_⟩
        focus (go_simp; done)
        focus (intro w hSw; obtain ⟨_, a0, a1⟩ := hSw; (first | (go_simp; done) | (go_simp; with_reducible rfl)))
        focus assumption
        (try simp only [Act.put, List.setIfInBounds_toArray, List.set_cons_zero, List.set_cons_succ])
        refine' wpAnyH_take (i := 19) (v := _) ?_ ?_ ?_ ?_ ?_ ?_ ?_ ?_
        rotate_left 2
        focus (simp only [List.getElem?_toArray, List.getElem?_cons_succ, List.getElem?_cons_zero]; rfl)
        focus kernel_rfl
        focus kernel_rfl
        focus kernel_rfl
        focus exact (fun _ _ _ h => h)
        refine Or.inl ⟨?_, ?_⟩
        focus (go_simp; done)
        focus (intro w hSw; obtain ⟨_, a0, a1⟩ := hSw; (first | (go_simp; done) | (go_simp; with_reducible rfl)))
        focus assumption
        (try simp only [Act.put, List.setIfInBounds_toArray, List.set_cons_zero, List.set_cons_succ])
        refine' wpAnyH_take (i := 20) (v := _) ?_ ?_ ?_ ?_ ?_ ?_ ?_ ?_
        rotate_left 2
        focus (simp only [List.getElem?_toArray, List.getElem?_cons_succ, List.getElem?_cons_zero]; rfl)
        focus kernel_rfl
        focus kernel_rfl
        focus kernel_rfl
        focus exact (fun _ _ _ h => h)
        refine Or.inl ⟨?_, ?_⟩
        focus (go_simp; done)
        focus (intro w hSw; obtain ⟨_, a0, a1⟩ := hSw; (first | (go_simp; done) | (go_simp; with_reducible rfl)))
        focus assumption
        (try simp only [Act.put, List.setIfInBounds_toArray, List.set_cons_zero, List.set_cons_succ])
        refine wpAnyH_done (by kernel_rfl) ?_ _
        go_wp2
        go_ret
        refine ⟨ret_bool ?_, hHeld.1.1⟩
        rw [← hF.out, ok_code _ _ h0'.out]
        simp [h1, h2]
theorem taken_any (lo hi : Int) (r : Iv) (h : Iv.form ⟨lo, hi⟩ = r) (w : World) : Calls Try.prog 33 #[.agg #[.int .i64 lo, .int .i64 hi]] w fun e w' => e = .returned (.agg #[.int .i64 r.lo, .int .i64 r.hi]) ∧ Below w.heap.size w w' := by
  have hA := ((Ahead.refl w).alloc (.cells #[.int .i64 lo, .int .i64 hi] 23)).alloc (.cells #[.int .i64 0, .int .i64 0] 23)
  cases hk : Iv.ok ⟨lo, hi⟩
  · have hr : r = Iv.all := by rw [← h]; unfold Iv.form; rw [if_neg (by simp [hk])]
    subst hr
    have hK := Lib.hid hk
    clear hk h
    go_enter Try.func33, Try.ntmps33
    go_wp2_with fail
    refine (iValid_any lo hi false hK.out _).mono ?_
    rintro e w1 ⟨rfl, hb⟩
    have hA1 := hA.below hb; obtain ⟨hc1, hf1⟩ := bcell hb; (try simp only [size_alloc] at hc1 hf1); clear hb; have hz10 : w.heap.size < w1.heap.size := (by have := hA1.2; omega); have hz11 : w.heap.size + 1 < w1.heap.size := (by have := hA1.2; omega)
    go_wp2_with fail
    refine (iAll_any _).mono ?_
    rintro e w2 ⟨rfl, hb⟩
    have hA2 := hA1.below hb; obtain ⟨hc2, hf2⟩ := bcell hb; (try simp only [size_alloc] at hc2 hf2); clear hb; have hz20 : w.heap.size < w2.heap.size := (by have := hA2.2; omega); have hz21 : w.heap.size + 1 < w2.heap.size := (by have := hA2.2; omega)
    go_wp2
    refine bodyPost_ret (v := .agg #[.int .i64 (Iv.all).lo, .int .i64 (Iv.all).hi]) ?_ rfl ⟨rfl, ((hA2.set (by omega) _).set (by omega) _).1⟩
    simp [results, Try.results33, go_sem, hc1, hc2, hz10, hz11, hz20, hz21, Iv.all]
  · have hr : r = ⟨lo, hi⟩ := by rw [← h]; unfold Iv.form; rw [if_pos hk]
    subst hr
    have hK := Lib.hid hk
    clear hk h
    go_enter Try.func33, Try.ntmps33
    go_wp2_with fail
    refine (iValid_any lo hi true hK.out _).mono ?_
    rintro e w1 ⟨rfl, hb⟩
    have hA1 := hA.below hb; obtain ⟨hc1, hf1⟩ := bcell hb; (try simp only [size_alloc] at hc1 hf1); clear hb; have hz10 : w.heap.size < w1.heap.size := (by have := hA1.2; omega); have hz11 : w.heap.size + 1 < w1.heap.size := (by have := hA1.2; omega)
    go_wp2
    refine bodyPost_ret (v := .agg #[.int .i64 lo, .int .i64 hi]) ?_ rfl ⟨rfl, ((hA1.set (by omega) _).set (by omega) _).1⟩
    simp [results, Try.results33, go_sem, hc1, hz10, hz11]
theorem span_any (p q : Int) (r : Iv) (h : Iv.mk' p q = r) (w : World) : Calls Try.prog 51 #[.int .i64 p, .int .i64 q] w fun e w' => e = .returned (.agg #[.int .i64 (r).lo, .int .i64 (r).hi]) ∧ Below w.heap.size w w' := by
  have hA := (Ahead.refl w).alloc (.cells #[.int .i64 0, .int .i64 0] 23)
  by_cases hq : q < p
  · obtain rfl : Iv.non = r := by rw [← h]; unfold Iv.mk'; rw [if_pos hq]
    clear h
    go_enter Try.func51, Try.ntmps51
    go_wp2_with fail
    refine (iNone_any _).mono ?_
    rintro e w1 ⟨rfl, hb⟩
    have hA1 := hA.below hb; obtain ⟨hc1, hf1⟩ := bcell hb; (try simp only [size_alloc] at hc1 hf1); clear hb; have hz10 : w.heap.size < w1.heap.size := (by have := hA1.2; omega)
    go_wp2
    refine bodyPost_ret (v := .agg #[.int .i64 (Iv.non).lo, .int .i64 (Iv.non).hi]) ?_ rfl ⟨rfl, ((hA1.set (by omega) _).set (by omega) _).1⟩
    simp [results, Try.results51, go_sem, hc1, hz10, Iv.non]
  · obtain rfl : (⟨p, q⟩ : Iv) = r := by rw [← h]; unfold Iv.mk'; rw [if_neg hq]
    clear h
    go_enter Try.func51, Try.ntmps51
    go_wp2
    refine bodyPost_ret (v := .agg #[.int .i64 p, .int .i64 q]) ?_ rfl ⟨rfl, ?_⟩
    · simp [results, Try.results51, go_sem]
    · exact ((Ahead.refl w).alloc _).1
theorem one_any (n : Int) (w : World) : Calls Try.prog 64 #[.int .i64 n] w fun e w' => e = .returned (.agg #[.int .i64 n, .int .i64 n]) ∧ Below w.heap.size w w' := by
  go_enter Try.func64, Try.ntmps64
  go_wp2
  refine bodyPost_ret (v := .agg #[.int .i64 n, .int .i64 n]) (by simp [results, Try.results64, go_sem]) rfl ⟨rfl, ?_⟩
  exact ((Ahead.refl w).alloc _).1
theorem places_any (lo hi : Int) (b : Bool) (h : (decide (0 ≤ lo) && decide (hi ≤ 31)) = b) (w : World) : Calls Try.prog 61 #[.agg #[.int .i64 lo, .int .i64 hi]] w fun e w' => e = .returned (.bool b) ∧ Below w.heap.size w w' := by
  have hA := (Ahead.refl w).alloc (.cells #[.int .i64 lo, .int .i64 hi] 23)
  have HF := Lib.hid h
  clear h
  cases h1 : decide (0 ≤ lo)
  all_goals
    go_enter Try.func61, Try.ntmps61
    go_wp2
    go_ret
    exact ⟨ret_bool (by rw [← HF.out]; simp [h1]), hA.1⟩
theorem iHas_any (p q n : Int) (t : Bool) (ht : Iv.has ⟨p, q⟩ n = t) (w : World) : Calls Try.prog 19 #[.agg #[.int .i64 p, .int .i64 q], .int .i64 n] w fun e w' => e = .returned (.bool t) ∧ Below w.heap.size w w' := by
  have hA := (Ahead.refl w).alloc (.cells #[.int .i64 p, .int .i64 q] 23)
  obtain ⟨a, ha⟩ : ∃ a, Iv.form ⟨p, q⟩ = a := ⟨_, rfl⟩
  have hj : (decide (a.lo ≤ n) && decide (n ≤ a.hi)) = t := by
    rw [← ht, ← ha]
    unfold Iv.has
    by_cases h : Iv.form ⟨p, q⟩ = Iv.non
    · rw [h]; show (decide ((1 : Int) ≤ n) && decide (n ≤ 0)) = (decide (Iv.non ≠ Iv.non) && decide ((1 : Int) ≤ n) && decide (n ≤ 0)); simp; omega
    · simp [h]
  have HA := Lib.hid ha
  have HJ := Lib.hid hj
  clear ha hj ht
  cases h1 : decide (a.lo ≤ n)
  all_goals
    go_enter Try.func19, Try.ntmps19
    go_wp2_with fail
    refine (taken_any p q a HA.out _).mono ?_
    rintro e w1 ⟨rfl, hb⟩
    have hA1 := hA.below hb; obtain ⟨hc1, hf1⟩ := bcell hb; (try simp only [size_alloc] at hc1 hf1); clear hb; have hz10 : w.heap.size < w1.heap.size := (by have := hA1.2; omega)
    go_wp2
    go_ret
    exact ⟨ret_bool (by rw [← HJ.out]; simp [h1]), ((hA1.set (by omega) _).set (by omega) _).1⟩
end Go.Proofs.Ytdajgopgaklipaa
