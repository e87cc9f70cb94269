/- The specification of layer 11: in, Check. No condition. -/
import Derived.Test.YtpinncjnfbebkaaPlRow
import Derived.Test.YtpinncjnfbebkaaFaMath
import Derived.LoopTactic
import Derived.Deep.RegionWith
import Derived.Deep.DeepCutAuto
import Derived.Deep.CutBlock
namespace Go.Proofs.Ytpinncjnfbebkaa
open Go.RowKit
set_option linter.unusedVariables false
set_option linter.unusedSimpArgs false
attribute [local go_sem] y_undef
theorem rin_any (n : Int) (b : Bool) (h : Fa.inC n = b) (w : World) : Calls Try.prog 45 #[.int .i64 n] w fun e w' => e = .returned (.bool b) ∧ w = w' := by
  cases h1 : decide (-1048576 ≤ n)
  all_goals
    go_enter Try.func45, Try.ntmps45
    go_wp2
    go_ret
    exact ⟨ret_bool (by rw [← h]; unfold Fa.inC; simp [h1]), rfl⟩
theorem rinB_any (n : Int) (b : Bool) (h : Fa.inC n = b) (w : World) : Calls Try.prog 45 #[.int .i64 n] w fun e w' => e = .returned (.bool b) ∧ Below w.heap.size w w' :=
  (rin_any n b h w).mono fun e w' ⟨he, hw⟩ => ⟨he, hw ▸ Below.refl _ _⟩
/-- A fact's box. -/
def Bf (w : World) (v : Value) (most : Int) (u : World) : Prop := Ahead 1 w u ∧ u.cell? ⟨w.heap.size, 0, none⟩ = some v ∧ u.cell? ⟨w.heap.size, 1, none⟩ = some (.int .i64 most)
theorem Bf.below {w u u' : World} {v : Value} {most : Int} (h : Bf w v most u) (hb : Below u.heap.size u u') : Bf w v most u' := ⟨h.1.below hb, h.1.cell0 hb h.2.1 (by omega), h.1.cell0 hb h.2.2 (by omega)⟩
theorem Bf.drew {w u : World} {v : Value} {most : Int} (h : Bf w v most u) : Bf w v most u.drew := h.below (below_drewN _ u 1)
theorem bf_new (w : World) (v : Value) (most : Int) : Bf w v most (w.alloc (.cells #[v, .int .i64 most] 30)) := ⟨(Ahead.refl w).alloc _, by simp, by simp⟩
set_option maxHeartbeats 8000000 in
theorem rcheck_any (l : Fa.Tms) (most : Int) (v : Value) (r : Int) (w : World) (hv : PrsIn w v l) (hm : l.length ≤ maxLen) (hr : Fa.chk l most = r) :
    Calls Try.prog 26 #[.agg #[v, .int .i64 most]] w fun e w' => e = .returned (.int .i64 r) ∧ Below w.heap.size w w' := by
  have hA := (Ahead.refl w).alloc (.cells #[v, .int .i64 most] 30)
  obtain ⟨A, c, rfl, ho⟩ := hv.opened
  unfold maxLen at hm
  obtain ⟨n, hn⟩ : ∃ n, l.length = n := ⟨_, rfl⟩
  rw [hn] at hm ho
  have HN := Lib.hid hn
  have HO := Lib.hid ho
  clear hv ho
  by_cases h1 : 64 < n
  · have h1' : (64 : Int) < n := by omega
    have HR := Lib.hid (show (4 : Int) = r by rw [← hr, Fa.chk_limit (by omega)])
    clear hr hn
    rw [HN.out] at hA ⊢
    go_enter Try.func26, Try.ntmps26
    go_wp2
    go_ret
    exact ⟨by rw [← HR.out]; rfl, hA.1⟩
  · have h1' : ¬ (64 : Int) < n := by omega
    cases h2 : Fa.inC most
    · have HR := Lib.hid (show (10 : Int) = r by rw [← hr, Fa.chk_most (by omega) h2])
      have H2 := Lib.hid h2
      clear hr hn h2
      rw [HN.out] at hA ⊢
      go_enter Try.func26, Try.ntmps26
      go_wp2_with (go_at_call 45; refine (rin_any most false H2.out _).mono ?_; rintro e w' ⟨rfl, rfl⟩)
      go_ret
      exact ⟨by rw [← HR.out]; rfl, hA.1⟩
    · have HR := Lib.hid hr
      have H2 := Lib.hid h2
      clear hr hn h2
      rw [HN.out] at hA ⊢
      have HB := Lib.hid (bf_new w (.slice A n c) most)
      clear hA
      go_enter Try.func26, Try.ntmps26
      go_wp2_with (go_at_call 45; refine (rin_any most true H2.out _).mono ?_; rintro e w' ⟨rfl, rfl⟩)
      go_loopw [3] (fun i wr => ∃ k : Nat, k ≤ n ∧ i = .int .i64 k ∧ Hid ((∀ j, j < k → Fa.bad l j = false) ∧ Bf w (.slice A n c) most wr)) (fun i _ => n - (intOf i).toNat)
      case atStart => exact ⟨0, Nat.zero_le _, rfl, Lib.hid ⟨fun j hj => by omega, HB.out⟩⟩
      case round =>
        obtain ⟨k, hk, rfl, HK⟩ := hrel
        obtain ⟨hbx, f0, f1⟩ := HK.out.2
        by_cases hlt : k < n
        · have hlt' : (k : Int) < n := by omega
          obtain ⟨b, off, rfl, hbb, hx, hy⟩ := HO.out k hlt
          replace hx := (hbx.1.cell (p := ⟨b, off + k * 2, none⟩) hbb).trans hx
          replace hy := (hbx.1.cell (p := ⟨b, off + k * 2 + 1, none⟩) hbb).trans hy
          have hz : ∀ m, k = m + 1 → wr.cell? ⟨b, off + m * 2, none⟩ = some (.int .i64 (l.getD m (0, 0)).1) := fun m hm => by
            obtain ⟨b', off', e, _, h, _⟩ := HO.out m (by omega)
            injection e with e
            injection e with e1 e2
            subst e1 e2
            exact (hbx.1.cell (p := ⟨b, off + m * 2, none⟩) hbb).trans h
          have hbad : Fa.bad l k = (decide ((l.getD k (0, 0)).1 < 0) || decide (255 < (l.getD k (0, 0)).1) || decide ((l.getD k (0, 0)).2 = 0) || !Fa.inC (l.getD k (0, 0)).2 || (decide (0 < k) && decide ((l.getD k (0, 0)).1 ≤ (l.getD (k - 1) (0, 0)).1))) := rfl
          generalize (l.getD k (0, 0)).1 = x at *
          generalize (l.getD k (0, 0)).2 = y at *
          go_upto_region 9 with fail
          have hb1 := (Below.refl wr.heap.size wr).alloc (Nat.le_refl _) (.cells #[.int .i64 x, .int .i64 y] 36)
          have hbw : b < wr.heap.size := Nat.lt_of_lt_of_le hbb hbx.1.size
          by_cases c1 : x < 0
          · skip
            have HBad := Lib.hid (show (10 : Int) = r by rw [← HR.out, Fa.chk_bad (by have := HN.out; omega) (by have := HN.out; omega) (hbad.trans (by simp [c1]))])
            clear hbad
            refine wp_region_held_drew (S := (fun u => (u.cell? ⟨wr.heap.size, 0, none⟩ = some (.int .i64 x) ∧ u.cell? ⟨wr.heap.size, 1, none⟩ = some (.int .i64 y)) ∧ Bf w (.slice (some ⟨b, off, none⟩) n c) most u)) (by kernel_rfl) (by exact ⟨⟨by simp, by simp⟩, (HK.out.2.below hb1).drew⟩) (fun hHeld => ?_)
            refine' wpAnyH_take (i := 0) (v := _) ?_ ?_ ?_ ?_ ?_ ?_ ?_ ?_
            rotate_left 2
            focus (simp only [List.getElem?_toArray, List.getElem?_cons_succ, List.getElem?_cons_zero]; rfl)
            focus kernel_rfl
            focus kernel_rfl
            focus kernel_rfl
            focus exact (fun _ _ _ h => h)
            refine Or.inl ⟨?_, ?_⟩
            focus (go_simp; done)
            focus (intro w hSw; obtain ⟨⟨x0, y0⟩, ⟨_, f0, f1⟩⟩ := hSw; (first | (go_simp; done) | (go_simp; with_reducible rfl)))
            focus assumption
            (try simp only [Act.put, List.setIfInBounds_toArray, List.set_cons_zero, List.set_cons_succ])
            refine' wpAnyH_take (i := 1) (v := _) ?_ ?_ ?_ ?_ ?_ ?_ ?_ ?_
            rotate_left 2
            focus (simp only [List.getElem?_toArray, List.getElem?_cons_succ, List.getElem?_cons_zero]; rfl)
            focus kernel_rfl
            focus kernel_rfl
            focus kernel_rfl
            focus exact (fun _ _ _ h => h)
            refine Or.inl ⟨?_, ?_⟩
            focus (go_simp; done)
            focus (intro w hSw; obtain ⟨⟨x0, y0⟩, ⟨_, f0, f1⟩⟩ := hSw; (first | (go_simp; done) | (go_simp; with_reducible rfl)))
            focus assumption
            (try simp only [Act.put, List.setIfInBounds_toArray, List.set_cons_zero, List.set_cons_succ])
            refine' wpAnyH_take (i := 2) (v := _) ?_ ?_ ?_ ?_ ?_ ?_ ?_ ?_
            rotate_left 2
            focus (simp only [List.getElem?_toArray, List.getElem?_cons_succ, List.getElem?_cons_zero]; rfl)
            focus kernel_rfl
            focus kernel_rfl
            focus kernel_rfl
            focus exact (fun _ _ _ h => h)
            refine Or.inl ⟨?_, ?_⟩
            focus (go_simp; done)
            focus (intro w hSw; obtain ⟨⟨x0, y0⟩, ⟨_, f0, f1⟩⟩ := hSw; (first | (go_simp; done) | (go_simp; with_reducible rfl)))
            focus assumption
            (try simp only [Act.put, List.setIfInBounds_toArray, List.set_cons_zero, List.set_cons_succ])
            refine' wpAnyH_take (i := 3) (v := _) ?_ ?_ ?_ ?_ ?_ ?_ ?_ ?_
            rotate_left 2
            focus (simp only [List.getElem?_toArray, List.getElem?_cons_succ, List.getElem?_cons_zero]; rfl)
            focus kernel_rfl
            focus kernel_rfl
            focus kernel_rfl
            focus exact (fun _ _ _ h => h)
            refine Or.inl ⟨?_, ?_⟩
            focus (go_simp; done)
            focus (intro w hSw; obtain ⟨⟨x0, y0⟩, ⟨_, f0, f1⟩⟩ := hSw; (first | (go_simp; done) | (go_simp; with_reducible rfl)))
            focus assumption
            (try simp only [Act.put, List.setIfInBounds_toArray, List.set_cons_zero, List.set_cons_succ])
            refine' wpAnyH_take (i := 4) (v := undef) ?_ ?_ ?_ ?_ ?_ ?_ ?_ ?_
            rotate_left 1
            focus (simp only [List.getElem?_toArray, List.getElem?_cons_succ, List.getElem?_cons_zero]; rfl)
            focus kernel_rfl
            focus kernel_rfl
            focus kernel_rfl
            focus exact (fun _ _ _ h => h)
            refine Or.inr ⟨?_, rfl⟩
            focus (go_simp; done)
            focus assumption
            (try simp only [Act.put, List.setIfInBounds_toArray, List.set_cons_zero, List.set_cons_succ])
            refine' wpAnyH_take (i := 5) (v := undef) ?_ ?_ ?_ ?_ ?_ ?_ ?_ ?_
            rotate_left 1
            focus (simp only [List.getElem?_toArray, List.getElem?_cons_succ, List.getElem?_cons_zero]; rfl)
            focus kernel_rfl
            focus kernel_rfl
            focus kernel_rfl
            focus exact (fun _ _ _ h => h)
            refine Or.inr ⟨?_, rfl⟩
            focus (go_simp; done)
            focus assumption
            (try simp only [Act.put, List.setIfInBounds_toArray, List.set_cons_zero, List.set_cons_succ])
            refine' wpAnyH_take (i := 6) (v := undef) ?_ ?_ ?_ ?_ ?_ ?_ ?_ ?_
            rotate_left 1
            focus (simp only [List.getElem?_toArray, List.getElem?_cons_succ, List.getElem?_cons_zero]; rfl)
            focus kernel_rfl
            focus kernel_rfl
            focus kernel_rfl
            focus exact (fun _ _ _ h => h)
            refine Or.inr ⟨?_, rfl⟩
            focus (go_simp; done)
            focus assumption
            (try simp only [Act.put, List.setIfInBounds_toArray, List.set_cons_zero, List.set_cons_succ])
            refine' wpAnyH_take (i := 7) (v := _) ?_ ?_ ?_ ?_ ?_ ?_ ?_ ?_
            rotate_left 2
            focus (simp only [List.getElem?_toArray, List.getElem?_cons_succ, List.getElem?_cons_zero]; rfl)
            focus kernel_rfl
            focus kernel_rfl
            focus kernel_rfl
            focus exact (fun _ _ _ h => h)
            refine Or.inl ⟨?_, ?_⟩
            focus (go_simp; done)
            focus (intro w hSw; obtain ⟨⟨x0, y0⟩, ⟨_, f0, f1⟩⟩ := hSw; (first | (go_simp; done) | (go_simp; with_reducible rfl)))
            focus assumption
            (try simp only [Act.put, List.setIfInBounds_toArray, List.set_cons_zero, List.set_cons_succ])
            refine' wpAnyH_take (i := 8) (v := _) ?_ ?_ ?_ ?_ ?_ ?_ ?_ ?_
            rotate_left 2
            focus (simp only [List.getElem?_toArray, List.getElem?_cons_succ, List.getElem?_cons_zero]; rfl)
            focus kernel_rfl
            focus kernel_rfl
            focus kernel_rfl
            focus exact (fun _ _ _ h => h)
            refine Or.inl ⟨?_, ?_⟩
            focus (go_simp; done)
            focus (intro w hSw; obtain ⟨⟨x0, y0⟩, ⟨_, f0, f1⟩⟩ := hSw; (first | (go_simp; done) | (go_simp; with_reducible rfl)))
            focus assumption
            (try simp only [Act.put, List.setIfInBounds_toArray, List.set_cons_zero, List.set_cons_succ])
            refine' wpAnyH_take (i := 9) (v := undef) ?_ ?_ ?_ ?_ ?_ ?_ ?_ ?_
            rotate_left 1
            focus (simp only [List.getElem?_toArray, List.getElem?_cons_succ, List.getElem?_cons_zero]; rfl)
            focus kernel_rfl
            focus kernel_rfl
            focus kernel_rfl
            focus exact (fun _ _ _ h => h)
            refine Or.inr ⟨?_, rfl⟩
            focus (go_simp; done)
            focus assumption
            (try simp only [Act.put, List.setIfInBounds_toArray, List.set_cons_zero, List.set_cons_succ])
            refine' wpAnyH_take (i := 10) (v := undef) ?_ ?_ ?_ ?_ ?_ ?_ ?_ ?_
            rotate_left 1
            focus (simp only [List.getElem?_toArray, List.getElem?_cons_succ, List.getElem?_cons_zero]; rfl)
            focus kernel_rfl
            focus kernel_rfl
            focus kernel_rfl
            focus exact (fun _ _ _ h => h)
            refine Or.inr ⟨?_, rfl⟩
            focus (go_simp; done)
            focus assumption
            (try simp only [Act.put, List.setIfInBounds_toArray, List.set_cons_zero, List.set_cons_succ])
            refine' wpAnyH_take (i := 11) (v := undef) ?_ ?_ ?_ ?_ ?_ ?_ ?_ ?_
            rotate_left 1
            focus (simp only [List.getElem?_toArray, List.getElem?_cons_succ, List.getElem?_cons_zero]; rfl)
            focus kernel_rfl
            focus kernel_rfl
            focus kernel_rfl
            focus exact (fun _ _ _ h => h)
            refine Or.inr ⟨?_, rfl⟩
            focus (go_simp; done)
            focus assumption
            (try simp only [Act.put, List.setIfInBounds_toArray, List.set_cons_zero, List.set_cons_succ])
            refine' wpAnyH_take (i := 12) (v := _) ?_ ?_ ?_ ?_ ?_ ?_ ?_ ?_
            rotate_left 2
            focus (simp only [List.getElem?_toArray, List.getElem?_cons_succ, List.getElem?_cons_zero]; rfl)
            focus kernel_rfl
            focus kernel_rfl
            focus kernel_rfl
            focus exact (fun _ _ _ h => h)
            refine Or.inl ⟨?_, ?_⟩
            focus (go_simp; done)
            focus (intro w hSw; obtain ⟨⟨x0, y0⟩, ⟨_, f0, f1⟩⟩ := hSw; (first | (go_simp; done) | (go_simp; with_reducible rfl)))
            focus assumption
            (try simp only [Act.put, List.setIfInBounds_toArray, List.set_cons_zero, List.set_cons_succ])
            refine' wpAnyH_take (i := 13) (v := _) ?_ ?_ ?_ ?_ ?_ ?_ ?_ ?_
            rotate_left 2
            focus (simp only [List.getElem?_toArray, List.getElem?_cons_succ, List.getElem?_cons_zero]; rfl)
            focus kernel_rfl
            focus kernel_rfl
            focus kernel_rfl
            focus exact (fun _ _ _ h => h)
            refine Or.inl ⟨?_, ?_⟩
            focus (go_simp; done)
            focus (intro w hSw; obtain ⟨⟨x0, y0⟩, ⟨_, f0, f1⟩⟩ := hSw; (first | (go_simp; done) | (go_simp; with_reducible rfl)))
            focus assumption
            (try simp only [Act.put, List.setIfInBounds_toArray, List.set_cons_zero, List.set_cons_succ])
            refine' wpAnyH_take (i := 14) (v := undef) ?_ ?_ ?_ ?_ ?_ ?_ ?_ ?_
            rotate_left 1
            focus (simp only [List.getElem?_toArray, List.getElem?_cons_succ, List.getElem?_cons_zero]; rfl)
            focus kernel_rfl
            focus kernel_rfl
            focus kernel_rfl
            focus exact (fun _ _ _ h => h)
            refine Or.inr ⟨?_, rfl⟩
            focus (go_simp; done)
            focus assumption
            (try simp only [Act.put, List.setIfInBounds_toArray, List.set_cons_zero, List.set_cons_succ])
            refine' wpAnyH_take (i := 15) (v := undef) ?_ ?_ ?_ ?_ ?_ ?_ ?_ ?_
            rotate_left 1
            focus (simp only [List.getElem?_toArray, List.getElem?_cons_succ, List.getElem?_cons_zero]; rfl)
            focus kernel_rfl
            focus kernel_rfl
            focus kernel_rfl
            focus exact (fun _ _ _ h => h)
            refine Or.inr ⟨?_, rfl⟩
            focus (go_simp; done)
            focus assumption
            (try simp only [Act.put, List.setIfInBounds_toArray, List.set_cons_zero, List.set_cons_succ])
            refine' wpAnyH_take (i := 16) (v := undef) ?_ ?_ ?_ ?_ ?_ ?_ ?_ ?_
            rotate_left 1
            focus (simp only [List.getElem?_toArray, List.getElem?_cons_succ, List.getElem?_cons_zero]; rfl)
            focus kernel_rfl
            focus kernel_rfl
            focus kernel_rfl
            focus exact (fun _ _ _ h => h)
            refine Or.inr ⟨?_, rfl⟩
            focus (go_simp; done)
            focus assumption
            (try simp only [Act.put, List.setIfInBounds_toArray, List.set_cons_zero, List.set_cons_succ])
            refine' wpAnyH_take (i := 17) (v := undef) ?_ ?_ ?_ ?_ ?_ ?_ ?_ ?_
            rotate_left 1
            focus (simp only [List.getElem?_toArray, List.getElem?_cons_succ, List.getElem?_cons_zero]; rfl)
            focus kernel_rfl
            focus kernel_rfl
            focus kernel_rfl
            focus exact (fun _ _ _ h => h)
            refine Or.inr ⟨?_, rfl⟩
            focus (go_simp; done)
            focus assumption
            (try simp only [Act.put, List.setIfInBounds_toArray, List.set_cons_zero, List.set_cons_succ])
            refine' wpAnyH_take (i := 18) (v := _) ?_ ?_ ?_ ?_ ?_ ?_ ?_ ?_
            rotate_left 2
            focus (simp only [List.getElem?_toArray, List.getElem?_cons_succ, List.getElem?_cons_zero]; rfl)
            focus kernel_rfl
            focus kernel_rfl
            focus kernel_rfl
            focus exact (fun _ _ _ h => h)
            refine Or.inl ⟨?_, ?_⟩
            focus (go_simp; done)
            focus (intro w hSw; obtain ⟨⟨x0, y0⟩, ⟨_, f0, f1⟩⟩ := hSw; (first | (go_simp; done) | (go_simp; with_reducible rfl)))
            focus assumption
            (try simp only [Act.put, List.setIfInBounds_toArray, List.set_cons_zero, List.set_cons_succ])
            refine' wpAnyH_take (i := 19) (v := _) ?_ ?_ ?_ ?_ ?_ ?_ ?_ ?_
            rotate_left 2
            focus (simp only [List.getElem?_toArray, List.getElem?_cons_succ, List.getElem?_cons_zero]; rfl)
            focus kernel_rfl
            focus kernel_rfl
            focus kernel_rfl
            focus exact (fun _ _ _ h => h)
            refine Or.inl ⟨?_, ?_⟩
            focus (go_simp; done)
            focus (intro w hSw; obtain ⟨⟨x0, y0⟩, ⟨_, f0, f1⟩⟩ := hSw; (first | (go_simp; done) | (go_simp; with_reducible rfl)))
            focus assumption
            (try simp only [Act.put, List.setIfInBounds_toArray, List.set_cons_zero, List.set_cons_succ])
            refine' wpAnyH_take (i := 20) (v := undef) ?_ ?_ ?_ ?_ ?_ ?_ ?_ ?_
            rotate_left 1
            focus (simp only [List.getElem?_toArray, List.getElem?_cons_succ, List.getElem?_cons_zero]; rfl)
            focus kernel_rfl
            focus kernel_rfl
            focus kernel_rfl
            focus exact (fun _ _ _ h => h)
            refine Or.inr ⟨?_, rfl⟩
            focus (go_simp; done)
            focus assumption
            (try simp only [Act.put, List.setIfInBounds_toArray, List.set_cons_zero, List.set_cons_succ])
            refine' wpAnyH_take (i := 21) (v := undef) ?_ ?_ ?_ ?_ ?_ ?_ ?_ ?_
            rotate_left 1
            focus (simp only [List.getElem?_toArray, List.getElem?_cons_succ, List.getElem?_cons_zero]; rfl)
            focus kernel_rfl
            focus kernel_rfl
            focus kernel_rfl
            focus exact (fun _ _ _ h => h)
            refine Or.inr ⟨?_, rfl⟩
            focus (go_simp; done)
            focus assumption
            (try simp only [Act.put, List.setIfInBounds_toArray, List.set_cons_zero, List.set_cons_succ])
            refine' wpAnyH_take (i := 22) (v := undef) ?_ ?_ ?_ ?_ ?_ ?_ ?_ ?_
            rotate_left 1
            focus (simp only [List.getElem?_toArray, List.getElem?_cons_succ, List.getElem?_cons_zero]; rfl)
            focus kernel_rfl
            focus kernel_rfl
            focus kernel_rfl
            focus exact (fun _ _ _ h => h)
            refine Or.inr ⟨?_, rfl⟩
            focus (go_simp; done)
            focus assumption
            (try simp only [Act.put, List.setIfInBounds_toArray, List.set_cons_zero, List.set_cons_succ])
            refine' wpAnyH_take (i := 23) (v := undef) ?_ ?_ ?_ ?_ ?_ ?_ ?_ ?_
            rotate_left 1
            focus (simp only [List.getElem?_toArray, List.getElem?_cons_succ, List.getElem?_cons_zero]; rfl)
            focus kernel_rfl
            focus kernel_rfl
            focus kernel_rfl
            focus exact (fun _ _ _ h => h)
            refine Or.inr ⟨?_, rfl⟩
            focus (go_simp; done)
            focus assumption
            (try simp only [Act.put, List.setIfInBounds_toArray, List.set_cons_zero, List.set_cons_succ])
            refine' wpAnyH_take (i := 24) (v := undef) ?_ ?_ ?_ ?_ ?_ ?_ ?_ ?_
            rotate_left 1
            focus (simp only [List.getElem?_toArray, List.getElem?_cons_succ, List.getElem?_cons_zero]; rfl)
            focus kernel_rfl
            focus kernel_rfl
            focus kernel_rfl
            focus exact (fun _ _ _ h => h)
            refine Or.inr ⟨?_, rfl⟩
            focus (go_simp; done)
            focus assumption
            (try simp only [Act.put, List.setIfInBounds_toArray, List.set_cons_zero, List.set_cons_succ])
            refine' wpAnyH_take (i := 25) (v := undef) ?_ ?_ ?_ ?_ ?_ ?_ ?_ ?_
            rotate_left 1
            focus (simp only [List.getElem?_toArray, List.getElem?_cons_succ, List.getElem?_cons_zero]; rfl)
            focus kernel_rfl
            focus kernel_rfl
            focus kernel_rfl
            focus exact (fun _ _ _ h => h)
            refine Or.inr ⟨?_, rfl⟩
            focus (go_simp; done)
            focus assumption
            (try simp only [Act.put, List.setIfInBounds_toArray, List.set_cons_zero, List.set_cons_succ])
            refine' wpAnyH_take (i := 26) (v := undef) ?_ ?_ ?_ ?_ ?_ ?_ ?_ ?_
            rotate_left 1
            focus (simp only [List.getElem?_toArray, List.getElem?_cons_succ, List.getElem?_cons_zero]; rfl)
            focus kernel_rfl
            focus kernel_rfl
            focus kernel_rfl
            focus exact (fun _ _ _ h => h)
            refine Or.inr ⟨?_, rfl⟩
            focus (go_simp; done)
            focus assumption
            (try simp only [Act.put, List.setIfInBounds_toArray, List.set_cons_zero, List.set_cons_succ])
            refine' wpAnyH_take (i := 27) (v := undef) ?_ ?_ ?_ ?_ ?_ ?_ ?_ ?_
            rotate_left 1
            focus (simp only [List.getElem?_toArray, List.getElem?_cons_succ, List.getElem?_cons_zero]; rfl)
            focus kernel_rfl
            focus kernel_rfl
            focus kernel_rfl
            focus exact (fun _ _ _ h => h)
            refine Or.inr ⟨?_, rfl⟩
            focus (go_simp; done)
            focus assumption
            (try simp only [Act.put, List.setIfInBounds_toArray, List.set_cons_zero, List.set_cons_succ])
            refine' wpAnyH_take (i := 28) (v := undef) ?_ ?_ ?_ ?_ ?_ ?_ ?_ ?_
            rotate_left 1
            focus (simp only [List.getElem?_toArray, List.getElem?_cons_succ, List.getElem?_cons_zero]; rfl)
            focus kernel_rfl
            focus kernel_rfl
            focus kernel_rfl
            focus exact (fun _ _ _ h => h)
            refine Or.inr ⟨?_, rfl⟩
            focus (go_simp; done)
            focus assumption
            (try simp only [Act.put, List.setIfInBounds_toArray, List.set_cons_zero, List.set_cons_succ])
            refine' wpAnyH_take (i := 29) (v := undef) ?_ ?_ ?_ ?_ ?_ ?_ ?_ ?_
            rotate_left 1
            focus (simp only [List.getElem?_toArray, List.getElem?_cons_succ, List.getElem?_cons_zero]; rfl)
            focus kernel_rfl
            focus kernel_rfl
            focus kernel_rfl
            focus exact (fun _ _ _ h => h)
            refine Or.inr ⟨?_, rfl⟩
            focus (go_simp; done)
            focus assumption
            (try simp only [Act.put, List.setIfInBounds_toArray, List.set_cons_zero, List.set_cons_succ])
            refine' wpAnyH_take (i := 30) (v := undef) ?_ ?_ ?_ ?_ ?_ ?_ ?_ ?_
            rotate_left 1
            focus (simp only [List.getElem?_toArray, List.getElem?_cons_succ, List.getElem?_cons_zero]; rfl)
            focus kernel_rfl
            focus kernel_rfl
            focus kernel_rfl
            focus exact (fun _ _ _ h => h)
            refine Or.inr ⟨?_, rfl⟩
            focus (go_simp; done)
            focus assumption
            (try simp only [Act.put, List.setIfInBounds_toArray, List.set_cons_zero, List.set_cons_succ])
            refine' wpAnyH_take (i := 31) (v := undef) ?_ ?_ ?_ ?_ ?_ ?_ ?_ ?_
            rotate_left 1
            focus (simp only [List.getElem?_toArray, List.getElem?_cons_succ, List.getElem?_cons_zero]; rfl)
            focus kernel_rfl
            focus kernel_rfl
            focus kernel_rfl
            focus exact (fun _ _ _ h => h)
            refine Or.inr ⟨?_, rfl⟩
            focus (go_simp; done)
            focus assumption
            (try simp only [Act.put, List.setIfInBounds_toArray, List.set_cons_zero, List.set_cons_succ])
            refine' wpAnyH_take (i := 32) (v := undef) ?_ ?_ ?_ ?_ ?_ ?_ ?_ ?_
            rotate_left 1
            focus (simp only [List.getElem?_toArray, List.getElem?_cons_succ, List.getElem?_cons_zero]; rfl)
            focus kernel_rfl
            focus kernel_rfl
            focus kernel_rfl
            focus exact (fun _ _ _ h => h)
            refine Or.inr ⟨?_, rfl⟩
            focus (go_simp; done)
            focus assumption
            (try simp only [Act.put, List.setIfInBounds_toArray, List.set_cons_zero, List.set_cons_succ])
            refine' wpAnyH_take (i := 33) (v := undef) ?_ ?_ ?_ ?_ ?_ ?_ ?_ ?_
            rotate_left 1
            focus (simp only [List.getElem?_toArray, List.getElem?_cons_succ, List.getElem?_cons_zero]; rfl)
            focus kernel_rfl
            focus kernel_rfl
            focus kernel_rfl
            focus exact (fun _ _ _ h => h)
            refine Or.inr ⟨?_, rfl⟩
            focus (go_simp; done)
            focus assumption
            (try simp only [Act.put, List.setIfInBounds_toArray, List.set_cons_zero, List.set_cons_succ])
            refine' wpAnyH_take (i := 34) (v := _) ?_ ?_ ?_ ?_ ?_ ?_ ?_ ?_
            rotate_left 2
            focus (simp only [List.getElem?_toArray, List.getElem?_cons_succ, List.getElem?_cons_zero]; rfl)
            focus kernel_rfl
            focus kernel_rfl
            focus kernel_rfl
            focus exact (fun _ _ _ h => h)
            refine Or.inl ⟨?_, ?_⟩
            focus (go_simp; done)
            focus (intro w hSw; obtain ⟨⟨x0, y0⟩, ⟨_, f0, f1⟩⟩ := hSw; (first | (go_simp; done) | (go_simp; with_reducible rfl)))
            focus assumption
            (try simp only [Act.put, List.setIfInBounds_toArray, List.set_cons_zero, List.set_cons_succ])
            refine wpAnyH_done (by kernel_rfl) ?_ _
            go_wp2
            go_ret
            exact ⟨by rw [← HBad.out]; rfl, hHeld.2.1.1⟩
          · by_cases c2 : 255 < x
            · skip
              have HBad := Lib.hid (show (10 : Int) = r by rw [← HR.out, Fa.chk_bad (by have := HN.out; omega) (by have := HN.out; omega) (hbad.trans (by simp [c2]))])
              clear hbad
              refine wp_region_held_drew (S := (fun u => (u.cell? ⟨wr.heap.size, 0, none⟩ = some (.int .i64 x) ∧ u.cell? ⟨wr.heap.size, 1, none⟩ = some (.int .i64 y)) ∧ Bf w (.slice (some ⟨b, off, none⟩) n c) most u)) (by kernel_rfl) (by exact ⟨⟨by simp, by simp⟩, (HK.out.2.below hb1).drew⟩) (fun hHeld => ?_)
              refine' wpAnyH_take (i := 0) (v := _) ?_ ?_ ?_ ?_ ?_ ?_ ?_ ?_
              rotate_left 2
              focus (simp only [List.getElem?_toArray, List.getElem?_cons_succ, List.getElem?_cons_zero]; rfl)
              focus kernel_rfl
              focus kernel_rfl
              focus kernel_rfl
              focus exact (fun _ _ _ h => h)
              refine Or.inl ⟨?_, ?_⟩
              focus (go_simp; done)
              focus (intro w hSw; obtain ⟨⟨x0, y0⟩, ⟨_, f0, f1⟩⟩ := hSw; (first | (go_simp; done) | (go_simp; with_reducible rfl)))
              focus assumption
              (try simp only [Act.put, List.setIfInBounds_toArray, List.set_cons_zero, List.set_cons_succ])
              refine' wpAnyH_take (i := 1) (v := _) ?_ ?_ ?_ ?_ ?_ ?_ ?_ ?_
              rotate_left 2
              focus (simp only [List.getElem?_toArray, List.getElem?_cons_succ, List.getElem?_cons_zero]; rfl)
              focus kernel_rfl
              focus kernel_rfl
              focus kernel_rfl
              focus exact (fun _ _ _ h => h)
              refine Or.inl ⟨?_, ?_⟩
              focus (go_simp; done)
              focus (intro w hSw; obtain ⟨⟨x0, y0⟩, ⟨_, f0, f1⟩⟩ := hSw; (first | (go_simp; done) | (go_simp; with_reducible rfl)))
              focus assumption
              (try simp only [Act.put, List.setIfInBounds_toArray, List.set_cons_zero, List.set_cons_succ])
              refine' wpAnyH_take (i := 2) (v := _) ?_ ?_ ?_ ?_ ?_ ?_ ?_ ?_
              rotate_left 2
              focus (simp only [List.getElem?_toArray, List.getElem?_cons_succ, List.getElem?_cons_zero]; rfl)
              focus kernel_rfl
              focus kernel_rfl
              focus kernel_rfl
              focus exact (fun _ _ _ h => h)
              refine Or.inl ⟨?_, ?_⟩
              focus (go_simp; done)
              focus (intro w hSw; obtain ⟨⟨x0, y0⟩, ⟨_, f0, f1⟩⟩ := hSw; (first | (go_simp; done) | (go_simp; with_reducible rfl)))
              focus assumption
              (try simp only [Act.put, List.setIfInBounds_toArray, List.set_cons_zero, List.set_cons_succ])
              refine' wpAnyH_take (i := 3) (v := _) ?_ ?_ ?_ ?_ ?_ ?_ ?_ ?_
              rotate_left 2
              focus (simp only [List.getElem?_toArray, List.getElem?_cons_succ, List.getElem?_cons_zero]; rfl)
              focus kernel_rfl
              focus kernel_rfl
              focus kernel_rfl
              focus exact (fun _ _ _ h => h)
              refine Or.inl ⟨?_, ?_⟩
              focus (go_simp; done)
              focus (intro w hSw; obtain ⟨⟨x0, y0⟩, ⟨_, f0, f1⟩⟩ := hSw; (first | (go_simp; done) | (go_simp; with_reducible rfl)))
              focus assumption
              (try simp only [Act.put, List.setIfInBounds_toArray, List.set_cons_zero, List.set_cons_succ])
              refine' wpAnyH_take (i := 4) (v := _) ?_ ?_ ?_ ?_ ?_ ?_ ?_ ?_
              rotate_left 2
              focus (simp only [List.getElem?_toArray, List.getElem?_cons_succ, List.getElem?_cons_zero]; rfl)
              focus kernel_rfl
              focus kernel_rfl
              focus kernel_rfl
              focus exact (fun _ _ _ h => h)
              refine Or.inl ⟨?_, ?_⟩
              focus (go_simp; done)
              focus (intro w hSw; obtain ⟨⟨x0, y0⟩, ⟨_, f0, f1⟩⟩ := hSw; (first | (go_simp; done) | (go_simp; with_reducible rfl)))
              focus assumption
              (try simp only [Act.put, List.setIfInBounds_toArray, List.set_cons_zero, List.set_cons_succ])
              refine' wpAnyH_take (i := 5) (v := _) ?_ ?_ ?_ ?_ ?_ ?_ ?_ ?_
              rotate_left 2
              focus (simp only [List.getElem?_toArray, List.getElem?_cons_succ, List.getElem?_cons_zero]; rfl)
              focus kernel_rfl
              focus kernel_rfl
              focus kernel_rfl
              focus exact (fun _ _ _ h => h)
              refine Or.inl ⟨?_, ?_⟩
              focus (go_simp; done)
              focus (intro w hSw; obtain ⟨⟨x0, y0⟩, ⟨_, f0, f1⟩⟩ := hSw; (first | (go_simp; done) | (go_simp; with_reducible rfl)))
              focus assumption
              (try simp only [Act.put, List.setIfInBounds_toArray, List.set_cons_zero, List.set_cons_succ])
              refine' wpAnyH_take (i := 6) (v := _) ?_ ?_ ?_ ?_ ?_ ?_ ?_ ?_
              rotate_left 2
              focus (simp only [List.getElem?_toArray, List.getElem?_cons_succ, List.getElem?_cons_zero]; rfl)
              focus kernel_rfl
              focus kernel_rfl
              focus kernel_rfl
              focus exact (fun _ _ _ h => h)
              refine Or.inl ⟨?_, ?_⟩
              focus (go_simp; done)
              focus (intro w hSw; obtain ⟨⟨x0, y0⟩, ⟨_, f0, f1⟩⟩ := hSw; (first | (go_simp; done) | (go_simp; with_reducible rfl)))
              focus assumption
              (try simp only [Act.put, List.setIfInBounds_toArray, List.set_cons_zero, List.set_cons_succ])
              refine' wpAnyH_take (i := 7) (v := _) ?_ ?_ ?_ ?_ ?_ ?_ ?_ ?_
              rotate_left 2
              focus (simp only [List.getElem?_toArray, List.getElem?_cons_succ, List.getElem?_cons_zero]; rfl)
              focus kernel_rfl
              focus kernel_rfl
              focus kernel_rfl
              focus exact (fun _ _ _ h => h)
              refine Or.inl ⟨?_, ?_⟩
              focus (go_simp; done)
              focus (intro w hSw; obtain ⟨⟨x0, y0⟩, ⟨_, f0, f1⟩⟩ := hSw; (first | (go_simp; done) | (go_simp; with_reducible rfl)))
              focus assumption
              (try simp only [Act.put, List.setIfInBounds_toArray, List.set_cons_zero, List.set_cons_succ])
              refine' wpAnyH_take (i := 8) (v := _) ?_ ?_ ?_ ?_ ?_ ?_ ?_ ?_
              rotate_left 2
              focus (simp only [List.getElem?_toArray, List.getElem?_cons_succ, List.getElem?_cons_zero]; rfl)
              focus kernel_rfl
              focus kernel_rfl
              focus kernel_rfl
              focus exact (fun _ _ _ h => h)
              refine Or.inl ⟨?_, ?_⟩
              focus (go_simp; done)
              focus (intro w hSw; obtain ⟨⟨x0, y0⟩, ⟨_, f0, f1⟩⟩ := hSw; (first | (go_simp; done) | (go_simp; with_reducible rfl)))
              focus assumption
              (try simp only [Act.put, List.setIfInBounds_toArray, List.set_cons_zero, List.set_cons_succ])
              refine' wpAnyH_take (i := 9) (v := undef) ?_ ?_ ?_ ?_ ?_ ?_ ?_ ?_
              rotate_left 1
              focus (simp only [List.getElem?_toArray, List.getElem?_cons_succ, List.getElem?_cons_zero]; rfl)
              focus kernel_rfl
              focus kernel_rfl
              focus kernel_rfl
              focus exact (fun _ _ _ h => h)
              refine Or.inr ⟨?_, rfl⟩
              focus (go_simp; done)
              focus assumption
              (try simp only [Act.put, List.setIfInBounds_toArray, List.set_cons_zero, List.set_cons_succ])
              refine' wpAnyH_take (i := 10) (v := undef) ?_ ?_ ?_ ?_ ?_ ?_ ?_ ?_
              rotate_left 1
              focus (simp only [List.getElem?_toArray, List.getElem?_cons_succ, List.getElem?_cons_zero]; rfl)
              focus kernel_rfl
              focus kernel_rfl
              focus kernel_rfl
              focus exact (fun _ _ _ h => h)
              refine Or.inr ⟨?_, rfl⟩
              focus (go_simp; done)
              focus assumption
              (try simp only [Act.put, List.setIfInBounds_toArray, List.set_cons_zero, List.set_cons_succ])
              refine' wpAnyH_take (i := 11) (v := undef) ?_ ?_ ?_ ?_ ?_ ?_ ?_ ?_
              rotate_left 1
              focus (simp only [List.getElem?_toArray, List.getElem?_cons_succ, List.getElem?_cons_zero]; rfl)
              focus kernel_rfl
              focus kernel_rfl
              focus kernel_rfl
              focus exact (fun _ _ _ h => h)
              refine Or.inr ⟨?_, rfl⟩
              focus (go_simp; done)
              focus assumption
              (try simp only [Act.put, List.setIfInBounds_toArray, List.set_cons_zero, List.set_cons_succ])
              refine' wpAnyH_take (i := 12) (v := _) ?_ ?_ ?_ ?_ ?_ ?_ ?_ ?_
              rotate_left 2
              focus (simp only [List.getElem?_toArray, List.getElem?_cons_succ, List.getElem?_cons_zero]; rfl)
              focus kernel_rfl
              focus kernel_rfl
              focus kernel_rfl
              focus exact (fun _ _ _ h => h)
              refine Or.inl ⟨?_, ?_⟩
              focus (go_simp; done)
              focus (intro w hSw; obtain ⟨⟨x0, y0⟩, ⟨_, f0, f1⟩⟩ := hSw; (first | (go_simp; done) | (go_simp; with_reducible rfl)))
              focus assumption
              (try simp only [Act.put, List.setIfInBounds_toArray, List.set_cons_zero, List.set_cons_succ])
              refine' wpAnyH_take (i := 13) (v := _) ?_ ?_ ?_ ?_ ?_ ?_ ?_ ?_
              rotate_left 2
              focus (simp only [List.getElem?_toArray, List.getElem?_cons_succ, List.getElem?_cons_zero]; rfl)
              focus kernel_rfl
              focus kernel_rfl
              focus kernel_rfl
              focus exact (fun _ _ _ h => h)
              refine Or.inl ⟨?_, ?_⟩
              focus (go_simp; done)
              focus (intro w hSw; obtain ⟨⟨x0, y0⟩, ⟨_, f0, f1⟩⟩ := hSw; (first | (go_simp; done) | (go_simp; with_reducible rfl)))
              focus assumption
              (try simp only [Act.put, List.setIfInBounds_toArray, List.set_cons_zero, List.set_cons_succ])
              refine' wpAnyH_take (i := 14) (v := undef) ?_ ?_ ?_ ?_ ?_ ?_ ?_ ?_
              rotate_left 1
              focus (simp only [List.getElem?_toArray, List.getElem?_cons_succ, List.getElem?_cons_zero]; rfl)
              focus kernel_rfl
              focus kernel_rfl
              focus kernel_rfl
              focus exact (fun _ _ _ h => h)
              refine Or.inr ⟨?_, rfl⟩
              focus (go_simp; done)
              focus assumption
              (try simp only [Act.put, List.setIfInBounds_toArray, List.set_cons_zero, List.set_cons_succ])
              refine' wpAnyH_take (i := 15) (v := undef) ?_ ?_ ?_ ?_ ?_ ?_ ?_ ?_
              rotate_left 1
              focus (simp only [List.getElem?_toArray, List.getElem?_cons_succ, List.getElem?_cons_zero]; rfl)
              focus kernel_rfl
              focus kernel_rfl
              focus kernel_rfl
              focus exact (fun _ _ _ h => h)
              refine Or.inr ⟨?_, rfl⟩
              focus (go_simp; done)
              focus assumption
              (try simp only [Act.put, List.setIfInBounds_toArray, List.set_cons_zero, List.set_cons_succ])
              refine' wpAnyH_take (i := 16) (v := undef) ?_ ?_ ?_ ?_ ?_ ?_ ?_ ?_
              rotate_left 1
              focus (simp only [List.getElem?_toArray, List.getElem?_cons_succ, List.getElem?_cons_zero]; rfl)
              focus kernel_rfl
              focus kernel_rfl
              focus kernel_rfl
              focus exact (fun _ _ _ h => h)
              refine Or.inr ⟨?_, rfl⟩
              focus (go_simp; done)
              focus assumption
              (try simp only [Act.put, List.setIfInBounds_toArray, List.set_cons_zero, List.set_cons_succ])
              refine' wpAnyH_take (i := 17) (v := undef) ?_ ?_ ?_ ?_ ?_ ?_ ?_ ?_
              rotate_left 1
              focus (simp only [List.getElem?_toArray, List.getElem?_cons_succ, List.getElem?_cons_zero]; rfl)
              focus kernel_rfl
              focus kernel_rfl
              focus kernel_rfl
              focus exact (fun _ _ _ h => h)
              refine Or.inr ⟨?_, rfl⟩
              focus (go_simp; done)
              focus assumption
              (try simp only [Act.put, List.setIfInBounds_toArray, List.set_cons_zero, List.set_cons_succ])
              refine' wpAnyH_take (i := 18) (v := _) ?_ ?_ ?_ ?_ ?_ ?_ ?_ ?_
              rotate_left 2
              focus (simp only [List.getElem?_toArray, List.getElem?_cons_succ, List.getElem?_cons_zero]; rfl)
              focus kernel_rfl
              focus kernel_rfl
              focus kernel_rfl
              focus exact (fun _ _ _ h => h)
              refine Or.inl ⟨?_, ?_⟩
              focus (go_simp; done)
              focus (intro w hSw; obtain ⟨⟨x0, y0⟩, ⟨_, f0, f1⟩⟩ := hSw; (first | (go_simp; done) | (go_simp; with_reducible rfl)))
              focus assumption
              (try simp only [Act.put, List.setIfInBounds_toArray, List.set_cons_zero, List.set_cons_succ])
              refine' wpAnyH_take (i := 19) (v := _) ?_ ?_ ?_ ?_ ?_ ?_ ?_ ?_
              rotate_left 2
              focus (simp only [List.getElem?_toArray, List.getElem?_cons_succ, List.getElem?_cons_zero]; rfl)
              focus kernel_rfl
              focus kernel_rfl
              focus kernel_rfl
              focus exact (fun _ _ _ h => h)
              refine Or.inl ⟨?_, ?_⟩
              focus (go_simp; done)
              focus (intro w hSw; obtain ⟨⟨x0, y0⟩, ⟨_, f0, f1⟩⟩ := hSw; (first | (go_simp; done) | (go_simp; with_reducible rfl)))
              focus assumption
              (try simp only [Act.put, List.setIfInBounds_toArray, List.set_cons_zero, List.set_cons_succ])
              refine' wpAnyH_take (i := 20) (v := undef) ?_ ?_ ?_ ?_ ?_ ?_ ?_ ?_
              rotate_left 1
              focus (simp only [List.getElem?_toArray, List.getElem?_cons_succ, List.getElem?_cons_zero]; rfl)
              focus kernel_rfl
              focus kernel_rfl
              focus kernel_rfl
              focus exact (fun _ _ _ h => h)
              refine Or.inr ⟨?_, rfl⟩
              focus (go_simp; done)
              focus assumption
              (try simp only [Act.put, List.setIfInBounds_toArray, List.set_cons_zero, List.set_cons_succ])
              refine' wpAnyH_take (i := 21) (v := undef) ?_ ?_ ?_ ?_ ?_ ?_ ?_ ?_
              rotate_left 1
              focus (simp only [List.getElem?_toArray, List.getElem?_cons_succ, List.getElem?_cons_zero]; rfl)
              focus kernel_rfl
              focus kernel_rfl
              focus kernel_rfl
              focus exact (fun _ _ _ h => h)
              refine Or.inr ⟨?_, rfl⟩
              focus (go_simp; done)
              focus assumption
              (try simp only [Act.put, List.setIfInBounds_toArray, List.set_cons_zero, List.set_cons_succ])
              refine' wpAnyH_take (i := 22) (v := undef) ?_ ?_ ?_ ?_ ?_ ?_ ?_ ?_
              rotate_left 1
              focus (simp only [List.getElem?_toArray, List.getElem?_cons_succ, List.getElem?_cons_zero]; rfl)
              focus kernel_rfl
              focus kernel_rfl
              focus kernel_rfl
              focus exact (fun _ _ _ h => h)
              refine Or.inr ⟨?_, rfl⟩
              focus (go_simp; done)
              focus assumption
              (try simp only [Act.put, List.setIfInBounds_toArray, List.set_cons_zero, List.set_cons_succ])
              refine' wpAnyH_take (i := 23) (v := undef) ?_ ?_ ?_ ?_ ?_ ?_ ?_ ?_
              rotate_left 1
              focus (simp only [List.getElem?_toArray, List.getElem?_cons_succ, List.getElem?_cons_zero]; rfl)
              focus kernel_rfl
              focus kernel_rfl
              focus kernel_rfl
              focus exact (fun _ _ _ h => h)
              refine Or.inr ⟨?_, rfl⟩
              focus (go_simp; done)
              focus assumption
              (try simp only [Act.put, List.setIfInBounds_toArray, List.set_cons_zero, List.set_cons_succ])
              refine' wpAnyH_take (i := 24) (v := undef) ?_ ?_ ?_ ?_ ?_ ?_ ?_ ?_
              rotate_left 1
              focus (simp only [List.getElem?_toArray, List.getElem?_cons_succ, List.getElem?_cons_zero]; rfl)
              focus kernel_rfl
              focus kernel_rfl
              focus kernel_rfl
              focus exact (fun _ _ _ h => h)
              refine Or.inr ⟨?_, rfl⟩
              focus (go_simp; done)
              focus assumption
              (try simp only [Act.put, List.setIfInBounds_toArray, List.set_cons_zero, List.set_cons_succ])
              refine' wpAnyH_take (i := 25) (v := undef) ?_ ?_ ?_ ?_ ?_ ?_ ?_ ?_
              rotate_left 1
              focus (simp only [List.getElem?_toArray, List.getElem?_cons_succ, List.getElem?_cons_zero]; rfl)
              focus kernel_rfl
              focus kernel_rfl
              focus kernel_rfl
              focus exact (fun _ _ _ h => h)
              refine Or.inr ⟨?_, rfl⟩
              focus (go_simp; done)
              focus assumption
              (try simp only [Act.put, List.setIfInBounds_toArray, List.set_cons_zero, List.set_cons_succ])
              refine' wpAnyH_take (i := 26) (v := undef) ?_ ?_ ?_ ?_ ?_ ?_ ?_ ?_
              rotate_left 1
              focus (simp only [List.getElem?_toArray, List.getElem?_cons_succ, List.getElem?_cons_zero]; rfl)
              focus kernel_rfl
              focus kernel_rfl
              focus kernel_rfl
              focus exact (fun _ _ _ h => h)
              refine Or.inr ⟨?_, rfl⟩
              focus (go_simp; done)
              focus assumption
              (try simp only [Act.put, List.setIfInBounds_toArray, List.set_cons_zero, List.set_cons_succ])
              refine' wpAnyH_take (i := 27) (v := undef) ?_ ?_ ?_ ?_ ?_ ?_ ?_ ?_
              rotate_left 1
              focus (simp only [List.getElem?_toArray, List.getElem?_cons_succ, List.getElem?_cons_zero]; rfl)
              focus kernel_rfl
              focus kernel_rfl
              focus kernel_rfl
              focus exact (fun _ _ _ h => h)
              refine Or.inr ⟨?_, rfl⟩
              focus (go_simp; done)
              focus assumption
              (try simp only [Act.put, List.setIfInBounds_toArray, List.set_cons_zero, List.set_cons_succ])
              refine' wpAnyH_take (i := 28) (v := undef) ?_ ?_ ?_ ?_ ?_ ?_ ?_ ?_
              rotate_left 1
              focus (simp only [List.getElem?_toArray, List.getElem?_cons_succ, List.getElem?_cons_zero]; rfl)
              focus kernel_rfl
              focus kernel_rfl
              focus kernel_rfl
              focus exact (fun _ _ _ h => h)
              refine Or.inr ⟨?_, rfl⟩
              focus (go_simp; done)
              focus assumption
              (try simp only [Act.put, List.setIfInBounds_toArray, List.set_cons_zero, List.set_cons_succ])
              refine' wpAnyH_take (i := 29) (v := undef) ?_ ?_ ?_ ?_ ?_ ?_ ?_ ?_
              rotate_left 1
              focus (simp only [List.getElem?_toArray, List.getElem?_cons_succ, List.getElem?_cons_zero]; rfl)
              focus kernel_rfl
              focus kernel_rfl
              focus kernel_rfl
              focus exact (fun _ _ _ h => h)
              refine Or.inr ⟨?_, rfl⟩
              focus (go_simp; done)
              focus assumption
              (try simp only [Act.put, List.setIfInBounds_toArray, List.set_cons_zero, List.set_cons_succ])
              refine' wpAnyH_take (i := 30) (v := undef) ?_ ?_ ?_ ?_ ?_ ?_ ?_ ?_
              rotate_left 1
              focus (simp only [List.getElem?_toArray, List.getElem?_cons_succ, List.getElem?_cons_zero]; rfl)
              focus kernel_rfl
              focus kernel_rfl
              focus kernel_rfl
              focus exact (fun _ _ _ h => h)
              refine Or.inr ⟨?_, rfl⟩
              focus (go_simp; done)
              focus assumption
              (try simp only [Act.put, List.setIfInBounds_toArray, List.set_cons_zero, List.set_cons_succ])
              refine' wpAnyH_take (i := 31) (v := undef) ?_ ?_ ?_ ?_ ?_ ?_ ?_ ?_
              rotate_left 1
              focus (simp only [List.getElem?_toArray, List.getElem?_cons_succ, List.getElem?_cons_zero]; rfl)
              focus kernel_rfl
              focus kernel_rfl
              focus kernel_rfl
              focus exact (fun _ _ _ h => h)
              refine Or.inr ⟨?_, rfl⟩
              focus (go_simp; done)
              focus assumption
              (try simp only [Act.put, List.setIfInBounds_toArray, List.set_cons_zero, List.set_cons_succ])
              refine' wpAnyH_take (i := 32) (v := undef) ?_ ?_ ?_ ?_ ?_ ?_ ?_ ?_
              rotate_left 1
              focus (simp only [List.getElem?_toArray, List.getElem?_cons_succ, List.getElem?_cons_zero]; rfl)
              focus kernel_rfl
              focus kernel_rfl
              focus kernel_rfl
              focus exact (fun _ _ _ h => h)
              refine Or.inr ⟨?_, rfl⟩
              focus (go_simp; done)
              focus assumption
              (try simp only [Act.put, List.setIfInBounds_toArray, List.set_cons_zero, List.set_cons_succ])
              refine' wpAnyH_take (i := 33) (v := undef) ?_ ?_ ?_ ?_ ?_ ?_ ?_ ?_
              rotate_left 1
              focus (simp only [List.getElem?_toArray, List.getElem?_cons_succ, List.getElem?_cons_zero]; rfl)
              focus kernel_rfl
              focus kernel_rfl
              focus kernel_rfl
              focus exact (fun _ _ _ h => h)
              refine Or.inr ⟨?_, rfl⟩
              focus (go_simp; done)
              focus assumption
              (try simp only [Act.put, List.setIfInBounds_toArray, List.set_cons_zero, List.set_cons_succ])
              refine' wpAnyH_take (i := 34) (v := _) ?_ ?_ ?_ ?_ ?_ ?_ ?_ ?_
              rotate_left 2
              focus (simp only [List.getElem?_toArray, List.getElem?_cons_succ, List.getElem?_cons_zero]; rfl)
              focus kernel_rfl
              focus kernel_rfl
              focus kernel_rfl
              focus exact (fun _ _ _ h => h)
              refine Or.inl ⟨?_, ?_⟩
              focus (go_simp; done)
              focus (intro w hSw; obtain ⟨⟨x0, y0⟩, ⟨_, f0, f1⟩⟩ := hSw; (first | (go_simp; done) | (go_simp; with_reducible rfl)))
              focus assumption
              (try simp only [Act.put, List.setIfInBounds_toArray, List.set_cons_zero, List.set_cons_succ])
              refine wpAnyH_done (by kernel_rfl) ?_ _
              go_wp2
              go_ret
              exact ⟨by rw [← HBad.out]; rfl, hHeld.2.1.1⟩
            · by_cases c3 : y = 0
              · have e3 : (y == 0) = true := by simp [c3]
                have HBad := Lib.hid (show (10 : Int) = r by rw [← HR.out, Fa.chk_bad (by have := HN.out; omega) (by have := HN.out; omega) (hbad.trans (by simp [c3]))])
                clear hbad
                clear c3
                refine wp_region_held_drew (S := (fun u => (u.cell? ⟨wr.heap.size, 0, none⟩ = some (.int .i64 x) ∧ u.cell? ⟨wr.heap.size, 1, none⟩ = some (.int .i64 y)) ∧ Bf w (.slice (some ⟨b, off, none⟩) n c) most u)) (by kernel_rfl) (by exact ⟨⟨by simp, by simp⟩, (HK.out.2.below hb1).drew⟩) (fun hHeld => ?_)
                refine' wpAnyH_take (i := 0) (v := _) ?_ ?_ ?_ ?_ ?_ ?_ ?_ ?_
                rotate_left 2
                focus (simp only [List.getElem?_toArray, List.getElem?_cons_succ, List.getElem?_cons_zero]; rfl)
                focus kernel_rfl
                focus kernel_rfl
                focus kernel_rfl
                focus exact (fun _ _ _ h => h)
                refine Or.inl ⟨?_, ?_⟩
                focus (go_simp; done)
                focus (intro w hSw; obtain ⟨⟨x0, y0⟩, ⟨_, f0, f1⟩⟩ := hSw; (first | (go_simp; done) | (go_simp; with_reducible rfl)))
                focus assumption
                (try simp only [Act.put, List.setIfInBounds_toArray, List.set_cons_zero, List.set_cons_succ])
                refine' wpAnyH_take (i := 1) (v := _) ?_ ?_ ?_ ?_ ?_ ?_ ?_ ?_
                rotate_left 2
                focus (simp only [List.getElem?_toArray, List.getElem?_cons_succ, List.getElem?_cons_zero]; rfl)
                focus kernel_rfl
                focus kernel_rfl
                focus kernel_rfl
                focus exact (fun _ _ _ h => h)
                refine Or.inl ⟨?_, ?_⟩
                focus (go_simp; done)
                focus (intro w hSw; obtain ⟨⟨x0, y0⟩, ⟨_, f0, f1⟩⟩ := hSw; (first | (go_simp; done) | (go_simp; with_reducible rfl)))
                focus assumption
                (try simp only [Act.put, List.setIfInBounds_toArray, List.set_cons_zero, List.set_cons_succ])
                refine' wpAnyH_take (i := 2) (v := _) ?_ ?_ ?_ ?_ ?_ ?_ ?_ ?_
                rotate_left 2
                focus (simp only [List.getElem?_toArray, List.getElem?_cons_succ, List.getElem?_cons_zero]; rfl)
                focus kernel_rfl
                focus kernel_rfl
                focus kernel_rfl
                focus exact (fun _ _ _ h => h)
                refine Or.inl ⟨?_, ?_⟩
                focus (go_simp; done)
                focus (intro w hSw; obtain ⟨⟨x0, y0⟩, ⟨_, f0, f1⟩⟩ := hSw; (first | (go_simp; done) | (go_simp; with_reducible rfl)))
                focus assumption
                (try simp only [Act.put, List.setIfInBounds_toArray, List.set_cons_zero, List.set_cons_succ])
                refine' wpAnyH_take (i := 3) (v := _) ?_ ?_ ?_ ?_ ?_ ?_ ?_ ?_
                rotate_left 2
                focus (simp only [List.getElem?_toArray, List.getElem?_cons_succ, List.getElem?_cons_zero]; rfl)
                focus kernel_rfl
                focus kernel_rfl
                focus kernel_rfl
                focus exact (fun _ _ _ h => h)
                refine Or.inl ⟨?_, ?_⟩
                focus (go_simp; done)
                focus (intro w hSw; obtain ⟨⟨x0, y0⟩, ⟨_, f0, f1⟩⟩ := hSw; (first | (go_simp; done) | (go_simp; with_reducible rfl)))
                focus assumption
                (try simp only [Act.put, List.setIfInBounds_toArray, List.set_cons_zero, List.set_cons_succ])
                refine' wpAnyH_take (i := 4) (v := _) ?_ ?_ ?_ ?_ ?_ ?_ ?_ ?_
                rotate_left 2
                focus (simp only [List.getElem?_toArray, List.getElem?_cons_succ, List.getElem?_cons_zero]; rfl)
                focus kernel_rfl
                focus kernel_rfl
                focus kernel_rfl
                focus exact (fun _ _ _ h => h)
                refine Or.inl ⟨?_, ?_⟩
                focus (go_simp; done)
                focus (intro w hSw; obtain ⟨⟨x0, y0⟩, ⟨_, f0, f1⟩⟩ := hSw; (first | (go_simp; done) | (go_simp; with_reducible rfl)))
                focus assumption
                (try simp only [Act.put, List.setIfInBounds_toArray, List.set_cons_zero, List.set_cons_succ])
                refine' wpAnyH_take (i := 5) (v := _) ?_ ?_ ?_ ?_ ?_ ?_ ?_ ?_
                rotate_left 2
                focus (simp only [List.getElem?_toArray, List.getElem?_cons_succ, List.getElem?_cons_zero]; rfl)
                focus kernel_rfl
                focus kernel_rfl
                focus kernel_rfl
                focus exact (fun _ _ _ h => h)
                refine Or.inl ⟨?_, ?_⟩
                focus (go_simp; done)
                focus (intro w hSw; obtain ⟨⟨x0, y0⟩, ⟨_, f0, f1⟩⟩ := hSw; (first | (go_simp; done) | (go_simp; with_reducible rfl)))
                focus assumption
                (try simp only [Act.put, List.setIfInBounds_toArray, List.set_cons_zero, List.set_cons_succ])
                refine' wpAnyH_take (i := 6) (v := _) ?_ ?_ ?_ ?_ ?_ ?_ ?_ ?_
                rotate_left 2
                focus (simp only [List.getElem?_toArray, List.getElem?_cons_succ, List.getElem?_cons_zero]; rfl)
                focus kernel_rfl
                focus kernel_rfl
                focus kernel_rfl
                focus exact (fun _ _ _ h => h)
                refine Or.inl ⟨?_, ?_⟩
                focus (go_simp; done)
                focus (intro w hSw; obtain ⟨⟨x0, y0⟩, ⟨_, f0, f1⟩⟩ := hSw; (first | (go_simp; done) | (go_simp; with_reducible rfl)))
                focus assumption
                (try simp only [Act.put, List.setIfInBounds_toArray, List.set_cons_zero, List.set_cons_succ])
                refine' wpAnyH_take (i := 7) (v := _) ?_ ?_ ?_ ?_ ?_ ?_ ?_ ?_
                rotate_left 2
                focus (simp only [List.getElem?_toArray, List.getElem?_cons_succ, List.getElem?_cons_zero]; rfl)
                focus kernel_rfl
                focus kernel_rfl
                focus kernel_rfl
                focus exact (fun _ _ _ h => h)
                refine Or.inl ⟨?_, ?_⟩
                focus (go_simp; done)
                focus (intro w hSw; obtain ⟨⟨x0, y0⟩, ⟨_, f0, f1⟩⟩ := hSw; (first | (go_simp; done) | (go_simp; with_reducible rfl)))
                focus assumption
                (try simp only [Act.put, List.setIfInBounds_toArray, List.set_cons_zero, List.set_cons_succ])
                refine' wpAnyH_take (i := 8) (v := _) ?_ ?_ ?_ ?_ ?_ ?_ ?_ ?_
                rotate_left 2
                focus (simp only [List.getElem?_toArray, List.getElem?_cons_succ, List.getElem?_cons_zero]; rfl)
                focus kernel_rfl
                focus kernel_rfl
                focus kernel_rfl
                focus exact (fun _ _ _ h => h)
                refine Or.inl ⟨?_, ?_⟩
                focus (go_simp; done)
                focus (intro w hSw; obtain ⟨⟨x0, y0⟩, ⟨_, f0, f1⟩⟩ := hSw; (first | (go_simp; done) | (go_simp; with_reducible rfl)))
                focus assumption
                (try simp only [Act.put, List.setIfInBounds_toArray, List.set_cons_zero, List.set_cons_succ])
                refine' wpAnyH_take (i := 9) (v := _) ?_ ?_ ?_ ?_ ?_ ?_ ?_ ?_
                rotate_left 2
                focus (simp only [List.getElem?_toArray, List.getElem?_cons_succ, List.getElem?_cons_zero]; rfl)
                focus kernel_rfl
                focus kernel_rfl
                focus kernel_rfl
                focus exact (fun _ _ _ h => h)
                refine Or.inl ⟨?_, ?_⟩
                focus (go_simp; done)
                focus (intro w hSw; obtain ⟨⟨x0, y0⟩, ⟨_, f0, f1⟩⟩ := hSw; (first | (go_simp; done) | (go_simp; with_reducible rfl)))
                focus assumption
                (try simp only [Act.put, List.setIfInBounds_toArray, List.set_cons_zero, List.set_cons_succ])
                refine' wpAnyH_take (i := 10) (v := _) ?_ ?_ ?_ ?_ ?_ ?_ ?_ ?_
                rotate_left 2
                focus (simp only [List.getElem?_toArray, List.getElem?_cons_succ, List.getElem?_cons_zero]; rfl)
                focus kernel_rfl
                focus kernel_rfl
                focus kernel_rfl
                focus exact (fun _ _ _ h => h)
                refine Or.inl ⟨?_, ?_⟩
                focus (go_simp; done)
                focus (intro w hSw; obtain ⟨⟨x0, y0⟩, ⟨_, f0, f1⟩⟩ := hSw; (first | (go_simp; done) | (go_simp; with_reducible rfl)))
                focus assumption
                (try simp only [Act.put, List.setIfInBounds_toArray, List.set_cons_zero, List.set_cons_succ])
                refine' wpAnyH_take (i := 11) (v := _) ?_ ?_ ?_ ?_ ?_ ?_ ?_ ?_
                rotate_left 2
                focus (simp only [List.getElem?_toArray, List.getElem?_cons_succ, List.getElem?_cons_zero]; rfl)
                focus kernel_rfl
                focus kernel_rfl
                focus kernel_rfl
                focus exact (fun _ _ _ h => h)
                refine Or.inl ⟨?_, ?_⟩
                focus (go_simp; done)
                focus (intro w hSw; obtain ⟨⟨x0, y0⟩, ⟨_, f0, f1⟩⟩ := hSw; (first | (go_simp; done) | (go_simp; with_reducible rfl)))
                focus assumption
                (try simp only [Act.put, List.setIfInBounds_toArray, List.set_cons_zero, List.set_cons_succ])
                refine' wpAnyH_take (i := 12) (v := _) ?_ ?_ ?_ ?_ ?_ ?_ ?_ ?_
                rotate_left 2
                focus (simp only [List.getElem?_toArray, List.getElem?_cons_succ, List.getElem?_cons_zero]; rfl)
                focus kernel_rfl
                focus kernel_rfl
                focus kernel_rfl
                focus exact (fun _ _ _ h => h)
                refine Or.inl ⟨?_, ?_⟩
                focus (go_simp; done)
                focus (intro w hSw; obtain ⟨⟨x0, y0⟩, ⟨_, f0, f1⟩⟩ := hSw; (first | (go_simp; done) | (go_simp; with_reducible rfl)))
                focus assumption
                (try simp only [Act.put, List.setIfInBounds_toArray, List.set_cons_zero, List.set_cons_succ])
                refine' wpAnyH_take (i := 13) (v := _) ?_ ?_ ?_ ?_ ?_ ?_ ?_ ?_
                rotate_left 2
                focus (simp only [List.getElem?_toArray, List.getElem?_cons_succ, List.getElem?_cons_zero]; rfl)
                focus kernel_rfl
                focus kernel_rfl
                focus kernel_rfl
                focus exact (fun _ _ _ h => h)
                refine Or.inl ⟨?_, ?_⟩
                focus (go_simp; done)
                focus (intro w hSw; obtain ⟨⟨x0, y0⟩, ⟨_, f0, f1⟩⟩ := hSw; (first | (go_simp; done) | (go_simp; with_reducible rfl)))
                focus assumption
                (try simp only [Act.put, List.setIfInBounds_toArray, List.set_cons_zero, List.set_cons_succ])
                refine' wpAnyH_take (i := 14) (v := undef) ?_ ?_ ?_ ?_ ?_ ?_ ?_ ?_
                rotate_left 1
                focus (simp only [List.getElem?_toArray, List.getElem?_cons_succ, List.getElem?_cons_zero]; rfl)
                focus kernel_rfl
                focus kernel_rfl
                focus kernel_rfl
                focus exact (fun _ _ _ h => h)
                refine Or.inr ⟨?_, rfl⟩
                focus (go_simp; done)
                focus assumption
                (try simp only [Act.put, List.setIfInBounds_toArray, List.set_cons_zero, List.set_cons_succ])
                refine' wpAnyH_take (i := 15) (v := undef) ?_ ?_ ?_ ?_ ?_ ?_ ?_ ?_
                rotate_left 1
                focus (simp only [List.getElem?_toArray, List.getElem?_cons_succ, List.getElem?_cons_zero]; rfl)
                focus kernel_rfl
                focus kernel_rfl
                focus kernel_rfl
                focus exact (fun _ _ _ h => h)
                refine Or.inr ⟨?_, rfl⟩
                focus (go_simp; done)
                focus assumption
                (try simp only [Act.put, List.setIfInBounds_toArray, List.set_cons_zero, List.set_cons_succ])
                refine' wpAnyH_take (i := 16) (v := undef) ?_ ?_ ?_ ?_ ?_ ?_ ?_ ?_
                rotate_left 1
                focus (simp only [List.getElem?_toArray, List.getElem?_cons_succ, List.getElem?_cons_zero]; rfl)
                focus kernel_rfl
                focus kernel_rfl
                focus kernel_rfl
                focus exact (fun _ _ _ h => h)
                refine Or.inr ⟨?_, rfl⟩
                focus (go_simp; done)
                focus assumption
                (try simp only [Act.put, List.setIfInBounds_toArray, List.set_cons_zero, List.set_cons_succ])
                refine' wpAnyH_take (i := 17) (v := undef) ?_ ?_ ?_ ?_ ?_ ?_ ?_ ?_
                rotate_left 1
                focus (simp only [List.getElem?_toArray, List.getElem?_cons_succ, List.getElem?_cons_zero]; rfl)
                focus kernel_rfl
                focus kernel_rfl
                focus kernel_rfl
                focus exact (fun _ _ _ h => h)
                refine Or.inr ⟨?_, rfl⟩
                focus (go_simp; done)
                focus assumption
                (try simp only [Act.put, List.setIfInBounds_toArray, List.set_cons_zero, List.set_cons_succ])
                refine' wpAnyH_take (i := 18) (v := _) ?_ ?_ ?_ ?_ ?_ ?_ ?_ ?_
                rotate_left 2
                focus (simp only [List.getElem?_toArray, List.getElem?_cons_succ, List.getElem?_cons_zero]; rfl)
                focus kernel_rfl
                focus kernel_rfl
                focus kernel_rfl
                focus exact (fun _ _ _ h => h)
                refine Or.inl ⟨?_, ?_⟩
                focus (go_simp; done)
                focus (intro w hSw; obtain ⟨⟨x0, y0⟩, ⟨_, f0, f1⟩⟩ := hSw; (first | (go_simp; done) | (go_simp; with_reducible rfl)))
                focus assumption
                (try simp only [Act.put, List.setIfInBounds_toArray, List.set_cons_zero, List.set_cons_succ])
                refine' wpAnyH_take (i := 19) (v := _) ?_ ?_ ?_ ?_ ?_ ?_ ?_ ?_
                rotate_left 2
                focus (simp only [List.getElem?_toArray, List.getElem?_cons_succ, List.getElem?_cons_zero]; rfl)
                focus kernel_rfl
                focus kernel_rfl
                focus kernel_rfl
                focus exact (fun _ _ _ h => h)
                refine Or.inl ⟨?_, ?_⟩
                focus (go_simp; done)
                focus (intro w hSw; obtain ⟨⟨x0, y0⟩, ⟨_, f0, f1⟩⟩ := hSw; (first | (go_simp; done) | (go_simp; with_reducible rfl)))
                focus assumption
                (try simp only [Act.put, List.setIfInBounds_toArray, List.set_cons_zero, List.set_cons_succ])
                refine' wpAnyH_take (i := 20) (v := undef) ?_ ?_ ?_ ?_ ?_ ?_ ?_ ?_
                rotate_left 1
                focus (simp only [List.getElem?_toArray, List.getElem?_cons_succ, List.getElem?_cons_zero]; rfl)
                focus kernel_rfl
                focus kernel_rfl
                focus kernel_rfl
                focus exact (fun _ _ _ h => h)
                refine Or.inr ⟨?_, rfl⟩
                focus (go_simp; done)
                focus assumption
                (try simp only [Act.put, List.setIfInBounds_toArray, List.set_cons_zero, List.set_cons_succ])
                refine' wpAnyH_take (i := 21) (v := undef) ?_ ?_ ?_ ?_ ?_ ?_ ?_ ?_
                rotate_left 1
                focus (simp only [List.getElem?_toArray, List.getElem?_cons_succ, List.getElem?_cons_zero]; rfl)
                focus kernel_rfl
                focus kernel_rfl
                focus kernel_rfl
                focus exact (fun _ _ _ h => h)
                refine Or.inr ⟨?_, rfl⟩
                focus (go_simp; done)
                focus assumption
                (try simp only [Act.put, List.setIfInBounds_toArray, List.set_cons_zero, List.set_cons_succ])
                refine' wpAnyH_take (i := 22) (v := undef) ?_ ?_ ?_ ?_ ?_ ?_ ?_ ?_
                rotate_left 1
                focus (simp only [List.getElem?_toArray, List.getElem?_cons_succ, List.getElem?_cons_zero]; rfl)
                focus kernel_rfl
                focus kernel_rfl
                focus kernel_rfl
                focus exact (fun _ _ _ h => h)
                refine Or.inr ⟨?_, rfl⟩
                focus (go_simp; done)
                focus assumption
                (try simp only [Act.put, List.setIfInBounds_toArray, List.set_cons_zero, List.set_cons_succ])
                refine' wpAnyH_take (i := 23) (v := undef) ?_ ?_ ?_ ?_ ?_ ?_ ?_ ?_
                rotate_left 1
                focus (simp only [List.getElem?_toArray, List.getElem?_cons_succ, List.getElem?_cons_zero]; rfl)
                focus kernel_rfl
                focus kernel_rfl
                focus kernel_rfl
                focus exact (fun _ _ _ h => h)
                refine Or.inr ⟨?_, rfl⟩
                focus (go_simp; done)
                focus assumption
                (try simp only [Act.put, List.setIfInBounds_toArray, List.set_cons_zero, List.set_cons_succ])
                refine' wpAnyH_take (i := 24) (v := undef) ?_ ?_ ?_ ?_ ?_ ?_ ?_ ?_
                rotate_left 1
                focus (simp only [List.getElem?_toArray, List.getElem?_cons_succ, List.getElem?_cons_zero]; rfl)
                focus kernel_rfl
                focus kernel_rfl
                focus kernel_rfl
                focus exact (fun _ _ _ h => h)
                refine Or.inr ⟨?_, rfl⟩
                focus (go_simp; done)
                focus assumption
                (try simp only [Act.put, List.setIfInBounds_toArray, List.set_cons_zero, List.set_cons_succ])
                refine' wpAnyH_take (i := 25) (v := undef) ?_ ?_ ?_ ?_ ?_ ?_ ?_ ?_
                rotate_left 1
                focus (simp only [List.getElem?_toArray, List.getElem?_cons_succ, List.getElem?_cons_zero]; rfl)
                focus kernel_rfl
                focus kernel_rfl
                focus kernel_rfl
                focus exact (fun _ _ _ h => h)
                refine Or.inr ⟨?_, rfl⟩
                focus (go_simp; done)
                focus assumption
                (try simp only [Act.put, List.setIfInBounds_toArray, List.set_cons_zero, List.set_cons_succ])
                refine' wpAnyH_take (i := 26) (v := undef) ?_ ?_ ?_ ?_ ?_ ?_ ?_ ?_
                rotate_left 1
                focus (simp only [List.getElem?_toArray, List.getElem?_cons_succ, List.getElem?_cons_zero]; rfl)
                focus kernel_rfl
                focus kernel_rfl
                focus kernel_rfl
                focus exact (fun _ _ _ h => h)
                refine Or.inr ⟨?_, rfl⟩
                focus (go_simp; done)
                focus assumption
                (try simp only [Act.put, List.setIfInBounds_toArray, List.set_cons_zero, List.set_cons_succ])
                refine' wpAnyH_take (i := 27) (v := undef) ?_ ?_ ?_ ?_ ?_ ?_ ?_ ?_
                rotate_left 1
                focus (simp only [List.getElem?_toArray, List.getElem?_cons_succ, List.getElem?_cons_zero]; rfl)
                focus kernel_rfl
                focus kernel_rfl
                focus kernel_rfl
                focus exact (fun _ _ _ h => h)
                refine Or.inr ⟨?_, rfl⟩
                focus (go_simp; done)
                focus assumption
                (try simp only [Act.put, List.setIfInBounds_toArray, List.set_cons_zero, List.set_cons_succ])
                refine' wpAnyH_take (i := 28) (v := undef) ?_ ?_ ?_ ?_ ?_ ?_ ?_ ?_
                rotate_left 1
                focus (simp only [List.getElem?_toArray, List.getElem?_cons_succ, List.getElem?_cons_zero]; rfl)
                focus kernel_rfl
                focus kernel_rfl
                focus kernel_rfl
                focus exact (fun _ _ _ h => h)
                refine Or.inr ⟨?_, rfl⟩
                focus (go_simp; done)
                focus assumption
                (try simp only [Act.put, List.setIfInBounds_toArray, List.set_cons_zero, List.set_cons_succ])
                refine' wpAnyH_take (i := 29) (v := undef) ?_ ?_ ?_ ?_ ?_ ?_ ?_ ?_
                rotate_left 1
                focus (simp only [List.getElem?_toArray, List.getElem?_cons_succ, List.getElem?_cons_zero]; rfl)
                focus kernel_rfl
                focus kernel_rfl
                focus kernel_rfl
                focus exact (fun _ _ _ h => h)
                refine Or.inr ⟨?_, rfl⟩
                focus (go_simp; done)
                focus assumption
                (try simp only [Act.put, List.setIfInBounds_toArray, List.set_cons_zero, List.set_cons_succ])
                refine' wpAnyH_take (i := 30) (v := undef) ?_ ?_ ?_ ?_ ?_ ?_ ?_ ?_
                rotate_left 1
                focus (simp only [List.getElem?_toArray, List.getElem?_cons_succ, List.getElem?_cons_zero]; rfl)
                focus kernel_rfl
                focus kernel_rfl
                focus kernel_rfl
                focus exact (fun _ _ _ h => h)
                refine Or.inr ⟨?_, rfl⟩
                focus (go_simp; done)
                focus assumption
                (try simp only [Act.put, List.setIfInBounds_toArray, List.set_cons_zero, List.set_cons_succ])
                refine' wpAnyH_take (i := 31) (v := undef) ?_ ?_ ?_ ?_ ?_ ?_ ?_ ?_
                rotate_left 1
                focus (simp only [List.getElem?_toArray, List.getElem?_cons_succ, List.getElem?_cons_zero]; rfl)
                focus kernel_rfl
                focus kernel_rfl
                focus kernel_rfl
                focus exact (fun _ _ _ h => h)
                refine Or.inr ⟨?_, rfl⟩
                focus (go_simp; done)
                focus assumption
                (try simp only [Act.put, List.setIfInBounds_toArray, List.set_cons_zero, List.set_cons_succ])
                refine' wpAnyH_take (i := 32) (v := undef) ?_ ?_ ?_ ?_ ?_ ?_ ?_ ?_
                rotate_left 1
                focus (simp only [List.getElem?_toArray, List.getElem?_cons_succ, List.getElem?_cons_zero]; rfl)
                focus kernel_rfl
                focus kernel_rfl
                focus kernel_rfl
                focus exact (fun _ _ _ h => h)
                refine Or.inr ⟨?_, rfl⟩
                focus (go_simp; done)
                focus assumption
                (try simp only [Act.put, List.setIfInBounds_toArray, List.set_cons_zero, List.set_cons_succ])
                refine' wpAnyH_take (i := 33) (v := undef) ?_ ?_ ?_ ?_ ?_ ?_ ?_ ?_
                rotate_left 1
                focus (simp only [List.getElem?_toArray, List.getElem?_cons_succ, List.getElem?_cons_zero]; rfl)
                focus kernel_rfl
                focus kernel_rfl
                focus kernel_rfl
                focus exact (fun _ _ _ h => h)
                refine Or.inr ⟨?_, rfl⟩
                focus (go_simp; done)
                focus assumption
                (try simp only [Act.put, List.setIfInBounds_toArray, List.set_cons_zero, List.set_cons_succ])
                refine' wpAnyH_take (i := 34) (v := _) ?_ ?_ ?_ ?_ ?_ ?_ ?_ ?_
                rotate_left 2
                focus (simp only [List.getElem?_toArray, List.getElem?_cons_succ, List.getElem?_cons_zero]; rfl)
                focus kernel_rfl
                focus kernel_rfl
                focus kernel_rfl
                focus exact (fun _ _ _ h => h)
                refine Or.inl ⟨?_, ?_⟩
                focus (go_simp; done)
                focus (intro w hSw; obtain ⟨⟨x0, y0⟩, ⟨_, f0, f1⟩⟩ := hSw; (first | (go_simp; done) | (go_simp; with_reducible rfl)))
                focus assumption
                (try simp only [Act.put, List.setIfInBounds_toArray, List.set_cons_zero, List.set_cons_succ])
                refine wpAnyH_done (by kernel_rfl) ?_ _
                go_wp2
                go_ret
                exact ⟨by rw [← HBad.out]; rfl, hHeld.2.1.1⟩
              · have e3 : (y == 0) = false := by simp [c3]
                cases c4 : Fa.inC y
                · have HI := Lib.hid c4
                  have HBad := Lib.hid (show (10 : Int) = r by rw [← HR.out, Fa.chk_bad (by have := HN.out; omega) (by have := HN.out; omega) (hbad.trans (by simp [c4]))])
                  clear hbad
                  refine wp_region_held_drew (S := (fun u => (u.cell? ⟨wr.heap.size, 0, none⟩ = some (.int .i64 x) ∧ u.cell? ⟨wr.heap.size, 1, none⟩ = some (.int .i64 y)) ∧ Bf w (.slice (some ⟨b, off, none⟩) n c) most u)) (by kernel_rfl) (by exact ⟨⟨by simp, by simp⟩, (HK.out.2.below hb1).drew⟩) (fun hHeld => ?_)
                  refine' wpAnyH_take (i := 0) (v := _) ?_ ?_ ?_ ?_ ?_ ?_ ?_ ?_
                  rotate_left 2
                  focus (simp only [List.getElem?_toArray, List.getElem?_cons_succ, List.getElem?_cons_zero]; rfl)
                  focus kernel_rfl
                  focus kernel_rfl
                  focus kernel_rfl
                  focus exact (fun _ _ _ h => h)
                  refine Or.inl ⟨?_, ?_⟩
                  focus (go_simp; done)
                  focus (intro w hSw; obtain ⟨⟨x0, y0⟩, ⟨_, f0, f1⟩⟩ := hSw; (first | (go_simp; done) | (go_simp; with_reducible rfl)))
                  focus assumption
                  (try simp only [Act.put, List.setIfInBounds_toArray, List.set_cons_zero, List.set_cons_succ])
                  refine' wpAnyH_take (i := 1) (v := _) ?_ ?_ ?_ ?_ ?_ ?_ ?_ ?_
                  rotate_left 2
                  focus (simp only [List.getElem?_toArray, List.getElem?_cons_succ, List.getElem?_cons_zero]; rfl)
                  focus kernel_rfl
                  focus kernel_rfl
                  focus kernel_rfl
                  focus exact (fun _ _ _ h => h)
                  refine Or.inl ⟨?_, ?_⟩
                  focus (go_simp; done)
                  focus (intro w hSw; obtain ⟨⟨x0, y0⟩, ⟨_, f0, f1⟩⟩ := hSw; (first | (go_simp; done) | (go_simp; with_reducible rfl)))
                  focus assumption
                  (try simp only [Act.put, List.setIfInBounds_toArray, List.set_cons_zero, List.set_cons_succ])
                  refine' wpAnyH_take (i := 2) (v := _) ?_ ?_ ?_ ?_ ?_ ?_ ?_ ?_
                  rotate_left 2
                  focus (simp only [List.getElem?_toArray, List.getElem?_cons_succ, List.getElem?_cons_zero]; rfl)
                  focus kernel_rfl
                  focus kernel_rfl
                  focus kernel_rfl
                  focus exact (fun _ _ _ h => h)
                  refine Or.inl ⟨?_, ?_⟩
                  focus (go_simp; done)
                  focus (intro w hSw; obtain ⟨⟨x0, y0⟩, ⟨_, f0, f1⟩⟩ := hSw; (first | (go_simp; done) | (go_simp; with_reducible rfl)))
                  focus assumption
                  (try simp only [Act.put, List.setIfInBounds_toArray, List.set_cons_zero, List.set_cons_succ])
                  refine' wpAnyH_take (i := 3) (v := _) ?_ ?_ ?_ ?_ ?_ ?_ ?_ ?_
                  rotate_left 2
                  focus (simp only [List.getElem?_toArray, List.getElem?_cons_succ, List.getElem?_cons_zero]; rfl)
                  focus kernel_rfl
                  focus kernel_rfl
                  focus kernel_rfl
                  focus exact (fun _ _ _ h => h)
                  refine Or.inl ⟨?_, ?_⟩
                  focus (go_simp; done)
                  focus (intro w hSw; obtain ⟨⟨x0, y0⟩, ⟨_, f0, f1⟩⟩ := hSw; (first | (go_simp; done) | (go_simp; with_reducible rfl)))
                  focus assumption
                  (try simp only [Act.put, List.setIfInBounds_toArray, List.set_cons_zero, List.set_cons_succ])
                  refine' wpAnyH_take (i := 4) (v := _) ?_ ?_ ?_ ?_ ?_ ?_ ?_ ?_
                  rotate_left 2
                  focus (simp only [List.getElem?_toArray, List.getElem?_cons_succ, List.getElem?_cons_zero]; rfl)
                  focus kernel_rfl
                  focus kernel_rfl
                  focus kernel_rfl
                  focus exact (fun _ _ _ h => h)
                  refine Or.inl ⟨?_, ?_⟩
                  focus (go_simp; done)
                  focus (intro w hSw; obtain ⟨⟨x0, y0⟩, ⟨_, f0, f1⟩⟩ := hSw; (first | (go_simp; done) | (go_simp; with_reducible rfl)))
                  focus assumption
                  (try simp only [Act.put, List.setIfInBounds_toArray, List.set_cons_zero, List.set_cons_succ])
                  refine' wpAnyH_take (i := 5) (v := _) ?_ ?_ ?_ ?_ ?_ ?_ ?_ ?_
                  rotate_left 2
                  focus (simp only [List.getElem?_toArray, List.getElem?_cons_succ, List.getElem?_cons_zero]; rfl)
                  focus kernel_rfl
                  focus kernel_rfl
                  focus kernel_rfl
                  focus exact (fun _ _ _ h => h)
                  refine Or.inl ⟨?_, ?_⟩
                  focus (go_simp; done)
                  focus (intro w hSw; obtain ⟨⟨x0, y0⟩, ⟨_, f0, f1⟩⟩ := hSw; (first | (go_simp; done) | (go_simp; with_reducible rfl)))
                  focus assumption
                  (try simp only [Act.put, List.setIfInBounds_toArray, List.set_cons_zero, List.set_cons_succ])
                  refine' wpAnyH_take (i := 6) (v := _) ?_ ?_ ?_ ?_ ?_ ?_ ?_ ?_
                  rotate_left 2
                  focus (simp only [List.getElem?_toArray, List.getElem?_cons_succ, List.getElem?_cons_zero]; rfl)
                  focus kernel_rfl
                  focus kernel_rfl
                  focus kernel_rfl
                  focus exact (fun _ _ _ h => h)
                  refine Or.inl ⟨?_, ?_⟩
                  focus (go_simp; done)
                  focus (intro w hSw; obtain ⟨⟨x0, y0⟩, ⟨_, f0, f1⟩⟩ := hSw; (first | (go_simp; done) | (go_simp; with_reducible rfl)))
                  focus assumption
                  (try simp only [Act.put, List.setIfInBounds_toArray, List.set_cons_zero, List.set_cons_succ])
                  refine' wpAnyH_take (i := 7) (v := _) ?_ ?_ ?_ ?_ ?_ ?_ ?_ ?_
                  rotate_left 2
                  focus (simp only [List.getElem?_toArray, List.getElem?_cons_succ, List.getElem?_cons_zero]; rfl)
                  focus kernel_rfl
                  focus kernel_rfl
                  focus kernel_rfl
                  focus exact (fun _ _ _ h => h)
                  refine Or.inl ⟨?_, ?_⟩
                  focus (go_simp; done)
                  focus (intro w hSw; obtain ⟨⟨x0, y0⟩, ⟨_, f0, f1⟩⟩ := hSw; (first | (go_simp; done) | (go_simp; with_reducible rfl)))
                  focus assumption
                  (try simp only [Act.put, List.setIfInBounds_toArray, List.set_cons_zero, List.set_cons_succ])
                  refine' wpAnyH_take (i := 8) (v := _) ?_ ?_ ?_ ?_ ?_ ?_ ?_ ?_
                  rotate_left 2
                  focus (simp only [List.getElem?_toArray, List.getElem?_cons_succ, List.getElem?_cons_zero]; rfl)
                  focus kernel_rfl
                  focus kernel_rfl
                  focus kernel_rfl
                  focus exact (fun _ _ _ h => h)
                  refine Or.inl ⟨?_, ?_⟩
                  focus (go_simp; done)
                  focus (intro w hSw; obtain ⟨⟨x0, y0⟩, ⟨_, f0, f1⟩⟩ := hSw; (first | (go_simp; done) | (go_simp; with_reducible rfl)))
                  focus assumption
                  (try simp only [Act.put, List.setIfInBounds_toArray, List.set_cons_zero, List.set_cons_succ])
                  refine' wpAnyH_take (i := 9) (v := _) ?_ ?_ ?_ ?_ ?_ ?_ ?_ ?_
                  rotate_left 2
                  focus (simp only [List.getElem?_toArray, List.getElem?_cons_succ, List.getElem?_cons_zero]; rfl)
                  focus kernel_rfl
                  focus kernel_rfl
                  focus kernel_rfl
                  focus exact (fun _ _ _ h => h)
                  refine Or.inl ⟨?_, ?_⟩
                  focus (go_simp; done)
                  focus (intro w hSw; obtain ⟨⟨x0, y0⟩, ⟨_, f0, f1⟩⟩ := hSw; (first | (go_simp; done) | (go_simp; with_reducible rfl)))
                  focus assumption
                  (try simp only [Act.put, List.setIfInBounds_toArray, List.set_cons_zero, List.set_cons_succ])
                  refine' wpAnyH_take (i := 10) (v := _) ?_ ?_ ?_ ?_ ?_ ?_ ?_ ?_
                  rotate_left 2
                  focus (simp only [List.getElem?_toArray, List.getElem?_cons_succ, List.getElem?_cons_zero]; rfl)
                  focus kernel_rfl
                  focus kernel_rfl
                  focus kernel_rfl
                  focus exact (fun _ _ _ h => h)
                  refine Or.inl ⟨?_, ?_⟩
                  focus (go_simp; done)
                  focus (intro w hSw; obtain ⟨⟨x0, y0⟩, ⟨_, f0, f1⟩⟩ := hSw; (first | (go_simp; done) | (go_simp; with_reducible rfl)))
                  focus assumption
                  (try simp only [Act.put, List.setIfInBounds_toArray, List.set_cons_zero, List.set_cons_succ])
                  refine' wpAnyH_take (i := 11) (v := _) ?_ ?_ ?_ ?_ ?_ ?_ ?_ ?_
                  rotate_left 2
                  focus (simp only [List.getElem?_toArray, List.getElem?_cons_succ, List.getElem?_cons_zero]; rfl)
                  focus kernel_rfl
                  focus kernel_rfl
                  focus kernel_rfl
                  focus exact (fun _ _ _ h => h)
                  refine Or.inl ⟨?_, ?_⟩
                  focus (go_simp; done)
                  focus (intro w hSw; obtain ⟨⟨x0, y0⟩, ⟨_, f0, f1⟩⟩ := hSw; (first | (go_simp; done) | (go_simp; with_reducible rfl)))
                  focus assumption
                  (try simp only [Act.put, List.setIfInBounds_toArray, List.set_cons_zero, List.set_cons_succ])
                  refine' wpAnyH_take (i := 12) (v := _) ?_ ?_ ?_ ?_ ?_ ?_ ?_ ?_
                  rotate_left 2
                  focus (simp only [List.getElem?_toArray, List.getElem?_cons_succ, List.getElem?_cons_zero]; rfl)
                  focus kernel_rfl
                  focus kernel_rfl
                  focus kernel_rfl
                  focus exact (fun _ _ _ h => h)
                  refine Or.inl ⟨?_, ?_⟩
                  focus (go_simp; done)
                  focus (intro w hSw; obtain ⟨⟨x0, y0⟩, ⟨_, f0, f1⟩⟩ := hSw; (first | (go_simp; done) | (go_simp; with_reducible rfl)))
                  focus assumption
                  (try simp only [Act.put, List.setIfInBounds_toArray, List.set_cons_zero, List.set_cons_succ])
                  refine' wpAnyH_take (i := 13) (v := _) ?_ ?_ ?_ ?_ ?_ ?_ ?_ ?_
                  rotate_left 2
                  focus (simp only [List.getElem?_toArray, List.getElem?_cons_succ, List.getElem?_cons_zero]; rfl)
                  focus kernel_rfl
                  focus kernel_rfl
                  focus kernel_rfl
                  focus exact (fun _ _ _ h => h)
                  refine Or.inl ⟨?_, ?_⟩
                  focus (go_simp; done)
                  focus (intro w hSw; obtain ⟨⟨x0, y0⟩, ⟨_, f0, f1⟩⟩ := hSw; (first | (go_simp; done) | (go_simp; with_reducible rfl)))
                  focus assumption
                  (try simp only [Act.put, List.setIfInBounds_toArray, List.set_cons_zero, List.set_cons_succ])
                  refine' wpAnyH_take (i := 14) (v := _) ?_ ?_ ?_ ?_ ?_ ?_ ?_ ?_
                  rotate_left 2
                  focus (simp only [List.getElem?_toArray, List.getElem?_cons_succ, List.getElem?_cons_zero]; rfl)
                  focus kernel_rfl
                  focus kernel_rfl
                  focus kernel_rfl
                  focus exact (fun _ _ _ h => h)
                  refine Or.inl ⟨?_, ?_⟩
                  focus (go_simp; done)
                  focus (intro w hSw; obtain ⟨⟨x0, y0⟩, ⟨_, f0, f1⟩⟩ := hSw; (first | (go_simp; done) | (go_simp; with_reducible rfl)))
                  focus assumption
                  (try simp only [Act.put, List.setIfInBounds_toArray, List.set_cons_zero, List.set_cons_succ])
                  refine' wpAnyH_take (i := 15) (v := _) ?_ ?_ ?_ ?_ ?_ ?_ ?_ ?_
                  rotate_left 2
                  focus (simp only [List.getElem?_toArray, List.getElem?_cons_succ, List.getElem?_cons_zero]; rfl)
                  focus kernel_rfl
                  focus kernel_rfl
                  focus kernel_rfl
                  focus exact (fun _ _ _ h => h)
                  refine Or.inl ⟨?_, ?_⟩
                  focus (go_simp; done)
                  focus (intro w hSw; obtain ⟨⟨x0, y0⟩, ⟨_, f0, f1⟩⟩ := hSw; (first | (go_simp; done) | (go_simp; with_reducible rfl)))
                  focus assumption
                  (try simp only [Act.put, List.setIfInBounds_toArray, List.set_cons_zero, List.set_cons_succ])
                  refine wpAnyH_ready (rs := [16]) (by kernel_rfl) (by simp) ?_
                  refine' AllReadyH.cons ?_ (fun K hK => ?_) AllReadyH.nil
                  rotate_left
                  focus (simp only [List.getElem?_toArray, List.getElem?_cons_succ, List.getElem?_cons_zero]; rfl)
                  go_simp
                  (go_at_call 45; refine (rinB_any y false HI.out _).mono ?_; rintro e w4 ⟨rfl, hb⟩)
                  refine hK.out _ _ (⟨⟨(hb.cell (p := ⟨wr.heap.size, 0, none⟩) (by simp)).trans hHeld.1.1, (hb.cell (p := ⟨wr.heap.size, 1, none⟩) (by simp)).trans hHeld.1.2⟩, hHeld.2.below hb⟩) (fun hHeld => ?_)
                  clear hK K
                  (try simp only [Act.put, List.setIfInBounds_toArray, List.set_cons_zero, List.set_cons_succ])
                  clear hb
                  refine' wpAnyH_take (i := 17) (v := _) ?_ ?_ ?_ ?_ ?_ ?_ ?_ ?_
                  rotate_left 2
                  focus (simp only [List.getElem?_toArray, List.getElem?_cons_succ, List.getElem?_cons_zero]; rfl)
                  focus kernel_rfl
                  focus kernel_rfl
                  focus kernel_rfl
                  focus exact (fun _ _ _ h => h)
                  refine Or.inl ⟨?_, ?_⟩
                  focus (go_simp; done)
                  focus (intro w hSw; obtain ⟨⟨x0, y0⟩, ⟨_, f0, f1⟩⟩ := hSw; (first | (go_simp; done) | (go_simp; with_reducible rfl)))
                  focus assumption
                  (try simp only [Act.put, List.setIfInBounds_toArray, List.set_cons_zero, List.set_cons_succ])
                  refine' wpAnyH_take (i := 18) (v := _) ?_ ?_ ?_ ?_ ?_ ?_ ?_ ?_
                  rotate_left 2
                  focus (simp only [List.getElem?_toArray, List.getElem?_cons_succ, List.getElem?_cons_zero]; rfl)
                  focus kernel_rfl
                  focus kernel_rfl
                  focus kernel_rfl
                  focus exact (fun _ _ _ h => h)
                  refine Or.inl ⟨?_, ?_⟩
                  focus (go_simp; done)
                  focus (intro w hSw; obtain ⟨⟨x0, y0⟩, ⟨_, f0, f1⟩⟩ := hSw; (first | (go_simp; done) | (go_simp; with_reducible rfl)))
                  focus assumption
                  (try simp only [Act.put, List.setIfInBounds_toArray, List.set_cons_zero, List.set_cons_succ])
                  refine' wpAnyH_take (i := 19) (v := _) ?_ ?_ ?_ ?_ ?_ ?_ ?_ ?_
                  rotate_left 2
                  focus (simp only [List.getElem?_toArray, List.getElem?_cons_succ, List.getElem?_cons_zero]; rfl)
                  focus kernel_rfl
                  focus kernel_rfl
                  focus kernel_rfl
                  focus exact (fun _ _ _ h => h)
                  refine Or.inl ⟨?_, ?_⟩
                  focus (go_simp; done)
                  focus (intro w hSw; obtain ⟨⟨x0, y0⟩, ⟨_, f0, f1⟩⟩ := hSw; (first | (go_simp; done) | (go_simp; with_reducible rfl)))
                  focus assumption
                  (try simp only [Act.put, List.setIfInBounds_toArray, List.set_cons_zero, List.set_cons_succ])
                  refine' wpAnyH_take (i := 20) (v := undef) ?_ ?_ ?_ ?_ ?_ ?_ ?_ ?_
                  rotate_left 1
                  focus (simp only [List.getElem?_toArray, List.getElem?_cons_succ, List.getElem?_cons_zero]; rfl)
                  focus kernel_rfl
                  focus kernel_rfl
                  focus kernel_rfl
                  focus exact (fun _ _ _ h => h)
                  refine Or.inr ⟨?_, rfl⟩
                  focus (go_simp; done)
                  focus assumption
                  (try simp only [Act.put, List.setIfInBounds_toArray, List.set_cons_zero, List.set_cons_succ])
                  refine' wpAnyH_take (i := 21) (v := undef) ?_ ?_ ?_ ?_ ?_ ?_ ?_ ?_
                  rotate_left 1
                  focus (simp only [List.getElem?_toArray, List.getElem?_cons_succ, List.getElem?_cons_zero]; rfl)
                  focus kernel_rfl
                  focus kernel_rfl
                  focus kernel_rfl
                  focus exact (fun _ _ _ h => h)
                  refine Or.inr ⟨?_, rfl⟩
                  focus (go_simp; done)
                  focus assumption
                  (try simp only [Act.put, List.setIfInBounds_toArray, List.set_cons_zero, List.set_cons_succ])
                  refine' wpAnyH_take (i := 22) (v := undef) ?_ ?_ ?_ ?_ ?_ ?_ ?_ ?_
                  rotate_left 1
                  focus (simp only [List.getElem?_toArray, List.getElem?_cons_succ, List.getElem?_cons_zero]; rfl)
                  focus kernel_rfl
                  focus kernel_rfl
                  focus kernel_rfl
                  focus exact (fun _ _ _ h => h)
                  refine Or.inr ⟨?_, rfl⟩
                  focus (go_simp; done)
                  focus assumption
                  (try simp only [Act.put, List.setIfInBounds_toArray, List.set_cons_zero, List.set_cons_succ])
                  refine' wpAnyH_take (i := 23) (v := undef) ?_ ?_ ?_ ?_ ?_ ?_ ?_ ?_
                  rotate_left 1
                  focus (simp only [List.getElem?_toArray, List.getElem?_cons_succ, List.getElem?_cons_zero]; rfl)
                  focus kernel_rfl
                  focus kernel_rfl
                  focus kernel_rfl
                  focus exact (fun _ _ _ h => h)
                  refine Or.inr ⟨?_, rfl⟩
                  focus (go_simp; done)
                  focus assumption
                  (try simp only [Act.put, List.setIfInBounds_toArray, List.set_cons_zero, List.set_cons_succ])
                  refine' wpAnyH_take (i := 24) (v := undef) ?_ ?_ ?_ ?_ ?_ ?_ ?_ ?_
                  rotate_left 1
                  focus (simp only [List.getElem?_toArray, List.getElem?_cons_succ, List.getElem?_cons_zero]; rfl)
                  focus kernel_rfl
                  focus kernel_rfl
                  focus kernel_rfl
                  focus exact (fun _ _ _ h => h)
                  refine Or.inr ⟨?_, rfl⟩
                  focus (go_simp; done)
                  focus assumption
                  (try simp only [Act.put, List.setIfInBounds_toArray, List.set_cons_zero, List.set_cons_succ])
                  refine' wpAnyH_take (i := 25) (v := undef) ?_ ?_ ?_ ?_ ?_ ?_ ?_ ?_
                  rotate_left 1
                  focus (simp only [List.getElem?_toArray, List.getElem?_cons_succ, List.getElem?_cons_zero]; rfl)
                  focus kernel_rfl
                  focus kernel_rfl
                  focus kernel_rfl
                  focus exact (fun _ _ _ h => h)
                  refine Or.inr ⟨?_, rfl⟩
                  focus (go_simp; done)
                  focus assumption
                  (try simp only [Act.put, List.setIfInBounds_toArray, List.set_cons_zero, List.set_cons_succ])
                  refine' wpAnyH_take (i := 26) (v := undef) ?_ ?_ ?_ ?_ ?_ ?_ ?_ ?_
                  rotate_left 1
                  focus (simp only [List.getElem?_toArray, List.getElem?_cons_succ, List.getElem?_cons_zero]; rfl)
                  focus kernel_rfl
                  focus kernel_rfl
                  focus kernel_rfl
                  focus exact (fun _ _ _ h => h)
                  refine Or.inr ⟨?_, rfl⟩
                  focus (go_simp; done)
                  focus assumption
                  (try simp only [Act.put, List.setIfInBounds_toArray, List.set_cons_zero, List.set_cons_succ])
                  refine' wpAnyH_take (i := 27) (v := undef) ?_ ?_ ?_ ?_ ?_ ?_ ?_ ?_
                  rotate_left 1
                  focus (simp only [List.getElem?_toArray, List.getElem?_cons_succ, List.getElem?_cons_zero]; rfl)
                  focus kernel_rfl
                  focus kernel_rfl
                  focus kernel_rfl
                  focus exact (fun _ _ _ h => h)
                  refine Or.inr ⟨?_, rfl⟩
                  focus (go_simp; done)
                  focus assumption
                  (try simp only [Act.put, List.setIfInBounds_toArray, List.set_cons_zero, List.set_cons_succ])
                  refine' wpAnyH_take (i := 28) (v := undef) ?_ ?_ ?_ ?_ ?_ ?_ ?_ ?_
                  rotate_left 1
                  focus (simp only [List.getElem?_toArray, List.getElem?_cons_succ, List.getElem?_cons_zero]; rfl)
                  focus kernel_rfl
                  focus kernel_rfl
                  focus kernel_rfl
                  focus exact (fun _ _ _ h => h)
                  refine Or.inr ⟨?_, rfl⟩
                  focus (go_simp; done)
                  focus assumption
                  (try simp only [Act.put, List.setIfInBounds_toArray, List.set_cons_zero, List.set_cons_succ])
                  refine' wpAnyH_take (i := 29) (v := undef) ?_ ?_ ?_ ?_ ?_ ?_ ?_ ?_
                  rotate_left 1
                  focus (simp only [List.getElem?_toArray, List.getElem?_cons_succ, List.getElem?_cons_zero]; rfl)
                  focus kernel_rfl
                  focus kernel_rfl
                  focus kernel_rfl
                  focus exact (fun _ _ _ h => h)
                  refine Or.inr ⟨?_, rfl⟩
                  focus (go_simp; done)
                  focus assumption
                  (try simp only [Act.put, List.setIfInBounds_toArray, List.set_cons_zero, List.set_cons_succ])
                  refine' wpAnyH_take (i := 30) (v := undef) ?_ ?_ ?_ ?_ ?_ ?_ ?_ ?_
                  rotate_left 1
                  focus (simp only [List.getElem?_toArray, List.getElem?_cons_succ, List.getElem?_cons_zero]; rfl)
                  focus kernel_rfl
                  focus kernel_rfl
                  focus kernel_rfl
                  focus exact (fun _ _ _ h => h)
                  refine Or.inr ⟨?_, rfl⟩
                  focus (go_simp; done)
                  focus assumption
                  (try simp only [Act.put, List.setIfInBounds_toArray, List.set_cons_zero, List.set_cons_succ])
                  refine' wpAnyH_take (i := 31) (v := undef) ?_ ?_ ?_ ?_ ?_ ?_ ?_ ?_
                  rotate_left 1
                  focus (simp only [List.getElem?_toArray, List.getElem?_cons_succ, List.getElem?_cons_zero]; rfl)
                  focus kernel_rfl
                  focus kernel_rfl
                  focus kernel_rfl
                  focus exact (fun _ _ _ h => h)
                  refine Or.inr ⟨?_, rfl⟩
                  focus (go_simp; done)
                  focus assumption
                  (try simp only [Act.put, List.setIfInBounds_toArray, List.set_cons_zero, List.set_cons_succ])
                  refine' wpAnyH_take (i := 32) (v := undef) ?_ ?_ ?_ ?_ ?_ ?_ ?_ ?_
                  rotate_left 1
                  focus (simp only [List.getElem?_toArray, List.getElem?_cons_succ, List.getElem?_cons_zero]; rfl)
                  focus kernel_rfl
                  focus kernel_rfl
                  focus kernel_rfl
                  focus exact (fun _ _ _ h => h)
                  refine Or.inr ⟨?_, rfl⟩
                  focus (go_simp; done)
                  focus assumption
                  (try simp only [Act.put, List.setIfInBounds_toArray, List.set_cons_zero, List.set_cons_succ])
                  refine' wpAnyH_take (i := 33) (v := undef) ?_ ?_ ?_ ?_ ?_ ?_ ?_ ?_
                  rotate_left 1
                  focus (simp only [List.getElem?_toArray, List.getElem?_cons_succ, List.getElem?_cons_zero]; rfl)
                  focus kernel_rfl
                  focus kernel_rfl
                  focus kernel_rfl
                  focus exact (fun _ _ _ h => h)
                  refine Or.inr ⟨?_, rfl⟩
                  focus (go_simp; done)
                  focus assumption
                  (try simp only [Act.put, List.setIfInBounds_toArray, List.set_cons_zero, List.set_cons_succ])
                  refine' wpAnyH_take (i := 34) (v := _) ?_ ?_ ?_ ?_ ?_ ?_ ?_ ?_
                  rotate_left 2
                  focus (simp only [List.getElem?_toArray, List.getElem?_cons_succ, List.getElem?_cons_zero]; rfl)
                  focus kernel_rfl
                  focus kernel_rfl
                  focus kernel_rfl
                  focus exact (fun _ _ _ h => h)
                  refine Or.inl ⟨?_, ?_⟩
                  focus (go_simp; done)
                  focus (intro w hSw; obtain ⟨⟨x0, y0⟩, ⟨_, f0, f1⟩⟩ := hSw; (first | (go_simp; done) | (go_simp; with_reducible rfl)))
                  focus assumption
                  (try simp only [Act.put, List.setIfInBounds_toArray, List.set_cons_zero, List.set_cons_succ])
                  refine wpAnyH_done (by kernel_rfl) ?_ _
                  go_wp2
                  go_ret
                  exact ⟨by rw [← HBad.out]; rfl, hHeld.2.1.1⟩
                · have HI := Lib.hid c4
                  cases k with
                  | zero =>
                    have k0 : ¬ (0 : Int) < ((0 : Nat) : Int) := by omega
                    have HOk := Lib.hid (show Fa.bad l 0 = false from hbad.trans (by simp [c1, c2, c3, c4]))
                    clear hbad
                    refine wp_region_held_drew (S := (fun u => (u.cell? ⟨wr.heap.size, 0, none⟩ = some (.int .i64 x) ∧ u.cell? ⟨wr.heap.size, 1, none⟩ = some (.int .i64 y)) ∧ Bf w (.slice (some ⟨b, off, none⟩) n c) most u)) (by kernel_rfl) (by exact ⟨⟨by simp, by simp⟩, (HK.out.2.below hb1).drew⟩) (fun hHeld => ?_)
                    refine' wpAnyH_take (i := 0) (v := _) ?_ ?_ ?_ ?_ ?_ ?_ ?_ ?_
                    rotate_left 2
                    focus (simp only [List.getElem?_toArray, List.getElem?_cons_succ, List.getElem?_cons_zero]; rfl)
                    focus kernel_rfl
                    focus kernel_rfl
                    focus kernel_rfl
                    focus exact (fun _ _ _ h => h)
                    refine Or.inl ⟨?_, ?_⟩
                    focus (go_simp; done)
                    focus (intro w hSw; obtain ⟨⟨x0, y0⟩, ⟨_, f0, f1⟩⟩ := hSw; (first | (go_simp; done) | (go_simp; with_reducible rfl)))
                    focus assumption
                    (try simp only [Act.put, List.setIfInBounds_toArray, List.set_cons_zero, List.set_cons_succ])
                    refine' wpAnyH_take (i := 1) (v := _) ?_ ?_ ?_ ?_ ?_ ?_ ?_ ?_
                    rotate_left 2
                    focus (simp only [List.getElem?_toArray, List.getElem?_cons_succ, List.getElem?_cons_zero]; rfl)
                    focus kernel_rfl
                    focus kernel_rfl
                    focus kernel_rfl
                    focus exact (fun _ _ _ h => h)
                    refine Or.inl ⟨?_, ?_⟩
                    focus (go_simp; done)
                    focus (intro w hSw; obtain ⟨⟨x0, y0⟩, ⟨_, f0, f1⟩⟩ := hSw; (first | (go_simp; done) | (go_simp; with_reducible rfl)))
                    focus assumption
                    (try simp only [Act.put, List.setIfInBounds_toArray, List.set_cons_zero, List.set_cons_succ])
                    refine' wpAnyH_take (i := 2) (v := _) ?_ ?_ ?_ ?_ ?_ ?_ ?_ ?_
                    rotate_left 2
                    focus (simp only [List.getElem?_toArray, List.getElem?_cons_succ, List.getElem?_cons_zero]; rfl)
                    focus kernel_rfl
                    focus kernel_rfl
                    focus kernel_rfl
                    focus exact (fun _ _ _ h => h)
                    refine Or.inl ⟨?_, ?_⟩
                    focus (go_simp; done)
                    focus (intro w hSw; obtain ⟨⟨x0, y0⟩, ⟨_, f0, f1⟩⟩ := hSw; (first | (go_simp; done) | (go_simp; with_reducible rfl)))
                    focus assumption
                    (try simp only [Act.put, List.setIfInBounds_toArray, List.set_cons_zero, List.set_cons_succ])
                    refine' wpAnyH_take (i := 3) (v := _) ?_ ?_ ?_ ?_ ?_ ?_ ?_ ?_
                    rotate_left 2
                    focus (simp only [List.getElem?_toArray, List.getElem?_cons_succ, List.getElem?_cons_zero]; rfl)
                    focus kernel_rfl
                    focus kernel_rfl
                    focus kernel_rfl
                    focus exact (fun _ _ _ h => h)
                    refine Or.inl ⟨?_, ?_⟩
                    focus (go_simp; done)
                    focus (intro w hSw; obtain ⟨⟨x0, y0⟩, ⟨_, f0, f1⟩⟩ := hSw; (first | (go_simp; done) | (go_simp; with_reducible rfl)))
                    focus assumption
                    (try simp only [Act.put, List.setIfInBounds_toArray, List.set_cons_zero, List.set_cons_succ])
                    refine' wpAnyH_take (i := 4) (v := _) ?_ ?_ ?_ ?_ ?_ ?_ ?_ ?_
                    rotate_left 2
                    focus (simp only [List.getElem?_toArray, List.getElem?_cons_succ, List.getElem?_cons_zero]; rfl)
                    focus kernel_rfl
                    focus kernel_rfl
                    focus kernel_rfl
                    focus exact (fun _ _ _ h => h)
                    refine Or.inl ⟨?_, ?_⟩
                    focus (go_simp; done)
                    focus (intro w hSw; obtain ⟨⟨x0, y0⟩, ⟨_, f0, f1⟩⟩ := hSw; (first | (go_simp; done) | (go_simp; with_reducible rfl)))
                    focus assumption
                    (try simp only [Act.put, List.setIfInBounds_toArray, List.set_cons_zero, List.set_cons_succ])
                    refine' wpAnyH_take (i := 5) (v := _) ?_ ?_ ?_ ?_ ?_ ?_ ?_ ?_
                    rotate_left 2
                    focus (simp only [List.getElem?_toArray, List.getElem?_cons_succ, List.getElem?_cons_zero]; rfl)
                    focus kernel_rfl
                    focus kernel_rfl
                    focus kernel_rfl
                    focus exact (fun _ _ _ h => h)
                    refine Or.inl ⟨?_, ?_⟩
                    focus (go_simp; done)
                    focus (intro w hSw; obtain ⟨⟨x0, y0⟩, ⟨_, f0, f1⟩⟩ := hSw; (first | (go_simp; done) | (go_simp; with_reducible rfl)))
                    focus assumption
                    (try simp only [Act.put, List.setIfInBounds_toArray, List.set_cons_zero, List.set_cons_succ])
                    refine' wpAnyH_take (i := 6) (v := _) ?_ ?_ ?_ ?_ ?_ ?_ ?_ ?_
                    rotate_left 2
                    focus (simp only [List.getElem?_toArray, List.getElem?_cons_succ, List.getElem?_cons_zero]; rfl)
                    focus kernel_rfl
                    focus kernel_rfl
                    focus kernel_rfl
                    focus exact (fun _ _ _ h => h)
                    refine Or.inl ⟨?_, ?_⟩
                    focus (go_simp; done)
                    focus (intro w hSw; obtain ⟨⟨x0, y0⟩, ⟨_, f0, f1⟩⟩ := hSw; (first | (go_simp; done) | (go_simp; with_reducible rfl)))
                    focus assumption
                    (try simp only [Act.put, List.setIfInBounds_toArray, List.set_cons_zero, List.set_cons_succ])
                    refine' wpAnyH_take (i := 7) (v := _) ?_ ?_ ?_ ?_ ?_ ?_ ?_ ?_
                    rotate_left 2
                    focus (simp only [List.getElem?_toArray, List.getElem?_cons_succ, List.getElem?_cons_zero]; rfl)
                    focus kernel_rfl
                    focus kernel_rfl
                    focus kernel_rfl
                    focus exact (fun _ _ _ h => h)
                    refine Or.inl ⟨?_, ?_⟩
                    focus (go_simp; done)
                    focus (intro w hSw; obtain ⟨⟨x0, y0⟩, ⟨_, f0, f1⟩⟩ := hSw; (first | (go_simp; done) | (go_simp; with_reducible rfl)))
                    focus assumption
                    (try simp only [Act.put, List.setIfInBounds_toArray, List.set_cons_zero, List.set_cons_succ])
                    refine' wpAnyH_take (i := 8) (v := _) ?_ ?_ ?_ ?_ ?_ ?_ ?_ ?_
                    rotate_left 2
                    focus (simp only [List.getElem?_toArray, List.getElem?_cons_succ, List.getElem?_cons_zero]; rfl)
                    focus kernel_rfl
                    focus kernel_rfl
                    focus kernel_rfl
                    focus exact (fun _ _ _ h => h)
                    refine Or.inl ⟨?_, ?_⟩
                    focus (go_simp; done)
                    focus (intro w hSw; obtain ⟨⟨x0, y0⟩, ⟨_, f0, f1⟩⟩ := hSw; (first | (go_simp; done) | (go_simp; with_reducible rfl)))
                    focus assumption
                    (try simp only [Act.put, List.setIfInBounds_toArray, List.set_cons_zero, List.set_cons_succ])
                    refine' wpAnyH_take (i := 9) (v := _) ?_ ?_ ?_ ?_ ?_ ?_ ?_ ?_
                    rotate_left 2
                    focus (simp only [List.getElem?_toArray, List.getElem?_cons_succ, List.getElem?_cons_zero]; rfl)
                    focus kernel_rfl
                    focus kernel_rfl
                    focus kernel_rfl
                    focus exact (fun _ _ _ h => h)
                    refine Or.inl ⟨?_, ?_⟩
                    focus (go_simp; done)
                    focus (intro w hSw; obtain ⟨⟨x0, y0⟩, ⟨_, f0, f1⟩⟩ := hSw; (first | (go_simp; done) | (go_simp; with_reducible rfl)))
                    focus assumption
                    (try simp only [Act.put, List.setIfInBounds_toArray, List.set_cons_zero, List.set_cons_succ])
                    refine' wpAnyH_take (i := 10) (v := _) ?_ ?_ ?_ ?_ ?_ ?_ ?_ ?_
                    rotate_left 2
                    focus (simp only [List.getElem?_toArray, List.getElem?_cons_succ, List.getElem?_cons_zero]; rfl)
                    focus kernel_rfl
                    focus kernel_rfl
                    focus kernel_rfl
                    focus exact (fun _ _ _ h => h)
                    refine Or.inl ⟨?_, ?_⟩
                    focus (go_simp; done)
                    focus (intro w hSw; obtain ⟨⟨x0, y0⟩, ⟨_, f0, f1⟩⟩ := hSw; (first | (go_simp; done) | (go_simp; with_reducible rfl)))
                    focus assumption
                    (try simp only [Act.put, List.setIfInBounds_toArray, List.set_cons_zero, List.set_cons_succ])
                    refine' wpAnyH_take (i := 11) (v := _) ?_ ?_ ?_ ?_ ?_ ?_ ?_ ?_
                    rotate_left 2
                    focus (simp only [List.getElem?_toArray, List.getElem?_cons_succ, List.getElem?_cons_zero]; rfl)
                    focus kernel_rfl
                    focus kernel_rfl
                    focus kernel_rfl
                    focus exact (fun _ _ _ h => h)
                    refine Or.inl ⟨?_, ?_⟩
                    focus (go_simp; done)
                    focus (intro w hSw; obtain ⟨⟨x0, y0⟩, ⟨_, f0, f1⟩⟩ := hSw; (first | (go_simp; done) | (go_simp; with_reducible rfl)))
                    focus assumption
                    (try simp only [Act.put, List.setIfInBounds_toArray, List.set_cons_zero, List.set_cons_succ])
                    refine' wpAnyH_take (i := 12) (v := _) ?_ ?_ ?_ ?_ ?_ ?_ ?_ ?_
                    rotate_left 2
                    focus (simp only [List.getElem?_toArray, List.getElem?_cons_succ, List.getElem?_cons_zero]; rfl)
                    focus kernel_rfl
                    focus kernel_rfl
                    focus kernel_rfl
                    focus exact (fun _ _ _ h => h)
                    refine Or.inl ⟨?_, ?_⟩
                    focus (go_simp; done)
                    focus (intro w hSw; obtain ⟨⟨x0, y0⟩, ⟨_, f0, f1⟩⟩ := hSw; (first | (go_simp; done) | (go_simp; with_reducible rfl)))
                    focus assumption
                    (try simp only [Act.put, List.setIfInBounds_toArray, List.set_cons_zero, List.set_cons_succ])
                    refine' wpAnyH_take (i := 13) (v := _) ?_ ?_ ?_ ?_ ?_ ?_ ?_ ?_
                    rotate_left 2
                    focus (simp only [List.getElem?_toArray, List.getElem?_cons_succ, List.getElem?_cons_zero]; rfl)
                    focus kernel_rfl
                    focus kernel_rfl
                    focus kernel_rfl
                    focus exact (fun _ _ _ h => h)
                    refine Or.inl ⟨?_, ?_⟩
                    focus (go_simp; done)
                    focus (intro w hSw; obtain ⟨⟨x0, y0⟩, ⟨_, f0, f1⟩⟩ := hSw; (first | (go_simp; done) | (go_simp; with_reducible rfl)))
                    focus assumption
                    (try simp only [Act.put, List.setIfInBounds_toArray, List.set_cons_zero, List.set_cons_succ])
                    refine' wpAnyH_take (i := 14) (v := _) ?_ ?_ ?_ ?_ ?_ ?_ ?_ ?_
                    rotate_left 2
                    focus (simp only [List.getElem?_toArray, List.getElem?_cons_succ, List.getElem?_cons_zero]; rfl)
                    focus kernel_rfl
                    focus kernel_rfl
                    focus kernel_rfl
                    focus exact (fun _ _ _ h => h)
                    refine Or.inl ⟨?_, ?_⟩
                    focus (go_simp; done)
                    focus (intro w hSw; obtain ⟨⟨x0, y0⟩, ⟨_, f0, f1⟩⟩ := hSw; (first | (go_simp; done) | (go_simp; with_reducible rfl)))
                    focus assumption
                    (try simp only [Act.put, List.setIfInBounds_toArray, List.set_cons_zero, List.set_cons_succ])
                    refine' wpAnyH_take (i := 15) (v := _) ?_ ?_ ?_ ?_ ?_ ?_ ?_ ?_
                    rotate_left 2
                    focus (simp only [List.getElem?_toArray, List.getElem?_cons_succ, List.getElem?_cons_zero]; rfl)
                    focus kernel_rfl
                    focus kernel_rfl
                    focus kernel_rfl
                    focus exact (fun _ _ _ h => h)
                    refine Or.inl ⟨?_, ?_⟩
                    focus (go_simp; done)
                    focus (intro w hSw; obtain ⟨⟨x0, y0⟩, ⟨_, f0, f1⟩⟩ := hSw; (first | (go_simp; done) | (go_simp; with_reducible rfl)))
                    focus assumption
                    (try simp only [Act.put, List.setIfInBounds_toArray, List.set_cons_zero, List.set_cons_succ])
                    refine wpAnyH_ready (rs := [16]) (by kernel_rfl) (by simp) ?_
                    refine' AllReadyH.cons ?_ (fun K hK => ?_) AllReadyH.nil
                    rotate_left
                    focus (simp only [List.getElem?_toArray, List.getElem?_cons_succ, List.getElem?_cons_zero]; rfl)
                    go_simp
                    (go_at_call 45; refine (rinB_any y true HI.out _).mono ?_; rintro e w4 ⟨rfl, hb⟩)
                    refine hK.out _ _ (⟨⟨(hb.cell (p := ⟨wr.heap.size, 0, none⟩) (by simp)).trans hHeld.1.1, (hb.cell (p := ⟨wr.heap.size, 1, none⟩) (by simp)).trans hHeld.1.2⟩, hHeld.2.below hb⟩) (fun hHeld => ?_)
                    clear hK K
                    (try simp only [Act.put, List.setIfInBounds_toArray, List.set_cons_zero, List.set_cons_succ])
                    clear hb
                    refine' wpAnyH_take (i := 17) (v := _) ?_ ?_ ?_ ?_ ?_ ?_ ?_ ?_
                    rotate_left 2
                    focus (simp only [List.getElem?_toArray, List.getElem?_cons_succ, List.getElem?_cons_zero]; rfl)
                    focus kernel_rfl
                    focus kernel_rfl
                    focus kernel_rfl
                    focus exact (fun _ _ _ h => h)
                    refine Or.inl ⟨?_, ?_⟩
                    focus (go_simp; done)
                    focus (intro w hSw; obtain ⟨⟨x0, y0⟩, ⟨_, f0, f1⟩⟩ := hSw; (first | (go_simp; done) | (go_simp; with_reducible rfl)))
                    focus assumption
                    (try simp only [Act.put, List.setIfInBounds_toArray, List.set_cons_zero, List.set_cons_succ])
                    refine' wpAnyH_take (i := 18) (v := _) ?_ ?_ ?_ ?_ ?_ ?_ ?_ ?_
                    rotate_left 2
                    focus (simp only [List.getElem?_toArray, List.getElem?_cons_succ, List.getElem?_cons_zero]; rfl)
                    focus kernel_rfl
                    focus kernel_rfl
                    focus kernel_rfl
                    focus exact (fun _ _ _ h => h)
                    refine Or.inl ⟨?_, ?_⟩
                    focus (go_simp; done)
                    focus (intro w hSw; obtain ⟨⟨x0, y0⟩, ⟨_, f0, f1⟩⟩ := hSw; (first | (go_simp; done) | (go_simp; with_reducible rfl)))
                    focus assumption
                    (try simp only [Act.put, List.setIfInBounds_toArray, List.set_cons_zero, List.set_cons_succ])
                    refine' wpAnyH_take (i := 19) (v := _) ?_ ?_ ?_ ?_ ?_ ?_ ?_ ?_
                    rotate_left 2
                    focus (simp only [List.getElem?_toArray, List.getElem?_cons_succ, List.getElem?_cons_zero]; rfl)
                    focus kernel_rfl
                    focus kernel_rfl
                    focus kernel_rfl
                    focus exact (fun _ _ _ h => h)
                    refine Or.inl ⟨?_, ?_⟩
                    focus (go_simp; done)
                    focus (intro w hSw; obtain ⟨⟨x0, y0⟩, ⟨_, f0, f1⟩⟩ := hSw; (first | (go_simp; done) | (go_simp; with_reducible rfl)))
                    focus assumption
                    (try simp only [Act.put, List.setIfInBounds_toArray, List.set_cons_zero, List.set_cons_succ])
                    refine' wpAnyH_take (i := 20) (v := _) ?_ ?_ ?_ ?_ ?_ ?_ ?_ ?_
                    rotate_left 2
                    focus (simp only [List.getElem?_toArray, List.getElem?_cons_succ, List.getElem?_cons_zero]; rfl)
                    focus kernel_rfl
                    focus kernel_rfl
                    focus kernel_rfl
                    focus exact (fun _ _ _ h => h)
                    refine Or.inl ⟨?_, ?_⟩
                    focus (go_simp; done)
                    focus (intro w hSw; obtain ⟨⟨x0, y0⟩, ⟨_, f0, f1⟩⟩ := hSw; (first | (go_simp; done) | (go_simp; with_reducible rfl)))
                    focus assumption
                    (try simp only [Act.put, List.setIfInBounds_toArray, List.set_cons_zero, List.set_cons_succ])
                    refine' wpAnyH_take (i := 21) (v := _) ?_ ?_ ?_ ?_ ?_ ?_ ?_ ?_
                    rotate_left 2
                    focus (simp only [List.getElem?_toArray, List.getElem?_cons_succ, List.getElem?_cons_zero]; rfl)
                    focus kernel_rfl
                    focus kernel_rfl
                    focus kernel_rfl
                    focus exact (fun _ _ _ h => h)
                    refine Or.inl ⟨?_, ?_⟩
                    focus (go_simp; done)
                    focus (intro w hSw; obtain ⟨⟨x0, y0⟩, ⟨_, f0, f1⟩⟩ := hSw; (first | (go_simp; done) | (go_simp; with_reducible rfl)))
                    focus assumption
                    (try simp only [Act.put, List.setIfInBounds_toArray, List.set_cons_zero, List.set_cons_succ])
                    refine' wpAnyH_take (i := 22) (v := _) ?_ ?_ ?_ ?_ ?_ ?_ ?_ ?_
                    rotate_left 2
                    focus (simp only [List.getElem?_toArray, List.getElem?_cons_succ, List.getElem?_cons_zero]; rfl)
                    focus kernel_rfl
                    focus kernel_rfl
                    focus kernel_rfl
                    focus exact (fun _ _ _ h => h)
                    refine Or.inl ⟨?_, ?_⟩
                    focus (go_simp; done)
                    focus (intro w hSw; obtain ⟨⟨x0, y0⟩, ⟨_, f0, f1⟩⟩ := hSw; (first | (go_simp; done) | (go_simp; with_reducible rfl)))
                    focus assumption
                    (try simp only [Act.put, List.setIfInBounds_toArray, List.set_cons_zero, List.set_cons_succ])
                    refine' wpAnyH_take (i := 23) (v := undef) ?_ ?_ ?_ ?_ ?_ ?_ ?_ ?_
                    rotate_left 1
                    focus (simp only [List.getElem?_toArray, List.getElem?_cons_succ, List.getElem?_cons_zero]; rfl)
                    focus kernel_rfl
                    focus kernel_rfl
                    focus kernel_rfl
                    focus exact (fun _ _ _ h => h)
                    refine Or.inr ⟨?_, rfl⟩
                    focus (go_simp; done)
                    focus assumption
                    (try simp only [Act.put, List.setIfInBounds_toArray, List.set_cons_zero, List.set_cons_succ])
                    refine' wpAnyH_take (i := 24) (v := undef) ?_ ?_ ?_ ?_ ?_ ?_ ?_ ?_
                    rotate_left 1
                    focus (simp only [List.getElem?_toArray, List.getElem?_cons_succ, List.getElem?_cons_zero]; rfl)
                    focus kernel_rfl
                    focus kernel_rfl
                    focus kernel_rfl
                    focus exact (fun _ _ _ h => h)
                    refine Or.inr ⟨?_, rfl⟩
                    focus (go_simp; done)
                    focus assumption
                    (try simp only [Act.put, List.setIfInBounds_toArray, List.set_cons_zero, List.set_cons_succ])
                    refine' wpAnyH_take (i := 25) (v := undef) ?_ ?_ ?_ ?_ ?_ ?_ ?_ ?_
                    rotate_left 1
                    focus (simp only [List.getElem?_toArray, List.getElem?_cons_succ, List.getElem?_cons_zero]; rfl)
                    focus kernel_rfl
                    focus kernel_rfl
                    focus kernel_rfl
                    focus exact (fun _ _ _ h => h)
                    refine Or.inr ⟨?_, rfl⟩
                    focus (go_simp; done)
                    focus assumption
                    (try simp only [Act.put, List.setIfInBounds_toArray, List.set_cons_zero, List.set_cons_succ])
                    refine' wpAnyH_take (i := 26) (v := undef) ?_ ?_ ?_ ?_ ?_ ?_ ?_ ?_
                    rotate_left 1
                    focus (simp only [List.getElem?_toArray, List.getElem?_cons_succ, List.getElem?_cons_zero]; rfl)
                    focus kernel_rfl
                    focus kernel_rfl
                    focus kernel_rfl
                    focus exact (fun _ _ _ h => h)
                    refine Or.inr ⟨?_, rfl⟩
                    focus (go_simp; done)
                    focus assumption
                    (try simp only [Act.put, List.setIfInBounds_toArray, List.set_cons_zero, List.set_cons_succ])
                    refine' wpAnyH_take (i := 27) (v := undef) ?_ ?_ ?_ ?_ ?_ ?_ ?_ ?_
                    rotate_left 1
                    focus (simp only [List.getElem?_toArray, List.getElem?_cons_succ, List.getElem?_cons_zero]; rfl)
                    focus kernel_rfl
                    focus kernel_rfl
                    focus kernel_rfl
                    focus exact (fun _ _ _ h => h)
                    refine Or.inr ⟨?_, rfl⟩
                    focus (go_simp; done)
                    focus assumption
                    (try simp only [Act.put, List.setIfInBounds_toArray, List.set_cons_zero, List.set_cons_succ])
                    refine' wpAnyH_take (i := 28) (v := undef) ?_ ?_ ?_ ?_ ?_ ?_ ?_ ?_
                    rotate_left 1
                    focus (simp only [List.getElem?_toArray, List.getElem?_cons_succ, List.getElem?_cons_zero]; rfl)
                    focus kernel_rfl
                    focus kernel_rfl
                    focus kernel_rfl
                    focus exact (fun _ _ _ h => h)
                    refine Or.inr ⟨?_, rfl⟩
                    focus (go_simp; done)
                    focus assumption
                    (try simp only [Act.put, List.setIfInBounds_toArray, List.set_cons_zero, List.set_cons_succ])
                    refine' wpAnyH_take (i := 29) (v := undef) ?_ ?_ ?_ ?_ ?_ ?_ ?_ ?_
                    rotate_left 1
                    focus (simp only [List.getElem?_toArray, List.getElem?_cons_succ, List.getElem?_cons_zero]; rfl)
                    focus kernel_rfl
                    focus kernel_rfl
                    focus kernel_rfl
                    focus exact (fun _ _ _ h => h)
                    refine Or.inr ⟨?_, rfl⟩
                    focus (go_simp; done)
                    focus assumption
                    (try simp only [Act.put, List.setIfInBounds_toArray, List.set_cons_zero, List.set_cons_succ])
                    refine' wpAnyH_take (i := 30) (v := undef) ?_ ?_ ?_ ?_ ?_ ?_ ?_ ?_
                    rotate_left 1
                    focus (simp only [List.getElem?_toArray, List.getElem?_cons_succ, List.getElem?_cons_zero]; rfl)
                    focus kernel_rfl
                    focus kernel_rfl
                    focus kernel_rfl
                    focus exact (fun _ _ _ h => h)
                    refine Or.inr ⟨?_, rfl⟩
                    focus (go_simp; done)
                    focus assumption
                    (try simp only [Act.put, List.setIfInBounds_toArray, List.set_cons_zero, List.set_cons_succ])
                    refine' wpAnyH_take (i := 31) (v := undef) ?_ ?_ ?_ ?_ ?_ ?_ ?_ ?_
                    rotate_left 1
                    focus (simp only [List.getElem?_toArray, List.getElem?_cons_succ, List.getElem?_cons_zero]; rfl)
                    focus kernel_rfl
                    focus kernel_rfl
                    focus kernel_rfl
                    focus exact (fun _ _ _ h => h)
                    refine Or.inr ⟨?_, rfl⟩
                    focus (go_simp; done)
                    focus assumption
                    (try simp only [Act.put, List.setIfInBounds_toArray, List.set_cons_zero, List.set_cons_succ])
                    refine' wpAnyH_take (i := 32) (v := undef) ?_ ?_ ?_ ?_ ?_ ?_ ?_ ?_
                    rotate_left 1
                    focus (simp only [List.getElem?_toArray, List.getElem?_cons_succ, List.getElem?_cons_zero]; rfl)
                    focus kernel_rfl
                    focus kernel_rfl
                    focus kernel_rfl
                    focus exact (fun _ _ _ h => h)
                    refine Or.inr ⟨?_, rfl⟩
                    focus (go_simp; done)
                    focus assumption
                    (try simp only [Act.put, List.setIfInBounds_toArray, List.set_cons_zero, List.set_cons_succ])
                    refine' wpAnyH_take (i := 33) (v := _) ?_ ?_ ?_ ?_ ?_ ?_ ?_ ?_
                    rotate_left 2
                    focus (simp only [List.getElem?_toArray, List.getElem?_cons_succ, List.getElem?_cons_zero]; rfl)
                    focus kernel_rfl
                    focus kernel_rfl
                    focus kernel_rfl
                    focus exact (fun _ _ _ h => h)
                    refine Or.inl ⟨?_, ?_⟩
                    focus (go_simp; done)
                    focus (intro w hSw; obtain ⟨⟨x0, y0⟩, ⟨_, f0, f1⟩⟩ := hSw; (first | (go_simp; done) | (go_simp; with_reducible rfl)))
                    focus assumption
                    (try simp only [Act.put, List.setIfInBounds_toArray, List.set_cons_zero, List.set_cons_succ])
                    refine' wpAnyH_take (i := 34) (v := _) ?_ ?_ ?_ ?_ ?_ ?_ ?_ ?_
                    rotate_left 2
                    focus (simp only [List.getElem?_toArray, List.getElem?_cons_succ, List.getElem?_cons_zero]; rfl)
                    focus kernel_rfl
                    focus kernel_rfl
                    focus kernel_rfl
                    focus exact (fun _ _ _ h => h)
                    refine Or.inl ⟨?_, ?_⟩
                    focus (go_simp; done)
                    focus (intro w hSw; obtain ⟨⟨x0, y0⟩, ⟨_, f0, f1⟩⟩ := hSw; (first | (go_simp; done) | (go_simp; with_reducible rfl)))
                    focus assumption
                    (try simp only [Act.put, List.setIfInBounds_toArray, List.set_cons_zero, List.set_cons_succ])
                    refine wpAnyH_done (by kernel_rfl) ?_ _
                    go_wp2
                    go_roundw
                    case rel => exact ⟨0 + 1, by omega, by first | rfl | go_num, Lib.hid ⟨fun j hj => by rcases Nat.lt_succ_iff_lt_or_eq.1 hj with h | rfl; exact HK.out.1 j h; exact HOk.out, hHeld.2⟩⟩
                    case measure => simp [intOf]; omega
                  | succ m =>
                    have k0 : (0 : Int) < ((m + 1 : Nat) : Int) := by omega
                    have wm : IntKind.i64.wrap (((m + 1 : Nat) : Int) - 1) = (m : Int) := by rw [IntWalk.i64_in] <;> omega
                    have wm2 : IntKind.i64.wrap (m : Int) = (m : Int) := by rw [IntWalk.i64_in]; omega
                    have hmn : m < n := by omega
                    have hmn' : (0 : Int) ≤ (m : Int) ∧ (m : Int) < (n : Int) := by omega
                    have hz1 := (hb1.cell (p := ⟨b, off + m * 2, none⟩) hbw).trans (hz m rfl)
                    have hbad' : Fa.bad l (m + 1) = (decide (x < 0) || decide (255 < x) || decide (y = 0) || !Fa.inC y || (decide (0 < m + 1) && decide (x ≤ (l.getD m (0, 0)).1))) := hbad
                    clear hbad
                    have hbad := hbad'
                    clear hbad' hz
                    generalize (l.getD m (0, 0)).1 = z at *
                    by_cases c5 : x ≤ z
                    · skip
                      have HBad := Lib.hid (show (10 : Int) = r by rw [← HR.out, Fa.chk_bad (by have := HN.out; omega) (by have := HN.out; omega) (hbad.trans (by simp [c5]))])
                      clear hbad
                      refine wp_region_held_drew (S := (fun u => (u.cell? ⟨wr.heap.size, 0, none⟩ = some (.int .i64 x) ∧ u.cell? ⟨wr.heap.size, 1, none⟩ = some (.int .i64 y)) ∧ Bf w (.slice (some ⟨b, off, none⟩) n c) most u ∧ u.cell? ⟨b, off + m * 2, none⟩ = some (.int .i64 z))) (by kernel_rfl) (by exact ⟨⟨by simp, by simp⟩, (HK.out.2.below hb1).drew, hz1⟩) (fun hHeld => ?_)
                      refine' wpAnyH_take (i := 0) (v := _) ?_ ?_ ?_ ?_ ?_ ?_ ?_ ?_
                      rotate_left 2
                      focus (simp only [List.getElem?_toArray, List.getElem?_cons_succ, List.getElem?_cons_zero]; rfl)
                      focus kernel_rfl
                      focus kernel_rfl
                      focus kernel_rfl
                      focus exact (fun _ _ _ h => h)
                      refine Or.inl ⟨?_, ?_⟩
                      focus (go_simp; done)
                      focus (intro w hSw; obtain ⟨⟨x0, y0⟩, ⟨_, f0, f1⟩, z0⟩ := hSw; (first | (go_simp; done) | (go_simp; with_reducible rfl)))
                      focus assumption
                      (try simp only [Act.put, List.setIfInBounds_toArray, List.set_cons_zero, List.set_cons_succ])
                      refine' wpAnyH_take (i := 1) (v := _) ?_ ?_ ?_ ?_ ?_ ?_ ?_ ?_
                      rotate_left 2
                      focus (simp only [List.getElem?_toArray, List.getElem?_cons_succ, List.getElem?_cons_zero]; rfl)
                      focus kernel_rfl
                      focus kernel_rfl
                      focus kernel_rfl
                      focus exact (fun _ _ _ h => h)
                      refine Or.inl ⟨?_, ?_⟩
                      focus (go_simp; done)
                      focus (intro w hSw; obtain ⟨⟨x0, y0⟩, ⟨_, f0, f1⟩, z0⟩ := hSw; (first | (go_simp; done) | (go_simp; with_reducible rfl)))
                      focus assumption
                      (try simp only [Act.put, List.setIfInBounds_toArray, List.set_cons_zero, List.set_cons_succ])
                      refine' wpAnyH_take (i := 2) (v := _) ?_ ?_ ?_ ?_ ?_ ?_ ?_ ?_
                      rotate_left 2
                      focus (simp only [List.getElem?_toArray, List.getElem?_cons_succ, List.getElem?_cons_zero]; rfl)
                      focus kernel_rfl
                      focus kernel_rfl
                      focus kernel_rfl
                      focus exact (fun _ _ _ h => h)
                      refine Or.inl ⟨?_, ?_⟩
                      focus (go_simp; done)
                      focus (intro w hSw; obtain ⟨⟨x0, y0⟩, ⟨_, f0, f1⟩, z0⟩ := hSw; (first | (go_simp; done) | (go_simp; with_reducible rfl)))
                      focus assumption
                      (try simp only [Act.put, List.setIfInBounds_toArray, List.set_cons_zero, List.set_cons_succ])
                      refine' wpAnyH_take (i := 3) (v := _) ?_ ?_ ?_ ?_ ?_ ?_ ?_ ?_
                      rotate_left 2
                      focus (simp only [List.getElem?_toArray, List.getElem?_cons_succ, List.getElem?_cons_zero]; rfl)
                      focus kernel_rfl
                      focus kernel_rfl
                      focus kernel_rfl
                      focus exact (fun _ _ _ h => h)
                      refine Or.inl ⟨?_, ?_⟩
                      focus (go_simp; done)
                      focus (intro w hSw; obtain ⟨⟨x0, y0⟩, ⟨_, f0, f1⟩, z0⟩ := hSw; (first | (go_simp; done) | (go_simp; with_reducible rfl)))
                      focus assumption
                      (try simp only [Act.put, List.setIfInBounds_toArray, List.set_cons_zero, List.set_cons_succ])
                      refine' wpAnyH_take (i := 4) (v := _) ?_ ?_ ?_ ?_ ?_ ?_ ?_ ?_
                      rotate_left 2
                      focus (simp only [List.getElem?_toArray, List.getElem?_cons_succ, List.getElem?_cons_zero]; rfl)
                      focus kernel_rfl
                      focus kernel_rfl
                      focus kernel_rfl
                      focus exact (fun _ _ _ h => h)
                      refine Or.inl ⟨?_, ?_⟩
                      focus (go_simp; done)
                      focus (intro w hSw; obtain ⟨⟨x0, y0⟩, ⟨_, f0, f1⟩, z0⟩ := hSw; (first | (go_simp; done) | (go_simp; with_reducible rfl)))
                      focus assumption
                      (try simp only [Act.put, List.setIfInBounds_toArray, List.set_cons_zero, List.set_cons_succ])
                      refine' wpAnyH_take (i := 5) (v := _) ?_ ?_ ?_ ?_ ?_ ?_ ?_ ?_
                      rotate_left 2
                      focus (simp only [List.getElem?_toArray, List.getElem?_cons_succ, List.getElem?_cons_zero]; rfl)
                      focus kernel_rfl
                      focus kernel_rfl
                      focus kernel_rfl
                      focus exact (fun _ _ _ h => h)
                      refine Or.inl ⟨?_, ?_⟩
                      focus (go_simp; done)
                      focus (intro w hSw; obtain ⟨⟨x0, y0⟩, ⟨_, f0, f1⟩, z0⟩ := hSw; (first | (go_simp; done) | (go_simp; with_reducible rfl)))
                      focus assumption
                      (try simp only [Act.put, List.setIfInBounds_toArray, List.set_cons_zero, List.set_cons_succ])
                      refine' wpAnyH_take (i := 6) (v := _) ?_ ?_ ?_ ?_ ?_ ?_ ?_ ?_
                      rotate_left 2
                      focus (simp only [List.getElem?_toArray, List.getElem?_cons_succ, List.getElem?_cons_zero]; rfl)
                      focus kernel_rfl
                      focus kernel_rfl
                      focus kernel_rfl
                      focus exact (fun _ _ _ h => h)
                      refine Or.inl ⟨?_, ?_⟩
                      focus (go_simp; done)
                      focus (intro w hSw; obtain ⟨⟨x0, y0⟩, ⟨_, f0, f1⟩, z0⟩ := hSw; (first | (go_simp; done) | (go_simp; with_reducible rfl)))
                      focus assumption
                      (try simp only [Act.put, List.setIfInBounds_toArray, List.set_cons_zero, List.set_cons_succ])
                      refine' wpAnyH_take (i := 7) (v := _) ?_ ?_ ?_ ?_ ?_ ?_ ?_ ?_
                      rotate_left 2
                      focus (simp only [List.getElem?_toArray, List.getElem?_cons_succ, List.getElem?_cons_zero]; rfl)
                      focus kernel_rfl
                      focus kernel_rfl
                      focus kernel_rfl
                      focus exact (fun _ _ _ h => h)
                      refine Or.inl ⟨?_, ?_⟩
                      focus (go_simp; done)
                      focus (intro w hSw; obtain ⟨⟨x0, y0⟩, ⟨_, f0, f1⟩, z0⟩ := hSw; (first | (go_simp; done) | (go_simp; with_reducible rfl)))
                      focus assumption
                      (try simp only [Act.put, List.setIfInBounds_toArray, List.set_cons_zero, List.set_cons_succ])
                      refine' wpAnyH_take (i := 8) (v := _) ?_ ?_ ?_ ?_ ?_ ?_ ?_ ?_
                      rotate_left 2
                      focus (simp only [List.getElem?_toArray, List.getElem?_cons_succ, List.getElem?_cons_zero]; rfl)
                      focus kernel_rfl
                      focus kernel_rfl
                      focus kernel_rfl
                      focus exact (fun _ _ _ h => h)
                      refine Or.inl ⟨?_, ?_⟩
                      focus (go_simp; done)
                      focus (intro w hSw; obtain ⟨⟨x0, y0⟩, ⟨_, f0, f1⟩, z0⟩ := hSw; (first | (go_simp; done) | (go_simp; with_reducible rfl)))
                      focus assumption
                      (try simp only [Act.put, List.setIfInBounds_toArray, List.set_cons_zero, List.set_cons_succ])
                      refine' wpAnyH_take (i := 9) (v := _) ?_ ?_ ?_ ?_ ?_ ?_ ?_ ?_
                      rotate_left 2
                      focus (simp only [List.getElem?_toArray, List.getElem?_cons_succ, List.getElem?_cons_zero]; rfl)
                      focus kernel_rfl
                      focus kernel_rfl
                      focus kernel_rfl
                      focus exact (fun _ _ _ h => h)
                      refine Or.inl ⟨?_, ?_⟩
                      focus (go_simp; done)
                      focus (intro w hSw; obtain ⟨⟨x0, y0⟩, ⟨_, f0, f1⟩, z0⟩ := hSw; (first | (go_simp; done) | (go_simp; with_reducible rfl)))
                      focus assumption
                      (try simp only [Act.put, List.setIfInBounds_toArray, List.set_cons_zero, List.set_cons_succ])
                      refine' wpAnyH_take (i := 10) (v := _) ?_ ?_ ?_ ?_ ?_ ?_ ?_ ?_
                      rotate_left 2
                      focus (simp only [List.getElem?_toArray, List.getElem?_cons_succ, List.getElem?_cons_zero]; rfl)
                      focus kernel_rfl
                      focus kernel_rfl
                      focus kernel_rfl
                      focus exact (fun _ _ _ h => h)
                      refine Or.inl ⟨?_, ?_⟩
                      focus (go_simp; done)
                      focus (intro w hSw; obtain ⟨⟨x0, y0⟩, ⟨_, f0, f1⟩, z0⟩ := hSw; (first | (go_simp; done) | (go_simp; with_reducible rfl)))
                      focus assumption
                      (try simp only [Act.put, List.setIfInBounds_toArray, List.set_cons_zero, List.set_cons_succ])
                      refine' wpAnyH_take (i := 11) (v := _) ?_ ?_ ?_ ?_ ?_ ?_ ?_ ?_
                      rotate_left 2
                      focus (simp only [List.getElem?_toArray, List.getElem?_cons_succ, List.getElem?_cons_zero]; rfl)
                      focus kernel_rfl
                      focus kernel_rfl
                      focus kernel_rfl
                      focus exact (fun _ _ _ h => h)
                      refine Or.inl ⟨?_, ?_⟩
                      focus (go_simp; done)
                      focus (intro w hSw; obtain ⟨⟨x0, y0⟩, ⟨_, f0, f1⟩, z0⟩ := hSw; (first | (go_simp; done) | (go_simp; with_reducible rfl)))
                      focus assumption
                      (try simp only [Act.put, List.setIfInBounds_toArray, List.set_cons_zero, List.set_cons_succ])
                      refine' wpAnyH_take (i := 12) (v := _) ?_ ?_ ?_ ?_ ?_ ?_ ?_ ?_
                      rotate_left 2
                      focus (simp only [List.getElem?_toArray, List.getElem?_cons_succ, List.getElem?_cons_zero]; rfl)
                      focus kernel_rfl
                      focus kernel_rfl
                      focus kernel_rfl
                      focus exact (fun _ _ _ h => h)
                      refine Or.inl ⟨?_, ?_⟩
                      focus (go_simp; done)
                      focus (intro w hSw; obtain ⟨⟨x0, y0⟩, ⟨_, f0, f1⟩, z0⟩ := hSw; (first | (go_simp; done) | (go_simp; with_reducible rfl)))
                      focus assumption
                      (try simp only [Act.put, List.setIfInBounds_toArray, List.set_cons_zero, List.set_cons_succ])
                      refine' wpAnyH_take (i := 13) (v := _) ?_ ?_ ?_ ?_ ?_ ?_ ?_ ?_
                      rotate_left 2
                      focus (simp only [List.getElem?_toArray, List.getElem?_cons_succ, List.getElem?_cons_zero]; rfl)
                      focus kernel_rfl
                      focus kernel_rfl
                      focus kernel_rfl
                      focus exact (fun _ _ _ h => h)
                      refine Or.inl ⟨?_, ?_⟩
                      focus (go_simp; done)
                      focus (intro w hSw; obtain ⟨⟨x0, y0⟩, ⟨_, f0, f1⟩, z0⟩ := hSw; (first | (go_simp; done) | (go_simp; with_reducible rfl)))
                      focus assumption
                      (try simp only [Act.put, List.setIfInBounds_toArray, List.set_cons_zero, List.set_cons_succ])
                      refine' wpAnyH_take (i := 14) (v := _) ?_ ?_ ?_ ?_ ?_ ?_ ?_ ?_
                      rotate_left 2
                      focus (simp only [List.getElem?_toArray, List.getElem?_cons_succ, List.getElem?_cons_zero]; rfl)
                      focus kernel_rfl
                      focus kernel_rfl
                      focus kernel_rfl
                      focus exact (fun _ _ _ h => h)
                      refine Or.inl ⟨?_, ?_⟩
                      focus (go_simp; done)
                      focus (intro w hSw; obtain ⟨⟨x0, y0⟩, ⟨_, f0, f1⟩, z0⟩ := hSw; (first | (go_simp; done) | (go_simp; with_reducible rfl)))
                      focus assumption
                      (try simp only [Act.put, List.setIfInBounds_toArray, List.set_cons_zero, List.set_cons_succ])
                      refine' wpAnyH_take (i := 15) (v := _) ?_ ?_ ?_ ?_ ?_ ?_ ?_ ?_
                      rotate_left 2
                      focus (simp only [List.getElem?_toArray, List.getElem?_cons_succ, List.getElem?_cons_zero]; rfl)
                      focus kernel_rfl
                      focus kernel_rfl
                      focus kernel_rfl
                      focus exact (fun _ _ _ h => h)
                      refine Or.inl ⟨?_, ?_⟩
                      focus (go_simp; done)
                      focus (intro w hSw; obtain ⟨⟨x0, y0⟩, ⟨_, f0, f1⟩, z0⟩ := hSw; (first | (go_simp; done) | (go_simp; with_reducible rfl)))
                      focus assumption
                      (try simp only [Act.put, List.setIfInBounds_toArray, List.set_cons_zero, List.set_cons_succ])
                      refine wpAnyH_ready (rs := [16]) (by kernel_rfl) (by simp) ?_
                      refine' AllReadyH.cons ?_ (fun K hK => ?_) AllReadyH.nil
                      rotate_left
                      focus (simp only [List.getElem?_toArray, List.getElem?_cons_succ, List.getElem?_cons_zero]; rfl)
                      go_simp
                      (go_at_call 45; refine (rinB_any y true HI.out _).mono ?_; rintro e w4 ⟨rfl, hb⟩)
                      refine hK.out _ _ (⟨⟨(hb.cell (p := ⟨wr.heap.size, 0, none⟩) (by simp)).trans hHeld.1.1, (hb.cell (p := ⟨wr.heap.size, 1, none⟩) (by simp)).trans hHeld.1.2⟩, hHeld.2.1.below hb, (hb.cell (p := ⟨b, off + m * 2, none⟩) (by simp; omega)).trans hHeld.2.2⟩) (fun hHeld => ?_)
                      clear hK K
                      (try simp only [Act.put, List.setIfInBounds_toArray, List.set_cons_zero, List.set_cons_succ])
                      clear hb
                      refine' wpAnyH_take (i := 17) (v := _) ?_ ?_ ?_ ?_ ?_ ?_ ?_ ?_
                      rotate_left 2
                      focus (simp only [List.getElem?_toArray, List.getElem?_cons_succ, List.getElem?_cons_zero]; rfl)
                      focus kernel_rfl
                      focus kernel_rfl
                      focus kernel_rfl
                      focus exact (fun _ _ _ h => h)
                      refine Or.inl ⟨?_, ?_⟩
                      focus (go_simp; done)
                      focus (intro w hSw; obtain ⟨⟨x0, y0⟩, ⟨_, f0, f1⟩, z0⟩ := hSw; (first | (go_simp; done) | (go_simp; with_reducible rfl)))
                      focus assumption
                      (try simp only [Act.put, List.setIfInBounds_toArray, List.set_cons_zero, List.set_cons_succ])
                      refine' wpAnyH_take (i := 18) (v := _) ?_ ?_ ?_ ?_ ?_ ?_ ?_ ?_
                      rotate_left 2
                      focus (simp only [List.getElem?_toArray, List.getElem?_cons_succ, List.getElem?_cons_zero]; rfl)
                      focus kernel_rfl
                      focus kernel_rfl
                      focus kernel_rfl
                      focus exact (fun _ _ _ h => h)
                      refine Or.inl ⟨?_, ?_⟩
                      focus (go_simp; done)
                      focus (intro w hSw; obtain ⟨⟨x0, y0⟩, ⟨_, f0, f1⟩, z0⟩ := hSw; (first | (go_simp; done) | (go_simp; with_reducible rfl)))
                      focus assumption
                      (try simp only [Act.put, List.setIfInBounds_toArray, List.set_cons_zero, List.set_cons_succ])
                      refine' wpAnyH_take (i := 19) (v := _) ?_ ?_ ?_ ?_ ?_ ?_ ?_ ?_
                      rotate_left 2
                      focus (simp only [List.getElem?_toArray, List.getElem?_cons_succ, List.getElem?_cons_zero]; rfl)
                      focus kernel_rfl
                      focus kernel_rfl
                      focus kernel_rfl
                      focus exact (fun _ _ _ h => h)
                      refine Or.inl ⟨?_, ?_⟩
                      focus (go_simp; done)
                      focus (intro w hSw; obtain ⟨⟨x0, y0⟩, ⟨_, f0, f1⟩, z0⟩ := hSw; (first | (go_simp; done) | (go_simp; with_reducible rfl)))
                      focus assumption
                      (try simp only [Act.put, List.setIfInBounds_toArray, List.set_cons_zero, List.set_cons_succ])
                      refine' wpAnyH_take (i := 20) (v := _) ?_ ?_ ?_ ?_ ?_ ?_ ?_ ?_
                      rotate_left 2
                      focus (simp only [List.getElem?_toArray, List.getElem?_cons_succ, List.getElem?_cons_zero]; rfl)
                      focus kernel_rfl
                      focus kernel_rfl
                      focus kernel_rfl
                      focus exact (fun _ _ _ h => h)
                      refine Or.inl ⟨?_, ?_⟩
                      focus (go_simp; done)
                      focus (intro w hSw; obtain ⟨⟨x0, y0⟩, ⟨_, f0, f1⟩, z0⟩ := hSw; (first | (go_simp; done) | (go_simp; with_reducible rfl)))
                      focus assumption
                      (try simp only [Act.put, List.setIfInBounds_toArray, List.set_cons_zero, List.set_cons_succ])
                      refine' wpAnyH_take (i := 21) (v := _) ?_ ?_ ?_ ?_ ?_ ?_ ?_ ?_
                      rotate_left 2
                      focus (simp only [List.getElem?_toArray, List.getElem?_cons_succ, List.getElem?_cons_zero]; rfl)
                      focus kernel_rfl
                      focus kernel_rfl
                      focus kernel_rfl
                      focus exact (fun _ _ _ h => h)
                      refine Or.inl ⟨?_, ?_⟩
                      focus (go_simp; done)
                      focus (intro w hSw; obtain ⟨⟨x0, y0⟩, ⟨_, f0, f1⟩, z0⟩ := hSw; (first | (go_simp; done) | (go_simp; with_reducible rfl)))
                      focus assumption
                      (try simp only [Act.put, List.setIfInBounds_toArray, List.set_cons_zero, List.set_cons_succ])
                      refine' wpAnyH_take (i := 22) (v := _) ?_ ?_ ?_ ?_ ?_ ?_ ?_ ?_
                      rotate_left 2
                      focus (simp only [List.getElem?_toArray, List.getElem?_cons_succ, List.getElem?_cons_zero]; rfl)
                      focus kernel_rfl
                      focus kernel_rfl
                      focus kernel_rfl
                      focus exact (fun _ _ _ h => h)
                      refine Or.inl ⟨?_, ?_⟩
                      focus (go_simp; done)
                      focus (intro w hSw; obtain ⟨⟨x0, y0⟩, ⟨_, f0, f1⟩, z0⟩ := hSw; (first | (go_simp; done) | (go_simp; with_reducible rfl)))
                      focus assumption
                      (try simp only [Act.put, List.setIfInBounds_toArray, List.set_cons_zero, List.set_cons_succ])
                      refine' wpAnyH_take (i := 23) (v := _) ?_ ?_ ?_ ?_ ?_ ?_ ?_ ?_
                      rotate_left 2
                      focus (simp only [List.getElem?_toArray, List.getElem?_cons_succ, List.getElem?_cons_zero]; rfl)
                      focus kernel_rfl
                      focus kernel_rfl
                      focus kernel_rfl
                      focus exact (fun _ _ _ h => h)
                      refine Or.inl ⟨?_, ?_⟩
                      focus (go_simp; done)
                      focus (intro w hSw; obtain ⟨⟨x0, y0⟩, ⟨_, f0, f1⟩, z0⟩ := hSw; (first | (go_simp; done) | (go_simp; with_reducible rfl)))
                      focus assumption
                      (try simp only [Act.put, List.setIfInBounds_toArray, List.set_cons_zero, List.set_cons_succ])
                      refine' wpAnyH_take (i := 24) (v := _) ?_ ?_ ?_ ?_ ?_ ?_ ?_ ?_
                      rotate_left 2
                      focus (simp only [List.getElem?_toArray, List.getElem?_cons_succ, List.getElem?_cons_zero]; rfl)
                      focus kernel_rfl
                      focus kernel_rfl
                      focus kernel_rfl
                      focus exact (fun _ _ _ h => h)
                      refine Or.inl ⟨?_, ?_⟩
                      focus (go_simp; done)
                      focus (intro w hSw; obtain ⟨⟨x0, y0⟩, ⟨_, f0, f1⟩, z0⟩ := hSw; (first | (go_simp; done) | (go_simp; with_reducible rfl)))
                      focus assumption
                      (try simp only [Act.put, List.setIfInBounds_toArray, List.set_cons_zero, List.set_cons_succ])
                      refine' wpAnyH_take (i := 25) (v := _) ?_ ?_ ?_ ?_ ?_ ?_ ?_ ?_
                      rotate_left 2
                      focus (simp only [List.getElem?_toArray, List.getElem?_cons_succ, List.getElem?_cons_zero]; rfl)
                      focus kernel_rfl
                      focus kernel_rfl
                      focus kernel_rfl
                      focus exact (fun _ _ _ h => h)
                      refine Or.inl ⟨?_, ?_⟩
                      focus (go_simp; done)
                      focus (intro w hSw; obtain ⟨⟨x0, y0⟩, ⟨_, f0, f1⟩, z0⟩ := hSw; (first | (go_simp; done) | (go_simp; with_reducible rfl)))
                      focus assumption
                      (try simp only [Act.put, List.setIfInBounds_toArray, List.set_cons_zero, List.set_cons_succ])
                      refine' wpAnyH_take (i := 26) (v := _) ?_ ?_ ?_ ?_ ?_ ?_ ?_ ?_
                      rotate_left 2
                      focus (simp only [List.getElem?_toArray, List.getElem?_cons_succ, List.getElem?_cons_zero]; rfl)
                      focus kernel_rfl
                      focus kernel_rfl
                      focus kernel_rfl
                      focus exact (fun _ _ _ h => h)
                      refine Or.inl ⟨?_, ?_⟩
                      focus (go_simp; done)
                      focus (intro w hSw; obtain ⟨⟨x0, y0⟩, ⟨_, f0, f1⟩, z0⟩ := hSw; (first | (go_simp; done) | (go_simp; with_reducible rfl)))
                      focus assumption
                      (try simp only [Act.put, List.setIfInBounds_toArray, List.set_cons_zero, List.set_cons_succ])
                      refine' wpAnyH_take (i := 27) (v := _) ?_ ?_ ?_ ?_ ?_ ?_ ?_ ?_
                      rotate_left 2
                      focus (simp only [List.getElem?_toArray, List.getElem?_cons_succ, List.getElem?_cons_zero]; rfl)
                      focus kernel_rfl
                      focus kernel_rfl
                      focus kernel_rfl
                      focus exact (fun _ _ _ h => h)
                      refine Or.inl ⟨?_, ?_⟩
                      focus (go_simp; done)
                      focus (intro w hSw; obtain ⟨⟨x0, y0⟩, ⟨_, f0, f1⟩, z0⟩ := hSw; (first | (go_simp; done) | (go_simp; with_reducible rfl)))
                      focus assumption
                      (try simp only [Act.put, List.setIfInBounds_toArray, List.set_cons_zero, List.set_cons_succ])
                      refine' wpAnyH_take (i := 28) (v := _) ?_ ?_ ?_ ?_ ?_ ?_ ?_ ?_
                      rotate_left 2
                      focus (simp only [List.getElem?_toArray, List.getElem?_cons_succ, List.getElem?_cons_zero]; rfl)
                      focus kernel_rfl
                      focus kernel_rfl
                      focus kernel_rfl
                      focus exact (fun _ _ _ h => h)
                      refine Or.inl ⟨?_, ?_⟩
                      focus (go_simp; done)
                      focus (intro w hSw; obtain ⟨⟨x0, y0⟩, ⟨_, f0, f1⟩, z0⟩ := hSw; (first | (go_simp; done) | (go_simp; with_reducible rfl)))
                      focus assumption
                      (try simp only [Act.put, List.setIfInBounds_toArray, List.set_cons_zero, List.set_cons_succ])
                      refine' wpAnyH_take (i := 29) (v := _) ?_ ?_ ?_ ?_ ?_ ?_ ?_ ?_
                      rotate_left 2
                      focus (simp only [List.getElem?_toArray, List.getElem?_cons_succ, List.getElem?_cons_zero]; rfl)
                      focus kernel_rfl
                      focus kernel_rfl
                      focus kernel_rfl
                      focus exact (fun _ _ _ h => h)
                      refine Or.inl ⟨?_, ?_⟩
                      focus (go_simp; done)
                      focus (intro w hSw; obtain ⟨⟨x0, y0⟩, ⟨_, f0, f1⟩, z0⟩ := hSw; (first | (go_simp; done) | (go_simp; with_reducible rfl)))
                      focus assumption
                      (try simp only [Act.put, List.setIfInBounds_toArray, List.set_cons_zero, List.set_cons_succ])
                      refine' wpAnyH_take (i := 30) (v := _) ?_ ?_ ?_ ?_ ?_ ?_ ?_ ?_
                      rotate_left 2
                      focus (simp only [List.getElem?_toArray, List.getElem?_cons_succ, List.getElem?_cons_zero]; rfl)
                      focus kernel_rfl
                      focus kernel_rfl
                      focus kernel_rfl
                      focus exact (fun _ _ _ h => h)
                      refine Or.inl ⟨?_, ?_⟩
                      focus (go_simp; done)
                      focus (intro w hSw; obtain ⟨⟨x0, y0⟩, ⟨_, f0, f1⟩, z0⟩ := hSw; (first | (go_simp; done) | (go_simp; with_reducible rfl)))
                      focus assumption
                      (try simp only [Act.put, List.setIfInBounds_toArray, List.set_cons_zero, List.set_cons_succ])
                      refine' wpAnyH_take (i := 31) (v := _) ?_ ?_ ?_ ?_ ?_ ?_ ?_ ?_
                      rotate_left 2
                      focus (simp only [List.getElem?_toArray, List.getElem?_cons_succ, List.getElem?_cons_zero]; rfl)
                      focus kernel_rfl
                      focus kernel_rfl
                      focus kernel_rfl
                      focus exact (fun _ _ _ h => h)
                      refine Or.inl ⟨?_, ?_⟩
                      focus (go_simp; done)
                      focus (intro w hSw; obtain ⟨⟨x0, y0⟩, ⟨_, f0, f1⟩, z0⟩ := hSw; (first | (go_simp; done) | (go_simp; with_reducible rfl)))
                      focus assumption
                      (try simp only [Act.put, List.setIfInBounds_toArray, List.set_cons_zero, List.set_cons_succ])
                      refine' wpAnyH_take (i := 32) (v := _) ?_ ?_ ?_ ?_ ?_ ?_ ?_ ?_
                      rotate_left 2
                      focus (simp only [List.getElem?_toArray, List.getElem?_cons_succ, List.getElem?_cons_zero]; rfl)
                      focus kernel_rfl
                      focus kernel_rfl
                      focus kernel_rfl
                      focus exact (fun _ _ _ h => h)
                      refine Or.inl ⟨?_, ?_⟩
                      focus (go_simp; done)
                      focus (intro w hSw; obtain ⟨⟨x0, y0⟩, ⟨_, f0, f1⟩, z0⟩ := hSw; (first | (go_simp; done) | (go_simp; with_reducible rfl)))
                      focus assumption
                      (try simp only [Act.put, List.setIfInBounds_toArray, List.set_cons_zero, List.set_cons_succ])
                      refine' wpAnyH_take (i := 33) (v := _) ?_ ?_ ?_ ?_ ?_ ?_ ?_ ?_
                      rotate_left 2
                      focus (simp only [List.getElem?_toArray, List.getElem?_cons_succ, List.getElem?_cons_zero]; rfl)
                      focus kernel_rfl
                      focus kernel_rfl
                      focus kernel_rfl
                      focus exact (fun _ _ _ h => h)
                      refine Or.inl ⟨?_, ?_⟩
                      focus (go_simp; done)
                      focus (intro w hSw; obtain ⟨⟨x0, y0⟩, ⟨_, f0, f1⟩, z0⟩ := hSw; (first | (go_simp; done) | (go_simp; with_reducible rfl)))
                      focus assumption
                      (try simp only [Act.put, List.setIfInBounds_toArray, List.set_cons_zero, List.set_cons_succ])
                      refine' wpAnyH_take (i := 34) (v := _) ?_ ?_ ?_ ?_ ?_ ?_ ?_ ?_
                      rotate_left 2
                      focus (simp only [List.getElem?_toArray, List.getElem?_cons_succ, List.getElem?_cons_zero]; rfl)
                      focus kernel_rfl
                      focus kernel_rfl
                      focus kernel_rfl
                      focus exact (fun _ _ _ h => h)
                      refine Or.inl ⟨?_, ?_⟩
                      focus (go_simp; done)
                      focus (intro w hSw; obtain ⟨⟨x0, y0⟩, ⟨_, f0, f1⟩, z0⟩ := hSw; (first | (go_simp; done) | (go_simp; with_reducible rfl)))
                      focus assumption
                      (try simp only [Act.put, List.setIfInBounds_toArray, List.set_cons_zero, List.set_cons_succ])
                      refine wpAnyH_done (by kernel_rfl) ?_ _
                      go_wp2
                      go_ret
                      exact ⟨by rw [← HBad.out]; rfl, hHeld.2.1.1.1⟩
                    · skip
                      have HOk := Lib.hid (show Fa.bad l (m + 1) = false from hbad.trans (by simp [c1, c2, c3, c4, c5]))
                      clear hbad
                      refine wp_region_held_drew (S := (fun u => (u.cell? ⟨wr.heap.size, 0, none⟩ = some (.int .i64 x) ∧ u.cell? ⟨wr.heap.size, 1, none⟩ = some (.int .i64 y)) ∧ Bf w (.slice (some ⟨b, off, none⟩) n c) most u ∧ u.cell? ⟨b, off + m * 2, none⟩ = some (.int .i64 z))) (by kernel_rfl) (by exact ⟨⟨by simp, by simp⟩, (HK.out.2.below hb1).drew, hz1⟩) (fun hHeld => ?_)
                      refine' wpAnyH_take (i := 0) (v := _) ?_ ?_ ?_ ?_ ?_ ?_ ?_ ?_
                      rotate_left 2
                      focus (simp only [List.getElem?_toArray, List.getElem?_cons_succ, List.getElem?_cons_zero]; rfl)
                      focus kernel_rfl
                      focus kernel_rfl
                      focus kernel_rfl
                      focus exact (fun _ _ _ h => h)
                      refine Or.inl ⟨?_, ?_⟩
                      focus (go_simp; done)
                      focus (intro w hSw; obtain ⟨⟨x0, y0⟩, ⟨_, f0, f1⟩, z0⟩ := hSw; (first | (go_simp; done) | (go_simp; with_reducible rfl)))
                      focus assumption
                      (try simp only [Act.put, List.setIfInBounds_toArray, List.set_cons_zero, List.set_cons_succ])
                      refine' wpAnyH_take (i := 1) (v := _) ?_ ?_ ?_ ?_ ?_ ?_ ?_ ?_
                      rotate_left 2
                      focus (simp only [List.getElem?_toArray, List.getElem?_cons_succ, List.getElem?_cons_zero]; rfl)
                      focus kernel_rfl
                      focus kernel_rfl
                      focus kernel_rfl
                      focus exact (fun _ _ _ h => h)
                      refine Or.inl ⟨?_, ?_⟩
                      focus (go_simp; done)
                      focus (intro w hSw; obtain ⟨⟨x0, y0⟩, ⟨_, f0, f1⟩, z0⟩ := hSw; (first | (go_simp; done) | (go_simp; with_reducible rfl)))
                      focus assumption
                      (try simp only [Act.put, List.setIfInBounds_toArray, List.set_cons_zero, List.set_cons_succ])
                      refine' wpAnyH_take (i := 2) (v := _) ?_ ?_ ?_ ?_ ?_ ?_ ?_ ?_
                      rotate_left 2
                      focus (simp only [List.getElem?_toArray, List.getElem?_cons_succ, List.getElem?_cons_zero]; rfl)
                      focus kernel_rfl
                      focus kernel_rfl
                      focus kernel_rfl
                      focus exact (fun _ _ _ h => h)
                      refine Or.inl ⟨?_, ?_⟩
                      focus (go_simp; done)
                      focus (intro w hSw; obtain ⟨⟨x0, y0⟩, ⟨_, f0, f1⟩, z0⟩ := hSw; (first | (go_simp; done) | (go_simp; with_reducible rfl)))
                      focus assumption
                      (try simp only [Act.put, List.setIfInBounds_toArray, List.set_cons_zero, List.set_cons_succ])
                      refine' wpAnyH_take (i := 3) (v := _) ?_ ?_ ?_ ?_ ?_ ?_ ?_ ?_
                      rotate_left 2
                      focus (simp only [List.getElem?_toArray, List.getElem?_cons_succ, List.getElem?_cons_zero]; rfl)
                      focus kernel_rfl
                      focus kernel_rfl
                      focus kernel_rfl
                      focus exact (fun _ _ _ h => h)
                      refine Or.inl ⟨?_, ?_⟩
                      focus (go_simp; done)
                      focus (intro w hSw; obtain ⟨⟨x0, y0⟩, ⟨_, f0, f1⟩, z0⟩ := hSw; (first | (go_simp; done) | (go_simp; with_reducible rfl)))
                      focus assumption
                      (try simp only [Act.put, List.setIfInBounds_toArray, List.set_cons_zero, List.set_cons_succ])
                      refine' wpAnyH_take (i := 4) (v := _) ?_ ?_ ?_ ?_ ?_ ?_ ?_ ?_
                      rotate_left 2
                      focus (simp only [List.getElem?_toArray, List.getElem?_cons_succ, List.getElem?_cons_zero]; rfl)
                      focus kernel_rfl
                      focus kernel_rfl
                      focus kernel_rfl
                      focus exact (fun _ _ _ h => h)
                      refine Or.inl ⟨?_, ?_⟩
                      focus (go_simp; done)
                      focus (intro w hSw; obtain ⟨⟨x0, y0⟩, ⟨_, f0, f1⟩, z0⟩ := hSw; (first | (go_simp; done) | (go_simp; with_reducible rfl)))
                      focus assumption
                      (try simp only [Act.put, List.setIfInBounds_toArray, List.set_cons_zero, List.set_cons_succ])
                      refine' wpAnyH_take (i := 5) (v := _) ?_ ?_ ?_ ?_ ?_ ?_ ?_ ?_
                      rotate_left 2
                      focus (simp only [List.getElem?_toArray, List.getElem?_cons_succ, List.getElem?_cons_zero]; rfl)
                      focus kernel_rfl
                      focus kernel_rfl
                      focus kernel_rfl
                      focus exact (fun _ _ _ h => h)
                      refine Or.inl ⟨?_, ?_⟩
                      focus (go_simp; done)
                      focus (intro w hSw; obtain ⟨⟨x0, y0⟩, ⟨_, f0, f1⟩, z0⟩ := hSw; (first | (go_simp; done) | (go_simp; with_reducible rfl)))
                      focus assumption
                      (try simp only [Act.put, List.setIfInBounds_toArray, List.set_cons_zero, List.set_cons_succ])
                      refine' wpAnyH_take (i := 6) (v := _) ?_ ?_ ?_ ?_ ?_ ?_ ?_ ?_
                      rotate_left 2
                      focus (simp only [List.getElem?_toArray, List.getElem?_cons_succ, List.getElem?_cons_zero]; rfl)
                      focus kernel_rfl
                      focus kernel_rfl
                      focus kernel_rfl
                      focus exact (fun _ _ _ h => h)
                      refine Or.inl ⟨?_, ?_⟩
                      focus (go_simp; done)
                      focus (intro w hSw; obtain ⟨⟨x0, y0⟩, ⟨_, f0, f1⟩, z0⟩ := hSw; (first | (go_simp; done) | (go_simp; with_reducible rfl)))
                      focus assumption
                      (try simp only [Act.put, List.setIfInBounds_toArray, List.set_cons_zero, List.set_cons_succ])
                      refine' wpAnyH_take (i := 7) (v := _) ?_ ?_ ?_ ?_ ?_ ?_ ?_ ?_
                      rotate_left 2
                      focus (simp only [List.getElem?_toArray, List.getElem?_cons_succ, List.getElem?_cons_zero]; rfl)
                      focus kernel_rfl
                      focus kernel_rfl
                      focus kernel_rfl
                      focus exact (fun _ _ _ h => h)
                      refine Or.inl ⟨?_, ?_⟩
                      focus (go_simp; done)
                      focus (intro w hSw; obtain ⟨⟨x0, y0⟩, ⟨_, f0, f1⟩, z0⟩ := hSw; (first | (go_simp; done) | (go_simp; with_reducible rfl)))
                      focus assumption
                      (try simp only [Act.put, List.setIfInBounds_toArray, List.set_cons_zero, List.set_cons_succ])
                      refine' wpAnyH_take (i := 8) (v := _) ?_ ?_ ?_ ?_ ?_ ?_ ?_ ?_
                      rotate_left 2
                      focus (simp only [List.getElem?_toArray, List.getElem?_cons_succ, List.getElem?_cons_zero]; rfl)
                      focus kernel_rfl
                      focus kernel_rfl
                      focus kernel_rfl
                      focus exact (fun _ _ _ h => h)
                      refine Or.inl ⟨?_, ?_⟩
                      focus (go_simp; done)
                      focus (intro w hSw; obtain ⟨⟨x0, y0⟩, ⟨_, f0, f1⟩, z0⟩ := hSw; (first | (go_simp; done) | (go_simp; with_reducible rfl)))
                      focus assumption
                      (try simp only [Act.put, List.setIfInBounds_toArray, List.set_cons_zero, List.set_cons_succ])
                      refine' wpAnyH_take (i := 9) (v := _) ?_ ?_ ?_ ?_ ?_ ?_ ?_ ?_
                      rotate_left 2
                      focus (simp only [List.getElem?_toArray, List.getElem?_cons_succ, List.getElem?_cons_zero]; rfl)
                      focus kernel_rfl
                      focus kernel_rfl
                      focus kernel_rfl
                      focus exact (fun _ _ _ h => h)
                      refine Or.inl ⟨?_, ?_⟩
                      focus (go_simp; done)
                      focus (intro w hSw; obtain ⟨⟨x0, y0⟩, ⟨_, f0, f1⟩, z0⟩ := hSw; (first | (go_simp; done) | (go_simp; with_reducible rfl)))
                      focus assumption
                      (try simp only [Act.put, List.setIfInBounds_toArray, List.set_cons_zero, List.set_cons_succ])
                      refine' wpAnyH_take (i := 10) (v := _) ?_ ?_ ?_ ?_ ?_ ?_ ?_ ?_
                      rotate_left 2
                      focus (simp only [List.getElem?_toArray, List.getElem?_cons_succ, List.getElem?_cons_zero]; rfl)
                      focus kernel_rfl
                      focus kernel_rfl
                      focus kernel_rfl
                      focus exact (fun _ _ _ h => h)
                      refine Or.inl ⟨?_, ?_⟩
                      focus (go_simp; done)
                      focus (intro w hSw; obtain ⟨⟨x0, y0⟩, ⟨_, f0, f1⟩, z0⟩ := hSw; (first | (go_simp; done) | (go_simp; with_reducible rfl)))
                      focus assumption
                      (try simp only [Act.put, List.setIfInBounds_toArray, List.set_cons_zero, List.set_cons_succ])
                      refine' wpAnyH_take (i := 11) (v := _) ?_ ?_ ?_ ?_ ?_ ?_ ?_ ?_
                      rotate_left 2
                      focus (simp only [List.getElem?_toArray, List.getElem?_cons_succ, List.getElem?_cons_zero]; rfl)
                      focus kernel_rfl
                      focus kernel_rfl
                      focus kernel_rfl
                      focus exact (fun _ _ _ h => h)
                      refine Or.inl ⟨?_, ?_⟩
                      focus (go_simp; done)
                      focus (intro w hSw; obtain ⟨⟨x0, y0⟩, ⟨_, f0, f1⟩, z0⟩ := hSw; (first | (go_simp; done) | (go_simp; with_reducible rfl)))
                      focus assumption
                      (try simp only [Act.put, List.setIfInBounds_toArray, List.set_cons_zero, List.set_cons_succ])
                      refine' wpAnyH_take (i := 12) (v := _) ?_ ?_ ?_ ?_ ?_ ?_ ?_ ?_
                      rotate_left 2
                      focus (simp only [List.getElem?_toArray, List.getElem?_cons_succ, List.getElem?_cons_zero]; rfl)
                      focus kernel_rfl
                      focus kernel_rfl
                      focus kernel_rfl
                      focus exact (fun _ _ _ h => h)
                      refine Or.inl ⟨?_, ?_⟩
                      focus (go_simp; done)
                      focus (intro w hSw; obtain ⟨⟨x0, y0⟩, ⟨_, f0, f1⟩, z0⟩ := hSw; (first | (go_simp; done) | (go_simp; with_reducible rfl)))
                      focus assumption
                      (try simp only [Act.put, List.setIfInBounds_toArray, List.set_cons_zero, List.set_cons_succ])
                      refine' wpAnyH_take (i := 13) (v := _) ?_ ?_ ?_ ?_ ?_ ?_ ?_ ?_
                      rotate_left 2
                      focus (simp only [List.getElem?_toArray, List.getElem?_cons_succ, List.getElem?_cons_zero]; rfl)
                      focus kernel_rfl
                      focus kernel_rfl
                      focus kernel_rfl
                      focus exact (fun _ _ _ h => h)
                      refine Or.inl ⟨?_, ?_⟩
                      focus (go_simp; done)
                      focus (intro w hSw; obtain ⟨⟨x0, y0⟩, ⟨_, f0, f1⟩, z0⟩ := hSw; (first | (go_simp; done) | (go_simp; with_reducible rfl)))
                      focus assumption
                      (try simp only [Act.put, List.setIfInBounds_toArray, List.set_cons_zero, List.set_cons_succ])
                      refine' wpAnyH_take (i := 14) (v := _) ?_ ?_ ?_ ?_ ?_ ?_ ?_ ?_
                      rotate_left 2
                      focus (simp only [List.getElem?_toArray, List.getElem?_cons_succ, List.getElem?_cons_zero]; rfl)
                      focus kernel_rfl
                      focus kernel_rfl
                      focus kernel_rfl
                      focus exact (fun _ _ _ h => h)
                      refine Or.inl ⟨?_, ?_⟩
                      focus (go_simp; done)
                      focus (intro w hSw; obtain ⟨⟨x0, y0⟩, ⟨_, f0, f1⟩, z0⟩ := hSw; (first | (go_simp; done) | (go_simp; with_reducible rfl)))
                      focus assumption
                      (try simp only [Act.put, List.setIfInBounds_toArray, List.set_cons_zero, List.set_cons_succ])
                      refine' wpAnyH_take (i := 15) (v := _) ?_ ?_ ?_ ?_ ?_ ?_ ?_ ?_
                      rotate_left 2
                      focus (simp only [List.getElem?_toArray, List.getElem?_cons_succ, List.getElem?_cons_zero]; rfl)
                      focus kernel_rfl
                      focus kernel_rfl
                      focus kernel_rfl
                      focus exact (fun _ _ _ h => h)
                      refine Or.inl ⟨?_, ?_⟩
                      focus (go_simp; done)
                      focus (intro w hSw; obtain ⟨⟨x0, y0⟩, ⟨_, f0, f1⟩, z0⟩ := hSw; (first | (go_simp; done) | (go_simp; with_reducible rfl)))
                      focus assumption
                      (try simp only [Act.put, List.setIfInBounds_toArray, List.set_cons_zero, List.set_cons_succ])
                      refine wpAnyH_ready (rs := [16]) (by kernel_rfl) (by simp) ?_
                      refine' AllReadyH.cons ?_ (fun K hK => ?_) AllReadyH.nil
                      rotate_left
                      focus (simp only [List.getElem?_toArray, List.getElem?_cons_succ, List.getElem?_cons_zero]; rfl)
                      go_simp
                      (go_at_call 45; refine (rinB_any y true HI.out _).mono ?_; rintro e w4 ⟨rfl, hb⟩)
                      refine hK.out _ _ (⟨⟨(hb.cell (p := ⟨wr.heap.size, 0, none⟩) (by simp)).trans hHeld.1.1, (hb.cell (p := ⟨wr.heap.size, 1, none⟩) (by simp)).trans hHeld.1.2⟩, hHeld.2.1.below hb, (hb.cell (p := ⟨b, off + m * 2, none⟩) (by simp; omega)).trans hHeld.2.2⟩) (fun hHeld => ?_)
                      clear hK K
                      (try simp only [Act.put, List.setIfInBounds_toArray, List.set_cons_zero, List.set_cons_succ])
                      clear hb
                      refine' wpAnyH_take (i := 17) (v := _) ?_ ?_ ?_ ?_ ?_ ?_ ?_ ?_
                      rotate_left 2
                      focus (simp only [List.getElem?_toArray, List.getElem?_cons_succ, List.getElem?_cons_zero]; rfl)
                      focus kernel_rfl
                      focus kernel_rfl
                      focus kernel_rfl
                      focus exact (fun _ _ _ h => h)
                      refine Or.inl ⟨?_, ?_⟩
                      focus (go_simp; done)
                      focus (intro w hSw; obtain ⟨⟨x0, y0⟩, ⟨_, f0, f1⟩, z0⟩ := hSw; (first | (go_simp; done) | (go_simp; with_reducible rfl)))
                      focus assumption
                      (try simp only [Act.put, List.setIfInBounds_toArray, List.set_cons_zero, List.set_cons_succ])
                      refine' wpAnyH_take (i := 18) (v := _) ?_ ?_ ?_ ?_ ?_ ?_ ?_ ?_
                      rotate_left 2
                      focus (simp only [List.getElem?_toArray, List.getElem?_cons_succ, List.getElem?_cons_zero]; rfl)
                      focus kernel_rfl
                      focus kernel_rfl
                      focus kernel_rfl
                      focus exact (fun _ _ _ h => h)
                      refine Or.inl ⟨?_, ?_⟩
                      focus (go_simp; done)
                      focus (intro w hSw; obtain ⟨⟨x0, y0⟩, ⟨_, f0, f1⟩, z0⟩ := hSw; (first | (go_simp; done) | (go_simp; with_reducible rfl)))
                      focus assumption
                      (try simp only [Act.put, List.setIfInBounds_toArray, List.set_cons_zero, List.set_cons_succ])
                      refine' wpAnyH_take (i := 19) (v := _) ?_ ?_ ?_ ?_ ?_ ?_ ?_ ?_
                      rotate_left 2
                      focus (simp only [List.getElem?_toArray, List.getElem?_cons_succ, List.getElem?_cons_zero]; rfl)
                      focus kernel_rfl
                      focus kernel_rfl
                      focus kernel_rfl
                      focus exact (fun _ _ _ h => h)
                      refine Or.inl ⟨?_, ?_⟩
                      focus (go_simp; done)
                      focus (intro w hSw; obtain ⟨⟨x0, y0⟩, ⟨_, f0, f1⟩, z0⟩ := hSw; (first | (go_simp; done) | (go_simp; with_reducible rfl)))
                      focus assumption
                      (try simp only [Act.put, List.setIfInBounds_toArray, List.set_cons_zero, List.set_cons_succ])
                      refine' wpAnyH_take (i := 20) (v := _) ?_ ?_ ?_ ?_ ?_ ?_ ?_ ?_
                      rotate_left 2
                      focus (simp only [List.getElem?_toArray, List.getElem?_cons_succ, List.getElem?_cons_zero]; rfl)
                      focus kernel_rfl
                      focus kernel_rfl
                      focus kernel_rfl
                      focus exact (fun _ _ _ h => h)
                      refine Or.inl ⟨?_, ?_⟩
                      focus (go_simp; done)
                      focus (intro w hSw; obtain ⟨⟨x0, y0⟩, ⟨_, f0, f1⟩, z0⟩ := hSw; (first | (go_simp; done) | (go_simp; with_reducible rfl)))
                      focus assumption
                      (try simp only [Act.put, List.setIfInBounds_toArray, List.set_cons_zero, List.set_cons_succ])
                      refine' wpAnyH_take (i := 21) (v := _) ?_ ?_ ?_ ?_ ?_ ?_ ?_ ?_
                      rotate_left 2
                      focus (simp only [List.getElem?_toArray, List.getElem?_cons_succ, List.getElem?_cons_zero]; rfl)
                      focus kernel_rfl
                      focus kernel_rfl
                      focus kernel_rfl
                      focus exact (fun _ _ _ h => h)
                      refine Or.inl ⟨?_, ?_⟩
                      focus (go_simp; done)
                      focus (intro w hSw; obtain ⟨⟨x0, y0⟩, ⟨_, f0, f1⟩, z0⟩ := hSw; (first | (go_simp; done) | (go_simp; with_reducible rfl)))
                      focus assumption
                      (try simp only [Act.put, List.setIfInBounds_toArray, List.set_cons_zero, List.set_cons_succ])
                      refine' wpAnyH_take (i := 22) (v := _) ?_ ?_ ?_ ?_ ?_ ?_ ?_ ?_
                      rotate_left 2
                      focus (simp only [List.getElem?_toArray, List.getElem?_cons_succ, List.getElem?_cons_zero]; rfl)
                      focus kernel_rfl
                      focus kernel_rfl
                      focus kernel_rfl
                      focus exact (fun _ _ _ h => h)
                      refine Or.inl ⟨?_, ?_⟩
                      focus (go_simp; done)
                      focus (intro w hSw; obtain ⟨⟨x0, y0⟩, ⟨_, f0, f1⟩, z0⟩ := hSw; (first | (go_simp; done) | (go_simp; with_reducible rfl)))
                      focus assumption
                      (try simp only [Act.put, List.setIfInBounds_toArray, List.set_cons_zero, List.set_cons_succ])
                      refine' wpAnyH_take (i := 23) (v := _) ?_ ?_ ?_ ?_ ?_ ?_ ?_ ?_
                      rotate_left 2
                      focus (simp only [List.getElem?_toArray, List.getElem?_cons_succ, List.getElem?_cons_zero]; rfl)
                      focus kernel_rfl
                      focus kernel_rfl
                      focus kernel_rfl
                      focus exact (fun _ _ _ h => h)
                      refine Or.inl ⟨?_, ?_⟩
                      focus (go_simp; done)
                      focus (intro w hSw; obtain ⟨⟨x0, y0⟩, ⟨_, f0, f1⟩, z0⟩ := hSw; (first | (go_simp; done) | (go_simp; with_reducible rfl)))
                      focus assumption
                      (try simp only [Act.put, List.setIfInBounds_toArray, List.set_cons_zero, List.set_cons_succ])
                      refine' wpAnyH_take (i := 24) (v := _) ?_ ?_ ?_ ?_ ?_ ?_ ?_ ?_
                      rotate_left 2
                      focus (simp only [List.getElem?_toArray, List.getElem?_cons_succ, List.getElem?_cons_zero]; rfl)
                      focus kernel_rfl
                      focus kernel_rfl
                      focus kernel_rfl
                      focus exact (fun _ _ _ h => h)
                      refine Or.inl ⟨?_, ?_⟩
                      focus (go_simp; done)
                      focus (intro w hSw; obtain ⟨⟨x0, y0⟩, ⟨_, f0, f1⟩, z0⟩ := hSw; (first | (go_simp; done) | (go_simp; with_reducible rfl)))
                      focus assumption
                      (try simp only [Act.put, List.setIfInBounds_toArray, List.set_cons_zero, List.set_cons_succ])
                      refine' wpAnyH_take (i := 25) (v := _) ?_ ?_ ?_ ?_ ?_ ?_ ?_ ?_
                      rotate_left 2
                      focus (simp only [List.getElem?_toArray, List.getElem?_cons_succ, List.getElem?_cons_zero]; rfl)
                      focus kernel_rfl
                      focus kernel_rfl
                      focus kernel_rfl
                      focus exact (fun _ _ _ h => h)
                      refine Or.inl ⟨?_, ?_⟩
                      focus (go_simp; done)
                      focus (intro w hSw; obtain ⟨⟨x0, y0⟩, ⟨_, f0, f1⟩, z0⟩ := hSw; (first | (go_simp; done) | (go_simp; with_reducible rfl)))
                      focus assumption
                      (try simp only [Act.put, List.setIfInBounds_toArray, List.set_cons_zero, List.set_cons_succ])
                      refine' wpAnyH_take (i := 26) (v := _) ?_ ?_ ?_ ?_ ?_ ?_ ?_ ?_
                      rotate_left 2
                      focus (simp only [List.getElem?_toArray, List.getElem?_cons_succ, List.getElem?_cons_zero]; rfl)
                      focus kernel_rfl
                      focus kernel_rfl
                      focus kernel_rfl
                      focus exact (fun _ _ _ h => h)
                      refine Or.inl ⟨?_, ?_⟩
                      focus (go_simp; done)
                      focus (intro w hSw; obtain ⟨⟨x0, y0⟩, ⟨_, f0, f1⟩, z0⟩ := hSw; (first | (go_simp; done) | (go_simp; with_reducible rfl)))
                      focus assumption
                      (try simp only [Act.put, List.setIfInBounds_toArray, List.set_cons_zero, List.set_cons_succ])
                      refine' wpAnyH_take (i := 27) (v := _) ?_ ?_ ?_ ?_ ?_ ?_ ?_ ?_
                      rotate_left 2
                      focus (simp only [List.getElem?_toArray, List.getElem?_cons_succ, List.getElem?_cons_zero]; rfl)
                      focus kernel_rfl
                      focus kernel_rfl
                      focus kernel_rfl
                      focus exact (fun _ _ _ h => h)
                      refine Or.inl ⟨?_, ?_⟩
                      focus (go_simp; done)
                      focus (intro w hSw; obtain ⟨⟨x0, y0⟩, ⟨_, f0, f1⟩, z0⟩ := hSw; (first | (go_simp; done) | (go_simp; with_reducible rfl)))
                      focus assumption
                      (try simp only [Act.put, List.setIfInBounds_toArray, List.set_cons_zero, List.set_cons_succ])
                      refine' wpAnyH_take (i := 28) (v := _) ?_ ?_ ?_ ?_ ?_ ?_ ?_ ?_
                      rotate_left 2
                      focus (simp only [List.getElem?_toArray, List.getElem?_cons_succ, List.getElem?_cons_zero]; rfl)
                      focus kernel_rfl
                      focus kernel_rfl
                      focus kernel_rfl
                      focus exact (fun _ _ _ h => h)
                      refine Or.inl ⟨?_, ?_⟩
                      focus (go_simp; done)
                      focus (intro w hSw; obtain ⟨⟨x0, y0⟩, ⟨_, f0, f1⟩, z0⟩ := hSw; (first | (go_simp; done) | (go_simp; with_reducible rfl)))
                      focus assumption
                      (try simp only [Act.put, List.setIfInBounds_toArray, List.set_cons_zero, List.set_cons_succ])
                      refine' wpAnyH_take (i := 29) (v := _) ?_ ?_ ?_ ?_ ?_ ?_ ?_ ?_
                      rotate_left 2
                      focus (simp only [List.getElem?_toArray, List.getElem?_cons_succ, List.getElem?_cons_zero]; rfl)
                      focus kernel_rfl
                      focus kernel_rfl
                      focus kernel_rfl
                      focus exact (fun _ _ _ h => h)
                      refine Or.inl ⟨?_, ?_⟩
                      focus (go_simp; done)
                      focus (intro w hSw; obtain ⟨⟨x0, y0⟩, ⟨_, f0, f1⟩, z0⟩ := hSw; (first | (go_simp; done) | (go_simp; with_reducible rfl)))
                      focus assumption
                      (try simp only [Act.put, List.setIfInBounds_toArray, List.set_cons_zero, List.set_cons_succ])
                      refine' wpAnyH_take (i := 30) (v := _) ?_ ?_ ?_ ?_ ?_ ?_ ?_ ?_
                      rotate_left 2
                      focus (simp only [List.getElem?_toArray, List.getElem?_cons_succ, List.getElem?_cons_zero]; rfl)
                      focus kernel_rfl
                      focus kernel_rfl
                      focus kernel_rfl
                      focus exact (fun _ _ _ h => h)
                      refine Or.inl ⟨?_, ?_⟩
                      focus (go_simp; done)
                      focus (intro w hSw; obtain ⟨⟨x0, y0⟩, ⟨_, f0, f1⟩, z0⟩ := hSw; (first | (go_simp; done) | (go_simp; with_reducible rfl)))
                      focus assumption
                      (try simp only [Act.put, List.setIfInBounds_toArray, List.set_cons_zero, List.set_cons_succ])
                      refine' wpAnyH_take (i := 31) (v := _) ?_ ?_ ?_ ?_ ?_ ?_ ?_ ?_
                      rotate_left 2
                      focus (simp only [List.getElem?_toArray, List.getElem?_cons_succ, List.getElem?_cons_zero]; rfl)
                      focus kernel_rfl
                      focus kernel_rfl
                      focus kernel_rfl
                      focus exact (fun _ _ _ h => h)
                      refine Or.inl ⟨?_, ?_⟩
                      focus (go_simp; done)
                      focus (intro w hSw; obtain ⟨⟨x0, y0⟩, ⟨_, f0, f1⟩, z0⟩ := hSw; (first | (go_simp; done) | (go_simp; with_reducible rfl)))
                      focus assumption
                      (try simp only [Act.put, List.setIfInBounds_toArray, List.set_cons_zero, List.set_cons_succ])
                      refine' wpAnyH_take (i := 32) (v := _) ?_ ?_ ?_ ?_ ?_ ?_ ?_ ?_
                      rotate_left 2
                      focus (simp only [List.getElem?_toArray, List.getElem?_cons_succ, List.getElem?_cons_zero]; rfl)
                      focus kernel_rfl
                      focus kernel_rfl
                      focus kernel_rfl
                      focus exact (fun _ _ _ h => h)
                      refine Or.inl ⟨?_, ?_⟩
                      focus (go_simp; done)
                      focus (intro w hSw; obtain ⟨⟨x0, y0⟩, ⟨_, f0, f1⟩, z0⟩ := hSw; (first | (go_simp; done) | (go_simp; with_reducible rfl)))
                      focus assumption
                      (try simp only [Act.put, List.setIfInBounds_toArray, List.set_cons_zero, List.set_cons_succ])
                      refine' wpAnyH_take (i := 33) (v := _) ?_ ?_ ?_ ?_ ?_ ?_ ?_ ?_
                      rotate_left 2
                      focus (simp only [List.getElem?_toArray, List.getElem?_cons_succ, List.getElem?_cons_zero]; rfl)
                      focus kernel_rfl
                      focus kernel_rfl
                      focus kernel_rfl
                      focus exact (fun _ _ _ h => h)
                      refine Or.inl ⟨?_, ?_⟩
                      focus (go_simp; done)
                      focus (intro w hSw; obtain ⟨⟨x0, y0⟩, ⟨_, f0, f1⟩, z0⟩ := hSw; (first | (go_simp; done) | (go_simp; with_reducible rfl)))
                      focus assumption
                      (try simp only [Act.put, List.setIfInBounds_toArray, List.set_cons_zero, List.set_cons_succ])
                      refine' wpAnyH_take (i := 34) (v := _) ?_ ?_ ?_ ?_ ?_ ?_ ?_ ?_
                      rotate_left 2
                      focus (simp only [List.getElem?_toArray, List.getElem?_cons_succ, List.getElem?_cons_zero]; rfl)
                      focus kernel_rfl
                      focus kernel_rfl
                      focus kernel_rfl
                      focus exact (fun _ _ _ h => h)
                      refine Or.inl ⟨?_, ?_⟩
                      focus (go_simp; done)
                      focus (intro w hSw; obtain ⟨⟨x0, y0⟩, ⟨_, f0, f1⟩, z0⟩ := hSw; (first | (go_simp; done) | (go_simp; with_reducible rfl)))
                      focus assumption
                      (try simp only [Act.put, List.setIfInBounds_toArray, List.set_cons_zero, List.set_cons_succ])
                      refine wpAnyH_done (by kernel_rfl) ?_ _
                      go_wp2
                      go_roundw
                      case rel => exact ⟨(m + 1) + 1, by omega, by first | rfl | go_num, Lib.hid ⟨fun j hj => by rcases Nat.lt_succ_iff_lt_or_eq.1 hj with h | rfl; exact HK.out.1 j h; exact HOk.out, hHeld.2.1⟩⟩
                      case measure => simp [intOf]; omega
        · have hlt' : ¬ (k : Int) < n := by omega
          have HE := Lib.hid (show (0 : Int) = r by rw [← HR.out, Fa.chk_ok (by have := HN.out; omega) H2.out (fun i hi => HK.out.1 i (by have := HN.out; omega))])
          go_wp2
          go_ret
          exact ⟨by rw [← HE.out]; rfl, hbx.1⟩
end Go.Proofs.Ytpinncjnfbebkaa
