/- The code of layer 7: comparison. No condition. -/
import Derived.Test.YtdajgopgaklipaaIcRefB
namespace Go.Proofs.Ytdajgopgaklipaa
open Go.RowKit
set_option linter.unusedVariables false
set_option linter.unusedSimpArgs false
attribute [local go_sem] y_undef
def BxP (w : World) (a b : Iv) (p q : Int) (g : Nat) (u : World) : Prop := Bx w a b u ∧ Pr p q g u
theorem BxP.below {w u v : World} {a b : Iv} {p q : Int} {g : Nat} (h : BxP w a b p q g u) (hb : Below u.heap.size u v) : BxP w a b p q g v := ⟨h.1.below hb, h.2.below hb⟩
theorem BxP.drew {w u : World} {a b : Iv} {p q : Int} {g : Nat} (h : BxP w a b p q g u) : BxP w a b p q g u.drew := ⟨h.1.drew, h.2.drew⟩
set_option maxHeartbeats 8000000 in
theorem comparison_any (a b : Iv) (ga : Iv.Good a) (gb : Iv.Good b) (o : Int) (ho : 11 ≤ o ∧ o ≤ 14) (z : Iv) (hz : Iv.op o a.lo a.hi b.lo b.hi = z) (w : World) : Calls Try.prog 45 #[.int .i64 o, .agg #[.int .i64 (a).lo, .int .i64 (a).hi], .agg #[.int .i64 (b).lo, .int .i64 (b).hi]] w fun e w' => e = .returned (.agg #[.int .i64 (z).lo, .int .i64 (z).hi]) ∧ Below w.heap.size w w' := by
  have hHeld := bx_new w a b 23
  obtain ⟨rx, hx⟩ : ∃ x, Iv.refine o false ⟨a.lo, a.hi⟩ ⟨b.lo, b.hi⟩ = x := ⟨_, rfl⟩
  obtain ⟨ry, hy⟩ : ∃ x, Iv.refine o true ⟨a.lo, a.hi⟩ ⟨b.lo, b.hi⟩ = x := ⟨_, rfl⟩
  have hj : (if rx.1 = Iv.non then (⟨1, 1⟩ : Iv) else if ry.1 = Iv.non then ⟨0, 0⟩ else ⟨0, 1⟩) = z := by rw [← hz, ← Iv.cmp_code ho ga gb, ← hx, ← hy]
  have HX := Lib.hid hx
  have HY := Lib.hid hy
  clear hx hy hz ga gb ho
  have hg := iv_guard
  by_cases hn : rx.1 = Iv.non
  · rw [if_pos hn] at hj
    subst hj
    have he := iv_eql rx.1.lo rx.1.hi 1 0 true (iv_is _ hn)
    clear hn HY
    go_enter Try.func45, Try.ntmps45
    obtain ⟨hA, ⟨a0, a1⟩, ⟨b0, b1⟩, ⟨x, y, c0, c1⟩, f2⟩ := id hHeld; have hy0 := hA.lt0 (by omega); have hy1 := hA.lt1 (by omega); have hy2 := hA.lt2 (by omega)
    go_wp2_with fail
    refine (iRefine_any o a.lo a.hi b.lo b.hi false rx HX.out _).mono ?_
    rintro e w1 ⟨rfl, hb⟩
    replace hHeld := hHeld.below hb
    clear hb
    go_wp2
    have hB0 := ((Below.refl w1.heap.size w1).alloc (Nat.le_refl _) (.cells #[.int .i64 rx.1.lo, .int .i64 rx.1.hi] 23)).alloc (by simp) (.cells #[.int .i64 rx.2.lo, .int .i64 rx.2.hi] 23)
    have hP : Pr rx.1.lo rx.1.hi w1.heap.size ((w1.alloc (.cells #[.int .i64 rx.1.lo, .int .i64 rx.1.hi] 23)).alloc (.cells #[.int .i64 rx.2.lo, .int .i64 rx.2.hi] 23)) := ⟨⟨by go_simp, by go_simp⟩, by simp; omega⟩
    have hS0 : BxP w a b rx.1.lo rx.1.hi w1.heap.size ((w1.alloc (.cells #[.int .i64 rx.1.lo, .int .i64 rx.1.hi] 23)).alloc (.cells #[.int .i64 rx.2.lo, .int .i64 rx.2.hi] 23)) := ⟨hHeld.below hB0, hP⟩
    clear hHeld hB0 hP
    generalize ((w1.alloc (.cells #[.int .i64 rx.1.lo, .int .i64 rx.1.hi] 23)).alloc (.cells #[.int .i64 rx.2.lo, .int .i64 rx.2.hi] 23)) = v1 at *
    generalize w1.heap.size = g1 at *
    refine wp_region_held_drew (S := (fun w' => BxP w a b rx.1.lo rx.1.hi g1 w')) (by kernel_rfl) (hS0.drew) (fun hHeld => ?_)
    generalize v1.drew = u0 at *
    refine' wpAnyH_take (i := 0) (v := _) ?_ ?_ ?_ ?_ ?_ ?_ ?_ ?_
    rotate_left 2
    focus (simp only [List.getElem?_toArray, List.getElem?_cons_succ, List.getElem?_cons_zero]; rfl)
    focus kernel_rfl
    focus kernel_rfl
    focus kernel_rfl
    focus exact (fun _ _ _ h => h)
    refine Or.inl ⟨?_, ?_⟩
    focus (go_simp; done)
    focus (intro w hSw; obtain ⟨⟨_, ⟨a0, a1⟩, ⟨b0, b1⟩, _⟩, ⟨p0, p1⟩, _⟩ := hSw; (first | (go_simp; done) | (go_simp; with_reducible rfl)))
    focus assumption
    (try simp only [Act.put, List.setIfInBounds_toArray, List.set_cons_zero, List.set_cons_succ])
    refine wpAnyH_ready (rs := [1]) (by kernel_rfl) (by simp) ?_
    refine' AllReadyH.cons ?_ (fun K hK => ?_) AllReadyH.nil
    rotate_left
    focus (simp only [List.getElem?_toArray, List.getElem?_cons_succ, List.getElem?_cons_zero]; rfl)
    go_simp
    (go_at_call 12; (with_reducible refine (iNone_any _).mono ?_); rintro e u1 ⟨rfl, hb⟩)
    have hS := BxP.below hHeld hb
    clear hb
    refine hK.out _ _ hS (fun hHeld => ?_)
    clear hK K hS
    (try simp only [Act.put, List.setIfInBounds_toArray, List.set_cons_zero, List.set_cons_succ])
    refine' wpAnyH_take (i := 2) (v := _) ?_ ?_ ?_ ?_ ?_ ?_ ?_ ?_
    rotate_left 2
    focus (simp only [List.getElem?_toArray, List.getElem?_cons_succ, List.getElem?_cons_zero]; rfl)
    focus kernel_rfl
    focus kernel_rfl
    focus kernel_rfl
    focus exact (fun _ _ _ h => h)
    refine Or.inl ⟨?_, ?_⟩
    focus (go_simp; done)
    focus (intro w hSw; obtain ⟨⟨_, ⟨a0, a1⟩, ⟨b0, b1⟩, _⟩, ⟨p0, p1⟩, _⟩ := hSw; (first | (go_simp; done) | (go_simp; with_reducible rfl)))
    focus assumption
    (try simp only [Act.put, List.setIfInBounds_toArray, List.set_cons_zero, List.set_cons_succ])
    refine wpAnyH_done (by kernel_rfl) ?_ _
    replace hHeld : Bx w a b _ := And.left hHeld
    clear hS0
    go_wp2_with fail
    refine (one_any 1 _).mono ?_
    rintro e w2 ⟨rfl, hb⟩
    replace hHeld := hHeld.below hb
    clear hb
    obtain ⟨hA, ⟨a0, a1⟩, ⟨b0, b1⟩, ⟨x, y, c0, c1⟩, f2⟩ := id hHeld; have hy0 := hA.lt0 (by omega); have hy1 := hA.lt1 (by omega); have hy2 := hA.lt2 (by omega)
    go_wp2
    refine bodyPost_ret (v := .agg #[.int .i64 1, .int .i64 1]) ?_ rfl ⟨rfl, hHeld.set.1.1⟩
    simp [results, Try.results45, go_sem, c0, c1]
  · rw [if_neg hn] at hj
    have he := iv_eql rx.1.lo rx.1.hi 1 0 false (iv_not _ hn)
    clear hn
    by_cases hm : ry.1 = Iv.non
    · rw [if_pos hm] at hj
      subst hj
      have he2 := iv_eql ry.1.lo ry.1.hi 1 0 true (iv_is _ hm)
      clear hm
      go_enter Try.func45, Try.ntmps45
      obtain ⟨hA, ⟨a0, a1⟩, ⟨b0, b1⟩, ⟨x, y, c0, c1⟩, f2⟩ := id hHeld; have hy0 := hA.lt0 (by omega); have hy1 := hA.lt1 (by omega); have hy2 := hA.lt2 (by omega)
      go_wp2_with fail
      refine (iRefine_any o a.lo a.hi b.lo b.hi false rx HX.out _).mono ?_
      rintro e w1 ⟨rfl, hb⟩
      replace hHeld := hHeld.below hb
      clear hb
      go_wp2
      have hB0 := ((Below.refl w1.heap.size w1).alloc (Nat.le_refl _) (.cells #[.int .i64 rx.1.lo, .int .i64 rx.1.hi] 23)).alloc (by simp) (.cells #[.int .i64 rx.2.lo, .int .i64 rx.2.hi] 23)
      have hP : Pr rx.1.lo rx.1.hi w1.heap.size ((w1.alloc (.cells #[.int .i64 rx.1.lo, .int .i64 rx.1.hi] 23)).alloc (.cells #[.int .i64 rx.2.lo, .int .i64 rx.2.hi] 23)) := ⟨⟨by go_simp, by go_simp⟩, by simp; omega⟩
      have hS0 : BxP w a b rx.1.lo rx.1.hi w1.heap.size ((w1.alloc (.cells #[.int .i64 rx.1.lo, .int .i64 rx.1.hi] 23)).alloc (.cells #[.int .i64 rx.2.lo, .int .i64 rx.2.hi] 23)) := ⟨hHeld.below hB0, hP⟩
      clear hHeld hB0 hP
      generalize ((w1.alloc (.cells #[.int .i64 rx.1.lo, .int .i64 rx.1.hi] 23)).alloc (.cells #[.int .i64 rx.2.lo, .int .i64 rx.2.hi] 23)) = v1 at *
      generalize w1.heap.size = g1 at *
      refine wp_region_held_drew (S := (fun w' => BxP w a b rx.1.lo rx.1.hi g1 w')) (by kernel_rfl) (hS0.drew) (fun hHeld => ?_)
      generalize v1.drew = u0 at *
      refine' wpAnyH_take (i := 0) (v := _) ?_ ?_ ?_ ?_ ?_ ?_ ?_ ?_
      rotate_left 2
      focus (simp only [List.getElem?_toArray, List.getElem?_cons_succ, List.getElem?_cons_zero]; rfl)
      focus kernel_rfl
      focus kernel_rfl
      focus kernel_rfl
      focus exact (fun _ _ _ h => h)
      refine Or.inl ⟨?_, ?_⟩
      focus (go_simp; done)
      focus (intro w hSw; obtain ⟨⟨_, ⟨a0, a1⟩, ⟨b0, b1⟩, _⟩, ⟨p0, p1⟩, _⟩ := hSw; (first | (go_simp; done) | (go_simp; with_reducible rfl)))
      focus assumption
      (try simp only [Act.put, List.setIfInBounds_toArray, List.set_cons_zero, List.set_cons_succ])
      refine wpAnyH_ready (rs := [1]) (by kernel_rfl) (by simp) ?_
      refine' AllReadyH.cons ?_ (fun K hK => ?_) AllReadyH.nil
      rotate_left
      focus (simp only [List.getElem?_toArray, List.getElem?_cons_succ, List.getElem?_cons_zero]; rfl)
      go_simp
      (go_at_call 12; (with_reducible refine (iNone_any _).mono ?_); rintro e u1 ⟨rfl, hb⟩)
      have hS := BxP.below hHeld hb
      clear hb
      refine hK.out _ _ hS (fun hHeld => ?_)
      clear hK K hS
      (try simp only [Act.put, List.setIfInBounds_toArray, List.set_cons_zero, List.set_cons_succ])
      refine' wpAnyH_take (i := 2) (v := _) ?_ ?_ ?_ ?_ ?_ ?_ ?_ ?_
      rotate_left 2
      focus (simp only [List.getElem?_toArray, List.getElem?_cons_succ, List.getElem?_cons_zero]; rfl)
      focus kernel_rfl
      focus kernel_rfl
      focus kernel_rfl
      focus exact (fun _ _ _ h => h)
      refine Or.inl ⟨?_, ?_⟩
      focus (go_simp; done)
      focus (intro w hSw; obtain ⟨⟨_, ⟨a0, a1⟩, ⟨b0, b1⟩, _⟩, ⟨p0, p1⟩, _⟩ := hSw; (first | (go_simp; done) | (go_simp; with_reducible rfl)))
      focus assumption
      (try simp only [Act.put, List.setIfInBounds_toArray, List.set_cons_zero, List.set_cons_succ])
      refine wpAnyH_done (by kernel_rfl) ?_ _
      replace hHeld : Bx w a b _ := And.left hHeld
      clear hS0
      obtain ⟨hA, ⟨a0, a1⟩, ⟨b0, b1⟩, ⟨x, y, c0, c1⟩, f2⟩ := id hHeld; have hy0 := hA.lt0 (by omega); have hy1 := hA.lt1 (by omega); have hy2 := hA.lt2 (by omega)
      go_wp2_with fail
      refine (iRefine_any o a.lo a.hi b.lo b.hi true ry HY.out _).mono ?_
      rintro e w2 ⟨rfl, hb⟩
      replace hHeld := hHeld.below hb
      clear hb
      go_wp2
      have hB0 := ((Below.refl w2.heap.size w2).alloc (Nat.le_refl _) (.cells #[.int .i64 ry.1.lo, .int .i64 ry.1.hi] 23)).alloc (by simp) (.cells #[.int .i64 ry.2.lo, .int .i64 ry.2.hi] 23)
      have hP : Pr ry.1.lo ry.1.hi w2.heap.size ((w2.alloc (.cells #[.int .i64 ry.1.lo, .int .i64 ry.1.hi] 23)).alloc (.cells #[.int .i64 ry.2.lo, .int .i64 ry.2.hi] 23)) := ⟨⟨by go_simp, by go_simp⟩, by simp; omega⟩
      have hS0 : BxP w a b ry.1.lo ry.1.hi w2.heap.size ((w2.alloc (.cells #[.int .i64 ry.1.lo, .int .i64 ry.1.hi] 23)).alloc (.cells #[.int .i64 ry.2.lo, .int .i64 ry.2.hi] 23)) := ⟨hHeld.below hB0, hP⟩
      clear hHeld hB0 hP
      generalize ((w2.alloc (.cells #[.int .i64 ry.1.lo, .int .i64 ry.1.hi] 23)).alloc (.cells #[.int .i64 ry.2.lo, .int .i64 ry.2.hi] 23)) = v2 at *
      generalize w2.heap.size = g2 at *
      refine wp_region_held_drew (S := (fun w' => BxP w a b ry.1.lo ry.1.hi g2 w')) (by kernel_rfl) (hS0.drew) (fun hHeld => ?_)
      generalize v2.drew = u0 at *
      refine' wpAnyH_take (i := 0) (v := _) ?_ ?_ ?_ ?_ ?_ ?_ ?_ ?_
      rotate_left 2
      focus (simp only [List.getElem?_toArray, List.getElem?_cons_succ, List.getElem?_cons_zero]; rfl)
      focus kernel_rfl
      focus kernel_rfl
      focus kernel_rfl
      focus exact (fun _ _ _ h => h)
      refine Or.inl ⟨?_, ?_⟩
      focus (go_simp; done)
      focus (intro w hSw; obtain ⟨⟨_, ⟨a0, a1⟩, ⟨b0, b1⟩, _⟩, ⟨p0, p1⟩, _⟩ := hSw; (first | (go_simp; done) | (go_simp; with_reducible rfl)))
      focus assumption
      (try simp only [Act.put, List.setIfInBounds_toArray, List.set_cons_zero, List.set_cons_succ])
      refine wpAnyH_ready (rs := [1]) (by kernel_rfl) (by simp) ?_
      refine' AllReadyH.cons ?_ (fun K hK => ?_) AllReadyH.nil
      rotate_left
      focus (simp only [List.getElem?_toArray, List.getElem?_cons_succ, List.getElem?_cons_zero]; rfl)
      go_simp
      (go_at_call 12; (with_reducible refine (iNone_any _).mono ?_); rintro e u1 ⟨rfl, hb⟩)
      have hS := BxP.below hHeld hb
      clear hb
      refine hK.out _ _ hS (fun hHeld => ?_)
      clear hK K hS
      (try simp only [Act.put, List.setIfInBounds_toArray, List.set_cons_zero, List.set_cons_succ])
      refine' wpAnyH_take (i := 2) (v := _) ?_ ?_ ?_ ?_ ?_ ?_ ?_ ?_
      rotate_left 2
      focus (simp only [List.getElem?_toArray, List.getElem?_cons_succ, List.getElem?_cons_zero]; rfl)
      focus kernel_rfl
      focus kernel_rfl
      focus kernel_rfl
      focus exact (fun _ _ _ h => h)
      refine Or.inl ⟨?_, ?_⟩
      focus (go_simp; done)
      focus (intro w hSw; obtain ⟨⟨_, ⟨a0, a1⟩, ⟨b0, b1⟩, _⟩, ⟨p0, p1⟩, _⟩ := hSw; (first | (go_simp; done) | (go_simp; with_reducible rfl)))
      focus assumption
      (try simp only [Act.put, List.setIfInBounds_toArray, List.set_cons_zero, List.set_cons_succ])
      refine wpAnyH_done (by kernel_rfl) ?_ _
      replace hHeld : Bx w a b _ := And.left hHeld
      clear hS0
      go_wp2_with fail
      refine (one_any 0 _).mono ?_
      rintro e w3 ⟨rfl, hb⟩
      replace hHeld := hHeld.below hb
      clear hb
      obtain ⟨hA, ⟨a0, a1⟩, ⟨b0, b1⟩, ⟨x, y, c0, c1⟩, f2⟩ := id hHeld; have hy0 := hA.lt0 (by omega); have hy1 := hA.lt1 (by omega); have hy2 := hA.lt2 (by omega)
      go_wp2
      refine bodyPost_ret (v := .agg #[.int .i64 0, .int .i64 0]) ?_ rfl ⟨rfl, hHeld.set.1.1⟩
      simp [results, Try.results45, go_sem, c0, c1]
    · rw [if_neg hm] at hj
      subst hj
      have he2 := iv_eql ry.1.lo ry.1.hi 1 0 false (iv_not _ hm)
      clear hm
      go_enter Try.func45, Try.ntmps45
      obtain ⟨hA, ⟨a0, a1⟩, ⟨b0, b1⟩, ⟨x, y, c0, c1⟩, f2⟩ := id hHeld; have hy0 := hA.lt0 (by omega); have hy1 := hA.lt1 (by omega); have hy2 := hA.lt2 (by omega)
      go_wp2_with fail
      refine (iRefine_any o a.lo a.hi b.lo b.hi false rx HX.out _).mono ?_
      rintro e w1 ⟨rfl, hb⟩
      replace hHeld := hHeld.below hb
      clear hb
      go_wp2
      have hB0 := ((Below.refl w1.heap.size w1).alloc (Nat.le_refl _) (.cells #[.int .i64 rx.1.lo, .int .i64 rx.1.hi] 23)).alloc (by simp) (.cells #[.int .i64 rx.2.lo, .int .i64 rx.2.hi] 23)
      have hP : Pr rx.1.lo rx.1.hi w1.heap.size ((w1.alloc (.cells #[.int .i64 rx.1.lo, .int .i64 rx.1.hi] 23)).alloc (.cells #[.int .i64 rx.2.lo, .int .i64 rx.2.hi] 23)) := ⟨⟨by go_simp, by go_simp⟩, by simp; omega⟩
      have hS0 : BxP w a b rx.1.lo rx.1.hi w1.heap.size ((w1.alloc (.cells #[.int .i64 rx.1.lo, .int .i64 rx.1.hi] 23)).alloc (.cells #[.int .i64 rx.2.lo, .int .i64 rx.2.hi] 23)) := ⟨hHeld.below hB0, hP⟩
      clear hHeld hB0 hP
      generalize ((w1.alloc (.cells #[.int .i64 rx.1.lo, .int .i64 rx.1.hi] 23)).alloc (.cells #[.int .i64 rx.2.lo, .int .i64 rx.2.hi] 23)) = v1 at *
      generalize w1.heap.size = g1 at *
      refine wp_region_held_drew (S := (fun w' => BxP w a b rx.1.lo rx.1.hi g1 w')) (by kernel_rfl) (hS0.drew) (fun hHeld => ?_)
      generalize v1.drew = u0 at *
      refine' wpAnyH_take (i := 0) (v := _) ?_ ?_ ?_ ?_ ?_ ?_ ?_ ?_
      rotate_left 2
      focus (simp only [List.getElem?_toArray, List.getElem?_cons_succ, List.getElem?_cons_zero]; rfl)
      focus kernel_rfl
      focus kernel_rfl
      focus kernel_rfl
      focus exact (fun _ _ _ h => h)
      refine Or.inl ⟨?_, ?_⟩
      focus (go_simp; done)
      focus (intro w hSw; obtain ⟨⟨_, ⟨a0, a1⟩, ⟨b0, b1⟩, _⟩, ⟨p0, p1⟩, _⟩ := hSw; (first | (go_simp; done) | (go_simp; with_reducible rfl)))
      focus assumption
      (try simp only [Act.put, List.setIfInBounds_toArray, List.set_cons_zero, List.set_cons_succ])
      refine wpAnyH_ready (rs := [1]) (by kernel_rfl) (by simp) ?_
      refine' AllReadyH.cons ?_ (fun K hK => ?_) AllReadyH.nil
      rotate_left
      focus (simp only [List.getElem?_toArray, List.getElem?_cons_succ, List.getElem?_cons_zero]; rfl)
      go_simp
      (go_at_call 12; (with_reducible refine (iNone_any _).mono ?_); rintro e u1 ⟨rfl, hb⟩)
      have hS := BxP.below hHeld hb
      clear hb
      refine hK.out _ _ hS (fun hHeld => ?_)
      clear hK K hS
      (try simp only [Act.put, List.setIfInBounds_toArray, List.set_cons_zero, List.set_cons_succ])
      refine' wpAnyH_take (i := 2) (v := _) ?_ ?_ ?_ ?_ ?_ ?_ ?_ ?_
      rotate_left 2
      focus (simp only [List.getElem?_toArray, List.getElem?_cons_succ, List.getElem?_cons_zero]; rfl)
      focus kernel_rfl
      focus kernel_rfl
      focus kernel_rfl
      focus exact (fun _ _ _ h => h)
      refine Or.inl ⟨?_, ?_⟩
      focus (go_simp; done)
      focus (intro w hSw; obtain ⟨⟨_, ⟨a0, a1⟩, ⟨b0, b1⟩, _⟩, ⟨p0, p1⟩, _⟩ := hSw; (first | (go_simp; done) | (go_simp; with_reducible rfl)))
      focus assumption
      (try simp only [Act.put, List.setIfInBounds_toArray, List.set_cons_zero, List.set_cons_succ])
      refine wpAnyH_done (by kernel_rfl) ?_ _
      replace hHeld : Bx w a b _ := And.left hHeld
      clear hS0
      obtain ⟨hA, ⟨a0, a1⟩, ⟨b0, b1⟩, ⟨x, y, c0, c1⟩, f2⟩ := id hHeld; have hy0 := hA.lt0 (by omega); have hy1 := hA.lt1 (by omega); have hy2 := hA.lt2 (by omega)
      go_wp2_with fail
      refine (iRefine_any o a.lo a.hi b.lo b.hi true ry HY.out _).mono ?_
      rintro e w2 ⟨rfl, hb⟩
      replace hHeld := hHeld.below hb
      clear hb
      go_wp2
      have hB0 := ((Below.refl w2.heap.size w2).alloc (Nat.le_refl _) (.cells #[.int .i64 ry.1.lo, .int .i64 ry.1.hi] 23)).alloc (by simp) (.cells #[.int .i64 ry.2.lo, .int .i64 ry.2.hi] 23)
      have hP : Pr ry.1.lo ry.1.hi w2.heap.size ((w2.alloc (.cells #[.int .i64 ry.1.lo, .int .i64 ry.1.hi] 23)).alloc (.cells #[.int .i64 ry.2.lo, .int .i64 ry.2.hi] 23)) := ⟨⟨by go_simp, by go_simp⟩, by simp; omega⟩
      have hS0 : BxP w a b ry.1.lo ry.1.hi w2.heap.size ((w2.alloc (.cells #[.int .i64 ry.1.lo, .int .i64 ry.1.hi] 23)).alloc (.cells #[.int .i64 ry.2.lo, .int .i64 ry.2.hi] 23)) := ⟨hHeld.below hB0, hP⟩
      clear hHeld hB0 hP
      generalize ((w2.alloc (.cells #[.int .i64 ry.1.lo, .int .i64 ry.1.hi] 23)).alloc (.cells #[.int .i64 ry.2.lo, .int .i64 ry.2.hi] 23)) = v2 at *
      generalize w2.heap.size = g2 at *
      refine wp_region_held_drew (S := (fun w' => BxP w a b ry.1.lo ry.1.hi g2 w')) (by kernel_rfl) (hS0.drew) (fun hHeld => ?_)
      generalize v2.drew = u0 at *
      refine' wpAnyH_take (i := 0) (v := _) ?_ ?_ ?_ ?_ ?_ ?_ ?_ ?_
      rotate_left 2
      focus (simp only [List.getElem?_toArray, List.getElem?_cons_succ, List.getElem?_cons_zero]; rfl)
      focus kernel_rfl
      focus kernel_rfl
      focus kernel_rfl
      focus exact (fun _ _ _ h => h)
      refine Or.inl ⟨?_, ?_⟩
      focus (go_simp; done)
      focus (intro w hSw; obtain ⟨⟨_, ⟨a0, a1⟩, ⟨b0, b1⟩, _⟩, ⟨p0, p1⟩, _⟩ := hSw; (first | (go_simp; done) | (go_simp; with_reducible rfl)))
      focus assumption
      (try simp only [Act.put, List.setIfInBounds_toArray, List.set_cons_zero, List.set_cons_succ])
      refine wpAnyH_ready (rs := [1]) (by kernel_rfl) (by simp) ?_
      refine' AllReadyH.cons ?_ (fun K hK => ?_) AllReadyH.nil
      rotate_left
      focus (simp only [List.getElem?_toArray, List.getElem?_cons_succ, List.getElem?_cons_zero]; rfl)
      go_simp
      (go_at_call 12; (with_reducible refine (iNone_any _).mono ?_); rintro e u1 ⟨rfl, hb⟩)
      have hS := BxP.below hHeld hb
      clear hb
      refine hK.out _ _ hS (fun hHeld => ?_)
      clear hK K hS
      (try simp only [Act.put, List.setIfInBounds_toArray, List.set_cons_zero, List.set_cons_succ])
      refine' wpAnyH_take (i := 2) (v := _) ?_ ?_ ?_ ?_ ?_ ?_ ?_ ?_
      rotate_left 2
      focus (simp only [List.getElem?_toArray, List.getElem?_cons_succ, List.getElem?_cons_zero]; rfl)
      focus kernel_rfl
      focus kernel_rfl
      focus kernel_rfl
      focus exact (fun _ _ _ h => h)
      refine Or.inl ⟨?_, ?_⟩
      focus (go_simp; done)
      focus (intro w hSw; obtain ⟨⟨_, ⟨a0, a1⟩, ⟨b0, b1⟩, _⟩, ⟨p0, p1⟩, _⟩ := hSw; (first | (go_simp; done) | (go_simp; with_reducible rfl)))
      focus assumption
      (try simp only [Act.put, List.setIfInBounds_toArray, List.set_cons_zero, List.set_cons_succ])
      refine wpAnyH_done (by kernel_rfl) ?_ _
      replace hHeld : Bx w a b _ := And.left hHeld
      clear hS0
      obtain ⟨hA, ⟨a0, a1⟩, ⟨b0, b1⟩, ⟨x, y, c0, c1⟩, f2⟩ := id hHeld; have hy0 := hA.lt0 (by omega); have hy1 := hA.lt1 (by omega); have hy2 := hA.lt2 (by omega)
      go_wp2
      refine bodyPost_ret (v := .agg #[.int .i64 0, .int .i64 1]) ?_ rfl ⟨rfl, hHeld.set.1.1⟩
      simp [results, Try.results45, go_sem, c0, c1]
end Go.Proofs.Ytdajgopgaklipaa
