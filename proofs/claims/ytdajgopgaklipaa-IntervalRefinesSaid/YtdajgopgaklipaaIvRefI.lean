/- The specification of layer 7: Refine. No condition. -/
import Derived.Test.YtdajgopgaklipaaIvRefH
import Derived.Test.YtdajgopgaklipaaIvRefE
import Derived.Deep.RegionWith
namespace Go.Proofs.Ytdajgopgaklipaa
open Go.RowKit
set_option linter.unusedVariables false
set_option linter.unusedSimpArgs false
attribute [local go_sem] y_undef
theorem below_in {w w1 : World} {o : Obj} (h : Below (w.alloc o).heap.size (w.alloc o) w1) : Below w.heap.size w w1 :=
  ((Below.refl _ w).alloc (Nat.le_refl _) o).trans (h.mono (by simp))
def AB (w : World) (a b : Iv) (w' : World) : Prop :=
  ((w'.cell? ⟨w.heap.size, 0, none⟩ = some (.int .i64 a.lo) ∧ w'.cell? ⟨w.heap.size, 1, none⟩ = some (.int .i64 a.hi)) ∧ w'.cell? ⟨w.heap.size + 1, 0, none⟩ = some (.int .i64 b.lo) ∧ w'.cell? ⟨w.heap.size + 1, 1, none⟩ = some (.int .i64 b.hi)) ∧ Ahead 4 w w'
theorem AB.below {w w1 w2 : World} {a b : Iv} (h : AB w a b w1) (hb : Below w1.heap.size w1 w2) : AB w a b w2 :=
  ⟨⟨⟨h.2.cell0 hb h.1.1.1 (by omega), h.2.cell0 hb h.1.1.2 (by omega)⟩, h.2.cell hb h.1.2.1 (by omega), h.2.cell hb h.1.2.2 (by omega)⟩, h.2.below hb⟩
theorem AB.set {w w1 : World} {a b : Iv} (h : AB w a b w1) {g o : Nat} (hg : w.heap.size + 1 < g) (v : Value) : AB w a b (w1.setCell ⟨g, o, none⟩ v) :=
  ⟨⟨⟨(World.cell?_setCell_far _ _ _ _ (show g ≠ w.heap.size by omega)).trans h.1.1.1, (World.cell?_setCell_far _ _ _ _ (show g ≠ w.heap.size by omega)).trans h.1.1.2⟩, (World.cell?_setCell_far _ _ _ _ (show g ≠ w.heap.size + 1 by omega)).trans h.1.2.1, (World.cell?_setCell_far _ _ _ _ (show g ≠ w.heap.size + 1 by omega)).trans h.1.2.2⟩, h.2.set (by omega) v⟩
def Boxes4 (w : World) (a b : Iv) (w' : World) : Prop :=
  AB w a b w' ∧ (w'.cell? ⟨w.heap.size + 1 + 1, 0, none⟩ = some (.int .i64 0) ∧ w'.cell? ⟨w.heap.size + 1 + 1, 1, none⟩ = some (.int .i64 0)) ∧ (w'.cell? ⟨w.heap.size + 1 + 1 + 1, 0, none⟩ = some (.int .i64 0) ∧ w'.cell? ⟨w.heap.size + 1 + 1 + 1, 1, none⟩ = some (.int .i64 0)) ∧ (∀ o, w'.frozen? ⟨w.heap.size + 1 + 1, o, none⟩ = false) ∧ (∀ o, w'.frozen? ⟨w.heap.size + 1 + 1 + 1, o, none⟩ = false)
theorem boxes4_of {w w1 : World} {p q r s : Int} {a b : Iv} (hA : Ahead 4 w w1) (a0 : w1.cell? ⟨w.heap.size, 0, none⟩ = some (.int .i64 p)) (a1 : w1.cell? ⟨w.heap.size, 1, none⟩ = some (.int .i64 q))
    (b0 : w1.cell? ⟨w.heap.size + 1, 0, none⟩ = some (.int .i64 r)) (b1 : w1.cell? ⟨w.heap.size + 1, 1, none⟩ = some (.int .i64 s)) (c0 : w1.cell? ⟨w.heap.size + 1 + 1, 0, none⟩ = some (.int .i64 0)) (c1 : w1.cell? ⟨w.heap.size + 1 + 1, 1, none⟩ = some (.int .i64 0))
    (d0 : w1.cell? ⟨w.heap.size + 1 + 1 + 1, 0, none⟩ = some (.int .i64 0)) (d1 : w1.cell? ⟨w.heap.size + 1 + 1 + 1, 1, none⟩ = some (.int .i64 0)) (hf : ∀ o, w1.frozen? ⟨w.heap.size + 1 + 1, o, none⟩ = false) (hg : ∀ o, w1.frozen? ⟨w.heap.size + 1 + 1 + 1, o, none⟩ = false) :
    Boxes4 w a b ((((w1.setCell ⟨w.heap.size, 0, none⟩ (.int .i64 a.lo)).setCell ⟨w.heap.size, 1, none⟩ (.int .i64 a.hi)).setCell ⟨w.heap.size + 1, 0, none⟩ (.int .i64 b.lo)).setCell ⟨w.heap.size + 1, 1, none⟩ (.int .i64 b.hi)) := by
  refine ⟨⟨⟨⟨?_, ?_⟩, ?_, ?_⟩, ((((hA.set (by omega) _).set (by omega) _).set (by omega) _).set (by omega) _)⟩, ⟨?_, ?_⟩, ⟨?_, ?_⟩, fun o => ?_, fun o => ?_⟩
  · rw [far2 (by omega)]; go_simp
  · rw [far2 (by omega)]; go_simp
  · go_simp
  · go_simp
  · rw [far2 (by omega), far2 (by omega)]; exact c0
  · rw [far2 (by omega), far2 (by omega)]; exact c1
  · rw [far2 (by omega), far2 (by omega)]; exact d0
  · rw [far2 (by omega), far2 (by omega)]; exact d1
  · simpa using hf o
  · simpa using hg o
set_option maxRecDepth 100000 in
set_option maxHeartbeats 40000000 in
theorem rRefine_any (o p q r s : Int) (t : Bool) (z : Iv × Iv) (hz : Iv.refine o t ⟨p, q⟩ ⟨r, s⟩ = z) (w : World) : Calls Try.prog 26 #[.int .i64 o, .bool t, .agg #[.int .i64 p, .int .i64 q], .agg #[.int .i64 r, .int .i64 s]] w fun e w' => e = .returned (.tuple #[.agg #[.int .i64 (z.1).lo, .int .i64 (z.1).hi], .agg #[.int .i64 (z.2).lo, .int .i64 (z.2).hi]]) ∧ Below w.heap.size w w' := by
  have hA := ((((Ahead.refl w).alloc (.cells #[.int .i64 p, .int .i64 q] 23)).alloc (.cells #[.int .i64 r, .int .i64 s] 23)).alloc (.cells #[.int .i64 0, .int .i64 0] 23)).alloc (.cells #[.int .i64 0, .int .i64 0] 23)
  obtain ⟨a, ha⟩ : ∃ a, Iv.form ⟨p, q⟩ = a := ⟨_, rfl⟩
  obtain ⟨b, hb⟩ : ∃ b, Iv.form ⟨r, s⟩ = b := ⟨_, rfl⟩
  have hj : (if o < 11 ∨ 14 < o then (a, b) else if a = Iv.non ∨ b = Iv.non then (Iv.non, Iv.non) else Iv.refine' o t a b) = z := by rw [← hz, ← ha, ← hb]; rfl
  have hga := Iv.form_ok ⟨p, q⟩
  have hgb := Iv.form_ok ⟨r, s⟩
  rw [ha] at hga
  rw [hb] at hgb
  have HG := Lib.hid (And.intro hga hgb)
  have HA := Lib.hid ha
  have HB := Lib.hid hb
  have HJ := Lib.hid hj
  clear ha hb hj hz hga hgb
  have hg := iv_guard
  go_enter Try.func26, Try.ntmps26
  go_wp2
  rename_i K hK
  refine' (fun (HK : ∀ w', Boxes4 w a b w' → K _ w') => ?_) (fun w' hw' => ?_)
  rotate_left
  focus
    go_region_with (go_at_call 52; (first | (with_reducible refine (rForm_any p q a HA.out _).mono ?_) | (with_reducible refine (rForm_any r s b HB.out _).mono ?_)); rintro e w1 ⟨rfl, hb⟩; obtain ⟨hc, hf⟩ := bcell hb; (first | replace hA := hA.below hb | replace hA := hA.drew.below hb); have hz : w.heap.size + 1 + 1 + 1 < w1.heap.size := (by have := hA.2; omega); have hz2 : w.heap.size + 1 + 1 < w1.heap.size := (by omega); have hz1 : w.heap.size + 1 < w1.heap.size := (by omega); have hz0 : w.heap.size < w1.heap.size := (by omega); (try simp only [size_alloc] at hc hf))
    all_goals
      exact HK _ (boxes4_of (p := p) (q := q) (r := r) (s := s) hA (by go_simp) (by go_simp) (by go_simp) (by go_simp) (by go_simp) (by go_simp) (by go_simp) (by go_simp) (fun o => by go_simp) (fun o => by go_simp))
  refine hK _ _ ?_
  clear hA
  obtain ⟨⟨⟨⟨a0, a1⟩, b0, b1⟩, hA⟩, ⟨c0, c1⟩, ⟨d0, d1⟩, f2, f3⟩ := hw'
  clear hK HA HB; have hy0 := hA.lt0 (by omega); have hy1 := hA.lt1 (by omega); have hy2 := hA.lt2 (by omega); have hy3 := hA.lt3 (by omega)
  by_cases ho : o < 11 ∨ 14 < o
  · obtain rfl : (a, b) = z := by rw [← HJ.out, if_pos ho]
    clear HJ HG
    cases o1 : decide (o < 11)
    case' true => skip
    all_goals (try (have o2 : decide (14 < o) = true := by simp at o1 ⊢; omega))
    all_goals
      clear ho
      go_wp2
      go_region
    all_goals
      go_wp2
      refine bodyPost_ret (v := .tuple #[.agg #[.int .i64 (a).lo, .int .i64 (a).hi], .agg #[.int .i64 (b).lo, .int .i64 (b).hi]]) ?_ rfl ⟨rfl, Ahead.fst (n := 4) ?_⟩
      · simp [results, Try.results26, go_sem, c0, c1, d0, d1, hy0, hy1, hy2, hy3]
      · (try refine Ahead.drew ?_)
        refine Ahead.set ?_ (by omega) _
        refine Ahead.set ?_ (by omega) _
        refine Ahead.set ?_ (by omega) _
        refine Ahead.set ?_ (by omega) _
        first | exact hA | exact hA.drew
  have hj := HJ.out
  rw [if_neg ho] at hj
  have HJ' := Lib.hid hj
  clear HJ hj
  have o1 : decide (o < 11) = false := by simp; omega
  have o2 : decide (14 < o) = false := by simp; omega
  go_wp2
  by_cases hn : a = Iv.non ∨ b = Iv.non
  · have hj := HJ'.out
    rw [if_pos hn] at hj
    subst hj
    clear HJ' HG
    have hcase : (a = Iv.non) ∨ (a ≠ Iv.non ∧ b = Iv.non) := by by_cases e : a = Iv.non; exact .inl e; exact .inr ⟨e, hn.resolve_left e⟩
    clear hn
    rcases hcase with hn | ⟨hn, hn2⟩
    · have he := iv_eql a.lo a.hi 1 0 true (iv_is a hn)
      clear hn
      refine wp_region_held_drew (S := (fun w' => w'.cell? ⟨w.heap.size, 0, none⟩ = some (.int .i64 a.lo) ∧ w'.cell? ⟨w.heap.size, 1, none⟩ = some (.int .i64 a.hi) ∧ w'.cell? ⟨w.heap.size + 1, 0, none⟩ = some (.int .i64 b.lo) ∧ w'.cell? ⟨w.heap.size + 1, 1, none⟩ = some (.int .i64 b.hi) ∧ w'.cell? ⟨w.heap.size + 1 + 1, 0, none⟩ = some (.int .i64 0) ∧ w'.cell? ⟨w.heap.size + 1 + 1, 1, none⟩ = some (.int .i64 0) ∧ w'.cell? ⟨w.heap.size + 1 + 1 + 1, 0, none⟩ = some (.int .i64 0) ∧ w'.cell? ⟨w.heap.size + 1 + 1 + 1, 1, none⟩ = some (.int .i64 0) ∧ (∀ o, w'.frozen? ⟨w.heap.size + 1 + 1, o, none⟩ = false) ∧ (∀ o, w'.frozen? ⟨w.heap.size + 1 + 1 + 1, o, none⟩ = false) ∧ Ahead 4 w w')) (by kernel_rfl) (by exact ⟨by simpa using a0, by simpa using a1, by simpa using b0, by simpa using b1, by simpa using c0, by simpa using c1, by simpa using d0, by simpa using d1, fun o => by simpa using f2 o, fun o => by simpa using f3 o, hA.drew⟩) (fun hHeld => ?_)
      first
        | (refine' wpAnyH_take (i := 0) (v := _) ?_ ?_ ?_ ?_ ?_ ?_ ?_ ?_; rotate_left 2; (focus (simp only [List.getElem?_toArray, List.getElem?_cons_succ, List.getElem?_cons_zero]; rfl)); (focus kernel_rfl); (focus kernel_rfl); (focus kernel_rfl); (focus exact (fun _ _ _ h => h)); refine Or.inl ⟨?_, ?_⟩; (focus (go_simp; done)); (focus (intro w hSw; (try dsimp only at hSw); (first | (go_simp; done) | (go_simp; with_reducible rfl)))); (focus assumption); (try simp only [Act.put, List.setIfInBounds_toArray, List.set_cons_zero, List.set_cons_succ]))
        | (refine' wpAnyH_take (i := 0) (v := undef) ?_ ?_ ?_ ?_ ?_ ?_ ?_ ?_; rotate_left 1; (focus (simp only [List.getElem?_toArray, List.getElem?_cons_succ, List.getElem?_cons_zero]; rfl)); (focus kernel_rfl); (focus kernel_rfl); (focus kernel_rfl); (focus exact (fun _ _ _ h => h)); refine Or.inr ⟨?_, rfl⟩; (focus (go_simp; done)); (focus assumption); (try simp only [Act.put, List.setIfInBounds_toArray, List.set_cons_zero, List.set_cons_succ]))
        | (refine wpAnyH_ready (rs := [0]) (by kernel_rfl) (by simp) ?_; refine' AllReadyH.cons ?_ (fun K hK => ?_) AllReadyH.nil; rotate_left; (focus (simp only [List.getElem?_toArray, List.getElem?_cons_succ, List.getElem?_cons_zero]; rfl)); go_simp; (go_at_call 13; refine (rNone_any _).mono ?_; rintro e w4 ⟨rfl, hb⟩); refine hK.out _ _ (by go_split_ands; exact ⟨Ahead.cell0 (by assumption) hb (by assumption) (by omega), Ahead.cell0 (by assumption) hb (by assumption) (by omega), Ahead.cell (by assumption) hb (by assumption) (by omega), Ahead.cell (by assumption) hb (by assumption) (by omega), Ahead.cell2 (by assumption) hb (by assumption) (by omega), Ahead.cell2 (by assumption) hb (by assumption) (by omega), Ahead.cell3 (by assumption) hb (by assumption) (by omega), Ahead.cell3 (by assumption) hb (by assumption) (by omega), Ahead.frz2 (by assumption) hb (by assumption) (by omega), Ahead.frz3 (by assumption) hb (by assumption) (by omega), Ahead.below (by assumption) hb⟩) (fun hHeld => ?_); clear hK K; (try simp only [Act.put, List.setIfInBounds_toArray, List.set_cons_zero, List.set_cons_succ]); clear hb)
        | fail "operation 0"
      first
        | (refine' wpAnyH_take (i := 1) (v := _) ?_ ?_ ?_ ?_ ?_ ?_ ?_ ?_; rotate_left 2; (focus (simp only [List.getElem?_toArray, List.getElem?_cons_succ, List.getElem?_cons_zero]; rfl)); (focus kernel_rfl); (focus kernel_rfl); (focus kernel_rfl); (focus exact (fun _ _ _ h => h)); refine Or.inl ⟨?_, ?_⟩; (focus (go_simp; done)); (focus (intro w hSw; (try dsimp only at hSw); (first | (go_simp; done) | (go_simp; with_reducible rfl)))); (focus assumption); (try simp only [Act.put, List.setIfInBounds_toArray, List.set_cons_zero, List.set_cons_succ]))
        | (refine' wpAnyH_take (i := 1) (v := undef) ?_ ?_ ?_ ?_ ?_ ?_ ?_ ?_; rotate_left 1; (focus (simp only [List.getElem?_toArray, List.getElem?_cons_succ, List.getElem?_cons_zero]; rfl)); (focus kernel_rfl); (focus kernel_rfl); (focus kernel_rfl); (focus exact (fun _ _ _ h => h)); refine Or.inr ⟨?_, rfl⟩; (focus (go_simp; done)); (focus assumption); (try simp only [Act.put, List.setIfInBounds_toArray, List.set_cons_zero, List.set_cons_succ]))
        | (refine wpAnyH_ready (rs := [1]) (by kernel_rfl) (by simp) ?_; refine' AllReadyH.cons ?_ (fun K hK => ?_) AllReadyH.nil; rotate_left; (focus (simp only [List.getElem?_toArray, List.getElem?_cons_succ, List.getElem?_cons_zero]; rfl)); go_simp; (go_at_call 13; refine (rNone_any _).mono ?_; rintro e w4 ⟨rfl, hb⟩); refine hK.out _ _ (by go_split_ands; exact ⟨Ahead.cell0 (by assumption) hb (by assumption) (by omega), Ahead.cell0 (by assumption) hb (by assumption) (by omega), Ahead.cell (by assumption) hb (by assumption) (by omega), Ahead.cell (by assumption) hb (by assumption) (by omega), Ahead.cell2 (by assumption) hb (by assumption) (by omega), Ahead.cell2 (by assumption) hb (by assumption) (by omega), Ahead.cell3 (by assumption) hb (by assumption) (by omega), Ahead.cell3 (by assumption) hb (by assumption) (by omega), Ahead.frz2 (by assumption) hb (by assumption) (by omega), Ahead.frz3 (by assumption) hb (by assumption) (by omega), Ahead.below (by assumption) hb⟩) (fun hHeld => ?_); clear hK K; (try simp only [Act.put, List.setIfInBounds_toArray, List.set_cons_zero, List.set_cons_succ]); clear hb)
        | fail "operation 1"
      first
        | (refine' wpAnyH_take (i := 2) (v := _) ?_ ?_ ?_ ?_ ?_ ?_ ?_ ?_; rotate_left 2; (focus (simp only [List.getElem?_toArray, List.getElem?_cons_succ, List.getElem?_cons_zero]; rfl)); (focus kernel_rfl); (focus kernel_rfl); (focus kernel_rfl); (focus exact (fun _ _ _ h => h)); refine Or.inl ⟨?_, ?_⟩; (focus (go_simp; done)); (focus (intro w hSw; (try dsimp only at hSw); (first | (go_simp; done) | (go_simp; with_reducible rfl)))); (focus assumption); (try simp only [Act.put, List.setIfInBounds_toArray, List.set_cons_zero, List.set_cons_succ]))
        | (refine' wpAnyH_take (i := 2) (v := undef) ?_ ?_ ?_ ?_ ?_ ?_ ?_ ?_; rotate_left 1; (focus (simp only [List.getElem?_toArray, List.getElem?_cons_succ, List.getElem?_cons_zero]; rfl)); (focus kernel_rfl); (focus kernel_rfl); (focus kernel_rfl); (focus exact (fun _ _ _ h => h)); refine Or.inr ⟨?_, rfl⟩; (focus (go_simp; done)); (focus assumption); (try simp only [Act.put, List.setIfInBounds_toArray, List.set_cons_zero, List.set_cons_succ]))
        | (refine wpAnyH_ready (rs := [2]) (by kernel_rfl) (by simp) ?_; refine' AllReadyH.cons ?_ (fun K hK => ?_) AllReadyH.nil; rotate_left; (focus (simp only [List.getElem?_toArray, List.getElem?_cons_succ, List.getElem?_cons_zero]; rfl)); go_simp; (go_at_call 13; refine (rNone_any _).mono ?_; rintro e w4 ⟨rfl, hb⟩); refine hK.out _ _ (by go_split_ands; exact ⟨Ahead.cell0 (by assumption) hb (by assumption) (by omega), Ahead.cell0 (by assumption) hb (by assumption) (by omega), Ahead.cell (by assumption) hb (by assumption) (by omega), Ahead.cell (by assumption) hb (by assumption) (by omega), Ahead.cell2 (by assumption) hb (by assumption) (by omega), Ahead.cell2 (by assumption) hb (by assumption) (by omega), Ahead.cell3 (by assumption) hb (by assumption) (by omega), Ahead.cell3 (by assumption) hb (by assumption) (by omega), Ahead.frz2 (by assumption) hb (by assumption) (by omega), Ahead.frz3 (by assumption) hb (by assumption) (by omega), Ahead.below (by assumption) hb⟩) (fun hHeld => ?_); clear hK K; (try simp only [Act.put, List.setIfInBounds_toArray, List.set_cons_zero, List.set_cons_succ]); clear hb)
        | fail "operation 2"
      first
        | (refine' wpAnyH_take (i := 3) (v := _) ?_ ?_ ?_ ?_ ?_ ?_ ?_ ?_; rotate_left 2; (focus (simp only [List.getElem?_toArray, List.getElem?_cons_succ, List.getElem?_cons_zero]; rfl)); (focus kernel_rfl); (focus kernel_rfl); (focus kernel_rfl); (focus exact (fun _ _ _ h => h)); refine Or.inl ⟨?_, ?_⟩; (focus (go_simp; done)); (focus (intro w hSw; (try dsimp only at hSw); (first | (go_simp; done) | (go_simp; with_reducible rfl)))); (focus assumption); (try simp only [Act.put, List.setIfInBounds_toArray, List.set_cons_zero, List.set_cons_succ]))
        | (refine' wpAnyH_take (i := 3) (v := undef) ?_ ?_ ?_ ?_ ?_ ?_ ?_ ?_; rotate_left 1; (focus (simp only [List.getElem?_toArray, List.getElem?_cons_succ, List.getElem?_cons_zero]; rfl)); (focus kernel_rfl); (focus kernel_rfl); (focus kernel_rfl); (focus exact (fun _ _ _ h => h)); refine Or.inr ⟨?_, rfl⟩; (focus (go_simp; done)); (focus assumption); (try simp only [Act.put, List.setIfInBounds_toArray, List.set_cons_zero, List.set_cons_succ]))
        | (refine wpAnyH_ready (rs := [3]) (by kernel_rfl) (by simp) ?_; refine' AllReadyH.cons ?_ (fun K hK => ?_) AllReadyH.nil; rotate_left; (focus (simp only [List.getElem?_toArray, List.getElem?_cons_succ, List.getElem?_cons_zero]; rfl)); go_simp; (go_at_call 13; refine (rNone_any _).mono ?_; rintro e w4 ⟨rfl, hb⟩); refine hK.out _ _ (by go_split_ands; exact ⟨Ahead.cell0 (by assumption) hb (by assumption) (by omega), Ahead.cell0 (by assumption) hb (by assumption) (by omega), Ahead.cell (by assumption) hb (by assumption) (by omega), Ahead.cell (by assumption) hb (by assumption) (by omega), Ahead.cell2 (by assumption) hb (by assumption) (by omega), Ahead.cell2 (by assumption) hb (by assumption) (by omega), Ahead.cell3 (by assumption) hb (by assumption) (by omega), Ahead.cell3 (by assumption) hb (by assumption) (by omega), Ahead.frz2 (by assumption) hb (by assumption) (by omega), Ahead.frz3 (by assumption) hb (by assumption) (by omega), Ahead.below (by assumption) hb⟩) (fun hHeld => ?_); clear hK K; (try simp only [Act.put, List.setIfInBounds_toArray, List.set_cons_zero, List.set_cons_succ]); clear hb)
        | fail "operation 3"
      first
        | (refine' wpAnyH_take (i := 4) (v := _) ?_ ?_ ?_ ?_ ?_ ?_ ?_ ?_; rotate_left 2; (focus (simp only [List.getElem?_toArray, List.getElem?_cons_succ, List.getElem?_cons_zero]; rfl)); (focus kernel_rfl); (focus kernel_rfl); (focus kernel_rfl); (focus exact (fun _ _ _ h => h)); refine Or.inl ⟨?_, ?_⟩; (focus (go_simp; done)); (focus (intro w hSw; (try dsimp only at hSw); (first | (go_simp; done) | (go_simp; with_reducible rfl)))); (focus assumption); (try simp only [Act.put, List.setIfInBounds_toArray, List.set_cons_zero, List.set_cons_succ]))
        | (refine' wpAnyH_take (i := 4) (v := undef) ?_ ?_ ?_ ?_ ?_ ?_ ?_ ?_; rotate_left 1; (focus (simp only [List.getElem?_toArray, List.getElem?_cons_succ, List.getElem?_cons_zero]; rfl)); (focus kernel_rfl); (focus kernel_rfl); (focus kernel_rfl); (focus exact (fun _ _ _ h => h)); refine Or.inr ⟨?_, rfl⟩; (focus (go_simp; done)); (focus assumption); (try simp only [Act.put, List.setIfInBounds_toArray, List.set_cons_zero, List.set_cons_succ]))
        | (refine wpAnyH_ready (rs := [4]) (by kernel_rfl) (by simp) ?_; refine' AllReadyH.cons ?_ (fun K hK => ?_) AllReadyH.nil; rotate_left; (focus (simp only [List.getElem?_toArray, List.getElem?_cons_succ, List.getElem?_cons_zero]; rfl)); go_simp; (go_at_call 13; refine (rNone_any _).mono ?_; rintro e w4 ⟨rfl, hb⟩); refine hK.out _ _ (by go_split_ands; exact ⟨Ahead.cell0 (by assumption) hb (by assumption) (by omega), Ahead.cell0 (by assumption) hb (by assumption) (by omega), Ahead.cell (by assumption) hb (by assumption) (by omega), Ahead.cell (by assumption) hb (by assumption) (by omega), Ahead.cell2 (by assumption) hb (by assumption) (by omega), Ahead.cell2 (by assumption) hb (by assumption) (by omega), Ahead.cell3 (by assumption) hb (by assumption) (by omega), Ahead.cell3 (by assumption) hb (by assumption) (by omega), Ahead.frz2 (by assumption) hb (by assumption) (by omega), Ahead.frz3 (by assumption) hb (by assumption) (by omega), Ahead.below (by assumption) hb⟩) (fun hHeld => ?_); clear hK K; (try simp only [Act.put, List.setIfInBounds_toArray, List.set_cons_zero, List.set_cons_succ]); clear hb)
        | fail "operation 4"
      first
        | (refine' wpAnyH_take (i := 5) (v := _) ?_ ?_ ?_ ?_ ?_ ?_ ?_ ?_; rotate_left 2; (focus (simp only [List.getElem?_toArray, List.getElem?_cons_succ, List.getElem?_cons_zero]; rfl)); (focus kernel_rfl); (focus kernel_rfl); (focus kernel_rfl); (focus exact (fun _ _ _ h => h)); refine Or.inl ⟨?_, ?_⟩; (focus (go_simp; done)); (focus (intro w hSw; (try dsimp only at hSw); (first | (go_simp; done) | (go_simp; with_reducible rfl)))); (focus assumption); (try simp only [Act.put, List.setIfInBounds_toArray, List.set_cons_zero, List.set_cons_succ]))
        | (refine' wpAnyH_take (i := 5) (v := undef) ?_ ?_ ?_ ?_ ?_ ?_ ?_ ?_; rotate_left 1; (focus (simp only [List.getElem?_toArray, List.getElem?_cons_succ, List.getElem?_cons_zero]; rfl)); (focus kernel_rfl); (focus kernel_rfl); (focus kernel_rfl); (focus exact (fun _ _ _ h => h)); refine Or.inr ⟨?_, rfl⟩; (focus (go_simp; done)); (focus assumption); (try simp only [Act.put, List.setIfInBounds_toArray, List.set_cons_zero, List.set_cons_succ]))
        | (refine wpAnyH_ready (rs := [5]) (by kernel_rfl) (by simp) ?_; refine' AllReadyH.cons ?_ (fun K hK => ?_) AllReadyH.nil; rotate_left; (focus (simp only [List.getElem?_toArray, List.getElem?_cons_succ, List.getElem?_cons_zero]; rfl)); go_simp; (go_at_call 13; refine (rNone_any _).mono ?_; rintro e w4 ⟨rfl, hb⟩); refine hK.out _ _ (by go_split_ands; exact ⟨Ahead.cell0 (by assumption) hb (by assumption) (by omega), Ahead.cell0 (by assumption) hb (by assumption) (by omega), Ahead.cell (by assumption) hb (by assumption) (by omega), Ahead.cell (by assumption) hb (by assumption) (by omega), Ahead.cell2 (by assumption) hb (by assumption) (by omega), Ahead.cell2 (by assumption) hb (by assumption) (by omega), Ahead.cell3 (by assumption) hb (by assumption) (by omega), Ahead.cell3 (by assumption) hb (by assumption) (by omega), Ahead.frz2 (by assumption) hb (by assumption) (by omega), Ahead.frz3 (by assumption) hb (by assumption) (by omega), Ahead.below (by assumption) hb⟩) (fun hHeld => ?_); clear hK K; (try simp only [Act.put, List.setIfInBounds_toArray, List.set_cons_zero, List.set_cons_succ]); clear hb)
        | fail "operation 5"
      first
        | (refine' wpAnyH_take (i := 6) (v := _) ?_ ?_ ?_ ?_ ?_ ?_ ?_ ?_; rotate_left 2; (focus (simp only [List.getElem?_toArray, List.getElem?_cons_succ, List.getElem?_cons_zero]; rfl)); (focus kernel_rfl); (focus kernel_rfl); (focus kernel_rfl); (focus exact (fun _ _ _ h => h)); refine Or.inl ⟨?_, ?_⟩; (focus (go_simp; done)); (focus (intro w hSw; (try dsimp only at hSw); (first | (go_simp; done) | (go_simp; with_reducible rfl)))); (focus assumption); (try simp only [Act.put, List.setIfInBounds_toArray, List.set_cons_zero, List.set_cons_succ]))
        | (refine' wpAnyH_take (i := 6) (v := undef) ?_ ?_ ?_ ?_ ?_ ?_ ?_ ?_; rotate_left 1; (focus (simp only [List.getElem?_toArray, List.getElem?_cons_succ, List.getElem?_cons_zero]; rfl)); (focus kernel_rfl); (focus kernel_rfl); (focus kernel_rfl); (focus exact (fun _ _ _ h => h)); refine Or.inr ⟨?_, rfl⟩; (focus (go_simp; done)); (focus assumption); (try simp only [Act.put, List.setIfInBounds_toArray, List.set_cons_zero, List.set_cons_succ]))
        | (refine wpAnyH_ready (rs := [6]) (by kernel_rfl) (by simp) ?_; refine' AllReadyH.cons ?_ (fun K hK => ?_) AllReadyH.nil; rotate_left; (focus (simp only [List.getElem?_toArray, List.getElem?_cons_succ, List.getElem?_cons_zero]; rfl)); go_simp; (go_at_call 13; refine (rNone_any _).mono ?_; rintro e w4 ⟨rfl, hb⟩); refine hK.out _ _ (by go_split_ands; exact ⟨Ahead.cell0 (by assumption) hb (by assumption) (by omega), Ahead.cell0 (by assumption) hb (by assumption) (by omega), Ahead.cell (by assumption) hb (by assumption) (by omega), Ahead.cell (by assumption) hb (by assumption) (by omega), Ahead.cell2 (by assumption) hb (by assumption) (by omega), Ahead.cell2 (by assumption) hb (by assumption) (by omega), Ahead.cell3 (by assumption) hb (by assumption) (by omega), Ahead.cell3 (by assumption) hb (by assumption) (by omega), Ahead.frz2 (by assumption) hb (by assumption) (by omega), Ahead.frz3 (by assumption) hb (by assumption) (by omega), Ahead.below (by assumption) hb⟩) (fun hHeld => ?_); clear hK K; (try simp only [Act.put, List.setIfInBounds_toArray, List.set_cons_zero, List.set_cons_succ]); clear hb)
        | fail "operation 6"
      first
        | (refine' wpAnyH_take (i := 7) (v := _) ?_ ?_ ?_ ?_ ?_ ?_ ?_ ?_; rotate_left 2; (focus (simp only [List.getElem?_toArray, List.getElem?_cons_succ, List.getElem?_cons_zero]; rfl)); (focus kernel_rfl); (focus kernel_rfl); (focus kernel_rfl); (focus exact (fun _ _ _ h => h)); refine Or.inl ⟨?_, ?_⟩; (focus (go_simp; done)); (focus (intro w hSw; (try dsimp only at hSw); (first | (go_simp; done) | (go_simp; with_reducible rfl)))); (focus assumption); (try simp only [Act.put, List.setIfInBounds_toArray, List.set_cons_zero, List.set_cons_succ]))
        | (refine' wpAnyH_take (i := 7) (v := undef) ?_ ?_ ?_ ?_ ?_ ?_ ?_ ?_; rotate_left 1; (focus (simp only [List.getElem?_toArray, List.getElem?_cons_succ, List.getElem?_cons_zero]; rfl)); (focus kernel_rfl); (focus kernel_rfl); (focus kernel_rfl); (focus exact (fun _ _ _ h => h)); refine Or.inr ⟨?_, rfl⟩; (focus (go_simp; done)); (focus assumption); (try simp only [Act.put, List.setIfInBounds_toArray, List.set_cons_zero, List.set_cons_succ]))
        | (refine wpAnyH_ready (rs := [7]) (by kernel_rfl) (by simp) ?_; refine' AllReadyH.cons ?_ (fun K hK => ?_) AllReadyH.nil; rotate_left; (focus (simp only [List.getElem?_toArray, List.getElem?_cons_succ, List.getElem?_cons_zero]; rfl)); go_simp; (go_at_call 13; refine (rNone_any _).mono ?_; rintro e w4 ⟨rfl, hb⟩); refine hK.out _ _ (by go_split_ands; exact ⟨Ahead.cell0 (by assumption) hb (by assumption) (by omega), Ahead.cell0 (by assumption) hb (by assumption) (by omega), Ahead.cell (by assumption) hb (by assumption) (by omega), Ahead.cell (by assumption) hb (by assumption) (by omega), Ahead.cell2 (by assumption) hb (by assumption) (by omega), Ahead.cell2 (by assumption) hb (by assumption) (by omega), Ahead.cell3 (by assumption) hb (by assumption) (by omega), Ahead.cell3 (by assumption) hb (by assumption) (by omega), Ahead.frz2 (by assumption) hb (by assumption) (by omega), Ahead.frz3 (by assumption) hb (by assumption) (by omega), Ahead.below (by assumption) hb⟩) (fun hHeld => ?_); clear hK K; (try simp only [Act.put, List.setIfInBounds_toArray, List.set_cons_zero, List.set_cons_succ]); clear hb)
        | fail "operation 7"
      refine wpAnyH_done (by kernel_rfl) ?_ _
      obtain ⟨a0, a1, b0, b1, c0, c1, d0, d1, f2, f3, hA⟩ := hHeld; have hy0 := hA.lt0 (by omega); have hy1 := hA.lt1 (by omega); have hy2 := hA.lt2 (by omega); have hy3 := hA.lt3 (by omega)
      go_wp2_with fail
      refine (rNone_any _).mono ?_
      rintro e w5 ⟨rfl, hb⟩
      have hA5 := hA.below hb; obtain ⟨hc5, hf5⟩ := bcell hb; (try simp only [size_alloc] at hc5 hf5); clear hb; have hz50 : w.heap.size < w5.heap.size := (by have := hA5.2; omega); have hz51 : w.heap.size + 1 < w5.heap.size := (by have := hA5.2; omega); have hz52 : w.heap.size + 1 + 1 < w5.heap.size := (by have := hA5.2; omega); have hz53 : w.heap.size + 1 + 1 + 1 < w5.heap.size := (by have := hA5.2; omega)
      go_wp2_with fail
      refine (rNone_any _).mono ?_
      rintro e w6 ⟨rfl, hb⟩
      have hA6 := hA5.below hb; obtain ⟨hc6, hf6⟩ := bcell hb; (try simp only [size_alloc] at hc6 hf6); clear hb; have hz60 : w.heap.size < w6.heap.size := (by have := hA6.2; omega); have hz61 : w.heap.size + 1 < w6.heap.size := (by have := hA6.2; omega); have hz62 : w.heap.size + 1 + 1 < w6.heap.size := (by have := hA6.2; omega); have hz63 : w.heap.size + 1 + 1 + 1 < w6.heap.size := (by have := hA6.2; omega)
      go_wp2
      refine bodyPost_ret (v := .tuple #[.agg #[.int .i64 (Iv.non).lo, .int .i64 (Iv.non).hi], .agg #[.int .i64 (Iv.non).lo, .int .i64 (Iv.non).hi]]) ?_ rfl ⟨rfl, ((((hA6.set (by omega) _).set (by omega) _).set (by omega) _).set (by omega) _).1⟩
      simp [results, Try.results26, go_sem, hc5, hc6, hz50, hz51, hz52, hz53, hz60, hz61, hz62, hz63, c0, c1, d0, d1, hy0, hy1, hy2, hy3, Iv.non]
    · have he := iv_eql a.lo a.hi 1 0 false (iv_not a hn)
      have he2 := iv_eql b.lo b.hi 1 0 true (iv_is b hn2)
      clear hn hn2
      refine wp_region_held_drew (S := (fun w' => w'.cell? ⟨w.heap.size, 0, none⟩ = some (.int .i64 a.lo) ∧ w'.cell? ⟨w.heap.size, 1, none⟩ = some (.int .i64 a.hi) ∧ w'.cell? ⟨w.heap.size + 1, 0, none⟩ = some (.int .i64 b.lo) ∧ w'.cell? ⟨w.heap.size + 1, 1, none⟩ = some (.int .i64 b.hi) ∧ w'.cell? ⟨w.heap.size + 1 + 1, 0, none⟩ = some (.int .i64 0) ∧ w'.cell? ⟨w.heap.size + 1 + 1, 1, none⟩ = some (.int .i64 0) ∧ w'.cell? ⟨w.heap.size + 1 + 1 + 1, 0, none⟩ = some (.int .i64 0) ∧ w'.cell? ⟨w.heap.size + 1 + 1 + 1, 1, none⟩ = some (.int .i64 0) ∧ (∀ o, w'.frozen? ⟨w.heap.size + 1 + 1, o, none⟩ = false) ∧ (∀ o, w'.frozen? ⟨w.heap.size + 1 + 1 + 1, o, none⟩ = false) ∧ Ahead 4 w w')) (by kernel_rfl) (by exact ⟨by simpa using a0, by simpa using a1, by simpa using b0, by simpa using b1, by simpa using c0, by simpa using c1, by simpa using d0, by simpa using d1, fun o => by simpa using f2 o, fun o => by simpa using f3 o, hA.drew⟩) (fun hHeld => ?_)
      first
        | (refine' wpAnyH_take (i := 0) (v := _) ?_ ?_ ?_ ?_ ?_ ?_ ?_ ?_; rotate_left 2; (focus (simp only [List.getElem?_toArray, List.getElem?_cons_succ, List.getElem?_cons_zero]; rfl)); (focus kernel_rfl); (focus kernel_rfl); (focus kernel_rfl); (focus exact (fun _ _ _ h => h)); refine Or.inl ⟨?_, ?_⟩; (focus (go_simp; done)); (focus (intro w hSw; (try dsimp only at hSw); (first | (go_simp; done) | (go_simp; with_reducible rfl)))); (focus assumption); (try simp only [Act.put, List.setIfInBounds_toArray, List.set_cons_zero, List.set_cons_succ]))
        | (refine' wpAnyH_take (i := 0) (v := undef) ?_ ?_ ?_ ?_ ?_ ?_ ?_ ?_; rotate_left 1; (focus (simp only [List.getElem?_toArray, List.getElem?_cons_succ, List.getElem?_cons_zero]; rfl)); (focus kernel_rfl); (focus kernel_rfl); (focus kernel_rfl); (focus exact (fun _ _ _ h => h)); refine Or.inr ⟨?_, rfl⟩; (focus (go_simp; done)); (focus assumption); (try simp only [Act.put, List.setIfInBounds_toArray, List.set_cons_zero, List.set_cons_succ]))
        | (refine wpAnyH_ready (rs := [0]) (by kernel_rfl) (by simp) ?_; refine' AllReadyH.cons ?_ (fun K hK => ?_) AllReadyH.nil; rotate_left; (focus (simp only [List.getElem?_toArray, List.getElem?_cons_succ, List.getElem?_cons_zero]; rfl)); go_simp; (go_at_call 13; refine (rNone_any _).mono ?_; rintro e w4 ⟨rfl, hb⟩); refine hK.out _ _ (by go_split_ands; exact ⟨Ahead.cell0 (by assumption) hb (by assumption) (by omega), Ahead.cell0 (by assumption) hb (by assumption) (by omega), Ahead.cell (by assumption) hb (by assumption) (by omega), Ahead.cell (by assumption) hb (by assumption) (by omega), Ahead.cell2 (by assumption) hb (by assumption) (by omega), Ahead.cell2 (by assumption) hb (by assumption) (by omega), Ahead.cell3 (by assumption) hb (by assumption) (by omega), Ahead.cell3 (by assumption) hb (by assumption) (by omega), Ahead.frz2 (by assumption) hb (by assumption) (by omega), Ahead.frz3 (by assumption) hb (by assumption) (by omega), Ahead.below (by assumption) hb⟩) (fun hHeld => ?_); clear hK K; (try simp only [Act.put, List.setIfInBounds_toArray, List.set_cons_zero, List.set_cons_succ]); clear hb)
        | fail "operation 0"
      first
        | (refine' wpAnyH_take (i := 1) (v := _) ?_ ?_ ?_ ?_ ?_ ?_ ?_ ?_; rotate_left 2; (focus (simp only [List.getElem?_toArray, List.getElem?_cons_succ, List.getElem?_cons_zero]; rfl)); (focus kernel_rfl); (focus kernel_rfl); (focus kernel_rfl); (focus exact (fun _ _ _ h => h)); refine Or.inl ⟨?_, ?_⟩; (focus (go_simp; done)); (focus (intro w hSw; (try dsimp only at hSw); (first | (go_simp; done) | (go_simp; with_reducible rfl)))); (focus assumption); (try simp only [Act.put, List.setIfInBounds_toArray, List.set_cons_zero, List.set_cons_succ]))
        | (refine' wpAnyH_take (i := 1) (v := undef) ?_ ?_ ?_ ?_ ?_ ?_ ?_ ?_; rotate_left 1; (focus (simp only [List.getElem?_toArray, List.getElem?_cons_succ, List.getElem?_cons_zero]; rfl)); (focus kernel_rfl); (focus kernel_rfl); (focus kernel_rfl); (focus exact (fun _ _ _ h => h)); refine Or.inr ⟨?_, rfl⟩; (focus (go_simp; done)); (focus assumption); (try simp only [Act.put, List.setIfInBounds_toArray, List.set_cons_zero, List.set_cons_succ]))
        | (refine wpAnyH_ready (rs := [1]) (by kernel_rfl) (by simp) ?_; refine' AllReadyH.cons ?_ (fun K hK => ?_) AllReadyH.nil; rotate_left; (focus (simp only [List.getElem?_toArray, List.getElem?_cons_succ, List.getElem?_cons_zero]; rfl)); go_simp; (go_at_call 13; refine (rNone_any _).mono ?_; rintro e w4 ⟨rfl, hb⟩); refine hK.out _ _ (by go_split_ands; exact ⟨Ahead.cell0 (by assumption) hb (by assumption) (by omega), Ahead.cell0 (by assumption) hb (by assumption) (by omega), Ahead.cell (by assumption) hb (by assumption) (by omega), Ahead.cell (by assumption) hb (by assumption) (by omega), Ahead.cell2 (by assumption) hb (by assumption) (by omega), Ahead.cell2 (by assumption) hb (by assumption) (by omega), Ahead.cell3 (by assumption) hb (by assumption) (by omega), Ahead.cell3 (by assumption) hb (by assumption) (by omega), Ahead.frz2 (by assumption) hb (by assumption) (by omega), Ahead.frz3 (by assumption) hb (by assumption) (by omega), Ahead.below (by assumption) hb⟩) (fun hHeld => ?_); clear hK K; (try simp only [Act.put, List.setIfInBounds_toArray, List.set_cons_zero, List.set_cons_succ]); clear hb)
        | fail "operation 1"
      first
        | (refine' wpAnyH_take (i := 2) (v := _) ?_ ?_ ?_ ?_ ?_ ?_ ?_ ?_; rotate_left 2; (focus (simp only [List.getElem?_toArray, List.getElem?_cons_succ, List.getElem?_cons_zero]; rfl)); (focus kernel_rfl); (focus kernel_rfl); (focus kernel_rfl); (focus exact (fun _ _ _ h => h)); refine Or.inl ⟨?_, ?_⟩; (focus (go_simp; done)); (focus (intro w hSw; (try dsimp only at hSw); (first | (go_simp; done) | (go_simp; with_reducible rfl)))); (focus assumption); (try simp only [Act.put, List.setIfInBounds_toArray, List.set_cons_zero, List.set_cons_succ]))
        | (refine' wpAnyH_take (i := 2) (v := undef) ?_ ?_ ?_ ?_ ?_ ?_ ?_ ?_; rotate_left 1; (focus (simp only [List.getElem?_toArray, List.getElem?_cons_succ, List.getElem?_cons_zero]; rfl)); (focus kernel_rfl); (focus kernel_rfl); (focus kernel_rfl); (focus exact (fun _ _ _ h => h)); refine Or.inr ⟨?_, rfl⟩; (focus (go_simp; done)); (focus assumption); (try simp only [Act.put, List.setIfInBounds_toArray, List.set_cons_zero, List.set_cons_succ]))
        | (refine wpAnyH_ready (rs := [2]) (by kernel_rfl) (by simp) ?_; refine' AllReadyH.cons ?_ (fun K hK => ?_) AllReadyH.nil; rotate_left; (focus (simp only [List.getElem?_toArray, List.getElem?_cons_succ, List.getElem?_cons_zero]; rfl)); go_simp; (go_at_call 13; refine (rNone_any _).mono ?_; rintro e w4 ⟨rfl, hb⟩); refine hK.out _ _ (by go_split_ands; exact ⟨Ahead.cell0 (by assumption) hb (by assumption) (by omega), Ahead.cell0 (by assumption) hb (by assumption) (by omega), Ahead.cell (by assumption) hb (by assumption) (by omega), Ahead.cell (by assumption) hb (by assumption) (by omega), Ahead.cell2 (by assumption) hb (by assumption) (by omega), Ahead.cell2 (by assumption) hb (by assumption) (by omega), Ahead.cell3 (by assumption) hb (by assumption) (by omega), Ahead.cell3 (by assumption) hb (by assumption) (by omega), Ahead.frz2 (by assumption) hb (by assumption) (by omega), Ahead.frz3 (by assumption) hb (by assumption) (by omega), Ahead.below (by assumption) hb⟩) (fun hHeld => ?_); clear hK K; (try simp only [Act.put, List.setIfInBounds_toArray, List.set_cons_zero, List.set_cons_succ]); clear hb)
        | fail "operation 2"
      first
        | (refine' wpAnyH_take (i := 3) (v := _) ?_ ?_ ?_ ?_ ?_ ?_ ?_ ?_; rotate_left 2; (focus (simp only [List.getElem?_toArray, List.getElem?_cons_succ, List.getElem?_cons_zero]; rfl)); (focus kernel_rfl); (focus kernel_rfl); (focus kernel_rfl); (focus exact (fun _ _ _ h => h)); refine Or.inl ⟨?_, ?_⟩; (focus (go_simp; done)); (focus (intro w hSw; (try dsimp only at hSw); (first | (go_simp; done) | (go_simp; with_reducible rfl)))); (focus assumption); (try simp only [Act.put, List.setIfInBounds_toArray, List.set_cons_zero, List.set_cons_succ]))
        | (refine' wpAnyH_take (i := 3) (v := undef) ?_ ?_ ?_ ?_ ?_ ?_ ?_ ?_; rotate_left 1; (focus (simp only [List.getElem?_toArray, List.getElem?_cons_succ, List.getElem?_cons_zero]; rfl)); (focus kernel_rfl); (focus kernel_rfl); (focus kernel_rfl); (focus exact (fun _ _ _ h => h)); refine Or.inr ⟨?_, rfl⟩; (focus (go_simp; done)); (focus assumption); (try simp only [Act.put, List.setIfInBounds_toArray, List.set_cons_zero, List.set_cons_succ]))
        | (refine wpAnyH_ready (rs := [3]) (by kernel_rfl) (by simp) ?_; refine' AllReadyH.cons ?_ (fun K hK => ?_) AllReadyH.nil; rotate_left; (focus (simp only [List.getElem?_toArray, List.getElem?_cons_succ, List.getElem?_cons_zero]; rfl)); go_simp; (go_at_call 13; refine (rNone_any _).mono ?_; rintro e w4 ⟨rfl, hb⟩); refine hK.out _ _ (by go_split_ands; exact ⟨Ahead.cell0 (by assumption) hb (by assumption) (by omega), Ahead.cell0 (by assumption) hb (by assumption) (by omega), Ahead.cell (by assumption) hb (by assumption) (by omega), Ahead.cell (by assumption) hb (by assumption) (by omega), Ahead.cell2 (by assumption) hb (by assumption) (by omega), Ahead.cell2 (by assumption) hb (by assumption) (by omega), Ahead.cell3 (by assumption) hb (by assumption) (by omega), Ahead.cell3 (by assumption) hb (by assumption) (by omega), Ahead.frz2 (by assumption) hb (by assumption) (by omega), Ahead.frz3 (by assumption) hb (by assumption) (by omega), Ahead.below (by assumption) hb⟩) (fun hHeld => ?_); clear hK K; (try simp only [Act.put, List.setIfInBounds_toArray, List.set_cons_zero, List.set_cons_succ]); clear hb)
        | fail "operation 3"
      first
        | (refine' wpAnyH_take (i := 4) (v := _) ?_ ?_ ?_ ?_ ?_ ?_ ?_ ?_; rotate_left 2; (focus (simp only [List.getElem?_toArray, List.getElem?_cons_succ, List.getElem?_cons_zero]; rfl)); (focus kernel_rfl); (focus kernel_rfl); (focus kernel_rfl); (focus exact (fun _ _ _ h => h)); refine Or.inl ⟨?_, ?_⟩; (focus (go_simp; done)); (focus (intro w hSw; (try dsimp only at hSw); (first | (go_simp; done) | (go_simp; with_reducible rfl)))); (focus assumption); (try simp only [Act.put, List.setIfInBounds_toArray, List.set_cons_zero, List.set_cons_succ]))
        | (refine' wpAnyH_take (i := 4) (v := undef) ?_ ?_ ?_ ?_ ?_ ?_ ?_ ?_; rotate_left 1; (focus (simp only [List.getElem?_toArray, List.getElem?_cons_succ, List.getElem?_cons_zero]; rfl)); (focus kernel_rfl); (focus kernel_rfl); (focus kernel_rfl); (focus exact (fun _ _ _ h => h)); refine Or.inr ⟨?_, rfl⟩; (focus (go_simp; done)); (focus assumption); (try simp only [Act.put, List.setIfInBounds_toArray, List.set_cons_zero, List.set_cons_succ]))
        | (refine wpAnyH_ready (rs := [4]) (by kernel_rfl) (by simp) ?_; refine' AllReadyH.cons ?_ (fun K hK => ?_) AllReadyH.nil; rotate_left; (focus (simp only [List.getElem?_toArray, List.getElem?_cons_succ, List.getElem?_cons_zero]; rfl)); go_simp; (go_at_call 13; refine (rNone_any _).mono ?_; rintro e w4 ⟨rfl, hb⟩); refine hK.out _ _ (by go_split_ands; exact ⟨Ahead.cell0 (by assumption) hb (by assumption) (by omega), Ahead.cell0 (by assumption) hb (by assumption) (by omega), Ahead.cell (by assumption) hb (by assumption) (by omega), Ahead.cell (by assumption) hb (by assumption) (by omega), Ahead.cell2 (by assumption) hb (by assumption) (by omega), Ahead.cell2 (by assumption) hb (by assumption) (by omega), Ahead.cell3 (by assumption) hb (by assumption) (by omega), Ahead.cell3 (by assumption) hb (by assumption) (by omega), Ahead.frz2 (by assumption) hb (by assumption) (by omega), Ahead.frz3 (by assumption) hb (by assumption) (by omega), Ahead.below (by assumption) hb⟩) (fun hHeld => ?_); clear hK K; (try simp only [Act.put, List.setIfInBounds_toArray, List.set_cons_zero, List.set_cons_succ]); clear hb)
        | fail "operation 4"
      first
        | (refine' wpAnyH_take (i := 5) (v := _) ?_ ?_ ?_ ?_ ?_ ?_ ?_ ?_; rotate_left 2; (focus (simp only [List.getElem?_toArray, List.getElem?_cons_succ, List.getElem?_cons_zero]; rfl)); (focus kernel_rfl); (focus kernel_rfl); (focus kernel_rfl); (focus exact (fun _ _ _ h => h)); refine Or.inl ⟨?_, ?_⟩; (focus (go_simp; done)); (focus (intro w hSw; (try dsimp only at hSw); (first | (go_simp; done) | (go_simp; with_reducible rfl)))); (focus assumption); (try simp only [Act.put, List.setIfInBounds_toArray, List.set_cons_zero, List.set_cons_succ]))
        | (refine' wpAnyH_take (i := 5) (v := undef) ?_ ?_ ?_ ?_ ?_ ?_ ?_ ?_; rotate_left 1; (focus (simp only [List.getElem?_toArray, List.getElem?_cons_succ, List.getElem?_cons_zero]; rfl)); (focus kernel_rfl); (focus kernel_rfl); (focus kernel_rfl); (focus exact (fun _ _ _ h => h)); refine Or.inr ⟨?_, rfl⟩; (focus (go_simp; done)); (focus assumption); (try simp only [Act.put, List.setIfInBounds_toArray, List.set_cons_zero, List.set_cons_succ]))
        | (refine wpAnyH_ready (rs := [5]) (by kernel_rfl) (by simp) ?_; refine' AllReadyH.cons ?_ (fun K hK => ?_) AllReadyH.nil; rotate_left; (focus (simp only [List.getElem?_toArray, List.getElem?_cons_succ, List.getElem?_cons_zero]; rfl)); go_simp; (go_at_call 13; refine (rNone_any _).mono ?_; rintro e w4 ⟨rfl, hb⟩); refine hK.out _ _ (by go_split_ands; exact ⟨Ahead.cell0 (by assumption) hb (by assumption) (by omega), Ahead.cell0 (by assumption) hb (by assumption) (by omega), Ahead.cell (by assumption) hb (by assumption) (by omega), Ahead.cell (by assumption) hb (by assumption) (by omega), Ahead.cell2 (by assumption) hb (by assumption) (by omega), Ahead.cell2 (by assumption) hb (by assumption) (by omega), Ahead.cell3 (by assumption) hb (by assumption) (by omega), Ahead.cell3 (by assumption) hb (by assumption) (by omega), Ahead.frz2 (by assumption) hb (by assumption) (by omega), Ahead.frz3 (by assumption) hb (by assumption) (by omega), Ahead.below (by assumption) hb⟩) (fun hHeld => ?_); clear hK K; (try simp only [Act.put, List.setIfInBounds_toArray, List.set_cons_zero, List.set_cons_succ]); clear hb)
        | fail "operation 5"
      first
        | (refine' wpAnyH_take (i := 6) (v := _) ?_ ?_ ?_ ?_ ?_ ?_ ?_ ?_; rotate_left 2; (focus (simp only [List.getElem?_toArray, List.getElem?_cons_succ, List.getElem?_cons_zero]; rfl)); (focus kernel_rfl); (focus kernel_rfl); (focus kernel_rfl); (focus exact (fun _ _ _ h => h)); refine Or.inl ⟨?_, ?_⟩; (focus (go_simp; done)); (focus (intro w hSw; (try dsimp only at hSw); (first | (go_simp; done) | (go_simp; with_reducible rfl)))); (focus assumption); (try simp only [Act.put, List.setIfInBounds_toArray, List.set_cons_zero, List.set_cons_succ]))
        | (refine' wpAnyH_take (i := 6) (v := undef) ?_ ?_ ?_ ?_ ?_ ?_ ?_ ?_; rotate_left 1; (focus (simp only [List.getElem?_toArray, List.getElem?_cons_succ, List.getElem?_cons_zero]; rfl)); (focus kernel_rfl); (focus kernel_rfl); (focus kernel_rfl); (focus exact (fun _ _ _ h => h)); refine Or.inr ⟨?_, rfl⟩; (focus (go_simp; done)); (focus assumption); (try simp only [Act.put, List.setIfInBounds_toArray, List.set_cons_zero, List.set_cons_succ]))
        | (refine wpAnyH_ready (rs := [6]) (by kernel_rfl) (by simp) ?_; refine' AllReadyH.cons ?_ (fun K hK => ?_) AllReadyH.nil; rotate_left; (focus (simp only [List.getElem?_toArray, List.getElem?_cons_succ, List.getElem?_cons_zero]; rfl)); go_simp; (go_at_call 13; refine (rNone_any _).mono ?_; rintro e w4 ⟨rfl, hb⟩); refine hK.out _ _ (by go_split_ands; exact ⟨Ahead.cell0 (by assumption) hb (by assumption) (by omega), Ahead.cell0 (by assumption) hb (by assumption) (by omega), Ahead.cell (by assumption) hb (by assumption) (by omega), Ahead.cell (by assumption) hb (by assumption) (by omega), Ahead.cell2 (by assumption) hb (by assumption) (by omega), Ahead.cell2 (by assumption) hb (by assumption) (by omega), Ahead.cell3 (by assumption) hb (by assumption) (by omega), Ahead.cell3 (by assumption) hb (by assumption) (by omega), Ahead.frz2 (by assumption) hb (by assumption) (by omega), Ahead.frz3 (by assumption) hb (by assumption) (by omega), Ahead.below (by assumption) hb⟩) (fun hHeld => ?_); clear hK K; (try simp only [Act.put, List.setIfInBounds_toArray, List.set_cons_zero, List.set_cons_succ]); clear hb)
        | fail "operation 6"
      first
        | (refine' wpAnyH_take (i := 7) (v := _) ?_ ?_ ?_ ?_ ?_ ?_ ?_ ?_; rotate_left 2; (focus (simp only [List.getElem?_toArray, List.getElem?_cons_succ, List.getElem?_cons_zero]; rfl)); (focus kernel_rfl); (focus kernel_rfl); (focus kernel_rfl); (focus exact (fun _ _ _ h => h)); refine Or.inl ⟨?_, ?_⟩; (focus (go_simp; done)); (focus (intro w hSw; (try dsimp only at hSw); (first | (go_simp; done) | (go_simp; with_reducible rfl)))); (focus assumption); (try simp only [Act.put, List.setIfInBounds_toArray, List.set_cons_zero, List.set_cons_succ]))
        | (refine' wpAnyH_take (i := 7) (v := undef) ?_ ?_ ?_ ?_ ?_ ?_ ?_ ?_; rotate_left 1; (focus (simp only [List.getElem?_toArray, List.getElem?_cons_succ, List.getElem?_cons_zero]; rfl)); (focus kernel_rfl); (focus kernel_rfl); (focus kernel_rfl); (focus exact (fun _ _ _ h => h)); refine Or.inr ⟨?_, rfl⟩; (focus (go_simp; done)); (focus assumption); (try simp only [Act.put, List.setIfInBounds_toArray, List.set_cons_zero, List.set_cons_succ]))
        | (refine wpAnyH_ready (rs := [7]) (by kernel_rfl) (by simp) ?_; refine' AllReadyH.cons ?_ (fun K hK => ?_) AllReadyH.nil; rotate_left; (focus (simp only [List.getElem?_toArray, List.getElem?_cons_succ, List.getElem?_cons_zero]; rfl)); go_simp; (go_at_call 13; refine (rNone_any _).mono ?_; rintro e w4 ⟨rfl, hb⟩); refine hK.out _ _ (by go_split_ands; exact ⟨Ahead.cell0 (by assumption) hb (by assumption) (by omega), Ahead.cell0 (by assumption) hb (by assumption) (by omega), Ahead.cell (by assumption) hb (by assumption) (by omega), Ahead.cell (by assumption) hb (by assumption) (by omega), Ahead.cell2 (by assumption) hb (by assumption) (by omega), Ahead.cell2 (by assumption) hb (by assumption) (by omega), Ahead.cell3 (by assumption) hb (by assumption) (by omega), Ahead.cell3 (by assumption) hb (by assumption) (by omega), Ahead.frz2 (by assumption) hb (by assumption) (by omega), Ahead.frz3 (by assumption) hb (by assumption) (by omega), Ahead.below (by assumption) hb⟩) (fun hHeld => ?_); clear hK K; (try simp only [Act.put, List.setIfInBounds_toArray, List.set_cons_zero, List.set_cons_succ]); clear hb)
        | fail "operation 7"
      refine wpAnyH_done (by kernel_rfl) ?_ _
      obtain ⟨a0, a1, b0, b1, c0, c1, d0, d1, f2, f3, hA⟩ := hHeld; have hy0 := hA.lt0 (by omega); have hy1 := hA.lt1 (by omega); have hy2 := hA.lt2 (by omega); have hy3 := hA.lt3 (by omega)
      go_wp2_with fail
      refine (rNone_any _).mono ?_
      rintro e w5 ⟨rfl, hb⟩
      have hA5 := hA.below hb; obtain ⟨hc5, hf5⟩ := bcell hb; (try simp only [size_alloc] at hc5 hf5); clear hb; have hz50 : w.heap.size < w5.heap.size := (by have := hA5.2; omega); have hz51 : w.heap.size + 1 < w5.heap.size := (by have := hA5.2; omega); have hz52 : w.heap.size + 1 + 1 < w5.heap.size := (by have := hA5.2; omega); have hz53 : w.heap.size + 1 + 1 + 1 < w5.heap.size := (by have := hA5.2; omega)
      go_wp2_with fail
      refine (rNone_any _).mono ?_
      rintro e w6 ⟨rfl, hb⟩
      have hA6 := hA5.below hb; obtain ⟨hc6, hf6⟩ := bcell hb; (try simp only [size_alloc] at hc6 hf6); clear hb; have hz60 : w.heap.size < w6.heap.size := (by have := hA6.2; omega); have hz61 : w.heap.size + 1 < w6.heap.size := (by have := hA6.2; omega); have hz62 : w.heap.size + 1 + 1 < w6.heap.size := (by have := hA6.2; omega); have hz63 : w.heap.size + 1 + 1 + 1 < w6.heap.size := (by have := hA6.2; omega)
      go_wp2
      refine bodyPost_ret (v := .tuple #[.agg #[.int .i64 (Iv.non).lo, .int .i64 (Iv.non).hi], .agg #[.int .i64 (Iv.non).lo, .int .i64 (Iv.non).hi]]) ?_ rfl ⟨rfl, ((((hA6.set (by omega) _).set (by omega) _).set (by omega) _).set (by omega) _).1⟩
      simp [results, Try.results26, go_sem, hc5, hc6, hz50, hz51, hz52, hz53, hz60, hz61, hz62, hz63, c0, c1, d0, d1, hy0, hy1, hy2, hy3, Iv.non]
  have hna : a ≠ Iv.non := fun e => hn (.inl e)
  have hnb : b ≠ Iv.non := fun e => hn (.inr e)
  have he := iv_eql a.lo a.hi 1 0 false (iv_not a hna)
  have he2 := iv_eql b.lo b.hi 1 0 false (iv_not b hnb)
  obtain ⟨l1, l2, l3⟩ := HG.out.1.resolve_left hna
  obtain ⟨k1, k2, k3⟩ := HG.out.2.resolve_left hnb
  have hj := HJ'.out
  rw [if_neg hn] at hj
  have HJ := Lib.hid hj
  clear HJ' HG hn hj hna hnb
  refine wp_region_held_drew (S := (fun w' => w'.cell? ⟨w.heap.size, 0, none⟩ = some (.int .i64 a.lo) ∧ w'.cell? ⟨w.heap.size, 1, none⟩ = some (.int .i64 a.hi) ∧ w'.cell? ⟨w.heap.size + 1, 0, none⟩ = some (.int .i64 b.lo) ∧ w'.cell? ⟨w.heap.size + 1, 1, none⟩ = some (.int .i64 b.hi) ∧ w'.cell? ⟨w.heap.size + 1 + 1, 0, none⟩ = some (.int .i64 0) ∧ w'.cell? ⟨w.heap.size + 1 + 1, 1, none⟩ = some (.int .i64 0) ∧ w'.cell? ⟨w.heap.size + 1 + 1 + 1, 0, none⟩ = some (.int .i64 0) ∧ w'.cell? ⟨w.heap.size + 1 + 1 + 1, 1, none⟩ = some (.int .i64 0) ∧ (∀ o, w'.frozen? ⟨w.heap.size + 1 + 1, o, none⟩ = false) ∧ (∀ o, w'.frozen? ⟨w.heap.size + 1 + 1 + 1, o, none⟩ = false) ∧ Ahead 4 w w')) (by kernel_rfl) (by exact ⟨by simpa using a0, by simpa using a1, by simpa using b0, by simpa using b1, by simpa using c0, by simpa using c1, by simpa using d0, by simpa using d1, fun o => by simpa using f2 o, fun o => by simpa using f3 o, hA.drew⟩) (fun hHeld => ?_)
  first
    | (refine' wpAnyH_take (i := 0) (v := _) ?_ ?_ ?_ ?_ ?_ ?_ ?_ ?_; rotate_left 2; (focus (simp only [List.getElem?_toArray, List.getElem?_cons_succ, List.getElem?_cons_zero]; rfl)); (focus kernel_rfl); (focus kernel_rfl); (focus kernel_rfl); (focus exact (fun _ _ _ h => h)); refine Or.inl ⟨?_, ?_⟩; (focus (go_simp; done)); (focus (intro w hSw; (try dsimp only at hSw); (first | (go_simp; done) | (go_simp; with_reducible rfl)))); (focus assumption); (try simp only [Act.put, List.setIfInBounds_toArray, List.set_cons_zero, List.set_cons_succ]))
    | (refine' wpAnyH_take (i := 0) (v := undef) ?_ ?_ ?_ ?_ ?_ ?_ ?_ ?_; rotate_left 1; (focus (simp only [List.getElem?_toArray, List.getElem?_cons_succ, List.getElem?_cons_zero]; rfl)); (focus kernel_rfl); (focus kernel_rfl); (focus kernel_rfl); (focus exact (fun _ _ _ h => h)); refine Or.inr ⟨?_, rfl⟩; (focus (go_simp; done)); (focus assumption); (try simp only [Act.put, List.setIfInBounds_toArray, List.set_cons_zero, List.set_cons_succ]))
    | (refine wpAnyH_ready (rs := [0]) (by kernel_rfl) (by simp) ?_; refine' AllReadyH.cons ?_ (fun K hK => ?_) AllReadyH.nil; rotate_left; (focus (simp only [List.getElem?_toArray, List.getElem?_cons_succ, List.getElem?_cons_zero]; rfl)); go_simp; (go_at_call 13; refine (rNone_any _).mono ?_; rintro e w4 ⟨rfl, hb⟩); refine hK.out _ _ (by go_split_ands; exact ⟨Ahead.cell0 (by assumption) hb (by assumption) (by omega), Ahead.cell0 (by assumption) hb (by assumption) (by omega), Ahead.cell (by assumption) hb (by assumption) (by omega), Ahead.cell (by assumption) hb (by assumption) (by omega), Ahead.cell2 (by assumption) hb (by assumption) (by omega), Ahead.cell2 (by assumption) hb (by assumption) (by omega), Ahead.cell3 (by assumption) hb (by assumption) (by omega), Ahead.cell3 (by assumption) hb (by assumption) (by omega), Ahead.frz2 (by assumption) hb (by assumption) (by omega), Ahead.frz3 (by assumption) hb (by assumption) (by omega), Ahead.below (by assumption) hb⟩) (fun hHeld => ?_); clear hK K; (try simp only [Act.put, List.setIfInBounds_toArray, List.set_cons_zero, List.set_cons_succ]); clear hb)
    | fail "operation 0"
  first
    | (refine' wpAnyH_take (i := 1) (v := _) ?_ ?_ ?_ ?_ ?_ ?_ ?_ ?_; rotate_left 2; (focus (simp only [List.getElem?_toArray, List.getElem?_cons_succ, List.getElem?_cons_zero]; rfl)); (focus kernel_rfl); (focus kernel_rfl); (focus kernel_rfl); (focus exact (fun _ _ _ h => h)); refine Or.inl ⟨?_, ?_⟩; (focus (go_simp; done)); (focus (intro w hSw; (try dsimp only at hSw); (first | (go_simp; done) | (go_simp; with_reducible rfl)))); (focus assumption); (try simp only [Act.put, List.setIfInBounds_toArray, List.set_cons_zero, List.set_cons_succ]))
    | (refine' wpAnyH_take (i := 1) (v := undef) ?_ ?_ ?_ ?_ ?_ ?_ ?_ ?_; rotate_left 1; (focus (simp only [List.getElem?_toArray, List.getElem?_cons_succ, List.getElem?_cons_zero]; rfl)); (focus kernel_rfl); (focus kernel_rfl); (focus kernel_rfl); (focus exact (fun _ _ _ h => h)); refine Or.inr ⟨?_, rfl⟩; (focus (go_simp; done)); (focus assumption); (try simp only [Act.put, List.setIfInBounds_toArray, List.set_cons_zero, List.set_cons_succ]))
    | (refine wpAnyH_ready (rs := [1]) (by kernel_rfl) (by simp) ?_; refine' AllReadyH.cons ?_ (fun K hK => ?_) AllReadyH.nil; rotate_left; (focus (simp only [List.getElem?_toArray, List.getElem?_cons_succ, List.getElem?_cons_zero]; rfl)); go_simp; (go_at_call 13; refine (rNone_any _).mono ?_; rintro e w4 ⟨rfl, hb⟩); refine hK.out _ _ (by go_split_ands; exact ⟨Ahead.cell0 (by assumption) hb (by assumption) (by omega), Ahead.cell0 (by assumption) hb (by assumption) (by omega), Ahead.cell (by assumption) hb (by assumption) (by omega), Ahead.cell (by assumption) hb (by assumption) (by omega), Ahead.cell2 (by assumption) hb (by assumption) (by omega), Ahead.cell2 (by assumption) hb (by assumption) (by omega), Ahead.cell3 (by assumption) hb (by assumption) (by omega), Ahead.cell3 (by assumption) hb (by assumption) (by omega), Ahead.frz2 (by assumption) hb (by assumption) (by omega), Ahead.frz3 (by assumption) hb (by assumption) (by omega), Ahead.below (by assumption) hb⟩) (fun hHeld => ?_); clear hK K; (try simp only [Act.put, List.setIfInBounds_toArray, List.set_cons_zero, List.set_cons_succ]); clear hb)
    | fail "operation 1"
  first
    | (refine' wpAnyH_take (i := 2) (v := _) ?_ ?_ ?_ ?_ ?_ ?_ ?_ ?_; rotate_left 2; (focus (simp only [List.getElem?_toArray, List.getElem?_cons_succ, List.getElem?_cons_zero]; rfl)); (focus kernel_rfl); (focus kernel_rfl); (focus kernel_rfl); (focus exact (fun _ _ _ h => h)); refine Or.inl ⟨?_, ?_⟩; (focus (go_simp; done)); (focus (intro w hSw; (try dsimp only at hSw); (first | (go_simp; done) | (go_simp; with_reducible rfl)))); (focus assumption); (try simp only [Act.put, List.setIfInBounds_toArray, List.set_cons_zero, List.set_cons_succ]))
    | (refine' wpAnyH_take (i := 2) (v := undef) ?_ ?_ ?_ ?_ ?_ ?_ ?_ ?_; rotate_left 1; (focus (simp only [List.getElem?_toArray, List.getElem?_cons_succ, List.getElem?_cons_zero]; rfl)); (focus kernel_rfl); (focus kernel_rfl); (focus kernel_rfl); (focus exact (fun _ _ _ h => h)); refine Or.inr ⟨?_, rfl⟩; (focus (go_simp; done)); (focus assumption); (try simp only [Act.put, List.setIfInBounds_toArray, List.set_cons_zero, List.set_cons_succ]))
    | (refine wpAnyH_ready (rs := [2]) (by kernel_rfl) (by simp) ?_; refine' AllReadyH.cons ?_ (fun K hK => ?_) AllReadyH.nil; rotate_left; (focus (simp only [List.getElem?_toArray, List.getElem?_cons_succ, List.getElem?_cons_zero]; rfl)); go_simp; (go_at_call 13; refine (rNone_any _).mono ?_; rintro e w4 ⟨rfl, hb⟩); refine hK.out _ _ (by go_split_ands; exact ⟨Ahead.cell0 (by assumption) hb (by assumption) (by omega), Ahead.cell0 (by assumption) hb (by assumption) (by omega), Ahead.cell (by assumption) hb (by assumption) (by omega), Ahead.cell (by assumption) hb (by assumption) (by omega), Ahead.cell2 (by assumption) hb (by assumption) (by omega), Ahead.cell2 (by assumption) hb (by assumption) (by omega), Ahead.cell3 (by assumption) hb (by assumption) (by omega), Ahead.cell3 (by assumption) hb (by assumption) (by omega), Ahead.frz2 (by assumption) hb (by assumption) (by omega), Ahead.frz3 (by assumption) hb (by assumption) (by omega), Ahead.below (by assumption) hb⟩) (fun hHeld => ?_); clear hK K; (try simp only [Act.put, List.setIfInBounds_toArray, List.set_cons_zero, List.set_cons_succ]); clear hb)
    | fail "operation 2"
  first
    | (refine' wpAnyH_take (i := 3) (v := _) ?_ ?_ ?_ ?_ ?_ ?_ ?_ ?_; rotate_left 2; (focus (simp only [List.getElem?_toArray, List.getElem?_cons_succ, List.getElem?_cons_zero]; rfl)); (focus kernel_rfl); (focus kernel_rfl); (focus kernel_rfl); (focus exact (fun _ _ _ h => h)); refine Or.inl ⟨?_, ?_⟩; (focus (go_simp; done)); (focus (intro w hSw; (try dsimp only at hSw); (first | (go_simp; done) | (go_simp; with_reducible rfl)))); (focus assumption); (try simp only [Act.put, List.setIfInBounds_toArray, List.set_cons_zero, List.set_cons_succ]))
    | (refine' wpAnyH_take (i := 3) (v := undef) ?_ ?_ ?_ ?_ ?_ ?_ ?_ ?_; rotate_left 1; (focus (simp only [List.getElem?_toArray, List.getElem?_cons_succ, List.getElem?_cons_zero]; rfl)); (focus kernel_rfl); (focus kernel_rfl); (focus kernel_rfl); (focus exact (fun _ _ _ h => h)); refine Or.inr ⟨?_, rfl⟩; (focus (go_simp; done)); (focus assumption); (try simp only [Act.put, List.setIfInBounds_toArray, List.set_cons_zero, List.set_cons_succ]))
    | (refine wpAnyH_ready (rs := [3]) (by kernel_rfl) (by simp) ?_; refine' AllReadyH.cons ?_ (fun K hK => ?_) AllReadyH.nil; rotate_left; (focus (simp only [List.getElem?_toArray, List.getElem?_cons_succ, List.getElem?_cons_zero]; rfl)); go_simp; (go_at_call 13; refine (rNone_any _).mono ?_; rintro e w4 ⟨rfl, hb⟩); refine hK.out _ _ (by go_split_ands; exact ⟨Ahead.cell0 (by assumption) hb (by assumption) (by omega), Ahead.cell0 (by assumption) hb (by assumption) (by omega), Ahead.cell (by assumption) hb (by assumption) (by omega), Ahead.cell (by assumption) hb (by assumption) (by omega), Ahead.cell2 (by assumption) hb (by assumption) (by omega), Ahead.cell2 (by assumption) hb (by assumption) (by omega), Ahead.cell3 (by assumption) hb (by assumption) (by omega), Ahead.cell3 (by assumption) hb (by assumption) (by omega), Ahead.frz2 (by assumption) hb (by assumption) (by omega), Ahead.frz3 (by assumption) hb (by assumption) (by omega), Ahead.below (by assumption) hb⟩) (fun hHeld => ?_); clear hK K; (try simp only [Act.put, List.setIfInBounds_toArray, List.set_cons_zero, List.set_cons_succ]); clear hb)
    | fail "operation 3"
  first
    | (refine' wpAnyH_take (i := 4) (v := _) ?_ ?_ ?_ ?_ ?_ ?_ ?_ ?_; rotate_left 2; (focus (simp only [List.getElem?_toArray, List.getElem?_cons_succ, List.getElem?_cons_zero]; rfl)); (focus kernel_rfl); (focus kernel_rfl); (focus kernel_rfl); (focus exact (fun _ _ _ h => h)); refine Or.inl ⟨?_, ?_⟩; (focus (go_simp; done)); (focus (intro w hSw; (try dsimp only at hSw); (first | (go_simp; done) | (go_simp; with_reducible rfl)))); (focus assumption); (try simp only [Act.put, List.setIfInBounds_toArray, List.set_cons_zero, List.set_cons_succ]))
    | (refine' wpAnyH_take (i := 4) (v := undef) ?_ ?_ ?_ ?_ ?_ ?_ ?_ ?_; rotate_left 1; (focus (simp only [List.getElem?_toArray, List.getElem?_cons_succ, List.getElem?_cons_zero]; rfl)); (focus kernel_rfl); (focus kernel_rfl); (focus kernel_rfl); (focus exact (fun _ _ _ h => h)); refine Or.inr ⟨?_, rfl⟩; (focus (go_simp; done)); (focus assumption); (try simp only [Act.put, List.setIfInBounds_toArray, List.set_cons_zero, List.set_cons_succ]))
    | (refine wpAnyH_ready (rs := [4]) (by kernel_rfl) (by simp) ?_; refine' AllReadyH.cons ?_ (fun K hK => ?_) AllReadyH.nil; rotate_left; (focus (simp only [List.getElem?_toArray, List.getElem?_cons_succ, List.getElem?_cons_zero]; rfl)); go_simp; (go_at_call 13; refine (rNone_any _).mono ?_; rintro e w4 ⟨rfl, hb⟩); refine hK.out _ _ (by go_split_ands; exact ⟨Ahead.cell0 (by assumption) hb (by assumption) (by omega), Ahead.cell0 (by assumption) hb (by assumption) (by omega), Ahead.cell (by assumption) hb (by assumption) (by omega), Ahead.cell (by assumption) hb (by assumption) (by omega), Ahead.cell2 (by assumption) hb (by assumption) (by omega), Ahead.cell2 (by assumption) hb (by assumption) (by omega), Ahead.cell3 (by assumption) hb (by assumption) (by omega), Ahead.cell3 (by assumption) hb (by assumption) (by omega), Ahead.frz2 (by assumption) hb (by assumption) (by omega), Ahead.frz3 (by assumption) hb (by assumption) (by omega), Ahead.below (by assumption) hb⟩) (fun hHeld => ?_); clear hK K; (try simp only [Act.put, List.setIfInBounds_toArray, List.set_cons_zero, List.set_cons_succ]); clear hb)
    | fail "operation 4"
  first
    | (refine' wpAnyH_take (i := 5) (v := _) ?_ ?_ ?_ ?_ ?_ ?_ ?_ ?_; rotate_left 2; (focus (simp only [List.getElem?_toArray, List.getElem?_cons_succ, List.getElem?_cons_zero]; rfl)); (focus kernel_rfl); (focus kernel_rfl); (focus kernel_rfl); (focus exact (fun _ _ _ h => h)); refine Or.inl ⟨?_, ?_⟩; (focus (go_simp; done)); (focus (intro w hSw; (try dsimp only at hSw); (first | (go_simp; done) | (go_simp; with_reducible rfl)))); (focus assumption); (try simp only [Act.put, List.setIfInBounds_toArray, List.set_cons_zero, List.set_cons_succ]))
    | (refine' wpAnyH_take (i := 5) (v := undef) ?_ ?_ ?_ ?_ ?_ ?_ ?_ ?_; rotate_left 1; (focus (simp only [List.getElem?_toArray, List.getElem?_cons_succ, List.getElem?_cons_zero]; rfl)); (focus kernel_rfl); (focus kernel_rfl); (focus kernel_rfl); (focus exact (fun _ _ _ h => h)); refine Or.inr ⟨?_, rfl⟩; (focus (go_simp; done)); (focus assumption); (try simp only [Act.put, List.setIfInBounds_toArray, List.set_cons_zero, List.set_cons_succ]))
    | (refine wpAnyH_ready (rs := [5]) (by kernel_rfl) (by simp) ?_; refine' AllReadyH.cons ?_ (fun K hK => ?_) AllReadyH.nil; rotate_left; (focus (simp only [List.getElem?_toArray, List.getElem?_cons_succ, List.getElem?_cons_zero]; rfl)); go_simp; (go_at_call 13; refine (rNone_any _).mono ?_; rintro e w4 ⟨rfl, hb⟩); refine hK.out _ _ (by go_split_ands; exact ⟨Ahead.cell0 (by assumption) hb (by assumption) (by omega), Ahead.cell0 (by assumption) hb (by assumption) (by omega), Ahead.cell (by assumption) hb (by assumption) (by omega), Ahead.cell (by assumption) hb (by assumption) (by omega), Ahead.cell2 (by assumption) hb (by assumption) (by omega), Ahead.cell2 (by assumption) hb (by assumption) (by omega), Ahead.cell3 (by assumption) hb (by assumption) (by omega), Ahead.cell3 (by assumption) hb (by assumption) (by omega), Ahead.frz2 (by assumption) hb (by assumption) (by omega), Ahead.frz3 (by assumption) hb (by assumption) (by omega), Ahead.below (by assumption) hb⟩) (fun hHeld => ?_); clear hK K; (try simp only [Act.put, List.setIfInBounds_toArray, List.set_cons_zero, List.set_cons_succ]); clear hb)
    | fail "operation 5"
  first
    | (refine' wpAnyH_take (i := 6) (v := _) ?_ ?_ ?_ ?_ ?_ ?_ ?_ ?_; rotate_left 2; (focus (simp only [List.getElem?_toArray, List.getElem?_cons_succ, List.getElem?_cons_zero]; rfl)); (focus kernel_rfl); (focus kernel_rfl); (focus kernel_rfl); (focus exact (fun _ _ _ h => h)); refine Or.inl ⟨?_, ?_⟩; (focus (go_simp; done)); (focus (intro w hSw; (try dsimp only at hSw); (first | (go_simp; done) | (go_simp; with_reducible rfl)))); (focus assumption); (try simp only [Act.put, List.setIfInBounds_toArray, List.set_cons_zero, List.set_cons_succ]))
    | (refine' wpAnyH_take (i := 6) (v := undef) ?_ ?_ ?_ ?_ ?_ ?_ ?_ ?_; rotate_left 1; (focus (simp only [List.getElem?_toArray, List.getElem?_cons_succ, List.getElem?_cons_zero]; rfl)); (focus kernel_rfl); (focus kernel_rfl); (focus kernel_rfl); (focus exact (fun _ _ _ h => h)); refine Or.inr ⟨?_, rfl⟩; (focus (go_simp; done)); (focus assumption); (try simp only [Act.put, List.setIfInBounds_toArray, List.set_cons_zero, List.set_cons_succ]))
    | (refine wpAnyH_ready (rs := [6]) (by kernel_rfl) (by simp) ?_; refine' AllReadyH.cons ?_ (fun K hK => ?_) AllReadyH.nil; rotate_left; (focus (simp only [List.getElem?_toArray, List.getElem?_cons_succ, List.getElem?_cons_zero]; rfl)); go_simp; (go_at_call 13; refine (rNone_any _).mono ?_; rintro e w4 ⟨rfl, hb⟩); refine hK.out _ _ (by go_split_ands; exact ⟨Ahead.cell0 (by assumption) hb (by assumption) (by omega), Ahead.cell0 (by assumption) hb (by assumption) (by omega), Ahead.cell (by assumption) hb (by assumption) (by omega), Ahead.cell (by assumption) hb (by assumption) (by omega), Ahead.cell2 (by assumption) hb (by assumption) (by omega), Ahead.cell2 (by assumption) hb (by assumption) (by omega), Ahead.cell3 (by assumption) hb (by assumption) (by omega), Ahead.cell3 (by assumption) hb (by assumption) (by omega), Ahead.frz2 (by assumption) hb (by assumption) (by omega), Ahead.frz3 (by assumption) hb (by assumption) (by omega), Ahead.below (by assumption) hb⟩) (fun hHeld => ?_); clear hK K; (try simp only [Act.put, List.setIfInBounds_toArray, List.set_cons_zero, List.set_cons_succ]); clear hb)
    | fail "operation 6"
  first
    | (refine' wpAnyH_take (i := 7) (v := _) ?_ ?_ ?_ ?_ ?_ ?_ ?_ ?_; rotate_left 2; (focus (simp only [List.getElem?_toArray, List.getElem?_cons_succ, List.getElem?_cons_zero]; rfl)); (focus kernel_rfl); (focus kernel_rfl); (focus kernel_rfl); (focus exact (fun _ _ _ h => h)); refine Or.inl ⟨?_, ?_⟩; (focus (go_simp; done)); (focus (intro w hSw; (try dsimp only at hSw); (first | (go_simp; done) | (go_simp; with_reducible rfl)))); (focus assumption); (try simp only [Act.put, List.setIfInBounds_toArray, List.set_cons_zero, List.set_cons_succ]))
    | (refine' wpAnyH_take (i := 7) (v := undef) ?_ ?_ ?_ ?_ ?_ ?_ ?_ ?_; rotate_left 1; (focus (simp only [List.getElem?_toArray, List.getElem?_cons_succ, List.getElem?_cons_zero]; rfl)); (focus kernel_rfl); (focus kernel_rfl); (focus kernel_rfl); (focus exact (fun _ _ _ h => h)); refine Or.inr ⟨?_, rfl⟩; (focus (go_simp; done)); (focus assumption); (try simp only [Act.put, List.setIfInBounds_toArray, List.set_cons_zero, List.set_cons_succ]))
    | (refine wpAnyH_ready (rs := [7]) (by kernel_rfl) (by simp) ?_; refine' AllReadyH.cons ?_ (fun K hK => ?_) AllReadyH.nil; rotate_left; (focus (simp only [List.getElem?_toArray, List.getElem?_cons_succ, List.getElem?_cons_zero]; rfl)); go_simp; (go_at_call 13; refine (rNone_any _).mono ?_; rintro e w4 ⟨rfl, hb⟩); refine hK.out _ _ (by go_split_ands; exact ⟨Ahead.cell0 (by assumption) hb (by assumption) (by omega), Ahead.cell0 (by assumption) hb (by assumption) (by omega), Ahead.cell (by assumption) hb (by assumption) (by omega), Ahead.cell (by assumption) hb (by assumption) (by omega), Ahead.cell2 (by assumption) hb (by assumption) (by omega), Ahead.cell2 (by assumption) hb (by assumption) (by omega), Ahead.cell3 (by assumption) hb (by assumption) (by omega), Ahead.cell3 (by assumption) hb (by assumption) (by omega), Ahead.frz2 (by assumption) hb (by assumption) (by omega), Ahead.frz3 (by assumption) hb (by assumption) (by omega), Ahead.below (by assumption) hb⟩) (fun hHeld => ?_); clear hK K; (try simp only [Act.put, List.setIfInBounds_toArray, List.set_cons_zero, List.set_cons_succ]); clear hb)
    | fail "operation 7"
  refine wpAnyH_done (by kernel_rfl) ?_ _
  obtain ⟨a0, a1, b0, b1, c0, c1, d0, d1, f2, f3, hA⟩ := hHeld; have hy0 := hA.lt0 (by omega); have hy1 := hA.lt1 (by omega); have hy2 := hA.lt2 (by omega); have hy3 := hA.lt3 (by omega)
  clear he he2 hg o1 o2
  have w1 : IntKind.i64.wrap (b.hi - 1) = b.hi - 1 := IntWalk.i64_in _ (by omega)
  have w2 : IntKind.i64.wrap (a.hi - 1) = a.hi - 1 := IntWalk.i64_in _ (by omega)
  have w3 : IntKind.i64.wrap (a.lo + 1) = a.lo + 1 := IntWalk.i64_in _ (by omega)
  have w5 : IntKind.i64.wrap (b.lo + 1) = b.lo + 1 := IntWalk.i64_in _ (by omega)
  have hc' : o = 11 ∨ o = 12 ∨ o = 13 ∨ o = 14 := by omega
  clear ho
  rcases hc' with rfl | rfl | rfl | rfl <;> cases t
  · as_aux_lemma =>
    have HE : Hid (Iv.both (Iv.mk' (max a.lo b.lo) a.hi) (Iv.mk' b.lo (min b.hi a.hi)) = z) := Lib.hid HJ.out
    clear HJ
    go_wp2_with fail
    refine wp_region_held_drew (S := (fun w' => AB w a b w')) (by kernel_rfl) (by exact ⟨⟨⟨by simpa using a0, by simpa using a1⟩, by simpa using b0, by simpa using b1⟩, hA.drew⟩) (fun hHeld => ?_)
    replace c0 := (World.cell?_drew _ _).trans c0; replace c1 := (World.cell?_drew _ _).trans c1; replace d0 := (World.cell?_drew _ _).trans d0; replace d1 := (World.cell?_drew _ _).trans d1; replace f2 := fun o => (World.frozen?_drew _ _).trans (f2 o); replace f3 := fun o => (World.frozen?_drew _ _).trans (f3 o); replace hA := hA.drew; clear a0 a1 b0 b1 hy0 hy1 hy2 hy3
    refine' wpAnyH_take (i := 0) (v := _) ?_ ?_ ?_ ?_ ?_ ?_ ?_ ?_
    rotate_left 2
    focus (simp only [List.getElem?_toArray, List.getElem?_cons_succ, List.getElem?_cons_zero]; rfl)
    focus kernel_rfl
    focus kernel_rfl
    focus kernel_rfl
    focus exact (fun _ _ _ h => h)
    refine Or.inl ⟨?_, ?_⟩
    focus (go_simp; done)
    focus (intro w hSw; obtain ⟨⟨⟨a0, a1⟩, b0, b1⟩, _⟩ := hSw; (first | (go_simp; done) | (go_simp; with_reducible rfl)))
    focus assumption
    (try simp only [Act.put, List.setIfInBounds_toArray, List.set_cons_zero, List.set_cons_succ])
    refine' wpAnyH_take (i := 1) (v := _) ?_ ?_ ?_ ?_ ?_ ?_ ?_ ?_
    rotate_left 2
    focus (simp only [List.getElem?_toArray, List.getElem?_cons_succ, List.getElem?_cons_zero]; rfl)
    focus kernel_rfl
    focus kernel_rfl
    focus kernel_rfl
    focus exact (fun _ _ _ h => h)
    refine Or.inl ⟨?_, ?_⟩
    focus (go_simp; done)
    focus (intro w hSw; obtain ⟨⟨⟨a0, a1⟩, b0, b1⟩, _⟩ := hSw; (first | (go_simp; done) | (go_simp; with_reducible rfl)))
    focus assumption
    (try simp only [Act.put, List.setIfInBounds_toArray, List.set_cons_zero, List.set_cons_succ])
    refine' wpAnyH_take (i := 2) (v := _) ?_ ?_ ?_ ?_ ?_ ?_ ?_ ?_
    rotate_left 2
    focus (simp only [List.getElem?_toArray, List.getElem?_cons_succ, List.getElem?_cons_zero]; rfl)
    focus kernel_rfl
    focus kernel_rfl
    focus kernel_rfl
    focus exact (fun _ _ _ h => h)
    refine Or.inl ⟨?_, ?_⟩
    focus (go_simp; done)
    focus (intro w hSw; obtain ⟨⟨⟨a0, a1⟩, b0, b1⟩, _⟩ := hSw; (first | (go_simp; done) | (go_simp; with_reducible rfl)))
    focus assumption
    (try simp only [Act.put, List.setIfInBounds_toArray, List.set_cons_zero, List.set_cons_succ])
    refine' wpAnyH_take (i := 3) (v := _) ?_ ?_ ?_ ?_ ?_ ?_ ?_ ?_
    rotate_left 2
    focus (simp only [List.getElem?_toArray, List.getElem?_cons_succ, List.getElem?_cons_zero]; rfl)
    focus kernel_rfl
    focus kernel_rfl
    focus kernel_rfl
    focus exact (fun _ _ _ h => h)
    refine Or.inl ⟨?_, ?_⟩
    focus (go_simp; done)
    focus (intro w hSw; obtain ⟨⟨⟨a0, a1⟩, b0, b1⟩, _⟩ := hSw; (first | (go_simp; done) | (go_simp; with_reducible rfl)))
    focus assumption
    (try simp only [Act.put, List.setIfInBounds_toArray, List.set_cons_zero, List.set_cons_succ])
    refine' wpAnyH_take (i := 4) (v := _) ?_ ?_ ?_ ?_ ?_ ?_ ?_ ?_
    rotate_left 2
    focus (simp only [List.getElem?_toArray, List.getElem?_cons_succ, List.getElem?_cons_zero]; rfl)
    focus kernel_rfl
    focus kernel_rfl
    focus kernel_rfl
    focus exact (fun _ _ _ h => h)
    refine Or.inl ⟨?_, ?_⟩
    focus (go_simp; done)
    focus (intro w hSw; obtain ⟨⟨⟨a0, a1⟩, b0, b1⟩, _⟩ := hSw; (first | (go_simp; done) | (go_simp; with_reducible rfl)))
    focus assumption
    (try simp only [Act.put, List.setIfInBounds_toArray, List.set_cons_zero, List.set_cons_succ])
    refine' wpAnyH_take (i := 5) (v := _) ?_ ?_ ?_ ?_ ?_ ?_ ?_ ?_
    rotate_left 2
    focus (simp only [List.getElem?_toArray, List.getElem?_cons_succ, List.getElem?_cons_zero]; rfl)
    focus kernel_rfl
    focus kernel_rfl
    focus kernel_rfl
    focus exact (fun _ _ _ h => h)
    refine Or.inl ⟨?_, ?_⟩
    focus (go_simp; done)
    focus (intro w hSw; obtain ⟨⟨⟨a0, a1⟩, b0, b1⟩, _⟩ := hSw; (first | (go_simp; done) | (go_simp; with_reducible rfl)))
    focus assumption
    (try simp only [Act.put, List.setIfInBounds_toArray, List.set_cons_zero, List.set_cons_succ])
    refine' wpAnyH_take (i := 6) (v := _) ?_ ?_ ?_ ?_ ?_ ?_ ?_ ?_
    rotate_left 2
    focus (simp only [List.getElem?_toArray, List.getElem?_cons_succ, List.getElem?_cons_zero]; rfl)
    focus kernel_rfl
    focus kernel_rfl
    focus kernel_rfl
    focus exact (fun _ _ _ h => h)
    refine Or.inl ⟨?_, ?_⟩
    focus (go_simp; done)
    focus (intro w hSw; obtain ⟨⟨⟨a0, a1⟩, b0, b1⟩, _⟩ := hSw; (first | (go_simp; done) | (go_simp; with_reducible rfl)))
    focus assumption
    (try simp only [Act.put, List.setIfInBounds_toArray, List.set_cons_zero, List.set_cons_succ])
    refine' wpAnyH_take (i := 8) (v := _) ?_ ?_ ?_ ?_ ?_ ?_ ?_ ?_
    rotate_left 2
    focus (simp only [List.getElem?_toArray, List.getElem?_cons_succ, List.getElem?_cons_zero]; rfl)
    focus kernel_rfl
    focus kernel_rfl
    focus kernel_rfl
    focus exact (fun _ _ _ h => h)
    refine Or.inl ⟨?_, ?_⟩
    focus (go_simp; done)
    focus (intro w hSw; obtain ⟨⟨⟨a0, a1⟩, b0, b1⟩, _⟩ := hSw; (first | (go_simp; done) | (go_simp; with_reducible rfl)))
    focus assumption
    (try simp only [Act.put, List.setIfInBounds_toArray, List.set_cons_zero, List.set_cons_succ])
    refine' wpAnyH_take (i := 9) (v := _) ?_ ?_ ?_ ?_ ?_ ?_ ?_ ?_
    rotate_left 2
    focus (simp only [List.getElem?_toArray, List.getElem?_cons_succ, List.getElem?_cons_zero]; rfl)
    focus kernel_rfl
    focus kernel_rfl
    focus kernel_rfl
    focus exact (fun _ _ _ h => h)
    refine Or.inl ⟨?_, ?_⟩
    focus (go_simp; done)
    focus (intro w hSw; obtain ⟨⟨⟨a0, a1⟩, b0, b1⟩, _⟩ := hSw; (first | (go_simp; done) | (go_simp; with_reducible rfl)))
    focus assumption
    (try simp only [Act.put, List.setIfInBounds_toArray, List.set_cons_zero, List.set_cons_succ])
    refine' wpAnyH_take (i := 10) (v := _) ?_ ?_ ?_ ?_ ?_ ?_ ?_ ?_
    rotate_left 2
    focus (simp only [List.getElem?_toArray, List.getElem?_cons_succ, List.getElem?_cons_zero]; rfl)
    focus kernel_rfl
    focus kernel_rfl
    focus kernel_rfl
    focus exact (fun _ _ _ h => h)
    refine Or.inl ⟨?_, ?_⟩
    focus (go_simp; done)
    focus (intro w hSw; obtain ⟨⟨⟨a0, a1⟩, b0, b1⟩, _⟩ := hSw; (first | (go_simp; done) | (go_simp; with_reducible rfl)))
    focus assumption
    (try simp only [Act.put, List.setIfInBounds_toArray, List.set_cons_zero, List.set_cons_succ])
    refine' wpAnyH_take (i := 11) (v := _) ?_ ?_ ?_ ?_ ?_ ?_ ?_ ?_
    rotate_left 2
    focus (simp only [List.getElem?_toArray, List.getElem?_cons_succ, List.getElem?_cons_zero]; rfl)
    focus kernel_rfl
    focus kernel_rfl
    focus kernel_rfl
    focus exact (fun _ _ _ h => h)
    refine Or.inl ⟨?_, ?_⟩
    focus (go_simp; done)
    focus (intro w hSw; obtain ⟨⟨⟨a0, a1⟩, b0, b1⟩, _⟩ := hSw; (first | (go_simp; done) | (go_simp; with_reducible rfl)))
    focus assumption
    (try simp only [Act.put, List.setIfInBounds_toArray, List.set_cons_zero, List.set_cons_succ])
    refine' wpAnyH_take (i := 12) (v := _) ?_ ?_ ?_ ?_ ?_ ?_ ?_ ?_
    rotate_left 2
    focus (simp only [List.getElem?_toArray, List.getElem?_cons_succ, List.getElem?_cons_zero]; rfl)
    focus kernel_rfl
    focus kernel_rfl
    focus kernel_rfl
    focus exact (fun _ _ _ h => h)
    refine Or.inl ⟨?_, ?_⟩
    focus (go_simp; done)
    focus (intro w hSw; obtain ⟨⟨⟨a0, a1⟩, b0, b1⟩, _⟩ := hSw; (first | (go_simp; done) | (go_simp; with_reducible rfl)))
    focus assumption
    (try simp only [Act.put, List.setIfInBounds_toArray, List.set_cons_zero, List.set_cons_succ])
    refine' wpAnyH_take (i := 13) (v := _) ?_ ?_ ?_ ?_ ?_ ?_ ?_ ?_
    rotate_left 2
    focus (simp only [List.getElem?_toArray, List.getElem?_cons_succ, List.getElem?_cons_zero]; rfl)
    focus kernel_rfl
    focus kernel_rfl
    focus kernel_rfl
    focus exact (fun _ _ _ h => h)
    refine Or.inl ⟨?_, ?_⟩
    focus (go_simp; done)
    focus (intro w hSw; obtain ⟨⟨⟨a0, a1⟩, b0, b1⟩, _⟩ := hSw; (first | (go_simp; done) | (go_simp; with_reducible rfl)))
    focus assumption
    (try simp only [Act.put, List.setIfInBounds_toArray, List.set_cons_zero, List.set_cons_succ])
    refine' wpAnyH_take (i := 14) (v := _) ?_ ?_ ?_ ?_ ?_ ?_ ?_ ?_
    rotate_left 2
    focus (simp only [List.getElem?_toArray, List.getElem?_cons_succ, List.getElem?_cons_zero]; rfl)
    focus kernel_rfl
    focus kernel_rfl
    focus kernel_rfl
    focus exact (fun _ _ _ h => h)
    refine Or.inl ⟨?_, ?_⟩
    focus (go_simp; done)
    focus (intro w hSw; obtain ⟨⟨⟨a0, a1⟩, b0, b1⟩, _⟩ := hSw; (first | (go_simp; done) | (go_simp; with_reducible rfl)))
    focus assumption
    (try simp only [Act.put, List.setIfInBounds_toArray, List.set_cons_zero, List.set_cons_succ])
    refine wpAnyH_ready (rs := [7]) (by kernel_rfl) (by simp) ?_
    refine' AllReadyH.cons ?_ (fun K hK => ?_) AllReadyH.nil
    rotate_left
    focus (simp only [List.getElem?_toArray, List.getElem?_cons_succ, List.getElem?_cons_zero]; rfl)
    go_simp
    refine Calls.mono (rOf_any _ _ (Iv.mk' (max a.lo b.lo) a.hi) ?_ _) ?_
    focus (congr 1 <;> first | rfl | omega | (split <;> omega))
    rintro e w5 ⟨rfl, hb⟩
    replace hHeld := AB.below hHeld hb
    have c0 := hA.cell2 hb c0 (by omega); have c1 := hA.cell2 hb c1 (by omega); have d0 := hA.cell3 hb d0 (by omega); have d1 := hA.cell3 hb d1 (by omega); have f2 := hA.frz2 hb f2 (by omega); have f3 := hA.frz3 hb f3 (by omega); have hA := hA.below hb
    clear hb
    refine hK.out _ _ hHeld (fun hHeld => ?_)
    clear hK K
    (try simp only [Act.put, List.setIfInBounds_toArray, List.set_cons_zero, List.set_cons_succ])
    refine wpAnyH_ready (rs := [15]) (by kernel_rfl) (by simp) ?_
    refine' AllReadyH.cons ?_ (fun K hK => ?_) AllReadyH.nil
    rotate_left
    focus (simp only [List.getElem?_toArray, List.getElem?_cons_succ, List.getElem?_cons_zero]; rfl)
    go_simp
    refine Calls.mono (rOf_any _ _ (Iv.mk' b.lo (min b.hi a.hi)) ?_ _) ?_
    focus (congr 1 <;> first | rfl | omega | (split <;> omega))
    rintro e w5 ⟨rfl, hb⟩
    replace hHeld := AB.below hHeld hb
    have c0 := hA.cell2 hb c0 (by omega); have c1 := hA.cell2 hb c1 (by omega); have d0 := hA.cell3 hb d0 (by omega); have d1 := hA.cell3 hb d1 (by omega); have f2 := hA.frz2 hb f2 (by omega); have f3 := hA.frz3 hb f3 (by omega); have hA := hA.below hb
    clear hb
    refine hK.out _ _ hHeld (fun hHeld => ?_)
    clear hK K
    (try simp only [Act.put, List.setIfInBounds_toArray, List.set_cons_zero, List.set_cons_succ])
    refine wpAnyH_ready (rs := [16]) (by kernel_rfl) (by simp) ?_
    refine' AllReadyH.cons ?_ (fun K hK => ?_) AllReadyH.nil
    rotate_left
    focus (simp only [List.getElem?_toArray, List.getElem?_cons_succ, List.getElem?_cons_zero]; rfl)
    go_simp
    refine Calls.mono (rBoth_any (Iv.mk' (max a.lo b.lo) a.hi) (Iv.mk' b.lo (min b.hi a.hi)) z HE.out _) ?_
    rintro e w5 ⟨rfl, hb⟩
    replace hHeld := AB.below hHeld hb
    have c0 := hA.cell2 hb c0 (by omega); have c1 := hA.cell2 hb c1 (by omega); have d0 := hA.cell3 hb d0 (by omega); have d1 := hA.cell3 hb d1 (by omega); have f2 := hA.frz2 hb f2 (by omega); have f3 := hA.frz3 hb f3 (by omega); have hA := hA.below hb
    clear hb
    refine hK.out _ _ hHeld (fun hHeld => ?_)
    clear hK K
    (try simp only [Act.put, List.setIfInBounds_toArray, List.set_cons_zero, List.set_cons_succ])
    refine' wpAnyH_take (i := 17) (v := _) ?_ ?_ ?_ ?_ ?_ ?_ ?_ ?_
    rotate_left 2
    focus (simp only [List.getElem?_toArray, List.getElem?_cons_succ, List.getElem?_cons_zero]; rfl)
    focus kernel_rfl
    focus kernel_rfl
    focus kernel_rfl
    focus exact (fun _ _ _ h => h)
    refine Or.inl ⟨?_, ?_⟩
    focus (go_simp; done)
    focus (intro w hSw; obtain ⟨⟨⟨a0, a1⟩, b0, b1⟩, _⟩ := hSw; (first | (go_simp; done) | (go_simp; with_reducible rfl)))
    focus assumption
    (try simp only [Act.put, List.setIfInBounds_toArray, List.set_cons_zero, List.set_cons_succ])
    refine' wpAnyH_take (i := 18) (v := _) ?_ ?_ ?_ ?_ ?_ ?_ ?_ ?_
    rotate_left 2
    focus (simp only [List.getElem?_toArray, List.getElem?_cons_succ, List.getElem?_cons_zero]; rfl)
    focus kernel_rfl
    focus kernel_rfl
    focus kernel_rfl
    focus exact (fun _ _ _ h => h)
    refine Or.inl ⟨?_, ?_⟩
    focus (go_simp; done)
    focus (intro w hSw; obtain ⟨⟨⟨a0, a1⟩, b0, b1⟩, _⟩ := hSw; (first | (go_simp; done) | (go_simp; with_reducible rfl)))
    focus assumption
    (try simp only [Act.put, List.setIfInBounds_toArray, List.set_cons_zero, List.set_cons_succ])
    refine wpAnyH_ready (rs := [19]) (by kernel_rfl) (by simp) ?_
    refine' AllReadyH.cons ?_ (fun K hK => ?_) AllReadyH.nil
    rotate_left
    focus (simp only [List.getElem?_toArray, List.getElem?_cons_succ, List.getElem?_cons_zero]; rfl)
    go_simp
    refine hK.out _ _ (by (refine AB.set ?_ (by omega) _; refine AB.set ?_ (by omega) _; exact hHeld)) (fun hHeld => ?_)
    clear hK K
    (try simp only [Act.put, List.setIfInBounds_toArray, List.set_cons_zero, List.set_cons_succ])
    refine wpAnyH_ready (rs := [20]) (by kernel_rfl) (by simp) ?_
    refine' AllReadyH.cons ?_ (fun K hK => ?_) AllReadyH.nil
    rotate_left
    focus (simp only [List.getElem?_toArray, List.getElem?_cons_succ, List.getElem?_cons_zero]; rfl)
    go_simp
    refine hK.out _ _ (by (refine AB.set ?_ (by omega) _; refine AB.set ?_ (by omega) _; exact hHeld)) (fun hHeld => ?_)
    clear hK K
    (try simp only [Act.put, List.setIfInBounds_toArray, List.set_cons_zero, List.set_cons_succ])
    refine wpAnyH_done (by kernel_rfl) ?_ _
    go_wp2
    all_goals
      refine bodyPost_ret (v := .tuple #[.agg #[.int .i64 (z.1).lo, .int .i64 (z.1).hi], .agg #[.int .i64 (z.2).lo, .int .i64 (z.2).hi]]) ?_ rfl ⟨rfl, Ahead.fst (n := 4) ?_⟩
      · simp [results, Try.results26, go_sem, c0, c1, d0, d1, hy0, hy1, hy2, hy3]
      · (try refine Ahead.drew ?_)
        refine Ahead.set ?_ (by omega) _
        refine Ahead.set ?_ (by omega) _
        refine Ahead.set ?_ (by omega) _
        refine Ahead.set ?_ (by omega) _
        first | exact hA | exact hA.drew
  · as_aux_lemma =>
    have HE : Hid (Iv.both (Iv.mk' a.lo (min a.hi (b.hi - 1))) (Iv.mk' (max b.lo (a.lo + 1)) b.hi) = z) := Lib.hid HJ.out
    clear HJ
    go_wp2_with fail
    refine wp_region_held_drew (S := (fun w' => AB w a b w')) (by kernel_rfl) (by exact ⟨⟨⟨by simpa using a0, by simpa using a1⟩, by simpa using b0, by simpa using b1⟩, hA.drew⟩) (fun hHeld => ?_)
    replace c0 := (World.cell?_drew _ _).trans c0; replace c1 := (World.cell?_drew _ _).trans c1; replace d0 := (World.cell?_drew _ _).trans d0; replace d1 := (World.cell?_drew _ _).trans d1; replace f2 := fun o => (World.frozen?_drew _ _).trans (f2 o); replace f3 := fun o => (World.frozen?_drew _ _).trans (f3 o); replace hA := hA.drew; clear a0 a1 b0 b1 hy0 hy1 hy2 hy3
    refine' wpAnyH_take (i := 0) (v := _) ?_ ?_ ?_ ?_ ?_ ?_ ?_ ?_
    rotate_left 2
    focus (simp only [List.getElem?_toArray, List.getElem?_cons_succ, List.getElem?_cons_zero]; rfl)
    focus kernel_rfl
    focus kernel_rfl
    focus kernel_rfl
    focus exact (fun _ _ _ h => h)
    refine Or.inl ⟨?_, ?_⟩
    focus (go_simp; done)
    focus (intro w hSw; obtain ⟨⟨⟨a0, a1⟩, b0, b1⟩, _⟩ := hSw; (first | (go_simp; done) | (go_simp; with_reducible rfl)))
    focus assumption
    (try simp only [Act.put, List.setIfInBounds_toArray, List.set_cons_zero, List.set_cons_succ])
    refine' wpAnyH_take (i := 1) (v := _) ?_ ?_ ?_ ?_ ?_ ?_ ?_ ?_
    rotate_left 2
    focus (simp only [List.getElem?_toArray, List.getElem?_cons_succ, List.getElem?_cons_zero]; rfl)
    focus kernel_rfl
    focus kernel_rfl
    focus kernel_rfl
    focus exact (fun _ _ _ h => h)
    refine Or.inl ⟨?_, ?_⟩
    focus (go_simp; done)
    focus (intro w hSw; obtain ⟨⟨⟨a0, a1⟩, b0, b1⟩, _⟩ := hSw; (first | (go_simp; done) | (go_simp; with_reducible rfl)))
    focus assumption
    (try simp only [Act.put, List.setIfInBounds_toArray, List.set_cons_zero, List.set_cons_succ])
    refine' wpAnyH_take (i := 2) (v := _) ?_ ?_ ?_ ?_ ?_ ?_ ?_ ?_
    rotate_left 2
    focus (simp only [List.getElem?_toArray, List.getElem?_cons_succ, List.getElem?_cons_zero]; rfl)
    focus kernel_rfl
    focus kernel_rfl
    focus kernel_rfl
    focus exact (fun _ _ _ h => h)
    refine Or.inl ⟨?_, ?_⟩
    focus (go_simp; done)
    focus (intro w hSw; obtain ⟨⟨⟨a0, a1⟩, b0, b1⟩, _⟩ := hSw; (first | (go_simp; done) | (go_simp; with_reducible rfl)))
    focus assumption
    (try simp only [Act.put, List.setIfInBounds_toArray, List.set_cons_zero, List.set_cons_succ])
    refine' wpAnyH_take (i := 3) (v := _) ?_ ?_ ?_ ?_ ?_ ?_ ?_ ?_
    rotate_left 2
    focus (simp only [List.getElem?_toArray, List.getElem?_cons_succ, List.getElem?_cons_zero]; rfl)
    focus kernel_rfl
    focus kernel_rfl
    focus kernel_rfl
    focus exact (fun _ _ _ h => h)
    refine Or.inl ⟨?_, ?_⟩
    focus (go_simp; done)
    focus (intro w hSw; obtain ⟨⟨⟨a0, a1⟩, b0, b1⟩, _⟩ := hSw; (first | (go_simp; done) | (go_simp; with_reducible rfl)))
    focus assumption
    (try simp only [Act.put, List.setIfInBounds_toArray, List.set_cons_zero, List.set_cons_succ])
    refine' wpAnyH_take (i := 4) (v := _) ?_ ?_ ?_ ?_ ?_ ?_ ?_ ?_
    rotate_left 2
    focus (simp only [List.getElem?_toArray, List.getElem?_cons_succ, List.getElem?_cons_zero]; rfl)
    focus kernel_rfl
    focus kernel_rfl
    focus kernel_rfl
    focus exact (fun _ _ _ h => h)
    refine Or.inl ⟨?_, ?_⟩
    focus (go_simp; done)
    focus (intro w hSw; obtain ⟨⟨⟨a0, a1⟩, b0, b1⟩, _⟩ := hSw; (first | (go_simp; done) | (go_simp; with_reducible rfl)))
    focus assumption
    (try simp only [Act.put, List.setIfInBounds_toArray, List.set_cons_zero, List.set_cons_succ])
    refine' wpAnyH_take (i := 5) (v := _) ?_ ?_ ?_ ?_ ?_ ?_ ?_ ?_
    rotate_left 2
    focus (simp only [List.getElem?_toArray, List.getElem?_cons_succ, List.getElem?_cons_zero]; rfl)
    focus kernel_rfl
    focus kernel_rfl
    focus kernel_rfl
    focus exact (fun _ _ _ h => h)
    refine Or.inl ⟨?_, ?_⟩
    focus (go_simp; done)
    focus (intro w hSw; obtain ⟨⟨⟨a0, a1⟩, b0, b1⟩, _⟩ := hSw; (first | (go_simp; done) | (go_simp; with_reducible rfl)))
    focus assumption
    (try simp only [Act.put, List.setIfInBounds_toArray, List.set_cons_zero, List.set_cons_succ])
    refine' wpAnyH_take (i := 6) (v := _) ?_ ?_ ?_ ?_ ?_ ?_ ?_ ?_
    rotate_left 2
    focus (simp only [List.getElem?_toArray, List.getElem?_cons_succ, List.getElem?_cons_zero]; rfl)
    focus kernel_rfl
    focus kernel_rfl
    focus kernel_rfl
    focus exact (fun _ _ _ h => h)
    refine Or.inl ⟨?_, ?_⟩
    focus (go_simp; done)
    focus (intro w hSw; obtain ⟨⟨⟨a0, a1⟩, b0, b1⟩, _⟩ := hSw; (first | (go_simp; done) | (go_simp; with_reducible rfl)))
    focus assumption
    (try simp only [Act.put, List.setIfInBounds_toArray, List.set_cons_zero, List.set_cons_succ])
    refine' wpAnyH_take (i := 7) (v := _) ?_ ?_ ?_ ?_ ?_ ?_ ?_ ?_
    rotate_left 2
    focus (simp only [List.getElem?_toArray, List.getElem?_cons_succ, List.getElem?_cons_zero]; rfl)
    focus kernel_rfl
    focus kernel_rfl
    focus kernel_rfl
    focus exact (fun _ _ _ h => h)
    refine Or.inl ⟨?_, ?_⟩
    focus (go_simp; done)
    focus (intro w hSw; obtain ⟨⟨⟨a0, a1⟩, b0, b1⟩, _⟩ := hSw; (first | (go_simp; done) | (go_simp; with_reducible rfl)))
    focus assumption
    (try simp only [Act.put, List.setIfInBounds_toArray, List.set_cons_zero, List.set_cons_succ])
    refine' wpAnyH_take (i := 9) (v := _) ?_ ?_ ?_ ?_ ?_ ?_ ?_ ?_
    rotate_left 2
    focus (simp only [List.getElem?_toArray, List.getElem?_cons_succ, List.getElem?_cons_zero]; rfl)
    focus kernel_rfl
    focus kernel_rfl
    focus kernel_rfl
    focus exact (fun _ _ _ h => h)
    refine Or.inl ⟨?_, ?_⟩
    focus (go_simp; done)
    focus (intro w hSw; obtain ⟨⟨⟨a0, a1⟩, b0, b1⟩, _⟩ := hSw; (first | (go_simp; done) | (go_simp; with_reducible rfl)))
    focus assumption
    (try simp only [Act.put, List.setIfInBounds_toArray, List.set_cons_zero, List.set_cons_succ])
    refine' wpAnyH_take (i := 10) (v := _) ?_ ?_ ?_ ?_ ?_ ?_ ?_ ?_
    rotate_left 2
    focus (simp only [List.getElem?_toArray, List.getElem?_cons_succ, List.getElem?_cons_zero]; rfl)
    focus kernel_rfl
    focus kernel_rfl
    focus kernel_rfl
    focus exact (fun _ _ _ h => h)
    refine Or.inl ⟨?_, ?_⟩
    focus (go_simp; done)
    focus (intro w hSw; obtain ⟨⟨⟨a0, a1⟩, b0, b1⟩, _⟩ := hSw; (first | (go_simp; done) | (go_simp; with_reducible rfl)))
    focus assumption
    (try simp only [Act.put, List.setIfInBounds_toArray, List.set_cons_zero, List.set_cons_succ])
    refine' wpAnyH_take (i := 11) (v := _) ?_ ?_ ?_ ?_ ?_ ?_ ?_ ?_
    rotate_left 2
    focus (simp only [List.getElem?_toArray, List.getElem?_cons_succ, List.getElem?_cons_zero]; rfl)
    focus kernel_rfl
    focus kernel_rfl
    focus kernel_rfl
    focus exact (fun _ _ _ h => h)
    refine Or.inl ⟨?_, ?_⟩
    focus (go_simp; done)
    focus (intro w hSw; obtain ⟨⟨⟨a0, a1⟩, b0, b1⟩, _⟩ := hSw; (first | (go_simp; done) | (go_simp; with_reducible rfl)))
    focus assumption
    (try simp only [Act.put, List.setIfInBounds_toArray, List.set_cons_zero, List.set_cons_succ])
    refine' wpAnyH_take (i := 12) (v := _) ?_ ?_ ?_ ?_ ?_ ?_ ?_ ?_
    rotate_left 2
    focus (simp only [List.getElem?_toArray, List.getElem?_cons_succ, List.getElem?_cons_zero]; rfl)
    focus kernel_rfl
    focus kernel_rfl
    focus kernel_rfl
    focus exact (fun _ _ _ h => h)
    refine Or.inl ⟨?_, ?_⟩
    focus (go_simp; done)
    focus (intro w hSw; obtain ⟨⟨⟨a0, a1⟩, b0, b1⟩, _⟩ := hSw; (first | (go_simp; done) | (go_simp; with_reducible rfl)))
    focus assumption
    (try simp only [Act.put, List.setIfInBounds_toArray, List.set_cons_zero, List.set_cons_succ])
    refine' wpAnyH_take (i := 13) (v := _) ?_ ?_ ?_ ?_ ?_ ?_ ?_ ?_
    rotate_left 2
    focus (simp only [List.getElem?_toArray, List.getElem?_cons_succ, List.getElem?_cons_zero]; rfl)
    focus kernel_rfl
    focus kernel_rfl
    focus kernel_rfl
    focus exact (fun _ _ _ h => h)
    refine Or.inl ⟨?_, ?_⟩
    focus (go_simp; done)
    focus (intro w hSw; obtain ⟨⟨⟨a0, a1⟩, b0, b1⟩, _⟩ := hSw; (first | (go_simp; done) | (go_simp; with_reducible rfl)))
    focus assumption
    (try simp only [Act.put, List.setIfInBounds_toArray, List.set_cons_zero, List.set_cons_succ])
    refine' wpAnyH_take (i := 14) (v := _) ?_ ?_ ?_ ?_ ?_ ?_ ?_ ?_
    rotate_left 2
    focus (simp only [List.getElem?_toArray, List.getElem?_cons_succ, List.getElem?_cons_zero]; rfl)
    focus kernel_rfl
    focus kernel_rfl
    focus kernel_rfl
    focus exact (fun _ _ _ h => h)
    refine Or.inl ⟨?_, ?_⟩
    focus (go_simp; done)
    focus (intro w hSw; obtain ⟨⟨⟨a0, a1⟩, b0, b1⟩, _⟩ := hSw; (first | (go_simp; done) | (go_simp; with_reducible rfl)))
    focus assumption
    (try simp only [Act.put, List.setIfInBounds_toArray, List.set_cons_zero, List.set_cons_succ])
    refine' wpAnyH_take (i := 15) (v := _) ?_ ?_ ?_ ?_ ?_ ?_ ?_ ?_
    rotate_left 2
    focus (simp only [List.getElem?_toArray, List.getElem?_cons_succ, List.getElem?_cons_zero]; rfl)
    focus kernel_rfl
    focus kernel_rfl
    focus kernel_rfl
    focus exact (fun _ _ _ h => h)
    refine Or.inl ⟨?_, ?_⟩
    focus (go_simp; done)
    focus (intro w hSw; obtain ⟨⟨⟨a0, a1⟩, b0, b1⟩, _⟩ := hSw; (first | (go_simp; done) | (go_simp; with_reducible rfl)))
    focus assumption
    (try simp only [Act.put, List.setIfInBounds_toArray, List.set_cons_zero, List.set_cons_succ])
    refine' wpAnyH_take (i := 16) (v := _) ?_ ?_ ?_ ?_ ?_ ?_ ?_ ?_
    rotate_left 2
    focus (simp only [List.getElem?_toArray, List.getElem?_cons_succ, List.getElem?_cons_zero]; rfl)
    focus kernel_rfl
    focus kernel_rfl
    focus kernel_rfl
    focus exact (fun _ _ _ h => h)
    refine Or.inl ⟨?_, ?_⟩
    focus (go_simp; done)
    focus (intro w hSw; obtain ⟨⟨⟨a0, a1⟩, b0, b1⟩, _⟩ := hSw; (first | (go_simp; done) | (go_simp; with_reducible rfl)))
    focus assumption
    (try simp only [Act.put, List.setIfInBounds_toArray, List.set_cons_zero, List.set_cons_succ])
    refine wpAnyH_ready (rs := [8]) (by kernel_rfl) (by simp) ?_
    refine' AllReadyH.cons ?_ (fun K hK => ?_) AllReadyH.nil
    rotate_left
    focus (simp only [List.getElem?_toArray, List.getElem?_cons_succ, List.getElem?_cons_zero]; rfl)
    go_simp
    refine Calls.mono (rOf_any _ _ (Iv.mk' a.lo (min a.hi (b.hi - 1))) ?_ _) ?_
    focus (congr 1 <;> first | rfl | omega | (split <;> omega))
    rintro e w5 ⟨rfl, hb⟩
    replace hHeld := AB.below hHeld hb
    have c0 := hA.cell2 hb c0 (by omega); have c1 := hA.cell2 hb c1 (by omega); have d0 := hA.cell3 hb d0 (by omega); have d1 := hA.cell3 hb d1 (by omega); have f2 := hA.frz2 hb f2 (by omega); have f3 := hA.frz3 hb f3 (by omega); have hA := hA.below hb
    clear hb
    refine hK.out _ _ hHeld (fun hHeld => ?_)
    clear hK K
    (try simp only [Act.put, List.setIfInBounds_toArray, List.set_cons_zero, List.set_cons_succ])
    refine wpAnyH_ready (rs := [17]) (by kernel_rfl) (by simp) ?_
    refine' AllReadyH.cons ?_ (fun K hK => ?_) AllReadyH.nil
    rotate_left
    focus (simp only [List.getElem?_toArray, List.getElem?_cons_succ, List.getElem?_cons_zero]; rfl)
    go_simp
    refine Calls.mono (rOf_any _ _ (Iv.mk' (max b.lo (a.lo + 1)) b.hi) ?_ _) ?_
    focus (congr 1 <;> first | rfl | omega | (split <;> omega))
    rintro e w5 ⟨rfl, hb⟩
    replace hHeld := AB.below hHeld hb
    have c0 := hA.cell2 hb c0 (by omega); have c1 := hA.cell2 hb c1 (by omega); have d0 := hA.cell3 hb d0 (by omega); have d1 := hA.cell3 hb d1 (by omega); have f2 := hA.frz2 hb f2 (by omega); have f3 := hA.frz3 hb f3 (by omega); have hA := hA.below hb
    clear hb
    refine hK.out _ _ hHeld (fun hHeld => ?_)
    clear hK K
    (try simp only [Act.put, List.setIfInBounds_toArray, List.set_cons_zero, List.set_cons_succ])
    refine wpAnyH_ready (rs := [18]) (by kernel_rfl) (by simp) ?_
    refine' AllReadyH.cons ?_ (fun K hK => ?_) AllReadyH.nil
    rotate_left
    focus (simp only [List.getElem?_toArray, List.getElem?_cons_succ, List.getElem?_cons_zero]; rfl)
    go_simp
    refine Calls.mono (rBoth_any (Iv.mk' a.lo (min a.hi (b.hi - 1))) (Iv.mk' (max b.lo (a.lo + 1)) b.hi) z HE.out _) ?_
    rintro e w5 ⟨rfl, hb⟩
    replace hHeld := AB.below hHeld hb
    have c0 := hA.cell2 hb c0 (by omega); have c1 := hA.cell2 hb c1 (by omega); have d0 := hA.cell3 hb d0 (by omega); have d1 := hA.cell3 hb d1 (by omega); have f2 := hA.frz2 hb f2 (by omega); have f3 := hA.frz3 hb f3 (by omega); have hA := hA.below hb
    clear hb
    refine hK.out _ _ hHeld (fun hHeld => ?_)
    clear hK K
    (try simp only [Act.put, List.setIfInBounds_toArray, List.set_cons_zero, List.set_cons_succ])
    refine' wpAnyH_take (i := 19) (v := _) ?_ ?_ ?_ ?_ ?_ ?_ ?_ ?_
    rotate_left 2
    focus (simp only [List.getElem?_toArray, List.getElem?_cons_succ, List.getElem?_cons_zero]; rfl)
    focus kernel_rfl
    focus kernel_rfl
    focus kernel_rfl
    focus exact (fun _ _ _ h => h)
    refine Or.inl ⟨?_, ?_⟩
    focus (go_simp; done)
    focus (intro w hSw; obtain ⟨⟨⟨a0, a1⟩, b0, b1⟩, _⟩ := hSw; (first | (go_simp; done) | (go_simp; with_reducible rfl)))
    focus assumption
    (try simp only [Act.put, List.setIfInBounds_toArray, List.set_cons_zero, List.set_cons_succ])
    refine' wpAnyH_take (i := 20) (v := _) ?_ ?_ ?_ ?_ ?_ ?_ ?_ ?_
    rotate_left 2
    focus (simp only [List.getElem?_toArray, List.getElem?_cons_succ, List.getElem?_cons_zero]; rfl)
    focus kernel_rfl
    focus kernel_rfl
    focus kernel_rfl
    focus exact (fun _ _ _ h => h)
    refine Or.inl ⟨?_, ?_⟩
    focus (go_simp; done)
    focus (intro w hSw; obtain ⟨⟨⟨a0, a1⟩, b0, b1⟩, _⟩ := hSw; (first | (go_simp; done) | (go_simp; with_reducible rfl)))
    focus assumption
    (try simp only [Act.put, List.setIfInBounds_toArray, List.set_cons_zero, List.set_cons_succ])
    refine wpAnyH_ready (rs := [21]) (by kernel_rfl) (by simp) ?_
    refine' AllReadyH.cons ?_ (fun K hK => ?_) AllReadyH.nil
    rotate_left
    focus (simp only [List.getElem?_toArray, List.getElem?_cons_succ, List.getElem?_cons_zero]; rfl)
    go_simp
    refine hK.out _ _ (by (refine AB.set ?_ (by omega) _; refine AB.set ?_ (by omega) _; exact hHeld)) (fun hHeld => ?_)
    clear hK K
    (try simp only [Act.put, List.setIfInBounds_toArray, List.set_cons_zero, List.set_cons_succ])
    refine wpAnyH_ready (rs := [22]) (by kernel_rfl) (by simp) ?_
    refine' AllReadyH.cons ?_ (fun K hK => ?_) AllReadyH.nil
    rotate_left
    focus (simp only [List.getElem?_toArray, List.getElem?_cons_succ, List.getElem?_cons_zero]; rfl)
    go_simp
    refine hK.out _ _ (by (refine AB.set ?_ (by omega) _; refine AB.set ?_ (by omega) _; exact hHeld)) (fun hHeld => ?_)
    clear hK K
    (try simp only [Act.put, List.setIfInBounds_toArray, List.set_cons_zero, List.set_cons_succ])
    refine wpAnyH_done (by kernel_rfl) ?_ _
    go_wp2
    all_goals
      refine bodyPost_ret (v := .tuple #[.agg #[.int .i64 (z.1).lo, .int .i64 (z.1).hi], .agg #[.int .i64 (z.2).lo, .int .i64 (z.2).hi]]) ?_ rfl ⟨rfl, Ahead.fst (n := 4) ?_⟩
      · simp [results, Try.results26, go_sem, c0, c1, d0, d1, hy0, hy1, hy2, hy3]
      · (try refine Ahead.drew ?_)
        refine Ahead.set ?_ (by omega) _
        refine Ahead.set ?_ (by omega) _
        refine Ahead.set ?_ (by omega) _
        refine Ahead.set ?_ (by omega) _
        first | exact hA | exact hA.drew
  · as_aux_lemma =>
    have HE : Hid (Iv.both (Iv.mk' (max a.lo (b.lo + 1)) a.hi) (Iv.mk' b.lo (min b.hi (a.hi - 1))) = z) := Lib.hid HJ.out
    clear HJ
    go_wp2_with fail
    refine wp_region_held_drew (S := (fun w' => AB w a b w')) (by kernel_rfl) (by exact ⟨⟨⟨by simpa using a0, by simpa using a1⟩, by simpa using b0, by simpa using b1⟩, hA.drew⟩) (fun hHeld => ?_)
    replace c0 := (World.cell?_drew _ _).trans c0; replace c1 := (World.cell?_drew _ _).trans c1; replace d0 := (World.cell?_drew _ _).trans d0; replace d1 := (World.cell?_drew _ _).trans d1; replace f2 := fun o => (World.frozen?_drew _ _).trans (f2 o); replace f3 := fun o => (World.frozen?_drew _ _).trans (f3 o); replace hA := hA.drew; clear a0 a1 b0 b1 hy0 hy1 hy2 hy3
    refine' wpAnyH_take (i := 0) (v := _) ?_ ?_ ?_ ?_ ?_ ?_ ?_ ?_
    rotate_left 2
    focus (simp only [List.getElem?_toArray, List.getElem?_cons_succ, List.getElem?_cons_zero]; rfl)
    focus kernel_rfl
    focus kernel_rfl
    focus kernel_rfl
    focus exact (fun _ _ _ h => h)
    refine Or.inl ⟨?_, ?_⟩
    focus (go_simp; done)
    focus (intro w hSw; obtain ⟨⟨⟨a0, a1⟩, b0, b1⟩, _⟩ := hSw; (first | (go_simp; done) | (go_simp; with_reducible rfl)))
    focus assumption
    (try simp only [Act.put, List.setIfInBounds_toArray, List.set_cons_zero, List.set_cons_succ])
    refine' wpAnyH_take (i := 1) (v := _) ?_ ?_ ?_ ?_ ?_ ?_ ?_ ?_
    rotate_left 2
    focus (simp only [List.getElem?_toArray, List.getElem?_cons_succ, List.getElem?_cons_zero]; rfl)
    focus kernel_rfl
    focus kernel_rfl
    focus kernel_rfl
    focus exact (fun _ _ _ h => h)
    refine Or.inl ⟨?_, ?_⟩
    focus (go_simp; done)
    focus (intro w hSw; obtain ⟨⟨⟨a0, a1⟩, b0, b1⟩, _⟩ := hSw; (first | (go_simp; done) | (go_simp; with_reducible rfl)))
    focus assumption
    (try simp only [Act.put, List.setIfInBounds_toArray, List.set_cons_zero, List.set_cons_succ])
    refine' wpAnyH_take (i := 2) (v := _) ?_ ?_ ?_ ?_ ?_ ?_ ?_ ?_
    rotate_left 2
    focus (simp only [List.getElem?_toArray, List.getElem?_cons_succ, List.getElem?_cons_zero]; rfl)
    focus kernel_rfl
    focus kernel_rfl
    focus kernel_rfl
    focus exact (fun _ _ _ h => h)
    refine Or.inl ⟨?_, ?_⟩
    focus (go_simp; done)
    focus (intro w hSw; obtain ⟨⟨⟨a0, a1⟩, b0, b1⟩, _⟩ := hSw; (first | (go_simp; done) | (go_simp; with_reducible rfl)))
    focus assumption
    (try simp only [Act.put, List.setIfInBounds_toArray, List.set_cons_zero, List.set_cons_succ])
    refine' wpAnyH_take (i := 3) (v := _) ?_ ?_ ?_ ?_ ?_ ?_ ?_ ?_
    rotate_left 2
    focus (simp only [List.getElem?_toArray, List.getElem?_cons_succ, List.getElem?_cons_zero]; rfl)
    focus kernel_rfl
    focus kernel_rfl
    focus kernel_rfl
    focus exact (fun _ _ _ h => h)
    refine Or.inl ⟨?_, ?_⟩
    focus (go_simp; done)
    focus (intro w hSw; obtain ⟨⟨⟨a0, a1⟩, b0, b1⟩, _⟩ := hSw; (first | (go_simp; done) | (go_simp; with_reducible rfl)))
    focus assumption
    (try simp only [Act.put, List.setIfInBounds_toArray, List.set_cons_zero, List.set_cons_succ])
    refine' wpAnyH_take (i := 4) (v := _) ?_ ?_ ?_ ?_ ?_ ?_ ?_ ?_
    rotate_left 2
    focus (simp only [List.getElem?_toArray, List.getElem?_cons_succ, List.getElem?_cons_zero]; rfl)
    focus kernel_rfl
    focus kernel_rfl
    focus kernel_rfl
    focus exact (fun _ _ _ h => h)
    refine Or.inl ⟨?_, ?_⟩
    focus (go_simp; done)
    focus (intro w hSw; obtain ⟨⟨⟨a0, a1⟩, b0, b1⟩, _⟩ := hSw; (first | (go_simp; done) | (go_simp; with_reducible rfl)))
    focus assumption
    (try simp only [Act.put, List.setIfInBounds_toArray, List.set_cons_zero, List.set_cons_succ])
    refine' wpAnyH_take (i := 5) (v := _) ?_ ?_ ?_ ?_ ?_ ?_ ?_ ?_
    rotate_left 2
    focus (simp only [List.getElem?_toArray, List.getElem?_cons_succ, List.getElem?_cons_zero]; rfl)
    focus kernel_rfl
    focus kernel_rfl
    focus kernel_rfl
    focus exact (fun _ _ _ h => h)
    refine Or.inl ⟨?_, ?_⟩
    focus (go_simp; done)
    focus (intro w hSw; obtain ⟨⟨⟨a0, a1⟩, b0, b1⟩, _⟩ := hSw; (first | (go_simp; done) | (go_simp; with_reducible rfl)))
    focus assumption
    (try simp only [Act.put, List.setIfInBounds_toArray, List.set_cons_zero, List.set_cons_succ])
    refine' wpAnyH_take (i := 6) (v := _) ?_ ?_ ?_ ?_ ?_ ?_ ?_ ?_
    rotate_left 2
    focus (simp only [List.getElem?_toArray, List.getElem?_cons_succ, List.getElem?_cons_zero]; rfl)
    focus kernel_rfl
    focus kernel_rfl
    focus kernel_rfl
    focus exact (fun _ _ _ h => h)
    refine Or.inl ⟨?_, ?_⟩
    focus (go_simp; done)
    focus (intro w hSw; obtain ⟨⟨⟨a0, a1⟩, b0, b1⟩, _⟩ := hSw; (first | (go_simp; done) | (go_simp; with_reducible rfl)))
    focus assumption
    (try simp only [Act.put, List.setIfInBounds_toArray, List.set_cons_zero, List.set_cons_succ])
    refine' wpAnyH_take (i := 7) (v := _) ?_ ?_ ?_ ?_ ?_ ?_ ?_ ?_
    rotate_left 2
    focus (simp only [List.getElem?_toArray, List.getElem?_cons_succ, List.getElem?_cons_zero]; rfl)
    focus kernel_rfl
    focus kernel_rfl
    focus kernel_rfl
    focus exact (fun _ _ _ h => h)
    refine Or.inl ⟨?_, ?_⟩
    focus (go_simp; done)
    focus (intro w hSw; obtain ⟨⟨⟨a0, a1⟩, b0, b1⟩, _⟩ := hSw; (first | (go_simp; done) | (go_simp; with_reducible rfl)))
    focus assumption
    (try simp only [Act.put, List.setIfInBounds_toArray, List.set_cons_zero, List.set_cons_succ])
    refine' wpAnyH_take (i := 9) (v := _) ?_ ?_ ?_ ?_ ?_ ?_ ?_ ?_
    rotate_left 2
    focus (simp only [List.getElem?_toArray, List.getElem?_cons_succ, List.getElem?_cons_zero]; rfl)
    focus kernel_rfl
    focus kernel_rfl
    focus kernel_rfl
    focus exact (fun _ _ _ h => h)
    refine Or.inl ⟨?_, ?_⟩
    focus (go_simp; done)
    focus (intro w hSw; obtain ⟨⟨⟨a0, a1⟩, b0, b1⟩, _⟩ := hSw; (first | (go_simp; done) | (go_simp; with_reducible rfl)))
    focus assumption
    (try simp only [Act.put, List.setIfInBounds_toArray, List.set_cons_zero, List.set_cons_succ])
    refine' wpAnyH_take (i := 10) (v := _) ?_ ?_ ?_ ?_ ?_ ?_ ?_ ?_
    rotate_left 2
    focus (simp only [List.getElem?_toArray, List.getElem?_cons_succ, List.getElem?_cons_zero]; rfl)
    focus kernel_rfl
    focus kernel_rfl
    focus kernel_rfl
    focus exact (fun _ _ _ h => h)
    refine Or.inl ⟨?_, ?_⟩
    focus (go_simp; done)
    focus (intro w hSw; obtain ⟨⟨⟨a0, a1⟩, b0, b1⟩, _⟩ := hSw; (first | (go_simp; done) | (go_simp; with_reducible rfl)))
    focus assumption
    (try simp only [Act.put, List.setIfInBounds_toArray, List.set_cons_zero, List.set_cons_succ])
    refine' wpAnyH_take (i := 11) (v := _) ?_ ?_ ?_ ?_ ?_ ?_ ?_ ?_
    rotate_left 2
    focus (simp only [List.getElem?_toArray, List.getElem?_cons_succ, List.getElem?_cons_zero]; rfl)
    focus kernel_rfl
    focus kernel_rfl
    focus kernel_rfl
    focus exact (fun _ _ _ h => h)
    refine Or.inl ⟨?_, ?_⟩
    focus (go_simp; done)
    focus (intro w hSw; obtain ⟨⟨⟨a0, a1⟩, b0, b1⟩, _⟩ := hSw; (first | (go_simp; done) | (go_simp; with_reducible rfl)))
    focus assumption
    (try simp only [Act.put, List.setIfInBounds_toArray, List.set_cons_zero, List.set_cons_succ])
    refine' wpAnyH_take (i := 12) (v := _) ?_ ?_ ?_ ?_ ?_ ?_ ?_ ?_
    rotate_left 2
    focus (simp only [List.getElem?_toArray, List.getElem?_cons_succ, List.getElem?_cons_zero]; rfl)
    focus kernel_rfl
    focus kernel_rfl
    focus kernel_rfl
    focus exact (fun _ _ _ h => h)
    refine Or.inl ⟨?_, ?_⟩
    focus (go_simp; done)
    focus (intro w hSw; obtain ⟨⟨⟨a0, a1⟩, b0, b1⟩, _⟩ := hSw; (first | (go_simp; done) | (go_simp; with_reducible rfl)))
    focus assumption
    (try simp only [Act.put, List.setIfInBounds_toArray, List.set_cons_zero, List.set_cons_succ])
    refine' wpAnyH_take (i := 13) (v := _) ?_ ?_ ?_ ?_ ?_ ?_ ?_ ?_
    rotate_left 2
    focus (simp only [List.getElem?_toArray, List.getElem?_cons_succ, List.getElem?_cons_zero]; rfl)
    focus kernel_rfl
    focus kernel_rfl
    focus kernel_rfl
    focus exact (fun _ _ _ h => h)
    refine Or.inl ⟨?_, ?_⟩
    focus (go_simp; done)
    focus (intro w hSw; obtain ⟨⟨⟨a0, a1⟩, b0, b1⟩, _⟩ := hSw; (first | (go_simp; done) | (go_simp; with_reducible rfl)))
    focus assumption
    (try simp only [Act.put, List.setIfInBounds_toArray, List.set_cons_zero, List.set_cons_succ])
    refine' wpAnyH_take (i := 14) (v := _) ?_ ?_ ?_ ?_ ?_ ?_ ?_ ?_
    rotate_left 2
    focus (simp only [List.getElem?_toArray, List.getElem?_cons_succ, List.getElem?_cons_zero]; rfl)
    focus kernel_rfl
    focus kernel_rfl
    focus kernel_rfl
    focus exact (fun _ _ _ h => h)
    refine Or.inl ⟨?_, ?_⟩
    focus (go_simp; done)
    focus (intro w hSw; obtain ⟨⟨⟨a0, a1⟩, b0, b1⟩, _⟩ := hSw; (first | (go_simp; done) | (go_simp; with_reducible rfl)))
    focus assumption
    (try simp only [Act.put, List.setIfInBounds_toArray, List.set_cons_zero, List.set_cons_succ])
    refine' wpAnyH_take (i := 15) (v := _) ?_ ?_ ?_ ?_ ?_ ?_ ?_ ?_
    rotate_left 2
    focus (simp only [List.getElem?_toArray, List.getElem?_cons_succ, List.getElem?_cons_zero]; rfl)
    focus kernel_rfl
    focus kernel_rfl
    focus kernel_rfl
    focus exact (fun _ _ _ h => h)
    refine Or.inl ⟨?_, ?_⟩
    focus (go_simp; done)
    focus (intro w hSw; obtain ⟨⟨⟨a0, a1⟩, b0, b1⟩, _⟩ := hSw; (first | (go_simp; done) | (go_simp; with_reducible rfl)))
    focus assumption
    (try simp only [Act.put, List.setIfInBounds_toArray, List.set_cons_zero, List.set_cons_succ])
    refine' wpAnyH_take (i := 16) (v := _) ?_ ?_ ?_ ?_ ?_ ?_ ?_ ?_
    rotate_left 2
    focus (simp only [List.getElem?_toArray, List.getElem?_cons_succ, List.getElem?_cons_zero]; rfl)
    focus kernel_rfl
    focus kernel_rfl
    focus kernel_rfl
    focus exact (fun _ _ _ h => h)
    refine Or.inl ⟨?_, ?_⟩
    focus (go_simp; done)
    focus (intro w hSw; obtain ⟨⟨⟨a0, a1⟩, b0, b1⟩, _⟩ := hSw; (first | (go_simp; done) | (go_simp; with_reducible rfl)))
    focus assumption
    (try simp only [Act.put, List.setIfInBounds_toArray, List.set_cons_zero, List.set_cons_succ])
    refine wpAnyH_ready (rs := [8]) (by kernel_rfl) (by simp) ?_
    refine' AllReadyH.cons ?_ (fun K hK => ?_) AllReadyH.nil
    rotate_left
    focus (simp only [List.getElem?_toArray, List.getElem?_cons_succ, List.getElem?_cons_zero]; rfl)
    go_simp
    refine Calls.mono (rOf_any _ _ (Iv.mk' (max a.lo (b.lo + 1)) a.hi) ?_ _) ?_
    focus (congr 1 <;> first | rfl | omega | (split <;> omega))
    rintro e w5 ⟨rfl, hb⟩
    replace hHeld := AB.below hHeld hb
    have c0 := hA.cell2 hb c0 (by omega); have c1 := hA.cell2 hb c1 (by omega); have d0 := hA.cell3 hb d0 (by omega); have d1 := hA.cell3 hb d1 (by omega); have f2 := hA.frz2 hb f2 (by omega); have f3 := hA.frz3 hb f3 (by omega); have hA := hA.below hb
    clear hb
    refine hK.out _ _ hHeld (fun hHeld => ?_)
    clear hK K
    (try simp only [Act.put, List.setIfInBounds_toArray, List.set_cons_zero, List.set_cons_succ])
    refine wpAnyH_ready (rs := [17]) (by kernel_rfl) (by simp) ?_
    refine' AllReadyH.cons ?_ (fun K hK => ?_) AllReadyH.nil
    rotate_left
    focus (simp only [List.getElem?_toArray, List.getElem?_cons_succ, List.getElem?_cons_zero]; rfl)
    go_simp
    refine Calls.mono (rOf_any _ _ (Iv.mk' b.lo (min b.hi (a.hi - 1))) ?_ _) ?_
    focus (congr 1 <;> first | rfl | omega | (split <;> omega))
    rintro e w5 ⟨rfl, hb⟩
    replace hHeld := AB.below hHeld hb
    have c0 := hA.cell2 hb c0 (by omega); have c1 := hA.cell2 hb c1 (by omega); have d0 := hA.cell3 hb d0 (by omega); have d1 := hA.cell3 hb d1 (by omega); have f2 := hA.frz2 hb f2 (by omega); have f3 := hA.frz3 hb f3 (by omega); have hA := hA.below hb
    clear hb
    refine hK.out _ _ hHeld (fun hHeld => ?_)
    clear hK K
    (try simp only [Act.put, List.setIfInBounds_toArray, List.set_cons_zero, List.set_cons_succ])
    refine wpAnyH_ready (rs := [18]) (by kernel_rfl) (by simp) ?_
    refine' AllReadyH.cons ?_ (fun K hK => ?_) AllReadyH.nil
    rotate_left
    focus (simp only [List.getElem?_toArray, List.getElem?_cons_succ, List.getElem?_cons_zero]; rfl)
    go_simp
    refine Calls.mono (rBoth_any (Iv.mk' (max a.lo (b.lo + 1)) a.hi) (Iv.mk' b.lo (min b.hi (a.hi - 1))) z HE.out _) ?_
    rintro e w5 ⟨rfl, hb⟩
    replace hHeld := AB.below hHeld hb
    have c0 := hA.cell2 hb c0 (by omega); have c1 := hA.cell2 hb c1 (by omega); have d0 := hA.cell3 hb d0 (by omega); have d1 := hA.cell3 hb d1 (by omega); have f2 := hA.frz2 hb f2 (by omega); have f3 := hA.frz3 hb f3 (by omega); have hA := hA.below hb
    clear hb
    refine hK.out _ _ hHeld (fun hHeld => ?_)
    clear hK K
    (try simp only [Act.put, List.setIfInBounds_toArray, List.set_cons_zero, List.set_cons_succ])
    refine' wpAnyH_take (i := 19) (v := _) ?_ ?_ ?_ ?_ ?_ ?_ ?_ ?_
    rotate_left 2
    focus (simp only [List.getElem?_toArray, List.getElem?_cons_succ, List.getElem?_cons_zero]; rfl)
    focus kernel_rfl
    focus kernel_rfl
    focus kernel_rfl
    focus exact (fun _ _ _ h => h)
    refine Or.inl ⟨?_, ?_⟩
    focus (go_simp; done)
    focus (intro w hSw; obtain ⟨⟨⟨a0, a1⟩, b0, b1⟩, _⟩ := hSw; (first | (go_simp; done) | (go_simp; with_reducible rfl)))
    focus assumption
    (try simp only [Act.put, List.setIfInBounds_toArray, List.set_cons_zero, List.set_cons_succ])
    refine' wpAnyH_take (i := 20) (v := _) ?_ ?_ ?_ ?_ ?_ ?_ ?_ ?_
    rotate_left 2
    focus (simp only [List.getElem?_toArray, List.getElem?_cons_succ, List.getElem?_cons_zero]; rfl)
    focus kernel_rfl
    focus kernel_rfl
    focus kernel_rfl
    focus exact (fun _ _ _ h => h)
    refine Or.inl ⟨?_, ?_⟩
    focus (go_simp; done)
    focus (intro w hSw; obtain ⟨⟨⟨a0, a1⟩, b0, b1⟩, _⟩ := hSw; (first | (go_simp; done) | (go_simp; with_reducible rfl)))
    focus assumption
    (try simp only [Act.put, List.setIfInBounds_toArray, List.set_cons_zero, List.set_cons_succ])
    refine wpAnyH_ready (rs := [21]) (by kernel_rfl) (by simp) ?_
    refine' AllReadyH.cons ?_ (fun K hK => ?_) AllReadyH.nil
    rotate_left
    focus (simp only [List.getElem?_toArray, List.getElem?_cons_succ, List.getElem?_cons_zero]; rfl)
    go_simp
    refine hK.out _ _ (by (refine AB.set ?_ (by omega) _; refine AB.set ?_ (by omega) _; exact hHeld)) (fun hHeld => ?_)
    clear hK K
    (try simp only [Act.put, List.setIfInBounds_toArray, List.set_cons_zero, List.set_cons_succ])
    refine wpAnyH_ready (rs := [22]) (by kernel_rfl) (by simp) ?_
    refine' AllReadyH.cons ?_ (fun K hK => ?_) AllReadyH.nil
    rotate_left
    focus (simp only [List.getElem?_toArray, List.getElem?_cons_succ, List.getElem?_cons_zero]; rfl)
    go_simp
    refine hK.out _ _ (by (refine AB.set ?_ (by omega) _; refine AB.set ?_ (by omega) _; exact hHeld)) (fun hHeld => ?_)
    clear hK K
    (try simp only [Act.put, List.setIfInBounds_toArray, List.set_cons_zero, List.set_cons_succ])
    refine wpAnyH_done (by kernel_rfl) ?_ _
    go_wp2
    all_goals
      refine bodyPost_ret (v := .tuple #[.agg #[.int .i64 (z.1).lo, .int .i64 (z.1).hi], .agg #[.int .i64 (z.2).lo, .int .i64 (z.2).hi]]) ?_ rfl ⟨rfl, Ahead.fst (n := 4) ?_⟩
      · simp [results, Try.results26, go_sem, c0, c1, d0, d1, hy0, hy1, hy2, hy3]
      · (try refine Ahead.drew ?_)
        refine Ahead.set ?_ (by omega) _
        refine Ahead.set ?_ (by omega) _
        refine Ahead.set ?_ (by omega) _
        refine Ahead.set ?_ (by omega) _
        first | exact hA | exact hA.drew
  · as_aux_lemma =>
    have HE : Hid (Iv.both (Iv.mk' a.lo (min a.hi b.hi)) (Iv.mk' (max b.lo a.lo) b.hi) = z) := Lib.hid HJ.out
    clear HJ
    go_wp2_with fail
    refine wp_region_held_drew (S := (fun w' => AB w a b w')) (by kernel_rfl) (by exact ⟨⟨⟨by simpa using a0, by simpa using a1⟩, by simpa using b0, by simpa using b1⟩, hA.drew⟩) (fun hHeld => ?_)
    replace c0 := (World.cell?_drew _ _).trans c0; replace c1 := (World.cell?_drew _ _).trans c1; replace d0 := (World.cell?_drew _ _).trans d0; replace d1 := (World.cell?_drew _ _).trans d1; replace f2 := fun o => (World.frozen?_drew _ _).trans (f2 o); replace f3 := fun o => (World.frozen?_drew _ _).trans (f3 o); replace hA := hA.drew; clear a0 a1 b0 b1 hy0 hy1 hy2 hy3
    refine' wpAnyH_take (i := 0) (v := _) ?_ ?_ ?_ ?_ ?_ ?_ ?_ ?_
    rotate_left 2
    focus (simp only [List.getElem?_toArray, List.getElem?_cons_succ, List.getElem?_cons_zero]; rfl)
    focus kernel_rfl
    focus kernel_rfl
    focus kernel_rfl
    focus exact (fun _ _ _ h => h)
    refine Or.inl ⟨?_, ?_⟩
    focus (go_simp; done)
    focus (intro w hSw; obtain ⟨⟨⟨a0, a1⟩, b0, b1⟩, _⟩ := hSw; (first | (go_simp; done) | (go_simp; with_reducible rfl)))
    focus assumption
    (try simp only [Act.put, List.setIfInBounds_toArray, List.set_cons_zero, List.set_cons_succ])
    refine' wpAnyH_take (i := 1) (v := _) ?_ ?_ ?_ ?_ ?_ ?_ ?_ ?_
    rotate_left 2
    focus (simp only [List.getElem?_toArray, List.getElem?_cons_succ, List.getElem?_cons_zero]; rfl)
    focus kernel_rfl
    focus kernel_rfl
    focus kernel_rfl
    focus exact (fun _ _ _ h => h)
    refine Or.inl ⟨?_, ?_⟩
    focus (go_simp; done)
    focus (intro w hSw; obtain ⟨⟨⟨a0, a1⟩, b0, b1⟩, _⟩ := hSw; (first | (go_simp; done) | (go_simp; with_reducible rfl)))
    focus assumption
    (try simp only [Act.put, List.setIfInBounds_toArray, List.set_cons_zero, List.set_cons_succ])
    refine' wpAnyH_take (i := 2) (v := _) ?_ ?_ ?_ ?_ ?_ ?_ ?_ ?_
    rotate_left 2
    focus (simp only [List.getElem?_toArray, List.getElem?_cons_succ, List.getElem?_cons_zero]; rfl)
    focus kernel_rfl
    focus kernel_rfl
    focus kernel_rfl
    focus exact (fun _ _ _ h => h)
    refine Or.inl ⟨?_, ?_⟩
    focus (go_simp; done)
    focus (intro w hSw; obtain ⟨⟨⟨a0, a1⟩, b0, b1⟩, _⟩ := hSw; (first | (go_simp; done) | (go_simp; with_reducible rfl)))
    focus assumption
    (try simp only [Act.put, List.setIfInBounds_toArray, List.set_cons_zero, List.set_cons_succ])
    refine' wpAnyH_take (i := 3) (v := _) ?_ ?_ ?_ ?_ ?_ ?_ ?_ ?_
    rotate_left 2
    focus (simp only [List.getElem?_toArray, List.getElem?_cons_succ, List.getElem?_cons_zero]; rfl)
    focus kernel_rfl
    focus kernel_rfl
    focus kernel_rfl
    focus exact (fun _ _ _ h => h)
    refine Or.inl ⟨?_, ?_⟩
    focus (go_simp; done)
    focus (intro w hSw; obtain ⟨⟨⟨a0, a1⟩, b0, b1⟩, _⟩ := hSw; (first | (go_simp; done) | (go_simp; with_reducible rfl)))
    focus assumption
    (try simp only [Act.put, List.setIfInBounds_toArray, List.set_cons_zero, List.set_cons_succ])
    refine' wpAnyH_take (i := 4) (v := _) ?_ ?_ ?_ ?_ ?_ ?_ ?_ ?_
    rotate_left 2
    focus (simp only [List.getElem?_toArray, List.getElem?_cons_succ, List.getElem?_cons_zero]; rfl)
    focus kernel_rfl
    focus kernel_rfl
    focus kernel_rfl
    focus exact (fun _ _ _ h => h)
    refine Or.inl ⟨?_, ?_⟩
    focus (go_simp; done)
    focus (intro w hSw; obtain ⟨⟨⟨a0, a1⟩, b0, b1⟩, _⟩ := hSw; (first | (go_simp; done) | (go_simp; with_reducible rfl)))
    focus assumption
    (try simp only [Act.put, List.setIfInBounds_toArray, List.set_cons_zero, List.set_cons_succ])
    refine' wpAnyH_take (i := 5) (v := _) ?_ ?_ ?_ ?_ ?_ ?_ ?_ ?_
    rotate_left 2
    focus (simp only [List.getElem?_toArray, List.getElem?_cons_succ, List.getElem?_cons_zero]; rfl)
    focus kernel_rfl
    focus kernel_rfl
    focus kernel_rfl
    focus exact (fun _ _ _ h => h)
    refine Or.inl ⟨?_, ?_⟩
    focus (go_simp; done)
    focus (intro w hSw; obtain ⟨⟨⟨a0, a1⟩, b0, b1⟩, _⟩ := hSw; (first | (go_simp; done) | (go_simp; with_reducible rfl)))
    focus assumption
    (try simp only [Act.put, List.setIfInBounds_toArray, List.set_cons_zero, List.set_cons_succ])
    refine' wpAnyH_take (i := 6) (v := _) ?_ ?_ ?_ ?_ ?_ ?_ ?_ ?_
    rotate_left 2
    focus (simp only [List.getElem?_toArray, List.getElem?_cons_succ, List.getElem?_cons_zero]; rfl)
    focus kernel_rfl
    focus kernel_rfl
    focus kernel_rfl
    focus exact (fun _ _ _ h => h)
    refine Or.inl ⟨?_, ?_⟩
    focus (go_simp; done)
    focus (intro w hSw; obtain ⟨⟨⟨a0, a1⟩, b0, b1⟩, _⟩ := hSw; (first | (go_simp; done) | (go_simp; with_reducible rfl)))
    focus assumption
    (try simp only [Act.put, List.setIfInBounds_toArray, List.set_cons_zero, List.set_cons_succ])
    refine' wpAnyH_take (i := 8) (v := _) ?_ ?_ ?_ ?_ ?_ ?_ ?_ ?_
    rotate_left 2
    focus (simp only [List.getElem?_toArray, List.getElem?_cons_succ, List.getElem?_cons_zero]; rfl)
    focus kernel_rfl
    focus kernel_rfl
    focus kernel_rfl
    focus exact (fun _ _ _ h => h)
    refine Or.inl ⟨?_, ?_⟩
    focus (go_simp; done)
    focus (intro w hSw; obtain ⟨⟨⟨a0, a1⟩, b0, b1⟩, _⟩ := hSw; (first | (go_simp; done) | (go_simp; with_reducible rfl)))
    focus assumption
    (try simp only [Act.put, List.setIfInBounds_toArray, List.set_cons_zero, List.set_cons_succ])
    refine' wpAnyH_take (i := 9) (v := _) ?_ ?_ ?_ ?_ ?_ ?_ ?_ ?_
    rotate_left 2
    focus (simp only [List.getElem?_toArray, List.getElem?_cons_succ, List.getElem?_cons_zero]; rfl)
    focus kernel_rfl
    focus kernel_rfl
    focus kernel_rfl
    focus exact (fun _ _ _ h => h)
    refine Or.inl ⟨?_, ?_⟩
    focus (go_simp; done)
    focus (intro w hSw; obtain ⟨⟨⟨a0, a1⟩, b0, b1⟩, _⟩ := hSw; (first | (go_simp; done) | (go_simp; with_reducible rfl)))
    focus assumption
    (try simp only [Act.put, List.setIfInBounds_toArray, List.set_cons_zero, List.set_cons_succ])
    refine' wpAnyH_take (i := 10) (v := _) ?_ ?_ ?_ ?_ ?_ ?_ ?_ ?_
    rotate_left 2
    focus (simp only [List.getElem?_toArray, List.getElem?_cons_succ, List.getElem?_cons_zero]; rfl)
    focus kernel_rfl
    focus kernel_rfl
    focus kernel_rfl
    focus exact (fun _ _ _ h => h)
    refine Or.inl ⟨?_, ?_⟩
    focus (go_simp; done)
    focus (intro w hSw; obtain ⟨⟨⟨a0, a1⟩, b0, b1⟩, _⟩ := hSw; (first | (go_simp; done) | (go_simp; with_reducible rfl)))
    focus assumption
    (try simp only [Act.put, List.setIfInBounds_toArray, List.set_cons_zero, List.set_cons_succ])
    refine' wpAnyH_take (i := 11) (v := _) ?_ ?_ ?_ ?_ ?_ ?_ ?_ ?_
    rotate_left 2
    focus (simp only [List.getElem?_toArray, List.getElem?_cons_succ, List.getElem?_cons_zero]; rfl)
    focus kernel_rfl
    focus kernel_rfl
    focus kernel_rfl
    focus exact (fun _ _ _ h => h)
    refine Or.inl ⟨?_, ?_⟩
    focus (go_simp; done)
    focus (intro w hSw; obtain ⟨⟨⟨a0, a1⟩, b0, b1⟩, _⟩ := hSw; (first | (go_simp; done) | (go_simp; with_reducible rfl)))
    focus assumption
    (try simp only [Act.put, List.setIfInBounds_toArray, List.set_cons_zero, List.set_cons_succ])
    refine' wpAnyH_take (i := 12) (v := _) ?_ ?_ ?_ ?_ ?_ ?_ ?_ ?_
    rotate_left 2
    focus (simp only [List.getElem?_toArray, List.getElem?_cons_succ, List.getElem?_cons_zero]; rfl)
    focus kernel_rfl
    focus kernel_rfl
    focus kernel_rfl
    focus exact (fun _ _ _ h => h)
    refine Or.inl ⟨?_, ?_⟩
    focus (go_simp; done)
    focus (intro w hSw; obtain ⟨⟨⟨a0, a1⟩, b0, b1⟩, _⟩ := hSw; (first | (go_simp; done) | (go_simp; with_reducible rfl)))
    focus assumption
    (try simp only [Act.put, List.setIfInBounds_toArray, List.set_cons_zero, List.set_cons_succ])
    refine' wpAnyH_take (i := 13) (v := _) ?_ ?_ ?_ ?_ ?_ ?_ ?_ ?_
    rotate_left 2
    focus (simp only [List.getElem?_toArray, List.getElem?_cons_succ, List.getElem?_cons_zero]; rfl)
    focus kernel_rfl
    focus kernel_rfl
    focus kernel_rfl
    focus exact (fun _ _ _ h => h)
    refine Or.inl ⟨?_, ?_⟩
    focus (go_simp; done)
    focus (intro w hSw; obtain ⟨⟨⟨a0, a1⟩, b0, b1⟩, _⟩ := hSw; (first | (go_simp; done) | (go_simp; with_reducible rfl)))
    focus assumption
    (try simp only [Act.put, List.setIfInBounds_toArray, List.set_cons_zero, List.set_cons_succ])
    refine' wpAnyH_take (i := 14) (v := _) ?_ ?_ ?_ ?_ ?_ ?_ ?_ ?_
    rotate_left 2
    focus (simp only [List.getElem?_toArray, List.getElem?_cons_succ, List.getElem?_cons_zero]; rfl)
    focus kernel_rfl
    focus kernel_rfl
    focus kernel_rfl
    focus exact (fun _ _ _ h => h)
    refine Or.inl ⟨?_, ?_⟩
    focus (go_simp; done)
    focus (intro w hSw; obtain ⟨⟨⟨a0, a1⟩, b0, b1⟩, _⟩ := hSw; (first | (go_simp; done) | (go_simp; with_reducible rfl)))
    focus assumption
    (try simp only [Act.put, List.setIfInBounds_toArray, List.set_cons_zero, List.set_cons_succ])
    refine wpAnyH_ready (rs := [7]) (by kernel_rfl) (by simp) ?_
    refine' AllReadyH.cons ?_ (fun K hK => ?_) AllReadyH.nil
    rotate_left
    focus (simp only [List.getElem?_toArray, List.getElem?_cons_succ, List.getElem?_cons_zero]; rfl)
    go_simp
    refine Calls.mono (rOf_any _ _ (Iv.mk' a.lo (min a.hi b.hi)) ?_ _) ?_
    focus (congr 1 <;> first | rfl | omega | (split <;> omega))
    rintro e w5 ⟨rfl, hb⟩
    replace hHeld := AB.below hHeld hb
    have c0 := hA.cell2 hb c0 (by omega); have c1 := hA.cell2 hb c1 (by omega); have d0 := hA.cell3 hb d0 (by omega); have d1 := hA.cell3 hb d1 (by omega); have f2 := hA.frz2 hb f2 (by omega); have f3 := hA.frz3 hb f3 (by omega); have hA := hA.below hb
    clear hb
    refine hK.out _ _ hHeld (fun hHeld => ?_)
    clear hK K
    (try simp only [Act.put, List.setIfInBounds_toArray, List.set_cons_zero, List.set_cons_succ])
    refine wpAnyH_ready (rs := [15]) (by kernel_rfl) (by simp) ?_
    refine' AllReadyH.cons ?_ (fun K hK => ?_) AllReadyH.nil
    rotate_left
    focus (simp only [List.getElem?_toArray, List.getElem?_cons_succ, List.getElem?_cons_zero]; rfl)
    go_simp
    refine Calls.mono (rOf_any _ _ (Iv.mk' (max b.lo a.lo) b.hi) ?_ _) ?_
    focus (congr 1 <;> first | rfl | omega | (split <;> omega))
    rintro e w5 ⟨rfl, hb⟩
    replace hHeld := AB.below hHeld hb
    have c0 := hA.cell2 hb c0 (by omega); have c1 := hA.cell2 hb c1 (by omega); have d0 := hA.cell3 hb d0 (by omega); have d1 := hA.cell3 hb d1 (by omega); have f2 := hA.frz2 hb f2 (by omega); have f3 := hA.frz3 hb f3 (by omega); have hA := hA.below hb
    clear hb
    refine hK.out _ _ hHeld (fun hHeld => ?_)
    clear hK K
    (try simp only [Act.put, List.setIfInBounds_toArray, List.set_cons_zero, List.set_cons_succ])
    refine wpAnyH_ready (rs := [16]) (by kernel_rfl) (by simp) ?_
    refine' AllReadyH.cons ?_ (fun K hK => ?_) AllReadyH.nil
    rotate_left
    focus (simp only [List.getElem?_toArray, List.getElem?_cons_succ, List.getElem?_cons_zero]; rfl)
    go_simp
    refine Calls.mono (rBoth_any (Iv.mk' a.lo (min a.hi b.hi)) (Iv.mk' (max b.lo a.lo) b.hi) z HE.out _) ?_
    rintro e w5 ⟨rfl, hb⟩
    replace hHeld := AB.below hHeld hb
    have c0 := hA.cell2 hb c0 (by omega); have c1 := hA.cell2 hb c1 (by omega); have d0 := hA.cell3 hb d0 (by omega); have d1 := hA.cell3 hb d1 (by omega); have f2 := hA.frz2 hb f2 (by omega); have f3 := hA.frz3 hb f3 (by omega); have hA := hA.below hb
    clear hb
    refine hK.out _ _ hHeld (fun hHeld => ?_)
    clear hK K
    (try simp only [Act.put, List.setIfInBounds_toArray, List.set_cons_zero, List.set_cons_succ])
    refine' wpAnyH_take (i := 17) (v := _) ?_ ?_ ?_ ?_ ?_ ?_ ?_ ?_
    rotate_left 2
    focus (simp only [List.getElem?_toArray, List.getElem?_cons_succ, List.getElem?_cons_zero]; rfl)
    focus kernel_rfl
    focus kernel_rfl
    focus kernel_rfl
    focus exact (fun _ _ _ h => h)
    refine Or.inl ⟨?_, ?_⟩
    focus (go_simp; done)
    focus (intro w hSw; obtain ⟨⟨⟨a0, a1⟩, b0, b1⟩, _⟩ := hSw; (first | (go_simp; done) | (go_simp; with_reducible rfl)))
    focus assumption
    (try simp only [Act.put, List.setIfInBounds_toArray, List.set_cons_zero, List.set_cons_succ])
    refine' wpAnyH_take (i := 18) (v := _) ?_ ?_ ?_ ?_ ?_ ?_ ?_ ?_
    rotate_left 2
    focus (simp only [List.getElem?_toArray, List.getElem?_cons_succ, List.getElem?_cons_zero]; rfl)
    focus kernel_rfl
    focus kernel_rfl
    focus kernel_rfl
    focus exact (fun _ _ _ h => h)
    refine Or.inl ⟨?_, ?_⟩
    focus (go_simp; done)
    focus (intro w hSw; obtain ⟨⟨⟨a0, a1⟩, b0, b1⟩, _⟩ := hSw; (first | (go_simp; done) | (go_simp; with_reducible rfl)))
    focus assumption
    (try simp only [Act.put, List.setIfInBounds_toArray, List.set_cons_zero, List.set_cons_succ])
    refine wpAnyH_ready (rs := [19]) (by kernel_rfl) (by simp) ?_
    refine' AllReadyH.cons ?_ (fun K hK => ?_) AllReadyH.nil
    rotate_left
    focus (simp only [List.getElem?_toArray, List.getElem?_cons_succ, List.getElem?_cons_zero]; rfl)
    go_simp
    refine hK.out _ _ (by (refine AB.set ?_ (by omega) _; refine AB.set ?_ (by omega) _; exact hHeld)) (fun hHeld => ?_)
    clear hK K
    (try simp only [Act.put, List.setIfInBounds_toArray, List.set_cons_zero, List.set_cons_succ])
    refine wpAnyH_ready (rs := [20]) (by kernel_rfl) (by simp) ?_
    refine' AllReadyH.cons ?_ (fun K hK => ?_) AllReadyH.nil
    rotate_left
    focus (simp only [List.getElem?_toArray, List.getElem?_cons_succ, List.getElem?_cons_zero]; rfl)
    go_simp
    refine hK.out _ _ (by (refine AB.set ?_ (by omega) _; refine AB.set ?_ (by omega) _; exact hHeld)) (fun hHeld => ?_)
    clear hK K
    (try simp only [Act.put, List.setIfInBounds_toArray, List.set_cons_zero, List.set_cons_succ])
    refine wpAnyH_done (by kernel_rfl) ?_ _
    go_wp2
    all_goals
      refine bodyPost_ret (v := .tuple #[.agg #[.int .i64 (z.1).lo, .int .i64 (z.1).hi], .agg #[.int .i64 (z.2).lo, .int .i64 (z.2).hi]]) ?_ rfl ⟨rfl, Ahead.fst (n := 4) ?_⟩
      · simp [results, Try.results26, go_sem, c0, c1, d0, d1, hy0, hy1, hy2, hy3]
      · (try refine Ahead.drew ?_)
        refine Ahead.set ?_ (by omega) _
        refine Ahead.set ?_ (by omega) _
        refine Ahead.set ?_ (by omega) _
        refine Ahead.set ?_ (by omega) _
        first | exact hA | exact hA.drew
  · as_aux_lemma =>
    have HE : Hid (Iv.both (Iv.but a b) (Iv.but b a) = z) := Lib.hid (by rw [← HJ.out]; unfold Iv.refine'; simp)
    clear HJ
    go_wp2_with fail
    refine wp_region_held_drew (S := (fun w' => AB w a b w')) (by kernel_rfl) (by exact ⟨⟨⟨by simpa using a0, by simpa using a1⟩, by simpa using b0, by simpa using b1⟩, hA.drew⟩) (fun hHeld => ?_)
    replace c0 := (World.cell?_drew _ _).trans c0; replace c1 := (World.cell?_drew _ _).trans c1; replace d0 := (World.cell?_drew _ _).trans d0; replace d1 := (World.cell?_drew _ _).trans d1; replace f2 := fun o => (World.frozen?_drew _ _).trans (f2 o); replace f3 := fun o => (World.frozen?_drew _ _).trans (f3 o); replace hA := hA.drew; clear a0 a1 b0 b1 hy0 hy1 hy2 hy3
    refine' wpAnyH_take (i := 0) (v := _) ?_ ?_ ?_ ?_ ?_ ?_ ?_ ?_
    rotate_left 2
    focus (simp only [List.getElem?_toArray, List.getElem?_cons_succ, List.getElem?_cons_zero]; rfl)
    focus kernel_rfl
    focus kernel_rfl
    focus kernel_rfl
    focus exact (fun _ _ _ h => h)
    refine Or.inl ⟨?_, ?_⟩
    focus (go_simp; done)
    focus (intro w hSw; obtain ⟨⟨⟨a0, a1⟩, b0, b1⟩, _⟩ := hSw; (first | (go_simp; done) | (go_simp; with_reducible rfl)))
    focus assumption
    (try simp only [Act.put, List.setIfInBounds_toArray, List.set_cons_zero, List.set_cons_succ])
    refine' wpAnyH_take (i := 1) (v := _) ?_ ?_ ?_ ?_ ?_ ?_ ?_ ?_
    rotate_left 2
    focus (simp only [List.getElem?_toArray, List.getElem?_cons_succ, List.getElem?_cons_zero]; rfl)
    focus kernel_rfl
    focus kernel_rfl
    focus kernel_rfl
    focus exact (fun _ _ _ h => h)
    refine Or.inl ⟨?_, ?_⟩
    focus (go_simp; done)
    focus (intro w hSw; obtain ⟨⟨⟨a0, a1⟩, b0, b1⟩, _⟩ := hSw; (first | (go_simp; done) | (go_simp; with_reducible rfl)))
    focus assumption
    (try simp only [Act.put, List.setIfInBounds_toArray, List.set_cons_zero, List.set_cons_succ])
    refine' wpAnyH_take (i := 3) (v := _) ?_ ?_ ?_ ?_ ?_ ?_ ?_ ?_
    rotate_left 2
    focus (simp only [List.getElem?_toArray, List.getElem?_cons_succ, List.getElem?_cons_zero]; rfl)
    focus kernel_rfl
    focus kernel_rfl
    focus kernel_rfl
    focus exact (fun _ _ _ h => h)
    refine Or.inl ⟨?_, ?_⟩
    focus (go_simp; done)
    focus (intro w hSw; obtain ⟨⟨⟨a0, a1⟩, b0, b1⟩, _⟩ := hSw; (first | (go_simp; done) | (go_simp; with_reducible rfl)))
    focus assumption
    (try simp only [Act.put, List.setIfInBounds_toArray, List.set_cons_zero, List.set_cons_succ])
    refine' wpAnyH_take (i := 4) (v := _) ?_ ?_ ?_ ?_ ?_ ?_ ?_ ?_
    rotate_left 2
    focus (simp only [List.getElem?_toArray, List.getElem?_cons_succ, List.getElem?_cons_zero]; rfl)
    focus kernel_rfl
    focus kernel_rfl
    focus kernel_rfl
    focus exact (fun _ _ _ h => h)
    refine Or.inl ⟨?_, ?_⟩
    focus (go_simp; done)
    focus (intro w hSw; obtain ⟨⟨⟨a0, a1⟩, b0, b1⟩, _⟩ := hSw; (first | (go_simp; done) | (go_simp; with_reducible rfl)))
    focus assumption
    (try simp only [Act.put, List.setIfInBounds_toArray, List.set_cons_zero, List.set_cons_succ])
    refine wpAnyH_ready (rs := [2]) (by kernel_rfl) (by simp) ?_
    refine' AllReadyH.cons ?_ (fun K hK => ?_) AllReadyH.nil
    rotate_left
    focus (simp only [List.getElem?_toArray, List.getElem?_cons_succ, List.getElem?_cons_zero]; rfl)
    go_simp
    refine Calls.mono (rBut_any a b _ (by omega) (by omega) (by omega) rfl _) ?_
    rintro e w5 ⟨rfl, hb⟩
    replace hHeld := AB.below hHeld hb
    have c0 := hA.cell2 hb c0 (by omega); have c1 := hA.cell2 hb c1 (by omega); have d0 := hA.cell3 hb d0 (by omega); have d1 := hA.cell3 hb d1 (by omega); have f2 := hA.frz2 hb f2 (by omega); have f3 := hA.frz3 hb f3 (by omega); have hA := hA.below hb
    clear hb
    refine hK.out _ _ hHeld (fun hHeld => ?_)
    clear hK K
    (try simp only [Act.put, List.setIfInBounds_toArray, List.set_cons_zero, List.set_cons_succ])
    refine wpAnyH_ready (rs := [5]) (by kernel_rfl) (by simp) ?_
    refine' AllReadyH.cons ?_ (fun K hK => ?_) AllReadyH.nil
    rotate_left
    focus (simp only [List.getElem?_toArray, List.getElem?_cons_succ, List.getElem?_cons_zero]; rfl)
    go_simp
    refine Calls.mono (rBut_any b a _ (by omega) (by omega) (by omega) rfl _) ?_
    rintro e w5 ⟨rfl, hb⟩
    replace hHeld := AB.below hHeld hb
    have c0 := hA.cell2 hb c0 (by omega); have c1 := hA.cell2 hb c1 (by omega); have d0 := hA.cell3 hb d0 (by omega); have d1 := hA.cell3 hb d1 (by omega); have f2 := hA.frz2 hb f2 (by omega); have f3 := hA.frz3 hb f3 (by omega); have hA := hA.below hb
    clear hb
    refine hK.out _ _ hHeld (fun hHeld => ?_)
    clear hK K
    (try simp only [Act.put, List.setIfInBounds_toArray, List.set_cons_zero, List.set_cons_succ])
    refine wpAnyH_ready (rs := [6]) (by kernel_rfl) (by simp) ?_
    refine' AllReadyH.cons ?_ (fun K hK => ?_) AllReadyH.nil
    rotate_left
    focus (simp only [List.getElem?_toArray, List.getElem?_cons_succ, List.getElem?_cons_zero]; rfl)
    go_simp
    refine Calls.mono (rBoth_any (Iv.but a b) (Iv.but b a) z HE.out _) ?_
    rintro e w5 ⟨rfl, hb⟩
    replace hHeld := AB.below hHeld hb
    have c0 := hA.cell2 hb c0 (by omega); have c1 := hA.cell2 hb c1 (by omega); have d0 := hA.cell3 hb d0 (by omega); have d1 := hA.cell3 hb d1 (by omega); have f2 := hA.frz2 hb f2 (by omega); have f3 := hA.frz3 hb f3 (by omega); have hA := hA.below hb
    clear hb
    refine hK.out _ _ hHeld (fun hHeld => ?_)
    clear hK K
    (try simp only [Act.put, List.setIfInBounds_toArray, List.set_cons_zero, List.set_cons_succ])
    refine' wpAnyH_take (i := 7) (v := _) ?_ ?_ ?_ ?_ ?_ ?_ ?_ ?_
    rotate_left 2
    focus (simp only [List.getElem?_toArray, List.getElem?_cons_succ, List.getElem?_cons_zero]; rfl)
    focus kernel_rfl
    focus kernel_rfl
    focus kernel_rfl
    focus exact (fun _ _ _ h => h)
    refine Or.inl ⟨?_, ?_⟩
    focus (go_simp; done)
    focus (intro w hSw; obtain ⟨⟨⟨a0, a1⟩, b0, b1⟩, _⟩ := hSw; (first | (go_simp; done) | (go_simp; with_reducible rfl)))
    focus assumption
    (try simp only [Act.put, List.setIfInBounds_toArray, List.set_cons_zero, List.set_cons_succ])
    refine' wpAnyH_take (i := 8) (v := _) ?_ ?_ ?_ ?_ ?_ ?_ ?_ ?_
    rotate_left 2
    focus (simp only [List.getElem?_toArray, List.getElem?_cons_succ, List.getElem?_cons_zero]; rfl)
    focus kernel_rfl
    focus kernel_rfl
    focus kernel_rfl
    focus exact (fun _ _ _ h => h)
    refine Or.inl ⟨?_, ?_⟩
    focus (go_simp; done)
    focus (intro w hSw; obtain ⟨⟨⟨a0, a1⟩, b0, b1⟩, _⟩ := hSw; (first | (go_simp; done) | (go_simp; with_reducible rfl)))
    focus assumption
    (try simp only [Act.put, List.setIfInBounds_toArray, List.set_cons_zero, List.set_cons_succ])
    refine wpAnyH_ready (rs := [9]) (by kernel_rfl) (by simp) ?_
    refine' AllReadyH.cons ?_ (fun K hK => ?_) AllReadyH.nil
    rotate_left
    focus (simp only [List.getElem?_toArray, List.getElem?_cons_succ, List.getElem?_cons_zero]; rfl)
    go_simp
    refine hK.out _ _ (by (refine AB.set ?_ (by omega) _; refine AB.set ?_ (by omega) _; exact hHeld)) (fun hHeld => ?_)
    clear hK K
    (try simp only [Act.put, List.setIfInBounds_toArray, List.set_cons_zero, List.set_cons_succ])
    refine wpAnyH_ready (rs := [10]) (by kernel_rfl) (by simp) ?_
    refine' AllReadyH.cons ?_ (fun K hK => ?_) AllReadyH.nil
    rotate_left
    focus (simp only [List.getElem?_toArray, List.getElem?_cons_succ, List.getElem?_cons_zero]; rfl)
    go_simp
    refine hK.out _ _ (by (refine AB.set ?_ (by omega) _; refine AB.set ?_ (by omega) _; exact hHeld)) (fun hHeld => ?_)
    clear hK K
    (try simp only [Act.put, List.setIfInBounds_toArray, List.set_cons_zero, List.set_cons_succ])
    refine wpAnyH_done (by kernel_rfl) ?_ _
    go_wp2
    all_goals
      refine bodyPost_ret (v := .tuple #[.agg #[.int .i64 (z.1).lo, .int .i64 (z.1).hi], .agg #[.int .i64 (z.2).lo, .int .i64 (z.2).hi]]) ?_ rfl ⟨rfl, Ahead.fst (n := 4) ?_⟩
      · simp [results, Try.results26, go_sem, c0, c1, d0, d1, hy0, hy1, hy2, hy3]
      · (try refine Ahead.drew ?_)
        refine Ahead.set ?_ (by omega) _
        refine Ahead.set ?_ (by omega) _
        refine Ahead.set ?_ (by omega) _
        refine Ahead.set ?_ (by omega) _
        first | exact hA | exact hA.drew
  · as_aux_lemma =>
    have HE : Hid (Iv.both (Iv.meet a b) (Iv.meet a b) = z) := Lib.hid (by rw [← HJ.out]; unfold Iv.refine'; simp)
    clear HJ
    go_wp2_with fail
    refine Calls.mono (rMeet_any a.lo a.hi b.lo b.hi (Iv.meet a b) rfl _) ?_
    rintro e w5 ⟨rfl, hb⟩
    have c0 := hA.cell2 hb c0 (by omega); have c1 := hA.cell2 hb c1 (by omega); have d0 := hA.cell3 hb d0 (by omega); have d1 := hA.cell3 hb d1 (by omega); have f2 := hA.frz2 hb f2 (by omega); have f3 := hA.frz3 hb f3 (by omega); have hA := hA.below hb
    clear hb hy0 hy1 hy2 hy3
    have hy0 := hA.lt0 (by omega); have hy1 := hA.lt1 (by omega); have hy2 := hA.lt2 (by omega); have hy3 := hA.lt3 (by omega)
    go_wp2_with fail
    refine Calls.mono (rBoth_any (Iv.meet a b) (Iv.meet a b) z HE.out _) ?_
    rintro e w6 ⟨rfl, hb⟩
    replace hb := below_in hb
    have c0 := hA.cell2 hb c0 (by omega); have c1 := hA.cell2 hb c1 (by omega); have d0 := hA.cell3 hb d0 (by omega); have d1 := hA.cell3 hb d1 (by omega); have f2 := hA.frz2 hb f2 (by omega); have f3 := hA.frz3 hb f3 (by omega); have hA := hA.below hb
    clear hb hy0 hy1 hy2 hy3
    have hy0 := hA.lt0 (by omega); have hy1 := hA.lt1 (by omega); have hy2 := hA.lt2 (by omega); have hy3 := hA.lt3 (by omega)
    go_wp2
    refine bodyPost_ret (v := .tuple #[.agg #[.int .i64 (z.1).lo, .int .i64 (z.1).hi], .agg #[.int .i64 (z.2).lo, .int .i64 (z.2).hi]]) ?_ rfl ⟨rfl, Ahead.fst (n := 4) ?_⟩
    · simp [results, Try.results26, go_sem, c0, c1, d0, d1, hy0, hy1, hy2, hy3]
    · (try refine Ahead.drew ?_)
      refine Ahead.set ?_ (by omega) _
      refine Ahead.set ?_ (by omega) _
      refine Ahead.set ?_ (by omega) _
      refine Ahead.set ?_ (by omega) _
      first | exact hA | exact hA.drew
  · as_aux_lemma =>
    have HE : Hid (Iv.both (Iv.meet a b) (Iv.meet a b) = z) := Lib.hid (by rw [← HJ.out]; unfold Iv.refine'; simp)
    clear HJ
    go_wp2_with fail
    refine Calls.mono (rMeet_any a.lo a.hi b.lo b.hi (Iv.meet a b) rfl _) ?_
    rintro e w5 ⟨rfl, hb⟩
    have c0 := hA.cell2 hb c0 (by omega); have c1 := hA.cell2 hb c1 (by omega); have d0 := hA.cell3 hb d0 (by omega); have d1 := hA.cell3 hb d1 (by omega); have f2 := hA.frz2 hb f2 (by omega); have f3 := hA.frz3 hb f3 (by omega); have hA := hA.below hb
    clear hb hy0 hy1 hy2 hy3
    have hy0 := hA.lt0 (by omega); have hy1 := hA.lt1 (by omega); have hy2 := hA.lt2 (by omega); have hy3 := hA.lt3 (by omega)
    go_wp2_with fail
    refine Calls.mono (rBoth_any (Iv.meet a b) (Iv.meet a b) z HE.out _) ?_
    rintro e w6 ⟨rfl, hb⟩
    replace hb := below_in hb
    have c0 := hA.cell2 hb c0 (by omega); have c1 := hA.cell2 hb c1 (by omega); have d0 := hA.cell3 hb d0 (by omega); have d1 := hA.cell3 hb d1 (by omega); have f2 := hA.frz2 hb f2 (by omega); have f3 := hA.frz3 hb f3 (by omega); have hA := hA.below hb
    clear hb hy0 hy1 hy2 hy3
    have hy0 := hA.lt0 (by omega); have hy1 := hA.lt1 (by omega); have hy2 := hA.lt2 (by omega); have hy3 := hA.lt3 (by omega)
    go_wp2
    refine bodyPost_ret (v := .tuple #[.agg #[.int .i64 (z.1).lo, .int .i64 (z.1).hi], .agg #[.int .i64 (z.2).lo, .int .i64 (z.2).hi]]) ?_ rfl ⟨rfl, Ahead.fst (n := 4) ?_⟩
    · simp [results, Try.results26, go_sem, c0, c1, d0, d1, hy0, hy1, hy2, hy3]
    · (try refine Ahead.drew ?_)
      refine Ahead.set ?_ (by omega) _
      refine Ahead.set ?_ (by omega) _
      refine Ahead.set ?_ (by omega) _
      refine Ahead.set ?_ (by omega) _
      first | exact hA | exact hA.drew
  · as_aux_lemma =>
    have HE : Hid (Iv.both (Iv.but a b) (Iv.but b a) = z) := Lib.hid (by rw [← HJ.out]; unfold Iv.refine'; simp)
    clear HJ
    go_wp2_with fail
    refine wp_region_held_drew (S := (fun w' => AB w a b w')) (by kernel_rfl) (by exact ⟨⟨⟨by simpa using a0, by simpa using a1⟩, by simpa using b0, by simpa using b1⟩, hA.drew⟩) (fun hHeld => ?_)
    replace c0 := (World.cell?_drew _ _).trans c0; replace c1 := (World.cell?_drew _ _).trans c1; replace d0 := (World.cell?_drew _ _).trans d0; replace d1 := (World.cell?_drew _ _).trans d1; replace f2 := fun o => (World.frozen?_drew _ _).trans (f2 o); replace f3 := fun o => (World.frozen?_drew _ _).trans (f3 o); replace hA := hA.drew; clear a0 a1 b0 b1 hy0 hy1 hy2 hy3
    refine' wpAnyH_take (i := 0) (v := _) ?_ ?_ ?_ ?_ ?_ ?_ ?_ ?_
    rotate_left 2
    focus (simp only [List.getElem?_toArray, List.getElem?_cons_succ, List.getElem?_cons_zero]; rfl)
    focus kernel_rfl
    focus kernel_rfl
    focus kernel_rfl
    focus exact (fun _ _ _ h => h)
    refine Or.inl ⟨?_, ?_⟩
    focus (go_simp; done)
    focus (intro w hSw; obtain ⟨⟨⟨a0, a1⟩, b0, b1⟩, _⟩ := hSw; (first | (go_simp; done) | (go_simp; with_reducible rfl)))
    focus assumption
    (try simp only [Act.put, List.setIfInBounds_toArray, List.set_cons_zero, List.set_cons_succ])
    refine' wpAnyH_take (i := 1) (v := _) ?_ ?_ ?_ ?_ ?_ ?_ ?_ ?_
    rotate_left 2
    focus (simp only [List.getElem?_toArray, List.getElem?_cons_succ, List.getElem?_cons_zero]; rfl)
    focus kernel_rfl
    focus kernel_rfl
    focus kernel_rfl
    focus exact (fun _ _ _ h => h)
    refine Or.inl ⟨?_, ?_⟩
    focus (go_simp; done)
    focus (intro w hSw; obtain ⟨⟨⟨a0, a1⟩, b0, b1⟩, _⟩ := hSw; (first | (go_simp; done) | (go_simp; with_reducible rfl)))
    focus assumption
    (try simp only [Act.put, List.setIfInBounds_toArray, List.set_cons_zero, List.set_cons_succ])
    refine' wpAnyH_take (i := 3) (v := _) ?_ ?_ ?_ ?_ ?_ ?_ ?_ ?_
    rotate_left 2
    focus (simp only [List.getElem?_toArray, List.getElem?_cons_succ, List.getElem?_cons_zero]; rfl)
    focus kernel_rfl
    focus kernel_rfl
    focus kernel_rfl
    focus exact (fun _ _ _ h => h)
    refine Or.inl ⟨?_, ?_⟩
    focus (go_simp; done)
    focus (intro w hSw; obtain ⟨⟨⟨a0, a1⟩, b0, b1⟩, _⟩ := hSw; (first | (go_simp; done) | (go_simp; with_reducible rfl)))
    focus assumption
    (try simp only [Act.put, List.setIfInBounds_toArray, List.set_cons_zero, List.set_cons_succ])
    refine' wpAnyH_take (i := 4) (v := _) ?_ ?_ ?_ ?_ ?_ ?_ ?_ ?_
    rotate_left 2
    focus (simp only [List.getElem?_toArray, List.getElem?_cons_succ, List.getElem?_cons_zero]; rfl)
    focus kernel_rfl
    focus kernel_rfl
    focus kernel_rfl
    focus exact (fun _ _ _ h => h)
    refine Or.inl ⟨?_, ?_⟩
    focus (go_simp; done)
    focus (intro w hSw; obtain ⟨⟨⟨a0, a1⟩, b0, b1⟩, _⟩ := hSw; (first | (go_simp; done) | (go_simp; with_reducible rfl)))
    focus assumption
    (try simp only [Act.put, List.setIfInBounds_toArray, List.set_cons_zero, List.set_cons_succ])
    refine wpAnyH_ready (rs := [2]) (by kernel_rfl) (by simp) ?_
    refine' AllReadyH.cons ?_ (fun K hK => ?_) AllReadyH.nil
    rotate_left
    focus (simp only [List.getElem?_toArray, List.getElem?_cons_succ, List.getElem?_cons_zero]; rfl)
    go_simp
    refine Calls.mono (rBut_any a b _ (by omega) (by omega) (by omega) rfl _) ?_
    rintro e w5 ⟨rfl, hb⟩
    replace hHeld := AB.below hHeld hb
    have c0 := hA.cell2 hb c0 (by omega); have c1 := hA.cell2 hb c1 (by omega); have d0 := hA.cell3 hb d0 (by omega); have d1 := hA.cell3 hb d1 (by omega); have f2 := hA.frz2 hb f2 (by omega); have f3 := hA.frz3 hb f3 (by omega); have hA := hA.below hb
    clear hb
    refine hK.out _ _ hHeld (fun hHeld => ?_)
    clear hK K
    (try simp only [Act.put, List.setIfInBounds_toArray, List.set_cons_zero, List.set_cons_succ])
    refine wpAnyH_ready (rs := [5]) (by kernel_rfl) (by simp) ?_
    refine' AllReadyH.cons ?_ (fun K hK => ?_) AllReadyH.nil
    rotate_left
    focus (simp only [List.getElem?_toArray, List.getElem?_cons_succ, List.getElem?_cons_zero]; rfl)
    go_simp
    refine Calls.mono (rBut_any b a _ (by omega) (by omega) (by omega) rfl _) ?_
    rintro e w5 ⟨rfl, hb⟩
    replace hHeld := AB.below hHeld hb
    have c0 := hA.cell2 hb c0 (by omega); have c1 := hA.cell2 hb c1 (by omega); have d0 := hA.cell3 hb d0 (by omega); have d1 := hA.cell3 hb d1 (by omega); have f2 := hA.frz2 hb f2 (by omega); have f3 := hA.frz3 hb f3 (by omega); have hA := hA.below hb
    clear hb
    refine hK.out _ _ hHeld (fun hHeld => ?_)
    clear hK K
    (try simp only [Act.put, List.setIfInBounds_toArray, List.set_cons_zero, List.set_cons_succ])
    refine wpAnyH_ready (rs := [6]) (by kernel_rfl) (by simp) ?_
    refine' AllReadyH.cons ?_ (fun K hK => ?_) AllReadyH.nil
    rotate_left
    focus (simp only [List.getElem?_toArray, List.getElem?_cons_succ, List.getElem?_cons_zero]; rfl)
    go_simp
    refine Calls.mono (rBoth_any (Iv.but a b) (Iv.but b a) z HE.out _) ?_
    rintro e w5 ⟨rfl, hb⟩
    replace hHeld := AB.below hHeld hb
    have c0 := hA.cell2 hb c0 (by omega); have c1 := hA.cell2 hb c1 (by omega); have d0 := hA.cell3 hb d0 (by omega); have d1 := hA.cell3 hb d1 (by omega); have f2 := hA.frz2 hb f2 (by omega); have f3 := hA.frz3 hb f3 (by omega); have hA := hA.below hb
    clear hb
    refine hK.out _ _ hHeld (fun hHeld => ?_)
    clear hK K
    (try simp only [Act.put, List.setIfInBounds_toArray, List.set_cons_zero, List.set_cons_succ])
    refine' wpAnyH_take (i := 7) (v := _) ?_ ?_ ?_ ?_ ?_ ?_ ?_ ?_
    rotate_left 2
    focus (simp only [List.getElem?_toArray, List.getElem?_cons_succ, List.getElem?_cons_zero]; rfl)
    focus kernel_rfl
    focus kernel_rfl
    focus kernel_rfl
    focus exact (fun _ _ _ h => h)
    refine Or.inl ⟨?_, ?_⟩
    focus (go_simp; done)
    focus (intro w hSw; obtain ⟨⟨⟨a0, a1⟩, b0, b1⟩, _⟩ := hSw; (first | (go_simp; done) | (go_simp; with_reducible rfl)))
    focus assumption
    (try simp only [Act.put, List.setIfInBounds_toArray, List.set_cons_zero, List.set_cons_succ])
    refine' wpAnyH_take (i := 8) (v := _) ?_ ?_ ?_ ?_ ?_ ?_ ?_ ?_
    rotate_left 2
    focus (simp only [List.getElem?_toArray, List.getElem?_cons_succ, List.getElem?_cons_zero]; rfl)
    focus kernel_rfl
    focus kernel_rfl
    focus kernel_rfl
    focus exact (fun _ _ _ h => h)
    refine Or.inl ⟨?_, ?_⟩
    focus (go_simp; done)
    focus (intro w hSw; obtain ⟨⟨⟨a0, a1⟩, b0, b1⟩, _⟩ := hSw; (first | (go_simp; done) | (go_simp; with_reducible rfl)))
    focus assumption
    (try simp only [Act.put, List.setIfInBounds_toArray, List.set_cons_zero, List.set_cons_succ])
    refine wpAnyH_ready (rs := [9]) (by kernel_rfl) (by simp) ?_
    refine' AllReadyH.cons ?_ (fun K hK => ?_) AllReadyH.nil
    rotate_left
    focus (simp only [List.getElem?_toArray, List.getElem?_cons_succ, List.getElem?_cons_zero]; rfl)
    go_simp
    refine hK.out _ _ (by (refine AB.set ?_ (by omega) _; refine AB.set ?_ (by omega) _; exact hHeld)) (fun hHeld => ?_)
    clear hK K
    (try simp only [Act.put, List.setIfInBounds_toArray, List.set_cons_zero, List.set_cons_succ])
    refine wpAnyH_ready (rs := [10]) (by kernel_rfl) (by simp) ?_
    refine' AllReadyH.cons ?_ (fun K hK => ?_) AllReadyH.nil
    rotate_left
    focus (simp only [List.getElem?_toArray, List.getElem?_cons_succ, List.getElem?_cons_zero]; rfl)
    go_simp
    refine hK.out _ _ (by (refine AB.set ?_ (by omega) _; refine AB.set ?_ (by omega) _; exact hHeld)) (fun hHeld => ?_)
    clear hK K
    (try simp only [Act.put, List.setIfInBounds_toArray, List.set_cons_zero, List.set_cons_succ])
    refine wpAnyH_done (by kernel_rfl) ?_ _
    go_wp2
    all_goals
      refine bodyPost_ret (v := .tuple #[.agg #[.int .i64 (z.1).lo, .int .i64 (z.1).hi], .agg #[.int .i64 (z.2).lo, .int .i64 (z.2).hi]]) ?_ rfl ⟨rfl, Ahead.fst (n := 4) ?_⟩
      · simp [results, Try.results26, go_sem, c0, c1, d0, d1, hy0, hy1, hy2, hy3]
      · (try refine Ahead.drew ?_)
        refine Ahead.set ?_ (by omega) _
        refine Ahead.set ?_ (by omega) _
        refine Ahead.set ?_ (by omega) _
        refine Ahead.set ?_ (by omega) _
        first | exact hA | exact hA.drew
end Go.Proofs.Ytdajgopgaklipaa
