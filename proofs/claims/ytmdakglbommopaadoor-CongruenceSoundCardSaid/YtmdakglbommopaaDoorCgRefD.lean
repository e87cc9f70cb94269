/- The specification of layer 8: Do. No condition. -/
import Derived.Test.YtmdakglbommopaaDoorCgRefC
import Derived.Deep.RegionWith
namespace Go.Proofs.YtmdakglbommopaaDoor
open Go.RowKit
set_option linter.unusedVariables false
set_option linter.unusedSimpArgs false
attribute [local go_sem] y_undef
set_option maxHeartbeats 16000000 in
theorem kDo_any (o p q r s : Int) (z : Rs) (hz : Rs.act o ⟨p, q⟩ ⟨r, s⟩ = z) (w : World) : Calls Tryd.prog 24 #[.int .i64 o, .agg #[.int .i64 p, .int .i64 q], .agg #[.int .i64 r, .int .i64 s]] w fun e w' => e = .returned (.agg #[.int .i64 (z).m, .int .i64 (z).r]) ∧ Below w.heap.size w w' := by
  have hA := (((Ahead.refl w).alloc (.cells #[.int .i64 p, .int .i64 q] 23)).alloc (.cells #[.int .i64 r, .int .i64 s] 23)).alloc (.cells #[.int .i64 0, .int .i64 0] 23)
  obtain ⟨a, ha⟩ : ∃ a, Rs.form ⟨p, q⟩ = a := ⟨_, rfl⟩
  obtain ⟨b, hb⟩ : ∃ b, Rs.form ⟨r, s⟩ = b := ⟨_, rfl⟩
  have hj : (if a = Rs.non ∨ b = Rs.non then Rs.non else Rs.op o a b) = z := by rw [← hz, ← ha, ← hb]; rfl
  have HFA := Lib.hid (show Rs.F a by rw [← ha]; exact Rs.f_form _)
  have HFB := Lib.hid (show Rs.F b by rw [← hb]; exact Rs.f_form _)
  have HA := Lib.hid ha
  have HB := Lib.hid hb
  have HJ := Lib.hid hj
  clear ha hb hj hz
  have hg := rs_guard
  go_enter Tryd.func24, Tryd.ntmps24
  go_wp2
  rename_i K hK
  refine' (fun (HK : ∀ w', RBox3 w a b w' → K _ w') => ?_) (fun w' hw' => ?_)
  rotate_left
  focus
    go_region_with (go_at_call 41; (first | (with_reducible refine (kForm_any p q a HA.out _).mono ?_) | (with_reducible refine (kForm_any r s b HB.out _).mono ?_)); rintro e w1 ⟨rfl, hb⟩; obtain ⟨hc, hf⟩ := bcell hb; (first | replace hA := hA.below hb | replace hA := hA.drew.below hb); have hz : w.heap.size + 1 + 1 < w1.heap.size := (by have := hA.2; omega); have hz1 : w.heap.size + 1 < w1.heap.size := (by omega); have hz0 : w.heap.size < w1.heap.size := (by omega); (try simp only [size_alloc] at hc hf))
    all_goals
      exact HK _ (rbox3_of (p := p) (q := q) (r := r) (s := s) hA (by go_simp) (by go_simp) (by go_simp) (by go_simp) (by go_simp) (by go_simp) (fun o => by go_simp))
  refine hK _ _ ?_
  clear hA
  obtain ⟨hA, ⟨a0, a1⟩, ⟨b0, b1⟩, ⟨c0, c1⟩, f2⟩ := hw'
  clear hK; have hy0 := hA.lt0 (by omega); have hy1 := hA.lt1 (by omega); have hy2 := hA.lt2 (by omega)
  go_wp2
  by_cases hn : a = Rs.non
  · have he := rs_eql a.m a.r (-1) 0 true (rs_is a hn)
    have HZ := Lib.hid (show Rs.non = z by rw [← HJ.out, if_pos (.inl hn)])
    clear hn HJ HA HB
    refine wp_region_held_drew (S := (fun w' => w'.cell? ⟨w.heap.size, 0, none⟩ = some (.int .i64 a.m) ∧ w'.cell? ⟨w.heap.size, 1, none⟩ = some (.int .i64 a.r) ∧ w'.cell? ⟨w.heap.size + 1, 0, none⟩ = some (.int .i64 b.m) ∧ w'.cell? ⟨w.heap.size + 1, 1, none⟩ = some (.int .i64 b.r) ∧ w'.cell? ⟨w.heap.size + 1 + 1, 0, none⟩ = some (.int .i64 0) ∧ w'.cell? ⟨w.heap.size + 1 + 1, 1, none⟩ = some (.int .i64 0) ∧ (∀ o, w'.frozen? ⟨w.heap.size + 1 + 1, o, none⟩ = false) ∧ Ahead 3 w w')) (by kernel_rfl) (by exact ⟨by simpa using a0, by simpa using a1, by simpa using b0, by simpa using b1, by simpa using c0, by simpa using c1, fun o => by simpa using f2 o, hA.drew⟩) (fun hHeld => ?_)
    first
      | (refine' wpAnyH_take (i := 0) (v := _) ?_ ?_ ?_ ?_ ?_ ?_ ?_ ?_; rotate_left 2; (focus (simp only [List.getElem?_toArray, List.getElem?_cons_succ, List.getElem?_cons_zero]; rfl)); (focus kernel_rfl); (focus kernel_rfl); (focus kernel_rfl); (focus exact (fun _ _ _ h => h)); refine Or.inl ⟨?_, ?_⟩; (focus (go_simp; done)); (focus (intro w hSw; (try dsimp only at hSw); (first | (go_simp; done) | (go_simp; with_reducible rfl)))); (focus assumption); (try simp only [Act.put, List.setIfInBounds_toArray, List.set_cons_zero, List.set_cons_succ]))
      | (refine' wpAnyH_take (i := 0) (v := undef) ?_ ?_ ?_ ?_ ?_ ?_ ?_ ?_; rotate_left 1; (focus (simp only [List.getElem?_toArray, List.getElem?_cons_succ, List.getElem?_cons_zero]; rfl)); (focus kernel_rfl); (focus kernel_rfl); (focus kernel_rfl); (focus exact (fun _ _ _ h => h)); refine Or.inr ⟨?_, rfl⟩; (focus (go_simp; done)); (focus assumption); (try simp only [Act.put, List.setIfInBounds_toArray, List.set_cons_zero, List.set_cons_succ]))
      | (refine wpAnyH_ready (rs := [0]) (by kernel_rfl) (by simp) ?_; refine' AllReadyH.cons ?_ (fun K hK => ?_) AllReadyH.nil; rotate_left; (focus (simp only [List.getElem?_toArray, List.getElem?_cons_succ, List.getElem?_cons_zero]; rfl)); go_simp; (go_at_call 12; refine (kNone_any _).mono ?_; rintro e w4 ⟨rfl, hb⟩); refine hK.out _ _ (by go_split_ands; exact ⟨Ahead.cell0 (by assumption) hb (by assumption) (by omega), Ahead.cell0 (by assumption) hb (by assumption) (by omega), Ahead.cell (by assumption) hb (by assumption) (by omega), Ahead.cell (by assumption) hb (by assumption) (by omega), Ahead.cell2 (by assumption) hb (by assumption) (by omega), Ahead.cell2 (by assumption) hb (by assumption) (by omega), Ahead.frz2 (by assumption) hb (by assumption) (by omega), Ahead.below (by assumption) hb⟩) (fun hHeld => ?_); clear hK K; (try simp only [Act.put, List.setIfInBounds_toArray, List.set_cons_zero, List.set_cons_succ]); clear hb)
      | fail "operation 0"
    first
      | (refine' wpAnyH_take (i := 1) (v := _) ?_ ?_ ?_ ?_ ?_ ?_ ?_ ?_; rotate_left 2; (focus (simp only [List.getElem?_toArray, List.getElem?_cons_succ, List.getElem?_cons_zero]; rfl)); (focus kernel_rfl); (focus kernel_rfl); (focus kernel_rfl); (focus exact (fun _ _ _ h => h)); refine Or.inl ⟨?_, ?_⟩; (focus (go_simp; done)); (focus (intro w hSw; (try dsimp only at hSw); (first | (go_simp; done) | (go_simp; with_reducible rfl)))); (focus assumption); (try simp only [Act.put, List.setIfInBounds_toArray, List.set_cons_zero, List.set_cons_succ]))
      | (refine' wpAnyH_take (i := 1) (v := undef) ?_ ?_ ?_ ?_ ?_ ?_ ?_ ?_; rotate_left 1; (focus (simp only [List.getElem?_toArray, List.getElem?_cons_succ, List.getElem?_cons_zero]; rfl)); (focus kernel_rfl); (focus kernel_rfl); (focus kernel_rfl); (focus exact (fun _ _ _ h => h)); refine Or.inr ⟨?_, rfl⟩; (focus (go_simp; done)); (focus assumption); (try simp only [Act.put, List.setIfInBounds_toArray, List.set_cons_zero, List.set_cons_succ]))
      | (refine wpAnyH_ready (rs := [1]) (by kernel_rfl) (by simp) ?_; refine' AllReadyH.cons ?_ (fun K hK => ?_) AllReadyH.nil; rotate_left; (focus (simp only [List.getElem?_toArray, List.getElem?_cons_succ, List.getElem?_cons_zero]; rfl)); go_simp; (go_at_call 12; refine (kNone_any _).mono ?_; rintro e w4 ⟨rfl, hb⟩); refine hK.out _ _ (by go_split_ands; exact ⟨Ahead.cell0 (by assumption) hb (by assumption) (by omega), Ahead.cell0 (by assumption) hb (by assumption) (by omega), Ahead.cell (by assumption) hb (by assumption) (by omega), Ahead.cell (by assumption) hb (by assumption) (by omega), Ahead.cell2 (by assumption) hb (by assumption) (by omega), Ahead.cell2 (by assumption) hb (by assumption) (by omega), Ahead.frz2 (by assumption) hb (by assumption) (by omega), Ahead.below (by assumption) hb⟩) (fun hHeld => ?_); clear hK K; (try simp only [Act.put, List.setIfInBounds_toArray, List.set_cons_zero, List.set_cons_succ]); clear hb)
      | fail "operation 1"
    first
      | (refine' wpAnyH_take (i := 2) (v := _) ?_ ?_ ?_ ?_ ?_ ?_ ?_ ?_; rotate_left 2; (focus (simp only [List.getElem?_toArray, List.getElem?_cons_succ, List.getElem?_cons_zero]; rfl)); (focus kernel_rfl); (focus kernel_rfl); (focus kernel_rfl); (focus exact (fun _ _ _ h => h)); refine Or.inl ⟨?_, ?_⟩; (focus (go_simp; done)); (focus (intro w hSw; (try dsimp only at hSw); (first | (go_simp; done) | (go_simp; with_reducible rfl)))); (focus assumption); (try simp only [Act.put, List.setIfInBounds_toArray, List.set_cons_zero, List.set_cons_succ]))
      | (refine' wpAnyH_take (i := 2) (v := undef) ?_ ?_ ?_ ?_ ?_ ?_ ?_ ?_; rotate_left 1; (focus (simp only [List.getElem?_toArray, List.getElem?_cons_succ, List.getElem?_cons_zero]; rfl)); (focus kernel_rfl); (focus kernel_rfl); (focus kernel_rfl); (focus exact (fun _ _ _ h => h)); refine Or.inr ⟨?_, rfl⟩; (focus (go_simp; done)); (focus assumption); (try simp only [Act.put, List.setIfInBounds_toArray, List.set_cons_zero, List.set_cons_succ]))
      | (refine wpAnyH_ready (rs := [2]) (by kernel_rfl) (by simp) ?_; refine' AllReadyH.cons ?_ (fun K hK => ?_) AllReadyH.nil; rotate_left; (focus (simp only [List.getElem?_toArray, List.getElem?_cons_succ, List.getElem?_cons_zero]; rfl)); go_simp; (go_at_call 12; refine (kNone_any _).mono ?_; rintro e w4 ⟨rfl, hb⟩); refine hK.out _ _ (by go_split_ands; exact ⟨Ahead.cell0 (by assumption) hb (by assumption) (by omega), Ahead.cell0 (by assumption) hb (by assumption) (by omega), Ahead.cell (by assumption) hb (by assumption) (by omega), Ahead.cell (by assumption) hb (by assumption) (by omega), Ahead.cell2 (by assumption) hb (by assumption) (by omega), Ahead.cell2 (by assumption) hb (by assumption) (by omega), Ahead.frz2 (by assumption) hb (by assumption) (by omega), Ahead.below (by assumption) hb⟩) (fun hHeld => ?_); clear hK K; (try simp only [Act.put, List.setIfInBounds_toArray, List.set_cons_zero, List.set_cons_succ]); clear hb)
      | fail "operation 2"
    first
      | (refine' wpAnyH_take (i := 3) (v := _) ?_ ?_ ?_ ?_ ?_ ?_ ?_ ?_; rotate_left 2; (focus (simp only [List.getElem?_toArray, List.getElem?_cons_succ, List.getElem?_cons_zero]; rfl)); (focus kernel_rfl); (focus kernel_rfl); (focus kernel_rfl); (focus exact (fun _ _ _ h => h)); refine Or.inl ⟨?_, ?_⟩; (focus (go_simp; done)); (focus (intro w hSw; (try dsimp only at hSw); (first | (go_simp; done) | (go_simp; with_reducible rfl)))); (focus assumption); (try simp only [Act.put, List.setIfInBounds_toArray, List.set_cons_zero, List.set_cons_succ]))
      | (refine' wpAnyH_take (i := 3) (v := undef) ?_ ?_ ?_ ?_ ?_ ?_ ?_ ?_; rotate_left 1; (focus (simp only [List.getElem?_toArray, List.getElem?_cons_succ, List.getElem?_cons_zero]; rfl)); (focus kernel_rfl); (focus kernel_rfl); (focus kernel_rfl); (focus exact (fun _ _ _ h => h)); refine Or.inr ⟨?_, rfl⟩; (focus (go_simp; done)); (focus assumption); (try simp only [Act.put, List.setIfInBounds_toArray, List.set_cons_zero, List.set_cons_succ]))
      | (refine wpAnyH_ready (rs := [3]) (by kernel_rfl) (by simp) ?_; refine' AllReadyH.cons ?_ (fun K hK => ?_) AllReadyH.nil; rotate_left; (focus (simp only [List.getElem?_toArray, List.getElem?_cons_succ, List.getElem?_cons_zero]; rfl)); go_simp; (go_at_call 12; refine (kNone_any _).mono ?_; rintro e w4 ⟨rfl, hb⟩); refine hK.out _ _ (by go_split_ands; exact ⟨Ahead.cell0 (by assumption) hb (by assumption) (by omega), Ahead.cell0 (by assumption) hb (by assumption) (by omega), Ahead.cell (by assumption) hb (by assumption) (by omega), Ahead.cell (by assumption) hb (by assumption) (by omega), Ahead.cell2 (by assumption) hb (by assumption) (by omega), Ahead.cell2 (by assumption) hb (by assumption) (by omega), Ahead.frz2 (by assumption) hb (by assumption) (by omega), Ahead.below (by assumption) hb⟩) (fun hHeld => ?_); clear hK K; (try simp only [Act.put, List.setIfInBounds_toArray, List.set_cons_zero, List.set_cons_succ]); clear hb)
      | fail "operation 3"
    first
      | (refine' wpAnyH_take (i := 4) (v := _) ?_ ?_ ?_ ?_ ?_ ?_ ?_ ?_; rotate_left 2; (focus (simp only [List.getElem?_toArray, List.getElem?_cons_succ, List.getElem?_cons_zero]; rfl)); (focus kernel_rfl); (focus kernel_rfl); (focus kernel_rfl); (focus exact (fun _ _ _ h => h)); refine Or.inl ⟨?_, ?_⟩; (focus (go_simp; done)); (focus (intro w hSw; (try dsimp only at hSw); (first | (go_simp; done) | (go_simp; with_reducible rfl)))); (focus assumption); (try simp only [Act.put, List.setIfInBounds_toArray, List.set_cons_zero, List.set_cons_succ]))
      | (refine' wpAnyH_take (i := 4) (v := undef) ?_ ?_ ?_ ?_ ?_ ?_ ?_ ?_; rotate_left 1; (focus (simp only [List.getElem?_toArray, List.getElem?_cons_succ, List.getElem?_cons_zero]; rfl)); (focus kernel_rfl); (focus kernel_rfl); (focus kernel_rfl); (focus exact (fun _ _ _ h => h)); refine Or.inr ⟨?_, rfl⟩; (focus (go_simp; done)); (focus assumption); (try simp only [Act.put, List.setIfInBounds_toArray, List.set_cons_zero, List.set_cons_succ]))
      | (refine wpAnyH_ready (rs := [4]) (by kernel_rfl) (by simp) ?_; refine' AllReadyH.cons ?_ (fun K hK => ?_) AllReadyH.nil; rotate_left; (focus (simp only [List.getElem?_toArray, List.getElem?_cons_succ, List.getElem?_cons_zero]; rfl)); go_simp; (go_at_call 12; refine (kNone_any _).mono ?_; rintro e w4 ⟨rfl, hb⟩); refine hK.out _ _ (by go_split_ands; exact ⟨Ahead.cell0 (by assumption) hb (by assumption) (by omega), Ahead.cell0 (by assumption) hb (by assumption) (by omega), Ahead.cell (by assumption) hb (by assumption) (by omega), Ahead.cell (by assumption) hb (by assumption) (by omega), Ahead.cell2 (by assumption) hb (by assumption) (by omega), Ahead.cell2 (by assumption) hb (by assumption) (by omega), Ahead.frz2 (by assumption) hb (by assumption) (by omega), Ahead.below (by assumption) hb⟩) (fun hHeld => ?_); clear hK K; (try simp only [Act.put, List.setIfInBounds_toArray, List.set_cons_zero, List.set_cons_succ]); clear hb)
      | fail "operation 4"
    first
      | (refine' wpAnyH_take (i := 5) (v := _) ?_ ?_ ?_ ?_ ?_ ?_ ?_ ?_; rotate_left 2; (focus (simp only [List.getElem?_toArray, List.getElem?_cons_succ, List.getElem?_cons_zero]; rfl)); (focus kernel_rfl); (focus kernel_rfl); (focus kernel_rfl); (focus exact (fun _ _ _ h => h)); refine Or.inl ⟨?_, ?_⟩; (focus (go_simp; done)); (focus (intro w hSw; (try dsimp only at hSw); (first | (go_simp; done) | (go_simp; with_reducible rfl)))); (focus assumption); (try simp only [Act.put, List.setIfInBounds_toArray, List.set_cons_zero, List.set_cons_succ]))
      | (refine' wpAnyH_take (i := 5) (v := undef) ?_ ?_ ?_ ?_ ?_ ?_ ?_ ?_; rotate_left 1; (focus (simp only [List.getElem?_toArray, List.getElem?_cons_succ, List.getElem?_cons_zero]; rfl)); (focus kernel_rfl); (focus kernel_rfl); (focus kernel_rfl); (focus exact (fun _ _ _ h => h)); refine Or.inr ⟨?_, rfl⟩; (focus (go_simp; done)); (focus assumption); (try simp only [Act.put, List.setIfInBounds_toArray, List.set_cons_zero, List.set_cons_succ]))
      | (refine wpAnyH_ready (rs := [5]) (by kernel_rfl) (by simp) ?_; refine' AllReadyH.cons ?_ (fun K hK => ?_) AllReadyH.nil; rotate_left; (focus (simp only [List.getElem?_toArray, List.getElem?_cons_succ, List.getElem?_cons_zero]; rfl)); go_simp; (go_at_call 12; refine (kNone_any _).mono ?_; rintro e w4 ⟨rfl, hb⟩); refine hK.out _ _ (by go_split_ands; exact ⟨Ahead.cell0 (by assumption) hb (by assumption) (by omega), Ahead.cell0 (by assumption) hb (by assumption) (by omega), Ahead.cell (by assumption) hb (by assumption) (by omega), Ahead.cell (by assumption) hb (by assumption) (by omega), Ahead.cell2 (by assumption) hb (by assumption) (by omega), Ahead.cell2 (by assumption) hb (by assumption) (by omega), Ahead.frz2 (by assumption) hb (by assumption) (by omega), Ahead.below (by assumption) hb⟩) (fun hHeld => ?_); clear hK K; (try simp only [Act.put, List.setIfInBounds_toArray, List.set_cons_zero, List.set_cons_succ]); clear hb)
      | fail "operation 5"
    first
      | (refine' wpAnyH_take (i := 6) (v := _) ?_ ?_ ?_ ?_ ?_ ?_ ?_ ?_; rotate_left 2; (focus (simp only [List.getElem?_toArray, List.getElem?_cons_succ, List.getElem?_cons_zero]; rfl)); (focus kernel_rfl); (focus kernel_rfl); (focus kernel_rfl); (focus exact (fun _ _ _ h => h)); refine Or.inl ⟨?_, ?_⟩; (focus (go_simp; done)); (focus (intro w hSw; (try dsimp only at hSw); (first | (go_simp; done) | (go_simp; with_reducible rfl)))); (focus assumption); (try simp only [Act.put, List.setIfInBounds_toArray, List.set_cons_zero, List.set_cons_succ]))
      | (refine' wpAnyH_take (i := 6) (v := undef) ?_ ?_ ?_ ?_ ?_ ?_ ?_ ?_; rotate_left 1; (focus (simp only [List.getElem?_toArray, List.getElem?_cons_succ, List.getElem?_cons_zero]; rfl)); (focus kernel_rfl); (focus kernel_rfl); (focus kernel_rfl); (focus exact (fun _ _ _ h => h)); refine Or.inr ⟨?_, rfl⟩; (focus (go_simp; done)); (focus assumption); (try simp only [Act.put, List.setIfInBounds_toArray, List.set_cons_zero, List.set_cons_succ]))
      | (refine wpAnyH_ready (rs := [6]) (by kernel_rfl) (by simp) ?_; refine' AllReadyH.cons ?_ (fun K hK => ?_) AllReadyH.nil; rotate_left; (focus (simp only [List.getElem?_toArray, List.getElem?_cons_succ, List.getElem?_cons_zero]; rfl)); go_simp; (go_at_call 12; refine (kNone_any _).mono ?_; rintro e w4 ⟨rfl, hb⟩); refine hK.out _ _ (by go_split_ands; exact ⟨Ahead.cell0 (by assumption) hb (by assumption) (by omega), Ahead.cell0 (by assumption) hb (by assumption) (by omega), Ahead.cell (by assumption) hb (by assumption) (by omega), Ahead.cell (by assumption) hb (by assumption) (by omega), Ahead.cell2 (by assumption) hb (by assumption) (by omega), Ahead.cell2 (by assumption) hb (by assumption) (by omega), Ahead.frz2 (by assumption) hb (by assumption) (by omega), Ahead.below (by assumption) hb⟩) (fun hHeld => ?_); clear hK K; (try simp only [Act.put, List.setIfInBounds_toArray, List.set_cons_zero, List.set_cons_succ]); clear hb)
      | fail "operation 6"
    first
      | (refine' wpAnyH_take (i := 7) (v := _) ?_ ?_ ?_ ?_ ?_ ?_ ?_ ?_; rotate_left 2; (focus (simp only [List.getElem?_toArray, List.getElem?_cons_succ, List.getElem?_cons_zero]; rfl)); (focus kernel_rfl); (focus kernel_rfl); (focus kernel_rfl); (focus exact (fun _ _ _ h => h)); refine Or.inl ⟨?_, ?_⟩; (focus (go_simp; done)); (focus (intro w hSw; (try dsimp only at hSw); (first | (go_simp; done) | (go_simp; with_reducible rfl)))); (focus assumption); (try simp only [Act.put, List.setIfInBounds_toArray, List.set_cons_zero, List.set_cons_succ]))
      | (refine' wpAnyH_take (i := 7) (v := undef) ?_ ?_ ?_ ?_ ?_ ?_ ?_ ?_; rotate_left 1; (focus (simp only [List.getElem?_toArray, List.getElem?_cons_succ, List.getElem?_cons_zero]; rfl)); (focus kernel_rfl); (focus kernel_rfl); (focus kernel_rfl); (focus exact (fun _ _ _ h => h)); refine Or.inr ⟨?_, rfl⟩; (focus (go_simp; done)); (focus assumption); (try simp only [Act.put, List.setIfInBounds_toArray, List.set_cons_zero, List.set_cons_succ]))
      | (refine wpAnyH_ready (rs := [7]) (by kernel_rfl) (by simp) ?_; refine' AllReadyH.cons ?_ (fun K hK => ?_) AllReadyH.nil; rotate_left; (focus (simp only [List.getElem?_toArray, List.getElem?_cons_succ, List.getElem?_cons_zero]; rfl)); go_simp; (go_at_call 12; refine (kNone_any _).mono ?_; rintro e w4 ⟨rfl, hb⟩); refine hK.out _ _ (by go_split_ands; exact ⟨Ahead.cell0 (by assumption) hb (by assumption) (by omega), Ahead.cell0 (by assumption) hb (by assumption) (by omega), Ahead.cell (by assumption) hb (by assumption) (by omega), Ahead.cell (by assumption) hb (by assumption) (by omega), Ahead.cell2 (by assumption) hb (by assumption) (by omega), Ahead.cell2 (by assumption) hb (by assumption) (by omega), Ahead.frz2 (by assumption) hb (by assumption) (by omega), Ahead.below (by assumption) hb⟩) (fun hHeld => ?_); clear hK K; (try simp only [Act.put, List.setIfInBounds_toArray, List.set_cons_zero, List.set_cons_succ]); clear hb)
      | fail "operation 7"
    refine wpAnyH_done (by kernel_rfl) ?_ _
    obtain ⟨a0, a1, b0, b1, c0, c1, f2, hA⟩ := hHeld; have hy0 := hA.lt0 (by omega); have hy1 := hA.lt1 (by omega); have hy2 := hA.lt2 (by omega)
    go_wp2_with fail
    refine (kNone_any _).mono ?_
    rintro e w9 ⟨rfl, hb⟩
    have hA9 := hA.below hb; obtain ⟨hc9, hf9⟩ := bcell hb; (try simp only [size_alloc] at hc9 hf9); clear hb; have hz90 : w.heap.size < w9.heap.size := (by have := hA9.2; omega); have hz91 : w.heap.size + 1 < w9.heap.size := (by have := hA9.2; omega); have hz92 : w.heap.size + 1 + 1 < w9.heap.size := (by have := hA9.2; omega)
    go_wp2
    rw [← HZ.out]
    refine bodyPost_ret (v := .agg #[.int .i64 Rs.non.m, .int .i64 Rs.non.r]) ?_ rfl ⟨rfl, ((hA9.set (by omega) _).set (by omega) _).1⟩
    simp [results, Tryd.results24, go_sem, hc9, hz90, hz91, hz92, c0, c1, hy0, hy1, hy2, Rs.non]
  · have he := rs_eql a.m a.r (-1) 0 false (rs_not a hn)
    by_cases hm : b = Rs.non
    · have he2 := rs_eql b.m b.r (-1) 0 true (rs_is b hm)
      have HZ := Lib.hid (show Rs.non = z by rw [← HJ.out, if_pos (.inr hm)])
      clear hn hm HJ HA HB
      refine wp_region_held_drew (S := (fun w' => w'.cell? ⟨w.heap.size, 0, none⟩ = some (.int .i64 a.m) ∧ w'.cell? ⟨w.heap.size, 1, none⟩ = some (.int .i64 a.r) ∧ w'.cell? ⟨w.heap.size + 1, 0, none⟩ = some (.int .i64 b.m) ∧ w'.cell? ⟨w.heap.size + 1, 1, none⟩ = some (.int .i64 b.r) ∧ w'.cell? ⟨w.heap.size + 1 + 1, 0, none⟩ = some (.int .i64 0) ∧ w'.cell? ⟨w.heap.size + 1 + 1, 1, none⟩ = some (.int .i64 0) ∧ (∀ o, w'.frozen? ⟨w.heap.size + 1 + 1, o, none⟩ = false) ∧ Ahead 3 w w')) (by kernel_rfl) (by exact ⟨by simpa using a0, by simpa using a1, by simpa using b0, by simpa using b1, by simpa using c0, by simpa using c1, fun o => by simpa using f2 o, hA.drew⟩) (fun hHeld => ?_)
      first
        | (refine' wpAnyH_take (i := 0) (v := _) ?_ ?_ ?_ ?_ ?_ ?_ ?_ ?_; rotate_left 2; (focus (simp only [List.getElem?_toArray, List.getElem?_cons_succ, List.getElem?_cons_zero]; rfl)); (focus kernel_rfl); (focus kernel_rfl); (focus kernel_rfl); (focus exact (fun _ _ _ h => h)); refine Or.inl ⟨?_, ?_⟩; (focus (go_simp; done)); (focus (intro w hSw; (try dsimp only at hSw); (first | (go_simp; done) | (go_simp; with_reducible rfl)))); (focus assumption); (try simp only [Act.put, List.setIfInBounds_toArray, List.set_cons_zero, List.set_cons_succ]))
        | (refine' wpAnyH_take (i := 0) (v := undef) ?_ ?_ ?_ ?_ ?_ ?_ ?_ ?_; rotate_left 1; (focus (simp only [List.getElem?_toArray, List.getElem?_cons_succ, List.getElem?_cons_zero]; rfl)); (focus kernel_rfl); (focus kernel_rfl); (focus kernel_rfl); (focus exact (fun _ _ _ h => h)); refine Or.inr ⟨?_, rfl⟩; (focus (go_simp; done)); (focus assumption); (try simp only [Act.put, List.setIfInBounds_toArray, List.set_cons_zero, List.set_cons_succ]))
        | (refine wpAnyH_ready (rs := [0]) (by kernel_rfl) (by simp) ?_; refine' AllReadyH.cons ?_ (fun K hK => ?_) AllReadyH.nil; rotate_left; (focus (simp only [List.getElem?_toArray, List.getElem?_cons_succ, List.getElem?_cons_zero]; rfl)); go_simp; (go_at_call 12; refine (kNone_any _).mono ?_; rintro e w4 ⟨rfl, hb⟩); refine hK.out _ _ (by go_split_ands; exact ⟨Ahead.cell0 (by assumption) hb (by assumption) (by omega), Ahead.cell0 (by assumption) hb (by assumption) (by omega), Ahead.cell (by assumption) hb (by assumption) (by omega), Ahead.cell (by assumption) hb (by assumption) (by omega), Ahead.cell2 (by assumption) hb (by assumption) (by omega), Ahead.cell2 (by assumption) hb (by assumption) (by omega), Ahead.frz2 (by assumption) hb (by assumption) (by omega), Ahead.below (by assumption) hb⟩) (fun hHeld => ?_); clear hK K; (try simp only [Act.put, List.setIfInBounds_toArray, List.set_cons_zero, List.set_cons_succ]); clear hb)
        | fail "operation 0"
      first
        | (refine' wpAnyH_take (i := 1) (v := _) ?_ ?_ ?_ ?_ ?_ ?_ ?_ ?_; rotate_left 2; (focus (simp only [List.getElem?_toArray, List.getElem?_cons_succ, List.getElem?_cons_zero]; rfl)); (focus kernel_rfl); (focus kernel_rfl); (focus kernel_rfl); (focus exact (fun _ _ _ h => h)); refine Or.inl ⟨?_, ?_⟩; (focus (go_simp; done)); (focus (intro w hSw; (try dsimp only at hSw); (first | (go_simp; done) | (go_simp; with_reducible rfl)))); (focus assumption); (try simp only [Act.put, List.setIfInBounds_toArray, List.set_cons_zero, List.set_cons_succ]))
        | (refine' wpAnyH_take (i := 1) (v := undef) ?_ ?_ ?_ ?_ ?_ ?_ ?_ ?_; rotate_left 1; (focus (simp only [List.getElem?_toArray, List.getElem?_cons_succ, List.getElem?_cons_zero]; rfl)); (focus kernel_rfl); (focus kernel_rfl); (focus kernel_rfl); (focus exact (fun _ _ _ h => h)); refine Or.inr ⟨?_, rfl⟩; (focus (go_simp; done)); (focus assumption); (try simp only [Act.put, List.setIfInBounds_toArray, List.set_cons_zero, List.set_cons_succ]))
        | (refine wpAnyH_ready (rs := [1]) (by kernel_rfl) (by simp) ?_; refine' AllReadyH.cons ?_ (fun K hK => ?_) AllReadyH.nil; rotate_left; (focus (simp only [List.getElem?_toArray, List.getElem?_cons_succ, List.getElem?_cons_zero]; rfl)); go_simp; (go_at_call 12; refine (kNone_any _).mono ?_; rintro e w4 ⟨rfl, hb⟩); refine hK.out _ _ (by go_split_ands; exact ⟨Ahead.cell0 (by assumption) hb (by assumption) (by omega), Ahead.cell0 (by assumption) hb (by assumption) (by omega), Ahead.cell (by assumption) hb (by assumption) (by omega), Ahead.cell (by assumption) hb (by assumption) (by omega), Ahead.cell2 (by assumption) hb (by assumption) (by omega), Ahead.cell2 (by assumption) hb (by assumption) (by omega), Ahead.frz2 (by assumption) hb (by assumption) (by omega), Ahead.below (by assumption) hb⟩) (fun hHeld => ?_); clear hK K; (try simp only [Act.put, List.setIfInBounds_toArray, List.set_cons_zero, List.set_cons_succ]); clear hb)
        | fail "operation 1"
      first
        | (refine' wpAnyH_take (i := 2) (v := _) ?_ ?_ ?_ ?_ ?_ ?_ ?_ ?_; rotate_left 2; (focus (simp only [List.getElem?_toArray, List.getElem?_cons_succ, List.getElem?_cons_zero]; rfl)); (focus kernel_rfl); (focus kernel_rfl); (focus kernel_rfl); (focus exact (fun _ _ _ h => h)); refine Or.inl ⟨?_, ?_⟩; (focus (go_simp; done)); (focus (intro w hSw; (try dsimp only at hSw); (first | (go_simp; done) | (go_simp; with_reducible rfl)))); (focus assumption); (try simp only [Act.put, List.setIfInBounds_toArray, List.set_cons_zero, List.set_cons_succ]))
        | (refine' wpAnyH_take (i := 2) (v := undef) ?_ ?_ ?_ ?_ ?_ ?_ ?_ ?_; rotate_left 1; (focus (simp only [List.getElem?_toArray, List.getElem?_cons_succ, List.getElem?_cons_zero]; rfl)); (focus kernel_rfl); (focus kernel_rfl); (focus kernel_rfl); (focus exact (fun _ _ _ h => h)); refine Or.inr ⟨?_, rfl⟩; (focus (go_simp; done)); (focus assumption); (try simp only [Act.put, List.setIfInBounds_toArray, List.set_cons_zero, List.set_cons_succ]))
        | (refine wpAnyH_ready (rs := [2]) (by kernel_rfl) (by simp) ?_; refine' AllReadyH.cons ?_ (fun K hK => ?_) AllReadyH.nil; rotate_left; (focus (simp only [List.getElem?_toArray, List.getElem?_cons_succ, List.getElem?_cons_zero]; rfl)); go_simp; (go_at_call 12; refine (kNone_any _).mono ?_; rintro e w4 ⟨rfl, hb⟩); refine hK.out _ _ (by go_split_ands; exact ⟨Ahead.cell0 (by assumption) hb (by assumption) (by omega), Ahead.cell0 (by assumption) hb (by assumption) (by omega), Ahead.cell (by assumption) hb (by assumption) (by omega), Ahead.cell (by assumption) hb (by assumption) (by omega), Ahead.cell2 (by assumption) hb (by assumption) (by omega), Ahead.cell2 (by assumption) hb (by assumption) (by omega), Ahead.frz2 (by assumption) hb (by assumption) (by omega), Ahead.below (by assumption) hb⟩) (fun hHeld => ?_); clear hK K; (try simp only [Act.put, List.setIfInBounds_toArray, List.set_cons_zero, List.set_cons_succ]); clear hb)
        | fail "operation 2"
      first
        | (refine' wpAnyH_take (i := 3) (v := _) ?_ ?_ ?_ ?_ ?_ ?_ ?_ ?_; rotate_left 2; (focus (simp only [List.getElem?_toArray, List.getElem?_cons_succ, List.getElem?_cons_zero]; rfl)); (focus kernel_rfl); (focus kernel_rfl); (focus kernel_rfl); (focus exact (fun _ _ _ h => h)); refine Or.inl ⟨?_, ?_⟩; (focus (go_simp; done)); (focus (intro w hSw; (try dsimp only at hSw); (first | (go_simp; done) | (go_simp; with_reducible rfl)))); (focus assumption); (try simp only [Act.put, List.setIfInBounds_toArray, List.set_cons_zero, List.set_cons_succ]))
        | (refine' wpAnyH_take (i := 3) (v := undef) ?_ ?_ ?_ ?_ ?_ ?_ ?_ ?_; rotate_left 1; (focus (simp only [List.getElem?_toArray, List.getElem?_cons_succ, List.getElem?_cons_zero]; rfl)); (focus kernel_rfl); (focus kernel_rfl); (focus kernel_rfl); (focus exact (fun _ _ _ h => h)); refine Or.inr ⟨?_, rfl⟩; (focus (go_simp; done)); (focus assumption); (try simp only [Act.put, List.setIfInBounds_toArray, List.set_cons_zero, List.set_cons_succ]))
        | (refine wpAnyH_ready (rs := [3]) (by kernel_rfl) (by simp) ?_; refine' AllReadyH.cons ?_ (fun K hK => ?_) AllReadyH.nil; rotate_left; (focus (simp only [List.getElem?_toArray, List.getElem?_cons_succ, List.getElem?_cons_zero]; rfl)); go_simp; (go_at_call 12; refine (kNone_any _).mono ?_; rintro e w4 ⟨rfl, hb⟩); refine hK.out _ _ (by go_split_ands; exact ⟨Ahead.cell0 (by assumption) hb (by assumption) (by omega), Ahead.cell0 (by assumption) hb (by assumption) (by omega), Ahead.cell (by assumption) hb (by assumption) (by omega), Ahead.cell (by assumption) hb (by assumption) (by omega), Ahead.cell2 (by assumption) hb (by assumption) (by omega), Ahead.cell2 (by assumption) hb (by assumption) (by omega), Ahead.frz2 (by assumption) hb (by assumption) (by omega), Ahead.below (by assumption) hb⟩) (fun hHeld => ?_); clear hK K; (try simp only [Act.put, List.setIfInBounds_toArray, List.set_cons_zero, List.set_cons_succ]); clear hb)
        | fail "operation 3"
      first
        | (refine' wpAnyH_take (i := 4) (v := _) ?_ ?_ ?_ ?_ ?_ ?_ ?_ ?_; rotate_left 2; (focus (simp only [List.getElem?_toArray, List.getElem?_cons_succ, List.getElem?_cons_zero]; rfl)); (focus kernel_rfl); (focus kernel_rfl); (focus kernel_rfl); (focus exact (fun _ _ _ h => h)); refine Or.inl ⟨?_, ?_⟩; (focus (go_simp; done)); (focus (intro w hSw; (try dsimp only at hSw); (first | (go_simp; done) | (go_simp; with_reducible rfl)))); (focus assumption); (try simp only [Act.put, List.setIfInBounds_toArray, List.set_cons_zero, List.set_cons_succ]))
        | (refine' wpAnyH_take (i := 4) (v := undef) ?_ ?_ ?_ ?_ ?_ ?_ ?_ ?_; rotate_left 1; (focus (simp only [List.getElem?_toArray, List.getElem?_cons_succ, List.getElem?_cons_zero]; rfl)); (focus kernel_rfl); (focus kernel_rfl); (focus kernel_rfl); (focus exact (fun _ _ _ h => h)); refine Or.inr ⟨?_, rfl⟩; (focus (go_simp; done)); (focus assumption); (try simp only [Act.put, List.setIfInBounds_toArray, List.set_cons_zero, List.set_cons_succ]))
        | (refine wpAnyH_ready (rs := [4]) (by kernel_rfl) (by simp) ?_; refine' AllReadyH.cons ?_ (fun K hK => ?_) AllReadyH.nil; rotate_left; (focus (simp only [List.getElem?_toArray, List.getElem?_cons_succ, List.getElem?_cons_zero]; rfl)); go_simp; (go_at_call 12; refine (kNone_any _).mono ?_; rintro e w4 ⟨rfl, hb⟩); refine hK.out _ _ (by go_split_ands; exact ⟨Ahead.cell0 (by assumption) hb (by assumption) (by omega), Ahead.cell0 (by assumption) hb (by assumption) (by omega), Ahead.cell (by assumption) hb (by assumption) (by omega), Ahead.cell (by assumption) hb (by assumption) (by omega), Ahead.cell2 (by assumption) hb (by assumption) (by omega), Ahead.cell2 (by assumption) hb (by assumption) (by omega), Ahead.frz2 (by assumption) hb (by assumption) (by omega), Ahead.below (by assumption) hb⟩) (fun hHeld => ?_); clear hK K; (try simp only [Act.put, List.setIfInBounds_toArray, List.set_cons_zero, List.set_cons_succ]); clear hb)
        | fail "operation 4"
      first
        | (refine' wpAnyH_take (i := 5) (v := _) ?_ ?_ ?_ ?_ ?_ ?_ ?_ ?_; rotate_left 2; (focus (simp only [List.getElem?_toArray, List.getElem?_cons_succ, List.getElem?_cons_zero]; rfl)); (focus kernel_rfl); (focus kernel_rfl); (focus kernel_rfl); (focus exact (fun _ _ _ h => h)); refine Or.inl ⟨?_, ?_⟩; (focus (go_simp; done)); (focus (intro w hSw; (try dsimp only at hSw); (first | (go_simp; done) | (go_simp; with_reducible rfl)))); (focus assumption); (try simp only [Act.put, List.setIfInBounds_toArray, List.set_cons_zero, List.set_cons_succ]))
        | (refine' wpAnyH_take (i := 5) (v := undef) ?_ ?_ ?_ ?_ ?_ ?_ ?_ ?_; rotate_left 1; (focus (simp only [List.getElem?_toArray, List.getElem?_cons_succ, List.getElem?_cons_zero]; rfl)); (focus kernel_rfl); (focus kernel_rfl); (focus kernel_rfl); (focus exact (fun _ _ _ h => h)); refine Or.inr ⟨?_, rfl⟩; (focus (go_simp; done)); (focus assumption); (try simp only [Act.put, List.setIfInBounds_toArray, List.set_cons_zero, List.set_cons_succ]))
        | (refine wpAnyH_ready (rs := [5]) (by kernel_rfl) (by simp) ?_; refine' AllReadyH.cons ?_ (fun K hK => ?_) AllReadyH.nil; rotate_left; (focus (simp only [List.getElem?_toArray, List.getElem?_cons_succ, List.getElem?_cons_zero]; rfl)); go_simp; (go_at_call 12; refine (kNone_any _).mono ?_; rintro e w4 ⟨rfl, hb⟩); refine hK.out _ _ (by go_split_ands; exact ⟨Ahead.cell0 (by assumption) hb (by assumption) (by omega), Ahead.cell0 (by assumption) hb (by assumption) (by omega), Ahead.cell (by assumption) hb (by assumption) (by omega), Ahead.cell (by assumption) hb (by assumption) (by omega), Ahead.cell2 (by assumption) hb (by assumption) (by omega), Ahead.cell2 (by assumption) hb (by assumption) (by omega), Ahead.frz2 (by assumption) hb (by assumption) (by omega), Ahead.below (by assumption) hb⟩) (fun hHeld => ?_); clear hK K; (try simp only [Act.put, List.setIfInBounds_toArray, List.set_cons_zero, List.set_cons_succ]); clear hb)
        | fail "operation 5"
      first
        | (refine' wpAnyH_take (i := 6) (v := _) ?_ ?_ ?_ ?_ ?_ ?_ ?_ ?_; rotate_left 2; (focus (simp only [List.getElem?_toArray, List.getElem?_cons_succ, List.getElem?_cons_zero]; rfl)); (focus kernel_rfl); (focus kernel_rfl); (focus kernel_rfl); (focus exact (fun _ _ _ h => h)); refine Or.inl ⟨?_, ?_⟩; (focus (go_simp; done)); (focus (intro w hSw; (try dsimp only at hSw); (first | (go_simp; done) | (go_simp; with_reducible rfl)))); (focus assumption); (try simp only [Act.put, List.setIfInBounds_toArray, List.set_cons_zero, List.set_cons_succ]))
        | (refine' wpAnyH_take (i := 6) (v := undef) ?_ ?_ ?_ ?_ ?_ ?_ ?_ ?_; rotate_left 1; (focus (simp only [List.getElem?_toArray, List.getElem?_cons_succ, List.getElem?_cons_zero]; rfl)); (focus kernel_rfl); (focus kernel_rfl); (focus kernel_rfl); (focus exact (fun _ _ _ h => h)); refine Or.inr ⟨?_, rfl⟩; (focus (go_simp; done)); (focus assumption); (try simp only [Act.put, List.setIfInBounds_toArray, List.set_cons_zero, List.set_cons_succ]))
        | (refine wpAnyH_ready (rs := [6]) (by kernel_rfl) (by simp) ?_; refine' AllReadyH.cons ?_ (fun K hK => ?_) AllReadyH.nil; rotate_left; (focus (simp only [List.getElem?_toArray, List.getElem?_cons_succ, List.getElem?_cons_zero]; rfl)); go_simp; (go_at_call 12; refine (kNone_any _).mono ?_; rintro e w4 ⟨rfl, hb⟩); refine hK.out _ _ (by go_split_ands; exact ⟨Ahead.cell0 (by assumption) hb (by assumption) (by omega), Ahead.cell0 (by assumption) hb (by assumption) (by omega), Ahead.cell (by assumption) hb (by assumption) (by omega), Ahead.cell (by assumption) hb (by assumption) (by omega), Ahead.cell2 (by assumption) hb (by assumption) (by omega), Ahead.cell2 (by assumption) hb (by assumption) (by omega), Ahead.frz2 (by assumption) hb (by assumption) (by omega), Ahead.below (by assumption) hb⟩) (fun hHeld => ?_); clear hK K; (try simp only [Act.put, List.setIfInBounds_toArray, List.set_cons_zero, List.set_cons_succ]); clear hb)
        | fail "operation 6"
      first
        | (refine' wpAnyH_take (i := 7) (v := _) ?_ ?_ ?_ ?_ ?_ ?_ ?_ ?_; rotate_left 2; (focus (simp only [List.getElem?_toArray, List.getElem?_cons_succ, List.getElem?_cons_zero]; rfl)); (focus kernel_rfl); (focus kernel_rfl); (focus kernel_rfl); (focus exact (fun _ _ _ h => h)); refine Or.inl ⟨?_, ?_⟩; (focus (go_simp; done)); (focus (intro w hSw; (try dsimp only at hSw); (first | (go_simp; done) | (go_simp; with_reducible rfl)))); (focus assumption); (try simp only [Act.put, List.setIfInBounds_toArray, List.set_cons_zero, List.set_cons_succ]))
        | (refine' wpAnyH_take (i := 7) (v := undef) ?_ ?_ ?_ ?_ ?_ ?_ ?_ ?_; rotate_left 1; (focus (simp only [List.getElem?_toArray, List.getElem?_cons_succ, List.getElem?_cons_zero]; rfl)); (focus kernel_rfl); (focus kernel_rfl); (focus kernel_rfl); (focus exact (fun _ _ _ h => h)); refine Or.inr ⟨?_, rfl⟩; (focus (go_simp; done)); (focus assumption); (try simp only [Act.put, List.setIfInBounds_toArray, List.set_cons_zero, List.set_cons_succ]))
        | (refine wpAnyH_ready (rs := [7]) (by kernel_rfl) (by simp) ?_; refine' AllReadyH.cons ?_ (fun K hK => ?_) AllReadyH.nil; rotate_left; (focus (simp only [List.getElem?_toArray, List.getElem?_cons_succ, List.getElem?_cons_zero]; rfl)); go_simp; (go_at_call 12; refine (kNone_any _).mono ?_; rintro e w4 ⟨rfl, hb⟩); refine hK.out _ _ (by go_split_ands; exact ⟨Ahead.cell0 (by assumption) hb (by assumption) (by omega), Ahead.cell0 (by assumption) hb (by assumption) (by omega), Ahead.cell (by assumption) hb (by assumption) (by omega), Ahead.cell (by assumption) hb (by assumption) (by omega), Ahead.cell2 (by assumption) hb (by assumption) (by omega), Ahead.cell2 (by assumption) hb (by assumption) (by omega), Ahead.frz2 (by assumption) hb (by assumption) (by omega), Ahead.below (by assumption) hb⟩) (fun hHeld => ?_); clear hK K; (try simp only [Act.put, List.setIfInBounds_toArray, List.set_cons_zero, List.set_cons_succ]); clear hb)
        | fail "operation 7"
      refine wpAnyH_done (by kernel_rfl) ?_ _
      obtain ⟨a0, a1, b0, b1, c0, c1, f2, hA⟩ := hHeld; have hy0 := hA.lt0 (by omega); have hy1 := hA.lt1 (by omega); have hy2 := hA.lt2 (by omega)
      go_wp2_with fail
      refine (kNone_any _).mono ?_
      rintro e w9 ⟨rfl, hb⟩
      have hA9 := hA.below hb; obtain ⟨hc9, hf9⟩ := bcell hb; (try simp only [size_alloc] at hc9 hf9); clear hb; have hz90 : w.heap.size < w9.heap.size := (by have := hA9.2; omega); have hz91 : w.heap.size + 1 < w9.heap.size := (by have := hA9.2; omega); have hz92 : w.heap.size + 1 + 1 < w9.heap.size := (by have := hA9.2; omega)
      go_wp2
      rw [← HZ.out]
      refine bodyPost_ret (v := .agg #[.int .i64 Rs.non.m, .int .i64 Rs.non.r]) ?_ rfl ⟨rfl, ((hA9.set (by omega) _).set (by omega) _).1⟩
      simp [results, Tryd.results24, go_sem, hc9, hz90, hz91, hz92, c0, c1, hy0, hy1, hy2, Rs.non]
    · have he2 := rs_eql b.m b.r (-1) 0 false (rs_not b hm)
      have HJ2 := Lib.hid (show Rs.op o a b = z by rw [← HJ.out, if_neg (fun h => h.elim hn hm)])
      obtain ⟨i, gA⟩ := HFA.out.resolve_left hn
      obtain ⟨j, gB⟩ := HFB.out.resolve_left hm
      clear hn hm HJ HA HB
      refine wp_region_held_drew (S := (fun w' => w'.cell? ⟨w.heap.size, 0, none⟩ = some (.int .i64 a.m) ∧ w'.cell? ⟨w.heap.size, 1, none⟩ = some (.int .i64 a.r) ∧ w'.cell? ⟨w.heap.size + 1, 0, none⟩ = some (.int .i64 b.m) ∧ w'.cell? ⟨w.heap.size + 1, 1, none⟩ = some (.int .i64 b.r) ∧ w'.cell? ⟨w.heap.size + 1 + 1, 0, none⟩ = some (.int .i64 0) ∧ w'.cell? ⟨w.heap.size + 1 + 1, 1, none⟩ = some (.int .i64 0) ∧ (∀ o, w'.frozen? ⟨w.heap.size + 1 + 1, o, none⟩ = false) ∧ Ahead 3 w w')) (by kernel_rfl) (by exact ⟨by simpa using a0, by simpa using a1, by simpa using b0, by simpa using b1, by simpa using c0, by simpa using c1, fun o => by simpa using f2 o, hA.drew⟩) (fun hHeld => ?_)
      first
        | (refine' wpAnyH_take (i := 0) (v := _) ?_ ?_ ?_ ?_ ?_ ?_ ?_ ?_; rotate_left 2; (focus (simp only [List.getElem?_toArray, List.getElem?_cons_succ, List.getElem?_cons_zero]; rfl)); (focus kernel_rfl); (focus kernel_rfl); (focus kernel_rfl); (focus exact (fun _ _ _ h => h)); refine Or.inl ⟨?_, ?_⟩; (focus (go_simp; done)); (focus (intro w hSw; (try dsimp only at hSw); (first | (go_simp; done) | (go_simp; with_reducible rfl)))); (focus assumption); (try simp only [Act.put, List.setIfInBounds_toArray, List.set_cons_zero, List.set_cons_succ]))
        | (refine' wpAnyH_take (i := 0) (v := undef) ?_ ?_ ?_ ?_ ?_ ?_ ?_ ?_; rotate_left 1; (focus (simp only [List.getElem?_toArray, List.getElem?_cons_succ, List.getElem?_cons_zero]; rfl)); (focus kernel_rfl); (focus kernel_rfl); (focus kernel_rfl); (focus exact (fun _ _ _ h => h)); refine Or.inr ⟨?_, rfl⟩; (focus (go_simp; done)); (focus assumption); (try simp only [Act.put, List.setIfInBounds_toArray, List.set_cons_zero, List.set_cons_succ]))
        | (refine wpAnyH_ready (rs := [0]) (by kernel_rfl) (by simp) ?_; refine' AllReadyH.cons ?_ (fun K hK => ?_) AllReadyH.nil; rotate_left; (focus (simp only [List.getElem?_toArray, List.getElem?_cons_succ, List.getElem?_cons_zero]; rfl)); go_simp; (go_at_call 12; refine (kNone_any _).mono ?_; rintro e w4 ⟨rfl, hb⟩); refine hK.out _ _ (by go_split_ands; exact ⟨Ahead.cell0 (by assumption) hb (by assumption) (by omega), Ahead.cell0 (by assumption) hb (by assumption) (by omega), Ahead.cell (by assumption) hb (by assumption) (by omega), Ahead.cell (by assumption) hb (by assumption) (by omega), Ahead.cell2 (by assumption) hb (by assumption) (by omega), Ahead.cell2 (by assumption) hb (by assumption) (by omega), Ahead.frz2 (by assumption) hb (by assumption) (by omega), Ahead.below (by assumption) hb⟩) (fun hHeld => ?_); clear hK K; (try simp only [Act.put, List.setIfInBounds_toArray, List.set_cons_zero, List.set_cons_succ]); clear hb)
        | fail "operation 0"
      first
        | (refine' wpAnyH_take (i := 1) (v := _) ?_ ?_ ?_ ?_ ?_ ?_ ?_ ?_; rotate_left 2; (focus (simp only [List.getElem?_toArray, List.getElem?_cons_succ, List.getElem?_cons_zero]; rfl)); (focus kernel_rfl); (focus kernel_rfl); (focus kernel_rfl); (focus exact (fun _ _ _ h => h)); refine Or.inl ⟨?_, ?_⟩; (focus (go_simp; done)); (focus (intro w hSw; (try dsimp only at hSw); (first | (go_simp; done) | (go_simp; with_reducible rfl)))); (focus assumption); (try simp only [Act.put, List.setIfInBounds_toArray, List.set_cons_zero, List.set_cons_succ]))
        | (refine' wpAnyH_take (i := 1) (v := undef) ?_ ?_ ?_ ?_ ?_ ?_ ?_ ?_; rotate_left 1; (focus (simp only [List.getElem?_toArray, List.getElem?_cons_succ, List.getElem?_cons_zero]; rfl)); (focus kernel_rfl); (focus kernel_rfl); (focus kernel_rfl); (focus exact (fun _ _ _ h => h)); refine Or.inr ⟨?_, rfl⟩; (focus (go_simp; done)); (focus assumption); (try simp only [Act.put, List.setIfInBounds_toArray, List.set_cons_zero, List.set_cons_succ]))
        | (refine wpAnyH_ready (rs := [1]) (by kernel_rfl) (by simp) ?_; refine' AllReadyH.cons ?_ (fun K hK => ?_) AllReadyH.nil; rotate_left; (focus (simp only [List.getElem?_toArray, List.getElem?_cons_succ, List.getElem?_cons_zero]; rfl)); go_simp; (go_at_call 12; refine (kNone_any _).mono ?_; rintro e w4 ⟨rfl, hb⟩); refine hK.out _ _ (by go_split_ands; exact ⟨Ahead.cell0 (by assumption) hb (by assumption) (by omega), Ahead.cell0 (by assumption) hb (by assumption) (by omega), Ahead.cell (by assumption) hb (by assumption) (by omega), Ahead.cell (by assumption) hb (by assumption) (by omega), Ahead.cell2 (by assumption) hb (by assumption) (by omega), Ahead.cell2 (by assumption) hb (by assumption) (by omega), Ahead.frz2 (by assumption) hb (by assumption) (by omega), Ahead.below (by assumption) hb⟩) (fun hHeld => ?_); clear hK K; (try simp only [Act.put, List.setIfInBounds_toArray, List.set_cons_zero, List.set_cons_succ]); clear hb)
        | fail "operation 1"
      first
        | (refine' wpAnyH_take (i := 2) (v := _) ?_ ?_ ?_ ?_ ?_ ?_ ?_ ?_; rotate_left 2; (focus (simp only [List.getElem?_toArray, List.getElem?_cons_succ, List.getElem?_cons_zero]; rfl)); (focus kernel_rfl); (focus kernel_rfl); (focus kernel_rfl); (focus exact (fun _ _ _ h => h)); refine Or.inl ⟨?_, ?_⟩; (focus (go_simp; done)); (focus (intro w hSw; (try dsimp only at hSw); (first | (go_simp; done) | (go_simp; with_reducible rfl)))); (focus assumption); (try simp only [Act.put, List.setIfInBounds_toArray, List.set_cons_zero, List.set_cons_succ]))
        | (refine' wpAnyH_take (i := 2) (v := undef) ?_ ?_ ?_ ?_ ?_ ?_ ?_ ?_; rotate_left 1; (focus (simp only [List.getElem?_toArray, List.getElem?_cons_succ, List.getElem?_cons_zero]; rfl)); (focus kernel_rfl); (focus kernel_rfl); (focus kernel_rfl); (focus exact (fun _ _ _ h => h)); refine Or.inr ⟨?_, rfl⟩; (focus (go_simp; done)); (focus assumption); (try simp only [Act.put, List.setIfInBounds_toArray, List.set_cons_zero, List.set_cons_succ]))
        | (refine wpAnyH_ready (rs := [2]) (by kernel_rfl) (by simp) ?_; refine' AllReadyH.cons ?_ (fun K hK => ?_) AllReadyH.nil; rotate_left; (focus (simp only [List.getElem?_toArray, List.getElem?_cons_succ, List.getElem?_cons_zero]; rfl)); go_simp; (go_at_call 12; refine (kNone_any _).mono ?_; rintro e w4 ⟨rfl, hb⟩); refine hK.out _ _ (by go_split_ands; exact ⟨Ahead.cell0 (by assumption) hb (by assumption) (by omega), Ahead.cell0 (by assumption) hb (by assumption) (by omega), Ahead.cell (by assumption) hb (by assumption) (by omega), Ahead.cell (by assumption) hb (by assumption) (by omega), Ahead.cell2 (by assumption) hb (by assumption) (by omega), Ahead.cell2 (by assumption) hb (by assumption) (by omega), Ahead.frz2 (by assumption) hb (by assumption) (by omega), Ahead.below (by assumption) hb⟩) (fun hHeld => ?_); clear hK K; (try simp only [Act.put, List.setIfInBounds_toArray, List.set_cons_zero, List.set_cons_succ]); clear hb)
        | fail "operation 2"
      first
        | (refine' wpAnyH_take (i := 3) (v := _) ?_ ?_ ?_ ?_ ?_ ?_ ?_ ?_; rotate_left 2; (focus (simp only [List.getElem?_toArray, List.getElem?_cons_succ, List.getElem?_cons_zero]; rfl)); (focus kernel_rfl); (focus kernel_rfl); (focus kernel_rfl); (focus exact (fun _ _ _ h => h)); refine Or.inl ⟨?_, ?_⟩; (focus (go_simp; done)); (focus (intro w hSw; (try dsimp only at hSw); (first | (go_simp; done) | (go_simp; with_reducible rfl)))); (focus assumption); (try simp only [Act.put, List.setIfInBounds_toArray, List.set_cons_zero, List.set_cons_succ]))
        | (refine' wpAnyH_take (i := 3) (v := undef) ?_ ?_ ?_ ?_ ?_ ?_ ?_ ?_; rotate_left 1; (focus (simp only [List.getElem?_toArray, List.getElem?_cons_succ, List.getElem?_cons_zero]; rfl)); (focus kernel_rfl); (focus kernel_rfl); (focus kernel_rfl); (focus exact (fun _ _ _ h => h)); refine Or.inr ⟨?_, rfl⟩; (focus (go_simp; done)); (focus assumption); (try simp only [Act.put, List.setIfInBounds_toArray, List.set_cons_zero, List.set_cons_succ]))
        | (refine wpAnyH_ready (rs := [3]) (by kernel_rfl) (by simp) ?_; refine' AllReadyH.cons ?_ (fun K hK => ?_) AllReadyH.nil; rotate_left; (focus (simp only [List.getElem?_toArray, List.getElem?_cons_succ, List.getElem?_cons_zero]; rfl)); go_simp; (go_at_call 12; refine (kNone_any _).mono ?_; rintro e w4 ⟨rfl, hb⟩); refine hK.out _ _ (by go_split_ands; exact ⟨Ahead.cell0 (by assumption) hb (by assumption) (by omega), Ahead.cell0 (by assumption) hb (by assumption) (by omega), Ahead.cell (by assumption) hb (by assumption) (by omega), Ahead.cell (by assumption) hb (by assumption) (by omega), Ahead.cell2 (by assumption) hb (by assumption) (by omega), Ahead.cell2 (by assumption) hb (by assumption) (by omega), Ahead.frz2 (by assumption) hb (by assumption) (by omega), Ahead.below (by assumption) hb⟩) (fun hHeld => ?_); clear hK K; (try simp only [Act.put, List.setIfInBounds_toArray, List.set_cons_zero, List.set_cons_succ]); clear hb)
        | fail "operation 3"
      first
        | (refine' wpAnyH_take (i := 4) (v := _) ?_ ?_ ?_ ?_ ?_ ?_ ?_ ?_; rotate_left 2; (focus (simp only [List.getElem?_toArray, List.getElem?_cons_succ, List.getElem?_cons_zero]; rfl)); (focus kernel_rfl); (focus kernel_rfl); (focus kernel_rfl); (focus exact (fun _ _ _ h => h)); refine Or.inl ⟨?_, ?_⟩; (focus (go_simp; done)); (focus (intro w hSw; (try dsimp only at hSw); (first | (go_simp; done) | (go_simp; with_reducible rfl)))); (focus assumption); (try simp only [Act.put, List.setIfInBounds_toArray, List.set_cons_zero, List.set_cons_succ]))
        | (refine' wpAnyH_take (i := 4) (v := undef) ?_ ?_ ?_ ?_ ?_ ?_ ?_ ?_; rotate_left 1; (focus (simp only [List.getElem?_toArray, List.getElem?_cons_succ, List.getElem?_cons_zero]; rfl)); (focus kernel_rfl); (focus kernel_rfl); (focus kernel_rfl); (focus exact (fun _ _ _ h => h)); refine Or.inr ⟨?_, rfl⟩; (focus (go_simp; done)); (focus assumption); (try simp only [Act.put, List.setIfInBounds_toArray, List.set_cons_zero, List.set_cons_succ]))
        | (refine wpAnyH_ready (rs := [4]) (by kernel_rfl) (by simp) ?_; refine' AllReadyH.cons ?_ (fun K hK => ?_) AllReadyH.nil; rotate_left; (focus (simp only [List.getElem?_toArray, List.getElem?_cons_succ, List.getElem?_cons_zero]; rfl)); go_simp; (go_at_call 12; refine (kNone_any _).mono ?_; rintro e w4 ⟨rfl, hb⟩); refine hK.out _ _ (by go_split_ands; exact ⟨Ahead.cell0 (by assumption) hb (by assumption) (by omega), Ahead.cell0 (by assumption) hb (by assumption) (by omega), Ahead.cell (by assumption) hb (by assumption) (by omega), Ahead.cell (by assumption) hb (by assumption) (by omega), Ahead.cell2 (by assumption) hb (by assumption) (by omega), Ahead.cell2 (by assumption) hb (by assumption) (by omega), Ahead.frz2 (by assumption) hb (by assumption) (by omega), Ahead.below (by assumption) hb⟩) (fun hHeld => ?_); clear hK K; (try simp only [Act.put, List.setIfInBounds_toArray, List.set_cons_zero, List.set_cons_succ]); clear hb)
        | fail "operation 4"
      first
        | (refine' wpAnyH_take (i := 5) (v := _) ?_ ?_ ?_ ?_ ?_ ?_ ?_ ?_; rotate_left 2; (focus (simp only [List.getElem?_toArray, List.getElem?_cons_succ, List.getElem?_cons_zero]; rfl)); (focus kernel_rfl); (focus kernel_rfl); (focus kernel_rfl); (focus exact (fun _ _ _ h => h)); refine Or.inl ⟨?_, ?_⟩; (focus (go_simp; done)); (focus (intro w hSw; (try dsimp only at hSw); (first | (go_simp; done) | (go_simp; with_reducible rfl)))); (focus assumption); (try simp only [Act.put, List.setIfInBounds_toArray, List.set_cons_zero, List.set_cons_succ]))
        | (refine' wpAnyH_take (i := 5) (v := undef) ?_ ?_ ?_ ?_ ?_ ?_ ?_ ?_; rotate_left 1; (focus (simp only [List.getElem?_toArray, List.getElem?_cons_succ, List.getElem?_cons_zero]; rfl)); (focus kernel_rfl); (focus kernel_rfl); (focus kernel_rfl); (focus exact (fun _ _ _ h => h)); refine Or.inr ⟨?_, rfl⟩; (focus (go_simp; done)); (focus assumption); (try simp only [Act.put, List.setIfInBounds_toArray, List.set_cons_zero, List.set_cons_succ]))
        | (refine wpAnyH_ready (rs := [5]) (by kernel_rfl) (by simp) ?_; refine' AllReadyH.cons ?_ (fun K hK => ?_) AllReadyH.nil; rotate_left; (focus (simp only [List.getElem?_toArray, List.getElem?_cons_succ, List.getElem?_cons_zero]; rfl)); go_simp; (go_at_call 12; refine (kNone_any _).mono ?_; rintro e w4 ⟨rfl, hb⟩); refine hK.out _ _ (by go_split_ands; exact ⟨Ahead.cell0 (by assumption) hb (by assumption) (by omega), Ahead.cell0 (by assumption) hb (by assumption) (by omega), Ahead.cell (by assumption) hb (by assumption) (by omega), Ahead.cell (by assumption) hb (by assumption) (by omega), Ahead.cell2 (by assumption) hb (by assumption) (by omega), Ahead.cell2 (by assumption) hb (by assumption) (by omega), Ahead.frz2 (by assumption) hb (by assumption) (by omega), Ahead.below (by assumption) hb⟩) (fun hHeld => ?_); clear hK K; (try simp only [Act.put, List.setIfInBounds_toArray, List.set_cons_zero, List.set_cons_succ]); clear hb)
        | fail "operation 5"
      first
        | (refine' wpAnyH_take (i := 6) (v := _) ?_ ?_ ?_ ?_ ?_ ?_ ?_ ?_; rotate_left 2; (focus (simp only [List.getElem?_toArray, List.getElem?_cons_succ, List.getElem?_cons_zero]; rfl)); (focus kernel_rfl); (focus kernel_rfl); (focus kernel_rfl); (focus exact (fun _ _ _ h => h)); refine Or.inl ⟨?_, ?_⟩; (focus (go_simp; done)); (focus (intro w hSw; (try dsimp only at hSw); (first | (go_simp; done) | (go_simp; with_reducible rfl)))); (focus assumption); (try simp only [Act.put, List.setIfInBounds_toArray, List.set_cons_zero, List.set_cons_succ]))
        | (refine' wpAnyH_take (i := 6) (v := undef) ?_ ?_ ?_ ?_ ?_ ?_ ?_ ?_; rotate_left 1; (focus (simp only [List.getElem?_toArray, List.getElem?_cons_succ, List.getElem?_cons_zero]; rfl)); (focus kernel_rfl); (focus kernel_rfl); (focus kernel_rfl); (focus exact (fun _ _ _ h => h)); refine Or.inr ⟨?_, rfl⟩; (focus (go_simp; done)); (focus assumption); (try simp only [Act.put, List.setIfInBounds_toArray, List.set_cons_zero, List.set_cons_succ]))
        | (refine wpAnyH_ready (rs := [6]) (by kernel_rfl) (by simp) ?_; refine' AllReadyH.cons ?_ (fun K hK => ?_) AllReadyH.nil; rotate_left; (focus (simp only [List.getElem?_toArray, List.getElem?_cons_succ, List.getElem?_cons_zero]; rfl)); go_simp; (go_at_call 12; refine (kNone_any _).mono ?_; rintro e w4 ⟨rfl, hb⟩); refine hK.out _ _ (by go_split_ands; exact ⟨Ahead.cell0 (by assumption) hb (by assumption) (by omega), Ahead.cell0 (by assumption) hb (by assumption) (by omega), Ahead.cell (by assumption) hb (by assumption) (by omega), Ahead.cell (by assumption) hb (by assumption) (by omega), Ahead.cell2 (by assumption) hb (by assumption) (by omega), Ahead.cell2 (by assumption) hb (by assumption) (by omega), Ahead.frz2 (by assumption) hb (by assumption) (by omega), Ahead.below (by assumption) hb⟩) (fun hHeld => ?_); clear hK K; (try simp only [Act.put, List.setIfInBounds_toArray, List.set_cons_zero, List.set_cons_succ]); clear hb)
        | fail "operation 6"
      first
        | (refine' wpAnyH_take (i := 7) (v := _) ?_ ?_ ?_ ?_ ?_ ?_ ?_ ?_; rotate_left 2; (focus (simp only [List.getElem?_toArray, List.getElem?_cons_succ, List.getElem?_cons_zero]; rfl)); (focus kernel_rfl); (focus kernel_rfl); (focus kernel_rfl); (focus exact (fun _ _ _ h => h)); refine Or.inl ⟨?_, ?_⟩; (focus (go_simp; done)); (focus (intro w hSw; (try dsimp only at hSw); (first | (go_simp; done) | (go_simp; with_reducible rfl)))); (focus assumption); (try simp only [Act.put, List.setIfInBounds_toArray, List.set_cons_zero, List.set_cons_succ]))
        | (refine' wpAnyH_take (i := 7) (v := undef) ?_ ?_ ?_ ?_ ?_ ?_ ?_ ?_; rotate_left 1; (focus (simp only [List.getElem?_toArray, List.getElem?_cons_succ, List.getElem?_cons_zero]; rfl)); (focus kernel_rfl); (focus kernel_rfl); (focus kernel_rfl); (focus exact (fun _ _ _ h => h)); refine Or.inr ⟨?_, rfl⟩; (focus (go_simp; done)); (focus assumption); (try simp only [Act.put, List.setIfInBounds_toArray, List.set_cons_zero, List.set_cons_succ]))
        | (refine wpAnyH_ready (rs := [7]) (by kernel_rfl) (by simp) ?_; refine' AllReadyH.cons ?_ (fun K hK => ?_) AllReadyH.nil; rotate_left; (focus (simp only [List.getElem?_toArray, List.getElem?_cons_succ, List.getElem?_cons_zero]; rfl)); go_simp; (go_at_call 12; refine (kNone_any _).mono ?_; rintro e w4 ⟨rfl, hb⟩); refine hK.out _ _ (by go_split_ands; exact ⟨Ahead.cell0 (by assumption) hb (by assumption) (by omega), Ahead.cell0 (by assumption) hb (by assumption) (by omega), Ahead.cell (by assumption) hb (by assumption) (by omega), Ahead.cell (by assumption) hb (by assumption) (by omega), Ahead.cell2 (by assumption) hb (by assumption) (by omega), Ahead.cell2 (by assumption) hb (by assumption) (by omega), Ahead.frz2 (by assumption) hb (by assumption) (by omega), Ahead.below (by assumption) hb⟩) (fun hHeld => ?_); clear hK K; (try simp only [Act.put, List.setIfInBounds_toArray, List.set_cons_zero, List.set_cons_succ]); clear hb)
        | fail "operation 7"
      refine wpAnyH_done (by kernel_rfl) ?_ _
      obtain ⟨a0, a1, b0, b1, c0, c1, f2, hA⟩ := hHeld; have hy0 := hA.lt0 (by omega); have hy1 := hA.lt1 (by omega); have hy2 := hA.lt2 (by omega)
      clear he he2
      by_cases hs : a.m = 0 ∧ b.m = 0
      · have e1 : (a.m == 0) = true := by simp [hs.1]
        have e2 : (b.m == 0) = true := by simp [hs.2]
        by_cases ho : 1 ≤ o ∧ o ≤ 14
        · have HZ := Lib.hid (show Rs.sing (val o a.r b.r) = z by rw [← HJ2.out]; unfold Rs.op; rw [if_pos hs, if_pos ho])
          have HD := Lib.hid (fun (W : World) => by have q := wdDo_any o a.r b.r W; rw [fault_yes ho] at q; exact q)
          clear hs ho gA gB HJ2
          go_wp2_with fail
          refine (HD.out _).mono ?_
          rintro e w5 ⟨rfl, rfl⟩
          go_wp2_with fail
          refine (kOf_any (val o a.r b.r) z HZ.out _).mono ?_
          rintro e w9 ⟨rfl, hb⟩
          have hA9 := hA.below hb; obtain ⟨hc9, hf9⟩ := bcell hb; (try simp only [size_alloc] at hc9 hf9); clear hb; have hz90 : w.heap.size < w9.heap.size := (by have := hA9.2; omega); have hz91 : w.heap.size + 1 < w9.heap.size := (by have := hA9.2; omega); have hz92 : w.heap.size + 1 + 1 < w9.heap.size := (by have := hA9.2; omega)
          go_wp2
          refine bodyPost_ret (v := .agg #[.int .i64 (z).m, .int .i64 (z).r]) ?_ rfl ⟨rfl, ((hA9.set (by omega) _).set (by omega) _).1⟩
          simp [results, Tryd.results24, go_sem, hc9, hz90, hz91, hz92, c0, c1, hy0, hy1, hy2]
        · have HZ := Lib.hid (show Rs.all = z by rw [← HJ2.out]; unfold Rs.op; rw [if_pos hs, if_neg ho])
          have HD := Lib.hid (fun (W : World) => by have q := wdDo_any o a.r b.r W; rw [fault_no ho] at q; exact q)
          clear hs ho gA gB HJ2
          go_wp2_with fail
          refine (HD.out _).mono ?_
          rintro e w5 ⟨rfl, rfl⟩
          go_wp2_with fail
          refine (kAll_any _).mono ?_
          rintro e w9 ⟨rfl, hb⟩
          have hA9 := hA.below hb; obtain ⟨hc9, hf9⟩ := bcell hb; (try simp only [size_alloc] at hc9 hf9); clear hb; have hz90 : w.heap.size < w9.heap.size := (by have := hA9.2; omega); have hz91 : w.heap.size + 1 < w9.heap.size := (by have := hA9.2; omega); have hz92 : w.heap.size + 1 + 1 < w9.heap.size := (by have := hA9.2; omega)
          go_wp2
          rw [← HZ.out]
          refine bodyPost_ret (v := .agg #[.int .i64 Rs.all.m, .int .i64 Rs.all.r]) ?_ rfl ⟨rfl, ((hA9.set (by omega) _).set (by omega) _).1⟩
          simp [results, Tryd.results24, go_sem, hc9, hz90, hz91, hz92, c0, c1, hy0, hy1, hy2, Rs.all]
      · have hk30 : min i j ≤ 30 := by
          rcases gA.m with ⟨e, e'⟩ | ⟨_, e, _⟩
          · rcases gB.m with ⟨f, f'⟩ | ⟨_, f, _⟩
            · exact absurd ⟨e, f⟩ hs
            · omega
          · omega
        have hi : i ≤ 32 := gA.le
        obtain ⟨k0, hk0⟩ : ∃ k0, min i j = k0 := ⟨_, rfl⟩
        rw [hk0] at hk30
        have HOP := Lib.hid (show (if o = 1 ∨ o = 2 ∨ o = 3 ∨ o = 6 ∨ o = 7 ∨ o = 8 then Rs.low (val o a.r b.r) k0 else if o = 9 ∧ b.m = 0 then Rs.low (val 9 a.r (b.r % 32)) (i + (b.r % 32).toNat) else if (o = 13 ∨ o = 14) ∧ (a.r - b.r) % 2 ^ k0 ≠ 0 then Rs.sing (if o = 13 then 0 else 1) else Rs.all) = z by
          rw [← HJ2.out]; unfold Rs.op; rw [if_neg hs, gA.bt, gB.bt, hk0])
        have w1' : IntKind.i64.wrap (a.r - b.r) = a.r - b.r := IntWalk.i64_in _ (by have := gA.word; have := gB.word; omega)
        have HBa := Lib.hid (fun (W : World) (h : RBox3 w a b W) => (kBits_any a.m a.r gA.m30 W).mono fun e w' hh => And.intro hh.1 (h.below hh.2))
        have HBb := Lib.hid (fun (W : World) (h : RBox3 w a b W) => (kBits_any b.m b.r gB.m30 W).mono fun e w' hh => And.intro hh.1 (h.below hh.2))
        rw [show Rs.bt ⟨a.m, a.r⟩ = i from gA.bt] at HBa
        rw [show Rs.bt ⟨b.m, b.r⟩ = j from gB.bt] at HBb
        have HBi := Lib.hid (fun (W : World) => by have q := kBits_any a.m a.r gA.m30 W; rw [show Rs.bt ⟨a.m, a.r⟩ = i from gA.bt] at q; exact q)
        have hmin := fun (ts : Array TypeId) (t : TypeId) (W : World) => run_minN2 i j ts t W
        rw [hk0] at hmin
        have HS := Lib.hid hs
        clear hs gA gB HJ2 hk0
        obtain ⟨e1, e2⟩ : ∃ x, (a.m == 0) = x := ⟨_, rfl⟩
        obtain ⟨f1, f2'⟩ : ∃ x, (b.m == 0) = x := ⟨_, rfl⟩
        have hef : (e1 = false) ∨ (e1 = true ∧ f1 = false) := by
          cases e1
          · exact .inl rfl
          · cases f1
            · exact .inr ⟨rfl, rfl⟩
            · exact absurd ⟨by simpa using e2, by simpa using f2'⟩ HS.out
        have HE := Lib.hid f2'
        rcases hef with rfl | ⟨rfl, hf1⟩
        all_goals
          try (have f3 : (b.m == 0) = false := by rw [f2', hf1])
          clear f2'
          (try clear hf1)
          go_wp2_with fail
          have hq : RBox3 w a b _ := ⟨hA, ⟨a0, a1⟩, ⟨b0, b1⟩, ⟨c0, c1⟩, f2⟩
          clear hA a0 a1 b0 b1 c0 c1 f2 hy0 hy1 hy2
          go_region_held3 (fun w' => w'.cell? ⟨w.heap.size, 0, none⟩ = some (.int .i64 a.m) ∧ w'.cell? ⟨w.heap.size, 1, none⟩ = some (.int .i64 a.r) ∧ w'.cell? ⟨w.heap.size + 1, 0, none⟩ = some (.int .i64 b.m) ∧ w'.cell? ⟨w.heap.size + 1, 1, none⟩ = some (.int .i64 b.r) ∧ RBox3 w a b w')
            (first
              | ((with_reducible refine RBox3.holds ?_); (with_reducible assumption))
              | ((with_reducible refine RBox3.holds (RBox3.drew ?_)); (with_reducible assumption))
              | (go_split_ands; (with_reducible refine RBox3.holds ?_); (with_reducible assumption)))
            (first
              | (go_at_call 42; go_split_ands; (with_reducible refine Calls.mono (HBa.out _ ?_) ?_); (focus (with_reducible assumption)); rintro e w4 ⟨rfl, hw4⟩)
              | (go_at_call 42; go_split_ands; (with_reducible refine Calls.mono (HBb.out _ ?_) ?_); (focus (with_reducible assumption)); rintro e w4 ⟨rfl, hw4⟩)
              | fail "Bits")
          (try clear f3)
          clear hmin HBa HBb
          obtain ⟨hA, ⟨a0, a1⟩, ⟨b0, b1⟩, ⟨c0, c1⟩, f2⟩ := hw4
          have hy0 := hA.lt0 (by omega)
          have hy1 := hA.lt1 (by omega)
          have hy2 := hA.lt2 (by omega)
          have hcase : (o = 1 ∨ o = 2 ∨ o = 3 ∨ o = 6 ∨ o = 7 ∨ o = 8) ∨ o = 9 ∨ (o = 13 ∨ o = 14) ∨ ¬ (o = 1 ∨ o = 2 ∨ o = 3 ∨ o = 6 ∨ o = 7 ∨ o = 8 ∨ o = 9 ∨ o = 13 ∨ o = 14) := by omega
          rcases hcase with ho | rfl | ho | ho
          · have HZ := Lib.hid (show Rs.low (val o a.r b.r) k0 = z by rw [← HOP.out, if_pos ho])
            have HD := Lib.hid (fun (W : World) => by have q := wdDo_any o a.r b.r W; rw [fault_yes (by omega)] at q; exact q)
            clear HOP
            rcases ho with rfl | rfl | rfl | rfl | rfl | rfl
            all_goals
              go_wp2_with fail
              refine (HD.out _).mono ?_
              rintro e w5 ⟨rfl, rfl⟩
              go_wp2_with fail
              refine (kLow_any _ k0 z HZ.out (val_bounds _ _ _) _).mono ?_
              rintro e w9 ⟨rfl, hb⟩
              have hA9 := hA.below hb; obtain ⟨hc9, hf9⟩ := bcell hb; (try simp only [size_alloc] at hc9 hf9); clear hb; have hz90 : w.heap.size < w9.heap.size := (by have := hA9.2; omega); have hz91 : w.heap.size + 1 < w9.heap.size := (by have := hA9.2; omega); have hz92 : w.heap.size + 1 + 1 < w9.heap.size := (by have := hA9.2; omega)
              go_wp2
              refine bodyPost_ret (v := .agg #[.int .i64 (z).m, .int .i64 (z).r]) ?_ rfl ⟨rfl, ((hA9.set (by omega) _).set (by omega) _).1⟩
              simp [results, Tryd.results24, go_sem, hc9, hz90, hz91, hz92, c0, c1, hy0, hy1, hy2]
          · cases f1
            · have e2' := HE.out
              have HZ := Lib.hid (show Rs.all = z by rw [← HOP.out, if_neg (by omega), if_neg (by rintro ⟨_, h⟩; rw [h] at e2'; simp at e2'), if_neg (by omega)])
              clear HOP
              go_wp2_with fail
              refine (kAll_any _).mono ?_
              rintro e w9 ⟨rfl, hb⟩
              have hA9 := hA.below hb; obtain ⟨hc9, hf9⟩ := bcell hb; (try simp only [size_alloc] at hc9 hf9); clear hb; have hz90 : w.heap.size < w9.heap.size := (by have := hA9.2; omega); have hz91 : w.heap.size + 1 < w9.heap.size := (by have := hA9.2; omega); have hz92 : w.heap.size + 1 + 1 < w9.heap.size := (by have := hA9.2; omega)
              go_wp2
              rw [← HZ.out]
              refine bodyPost_ret (v := .agg #[.int .i64 Rs.all.m, .int .i64 Rs.all.r]) ?_ rfl ⟨rfl, ((hA9.set (by omega) _).set (by omega) _).1⟩
              simp [results, Tryd.results24, go_sem, hc9, hz90, hz91, hz92, c0, c1, hy0, hy1, hy2, Rs.all]
            · have e2' := HE.out
              obtain ⟨c, hc⟩ := Int.eq_ofNat_of_zero_le (show 0 ≤ b.r % 32 by omega)
              have hc31 : c ≤ 31 := by omega
              have hq := HOP.out
              rw [if_neg (by omega), if_pos ⟨rfl, by simpa using e2'⟩, hc] at hq
              have HL := Lib.hid (fun (W : World) => by have q := kLow_any (val 9 a.r c) (i + c) z hq (val_bounds _ _ _) W; rw [Int.natCast_add] at q; exact q)
              have HD := Lib.hid (fun (W : World) => by have q := wdDo_any 9 a.r c W; rw [fault_yes (by omega)] at q; exact q)
              have hm31 : bits .and .i64 b.r 31 = (c : Int) := by rw [mask31, hc]
              clear HOP hq hc
              go_wp2_with fail
              refine (HD.out _).mono ?_
              rintro e w5 ⟨rfl, rfl⟩
              go_wp2_with fail
              refine (HBi.out _).mono ?_
              rintro e w6 ⟨rfl, hb⟩
              have hA6 := hA.below hb; obtain ⟨hc6, hf6⟩ := bcell hb; (try simp only [size_alloc] at hc6 hf6); clear hb; have hz60 : w.heap.size < w6.heap.size := (by have := hA6.2; omega); have hz61 : w.heap.size + 1 < w6.heap.size := (by have := hA6.2; omega); have hz62 : w.heap.size + 1 + 1 < w6.heap.size := (by have := hA6.2; omega)
              go_wp2_with fail
              refine (HL.out _).mono ?_
              rintro e w9 ⟨rfl, hb⟩
              have hA9 := hA6.below hb; obtain ⟨hc9, hf9⟩ := bcell hb; (try simp only [size_alloc] at hc9 hf9); clear hb; have hz90 : w.heap.size < w9.heap.size := (by have := hA9.2; omega); have hz91 : w.heap.size + 1 < w9.heap.size := (by have := hA9.2; omega); have hz92 : w.heap.size + 1 + 1 < w9.heap.size := (by have := hA9.2; omega)
              go_wp2
              refine bodyPost_ret (v := .agg #[.int .i64 (z).m, .int .i64 (z).r]) ?_ rfl ⟨rfl, ((hA9.set (by omega) _).set (by omega) _).1⟩
              simp [results, Tryd.results24, go_sem, hc6, hz60, hz61, hz62, hc9, hz90, hz91, hz92, c0, c1, hy0, hy1, hy2]
          · have h2 := shl_one (k := k0) (by omega)
            have hu : IntKind.u64.wrap (k0 : Int) = k0 := by rw [IntWalk.u64_in]; omega
            have hne : ¬ (2 : Int) ^ k0 = 0 := by have := Rs.p2_pos k0; omega
            have hq := HOP.out
            rw [if_neg (by omega), if_neg (by omega)] at hq
            cases hd : decide ((a.r - b.r) % 2 ^ k0 = 0)
            · have hd' := mod_test (d := a.r - b.r) (m := 2 ^ k0) _ hd
              rw [if_pos ⟨ho, of_decide_eq_false hd⟩] at hq
              have HQ := Lib.hid hq
              clear HOP hq hd
              rcases ho with rfl | rfl
              · have HZ := Lib.hid (show Rs.sing 0 = z from HQ.out)
                clear HQ
                go_wp2_with fail
                refine (kOf_any 0 z HZ.out _).mono ?_
                rintro e w9 ⟨rfl, hb⟩
                have hA9 := hA.below hb; obtain ⟨hc9, hf9⟩ := bcell hb; (try simp only [size_alloc] at hc9 hf9); clear hb; have hz90 : w.heap.size < w9.heap.size := (by have := hA9.2; omega); have hz91 : w.heap.size + 1 < w9.heap.size := (by have := hA9.2; omega); have hz92 : w.heap.size + 1 + 1 < w9.heap.size := (by have := hA9.2; omega)
                go_wp2
                refine bodyPost_ret (v := .agg #[.int .i64 (z).m, .int .i64 (z).r]) ?_ rfl ⟨rfl, ((hA9.set (by omega) _).set (by omega) _).1⟩
                simp [results, Tryd.results24, go_sem, hc9, hz90, hz91, hz92, c0, c1, hy0, hy1, hy2]
              · have HZ := Lib.hid (show Rs.sing 1 = z from HQ.out)
                clear HQ
                go_wp2_with fail
                refine (kOf_any 1 z HZ.out _).mono ?_
                rintro e w9 ⟨rfl, hb⟩
                have hA9 := hA.below hb; obtain ⟨hc9, hf9⟩ := bcell hb; (try simp only [size_alloc] at hc9 hf9); clear hb; have hz90 : w.heap.size < w9.heap.size := (by have := hA9.2; omega); have hz91 : w.heap.size + 1 < w9.heap.size := (by have := hA9.2; omega); have hz92 : w.heap.size + 1 + 1 < w9.heap.size := (by have := hA9.2; omega)
                go_wp2
                refine bodyPost_ret (v := .agg #[.int .i64 (z).m, .int .i64 (z).r]) ?_ rfl ⟨rfl, ((hA9.set (by omega) _).set (by omega) _).1⟩
                simp [results, Tryd.results24, go_sem, hc9, hz90, hz91, hz92, c0, c1, hy0, hy1, hy2]
            · have hd' := mod_test (d := a.r - b.r) (m := 2 ^ k0) _ hd
              rw [if_neg (fun h => h.2 (of_decide_eq_true hd))] at hq
              have HZ := Lib.hid hq
              clear HOP hq hd
              rcases ho with rfl | rfl
              all_goals
                go_wp2_with fail
                refine (kAll_any _).mono ?_
                rintro e w9 ⟨rfl, hb⟩
                have hA9 := hA.below hb; obtain ⟨hc9, hf9⟩ := bcell hb; (try simp only [size_alloc] at hc9 hf9); clear hb; have hz90 : w.heap.size < w9.heap.size := (by have := hA9.2; omega); have hz91 : w.heap.size + 1 < w9.heap.size := (by have := hA9.2; omega); have hz92 : w.heap.size + 1 + 1 < w9.heap.size := (by have := hA9.2; omega)
                go_wp2
                rw [← HZ.out]
                refine bodyPost_ret (v := .agg #[.int .i64 Rs.all.m, .int .i64 Rs.all.r]) ?_ rfl ⟨rfl, ((hA9.set (by omega) _).set (by omega) _).1⟩
                simp [results, Tryd.results24, go_sem, hc9, hz90, hz91, hz92, c0, c1, hy0, hy1, hy2, Rs.all]
          · have HZ := Lib.hid (show Rs.all = z by rw [← HOP.out, if_neg (by omega), if_neg (by omega), if_neg (by omega)])
            have n1 := no_of (a := o) (b := 1) (by omega)
            have n2 := no_of (a := o) (b := 2) (by omega)
            have n3 := no_of (a := o) (b := 3) (by omega)
            have n6 := no_of (a := o) (b := 6) (by omega)
            have n7 := no_of (a := o) (b := 7) (by omega)
            have n8 := no_of (a := o) (b := 8) (by omega)
            have n9 := no_of (a := o) (b := 9) (by omega)
            have n13 := no_of (a := o) (b := 13) (by omega)
            have n14 := no_of (a := o) (b := 14) (by omega)
            clear HOP ho
            go_wp2_with fail
            refine (kAll_any _).mono ?_
            rintro e w9 ⟨rfl, hb⟩
            have hA9 := hA.below hb; obtain ⟨hc9, hf9⟩ := bcell hb; (try simp only [size_alloc] at hc9 hf9); clear hb; have hz90 : w.heap.size < w9.heap.size := (by have := hA9.2; omega); have hz91 : w.heap.size + 1 < w9.heap.size := (by have := hA9.2; omega); have hz92 : w.heap.size + 1 + 1 < w9.heap.size := (by have := hA9.2; omega)
            go_wp2
            rw [← HZ.out]
            refine bodyPost_ret (v := .agg #[.int .i64 Rs.all.m, .int .i64 Rs.all.r]) ?_ rfl ⟨rfl, ((hA9.set (by omega) _).set (by omega) _).1⟩
            simp [results, Tryd.results24, go_sem, hc9, hz90, hz91, hz92, c0, c1, hy0, hy1, hy2, Rs.all]
end Go.Proofs.YtmdakglbommopaaDoor
