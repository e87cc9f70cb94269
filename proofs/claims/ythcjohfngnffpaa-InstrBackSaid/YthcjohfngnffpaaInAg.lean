/- The law's agree: it answers true. No condition. -/
import Derived.Test.YthcjohfngnffpaaInAw
namespace Go.Proofs.Ythcjohfngnffpaa
open Go.RowKit
set_option linter.unusedVariables false
set_option linter.unusedSimpArgs false
attribute [local go_sem] y_undef
theorem dl_len (b : List Int) : (In.dl b).length ≤ b.length := by
  unfold In.dl
  split
  · rw [In.des_len]; omega
  · simp
theorem rds_len (i : In.I) : (In.rds i).length ≤ maxLen := by
  have h : ∀ p, (In.rl p).length ≤ 7 := fun p => by unfold In.rl; exact Nat.le_trans (List.length_filter_le _ _) (by simp)
  rw [In.rds_pk]
  split
  · exact Nat.le_trans (h _) (by unfold maxLen; omega)
  · simp
set_option maxRecDepth 100000 in
set_option maxHeartbeats 40000000 in
theorem agree_any (l : List In.I) (B : List Int) (vl vb : Value) (w : World) (hl : InsL w vl l) (hB : BytL w vb B) (hsn : ∀ A n c, vb = .slice A n c → n ≤ c) (hR : ∀ z ∈ B, 0 ≤ z ∧ z ≤ 255) (hm : l.length ≤ maxLen) (hm2 : B.length ≤ maxLen) :
    Calls Try.prog 9 #[vl, vb] w fun e w' => e = .returned (.bool true) ∧ Below w.heap.size w w' := by
  have HE1 := Lib.hid (fun (u : World) (hu : Below w.heap.size w u) => ienc_any l vl u (hl.below hu) hm)
  have HE2 := Lib.hid (fun (u : World) (hu : Below w.heap.size w u) => renc_any l vl u (hl.below hu) hm)
  have HD1 := Lib.hid (fun (u : World) (hu : Below w.heap.size w u) => idec_any B vb u (hB.below hu) hsn hR hm2)
  have HD2 := Lib.hid (fun (u : World) (hu : Below w.heap.size w u) => rdec_any B vb u (hB.below hu) hR hm2)
  obtain ⟨A, c, rfl, ho⟩ := hl.opened
  obtain ⟨A2, c2, rfl, -⟩ := hB.opened
  unfold maxLen at hm
  have HO := Lib.hid ho
  clear ho hl hB hsn hR
  have HDL := Lib.hid (Nat.le_trans (dl_len B) hm2)
  clear hm2
  obtain ⟨n, hn⟩ : ∃ n, l.length = n := ⟨_, rfl⟩
  rw [hn] at hm HO HE1 HE2 ⊢
  obtain ⟨n2, hn2⟩ : ∃ n, B.length = n := ⟨_, rfl⟩
  rw [hn2] at HD1 HD2 ⊢
  clear hn hn2
  go_enter Try.func9, Try.ntmps9
  go_upto_block 0 with (first
    | (go_at_call 11; refine (HE1.out _ (Below.refl _ _)).mono ?_; rintro e u1 ⟨y1, rfl, hown, hb⟩; have H1 := Lib.hid (And.intro hb hown); clear hown hb)
    | (go_at_call 7; refine (HE2.out _ H1.out.1).mono ?_; rintro e u2 ⟨y2, rfl, hown, hb⟩; have H2 := Lib.hid (And.intro (blt H1.out.1 hb) (And.intro (own_below H1.out.2 hb) hown)); clear hown hb)
    | (go_at_call 12; refine (HD1.out _ H2.out.1).mono ?_; rintro e u3 ⟨y3, rfl, hown, hb⟩; have H3 := Lib.hid (And.intro (blt H2.out.1 hb) (And.intro (own_below H2.out.2.1 hb) (And.intro (own_below H2.out.2.2 hb) hown))); clear hown hb)
    | (go_at_call 20; refine (HD2.out _ H3.out.1).mono ?_; rintro e u4 ⟨y4, rfl, hown, hb⟩; have H4 := Lib.hid (And.intro (blt H3.out.1 hb) (And.intro (own_below H3.out.2.1 hb) (And.intro (own_below H3.out.2.2.1 hb) (And.intro (own_below H3.out.2.2.2 hb) hown)))); clear hown hb; have t1 := txt_any H4.out.2.1 (Below.refl _ _); have t2 := txt_any H4.out.2.2.1 (Below.refl _ _))
    | (go_at_call 21; refine (sameall_any (In.dl B) _ _ _ (RowIn.own H4.out.2.2.2.1) (RowIn.own H4.out.2.2.2.2) HDL.out).mono ?_; rintro e u5 ⟨rfl, hb⟩; have H5 := Lib.hid (blt H4.out.1 hb); clear hb))
  clear t1 t2
  go_wp2_with fail
  go_loopw [13] (fun i wr => ∃ k : Nat, k ≤ n ∧ i = .int .i64 (k : Nat) ∧ Hid (Below w.heap.size w wr)) (fun i _ => n - (intOf i).toNat)
  case atStart => exact ⟨0, Nat.zero_le _, rfl, H5⟩
  case round =>
    obtain ⟨k, hk, rfl, HK⟩ := hrel
    clear H1 H2 H3 H4 H5
    by_cases hlt : (k : Int) < n
    · have hkn : k < n := by omega
      obtain ⟨b, off, rfl, hb0, x0, x1, x2, x3, x4, x5⟩ := HO.out k hkn
      generalize l.getD k In.i0 = i at x0 x1 x2 x3 x4 x5
      obtain ⟨q, hq⟩ : ∃ q, In.chk i = q := ⟨_, rfl⟩
      obtain ⟨qw, hqw⟩ : ∃ q, In.wr i = q := ⟨_, rfl⟩
      obtain ⟨qr, hqr⟩ : ∃ q, In.rds i = q := ⟨_, rfl⟩
      have HC1 := Lib.hid (icheck_any i q hq)
      have HC2 := Lib.hid (rchk_any i q hq)
      have HW1 := Lib.hid (iwr_any i qw hqw)
      have HW2 := Lib.hid (rwr_any i qw hqw)
      have HR1 := Lib.hid (irds_any i qr hqr)
      have HR2 := Lib.hid (rrds_any i qr hqr)
      have HL := Lib.hid (show qr.length ≤ maxLen from by rw [← hqr]; exact rds_len i)
      clear hq hqw hqr
      obtain ⟨ik, ia, ib, ic, io, im⟩ := i
      unfold iAgg at HC1 HC2 HW1 HW2 HR1 HR2
      simp only at HC1 HC2 HW1 HW2 HR1 HR2 x0 x1 x2 x3 x4 x5
      go_wp2_with fail
      refine wp_region_held_drew (S := (fun u => Below w.heap.size w u)) (by kernel_rfl) (HK.out.trans (below_drewN _ _ 1)) (fun hHeld => ?_)
      refine' wpAnyH_take (i := 0) (v := _) ?_ ?_ ?_ ?_ ?_ ?_ ?_ ?_
      rotate_left 2
      focus (simp only [List.getElem?_toArray, List.getElem?_cons_succ, List.getElem?_cons_zero]; rfl)
      focus kernel_rfl
      focus kernel_rfl
      focus kernel_rfl
      focus exact (fun _ _ _ h => h)
      refine Or.inl ⟨?_, ?_⟩
      focus (go_simp; done)
      focus (intro w hSw; have c0 := (hSw.cell (p := ⟨b, off + k * 6, none⟩) hb0).trans x0; have c1 := (hSw.cell (p := ⟨b, off + k * 6 + 1, none⟩) hb0).trans x1; have c2 := (hSw.cell (p := ⟨b, off + k * 6 + 2, none⟩) hb0).trans x2; have c3 := (hSw.cell (p := ⟨b, off + k * 6 + 3, none⟩) hb0).trans x3; have c4 := (hSw.cell (p := ⟨b, off + k * 6 + 4, none⟩) hb0).trans x4; have c5 := (hSw.cell (p := ⟨b, off + k * 6 + 5, none⟩) hb0).trans x5; (first | (go_simp; done) | (go_simp; with_reducible rfl)))
      focus assumption
      (try simp only [Act.put, List.setIfInBounds_toArray, List.set_cons_zero, List.set_cons_succ])
      refine' wpAnyH_take (i := 1) (v := _) ?_ ?_ ?_ ?_ ?_ ?_ ?_ ?_
      rotate_left 2
      focus (simp only [List.getElem?_toArray, List.getElem?_cons_succ, List.getElem?_cons_zero]; rfl)
      focus kernel_rfl
      focus kernel_rfl
      focus kernel_rfl
      focus exact (fun _ _ _ h => h)
      refine Or.inl ⟨?_, ?_⟩
      focus (go_simp; done)
      focus (intro w hSw; have c0 := (hSw.cell (p := ⟨b, off + k * 6, none⟩) hb0).trans x0; have c1 := (hSw.cell (p := ⟨b, off + k * 6 + 1, none⟩) hb0).trans x1; have c2 := (hSw.cell (p := ⟨b, off + k * 6 + 2, none⟩) hb0).trans x2; have c3 := (hSw.cell (p := ⟨b, off + k * 6 + 3, none⟩) hb0).trans x3; have c4 := (hSw.cell (p := ⟨b, off + k * 6 + 4, none⟩) hb0).trans x4; have c5 := (hSw.cell (p := ⟨b, off + k * 6 + 5, none⟩) hb0).trans x5; (first | (go_simp; done) | (go_simp; with_reducible rfl)))
      focus assumption
      (try simp only [Act.put, List.setIfInBounds_toArray, List.set_cons_zero, List.set_cons_succ])
      refine' wpAnyH_take (i := 2) (v := _) ?_ ?_ ?_ ?_ ?_ ?_ ?_ ?_
      rotate_left 2
      focus (simp only [List.getElem?_toArray, List.getElem?_cons_succ, List.getElem?_cons_zero]; rfl)
      focus kernel_rfl
      focus kernel_rfl
      focus kernel_rfl
      focus exact (fun _ _ _ h => h)
      refine Or.inl ⟨?_, ?_⟩
      focus (go_simp; done)
      focus (intro w hSw; have c0 := (hSw.cell (p := ⟨b, off + k * 6, none⟩) hb0).trans x0; have c1 := (hSw.cell (p := ⟨b, off + k * 6 + 1, none⟩) hb0).trans x1; have c2 := (hSw.cell (p := ⟨b, off + k * 6 + 2, none⟩) hb0).trans x2; have c3 := (hSw.cell (p := ⟨b, off + k * 6 + 3, none⟩) hb0).trans x3; have c4 := (hSw.cell (p := ⟨b, off + k * 6 + 4, none⟩) hb0).trans x4; have c5 := (hSw.cell (p := ⟨b, off + k * 6 + 5, none⟩) hb0).trans x5; (first | (go_simp; done) | (go_simp; with_reducible rfl)))
      focus assumption
      (try simp only [Act.put, List.setIfInBounds_toArray, List.set_cons_zero, List.set_cons_succ])
      refine' wpAnyH_take (i := 3) (v := _) ?_ ?_ ?_ ?_ ?_ ?_ ?_ ?_
      rotate_left 2
      focus (simp only [List.getElem?_toArray, List.getElem?_cons_succ, List.getElem?_cons_zero]; rfl)
      focus kernel_rfl
      focus kernel_rfl
      focus kernel_rfl
      focus exact (fun _ _ _ h => h)
      refine Or.inl ⟨?_, ?_⟩
      focus (go_simp; done)
      focus (intro w hSw; have c0 := (hSw.cell (p := ⟨b, off + k * 6, none⟩) hb0).trans x0; have c1 := (hSw.cell (p := ⟨b, off + k * 6 + 1, none⟩) hb0).trans x1; have c2 := (hSw.cell (p := ⟨b, off + k * 6 + 2, none⟩) hb0).trans x2; have c3 := (hSw.cell (p := ⟨b, off + k * 6 + 3, none⟩) hb0).trans x3; have c4 := (hSw.cell (p := ⟨b, off + k * 6 + 4, none⟩) hb0).trans x4; have c5 := (hSw.cell (p := ⟨b, off + k * 6 + 5, none⟩) hb0).trans x5; (first | (go_simp; done) | (go_simp; with_reducible rfl)))
      focus assumption
      (try simp only [Act.put, List.setIfInBounds_toArray, List.set_cons_zero, List.set_cons_succ])
      refine' wpAnyH_take (i := 5) (v := _) ?_ ?_ ?_ ?_ ?_ ?_ ?_ ?_
      rotate_left 2
      focus (simp only [List.getElem?_toArray, List.getElem?_cons_succ, List.getElem?_cons_zero]; rfl)
      focus kernel_rfl
      focus kernel_rfl
      focus kernel_rfl
      focus exact (fun _ _ _ h => h)
      refine Or.inl ⟨?_, ?_⟩
      focus (go_simp; done)
      focus (intro w hSw; have c0 := (hSw.cell (p := ⟨b, off + k * 6, none⟩) hb0).trans x0; have c1 := (hSw.cell (p := ⟨b, off + k * 6 + 1, none⟩) hb0).trans x1; have c2 := (hSw.cell (p := ⟨b, off + k * 6 + 2, none⟩) hb0).trans x2; have c3 := (hSw.cell (p := ⟨b, off + k * 6 + 3, none⟩) hb0).trans x3; have c4 := (hSw.cell (p := ⟨b, off + k * 6 + 4, none⟩) hb0).trans x4; have c5 := (hSw.cell (p := ⟨b, off + k * 6 + 5, none⟩) hb0).trans x5; (first | (go_simp; done) | (go_simp; with_reducible rfl)))
      focus assumption
      (try simp only [Act.put, List.setIfInBounds_toArray, List.set_cons_zero, List.set_cons_succ])
      refine' wpAnyH_take (i := 6) (v := _) ?_ ?_ ?_ ?_ ?_ ?_ ?_ ?_
      rotate_left 2
      focus (simp only [List.getElem?_toArray, List.getElem?_cons_succ, List.getElem?_cons_zero]; rfl)
      focus kernel_rfl
      focus kernel_rfl
      focus kernel_rfl
      focus exact (fun _ _ _ h => h)
      refine Or.inl ⟨?_, ?_⟩
      focus (go_simp; done)
      focus (intro w hSw; have c0 := (hSw.cell (p := ⟨b, off + k * 6, none⟩) hb0).trans x0; have c1 := (hSw.cell (p := ⟨b, off + k * 6 + 1, none⟩) hb0).trans x1; have c2 := (hSw.cell (p := ⟨b, off + k * 6 + 2, none⟩) hb0).trans x2; have c3 := (hSw.cell (p := ⟨b, off + k * 6 + 3, none⟩) hb0).trans x3; have c4 := (hSw.cell (p := ⟨b, off + k * 6 + 4, none⟩) hb0).trans x4; have c5 := (hSw.cell (p := ⟨b, off + k * 6 + 5, none⟩) hb0).trans x5; (first | (go_simp; done) | (go_simp; with_reducible rfl)))
      focus assumption
      (try simp only [Act.put, List.setIfInBounds_toArray, List.set_cons_zero, List.set_cons_succ])
      refine' wpAnyH_take (i := 7) (v := _) ?_ ?_ ?_ ?_ ?_ ?_ ?_ ?_
      rotate_left 2
      focus (simp only [List.getElem?_toArray, List.getElem?_cons_succ, List.getElem?_cons_zero]; rfl)
      focus kernel_rfl
      focus kernel_rfl
      focus kernel_rfl
      focus exact (fun _ _ _ h => h)
      refine Or.inl ⟨?_, ?_⟩
      focus (go_simp; done)
      focus (intro w hSw; have c0 := (hSw.cell (p := ⟨b, off + k * 6, none⟩) hb0).trans x0; have c1 := (hSw.cell (p := ⟨b, off + k * 6 + 1, none⟩) hb0).trans x1; have c2 := (hSw.cell (p := ⟨b, off + k * 6 + 2, none⟩) hb0).trans x2; have c3 := (hSw.cell (p := ⟨b, off + k * 6 + 3, none⟩) hb0).trans x3; have c4 := (hSw.cell (p := ⟨b, off + k * 6 + 4, none⟩) hb0).trans x4; have c5 := (hSw.cell (p := ⟨b, off + k * 6 + 5, none⟩) hb0).trans x5; (first | (go_simp; done) | (go_simp; with_reducible rfl)))
      focus assumption
      (try simp only [Act.put, List.setIfInBounds_toArray, List.set_cons_zero, List.set_cons_succ])
      refine' wpAnyH_take (i := 8) (v := _) ?_ ?_ ?_ ?_ ?_ ?_ ?_ ?_
      rotate_left 2
      focus (simp only [List.getElem?_toArray, List.getElem?_cons_succ, List.getElem?_cons_zero]; rfl)
      focus kernel_rfl
      focus kernel_rfl
      focus kernel_rfl
      focus exact (fun _ _ _ h => h)
      refine Or.inl ⟨?_, ?_⟩
      focus (go_simp; done)
      focus (intro w hSw; have c0 := (hSw.cell (p := ⟨b, off + k * 6, none⟩) hb0).trans x0; have c1 := (hSw.cell (p := ⟨b, off + k * 6 + 1, none⟩) hb0).trans x1; have c2 := (hSw.cell (p := ⟨b, off + k * 6 + 2, none⟩) hb0).trans x2; have c3 := (hSw.cell (p := ⟨b, off + k * 6 + 3, none⟩) hb0).trans x3; have c4 := (hSw.cell (p := ⟨b, off + k * 6 + 4, none⟩) hb0).trans x4; have c5 := (hSw.cell (p := ⟨b, off + k * 6 + 5, none⟩) hb0).trans x5; (first | (go_simp; done) | (go_simp; with_reducible rfl)))
      focus assumption
      (try simp only [Act.put, List.setIfInBounds_toArray, List.set_cons_zero, List.set_cons_succ])
      refine wpAnyH_ready (rs := [4]) (by kernel_rfl) (by simp) ?_
      refine' AllReadyH.cons ?_ (fun K hK => ?_) AllReadyH.nil
      rotate_left
      focus (simp only [List.getElem?_toArray, List.getElem?_cons_succ, List.getElem?_cons_zero]; rfl)
      go_simp
      go_at_call 22
      refine Calls.mono (HC1.out _) ?_
      rintro e w9 ⟨rfl, hb⟩
      refine hK.out _ _ (blt hHeld hb) (fun hHeld => ?_)
      clear hK K
      (try simp only [Act.put, List.setIfInBounds_toArray, List.set_cons_zero, List.set_cons_succ])
      clear hb
      refine wpAnyH_ready (rs := [9]) (by kernel_rfl) (by simp) ?_
      refine' AllReadyH.cons ?_ (fun K hK => ?_) AllReadyH.nil
      rotate_left
      focus (simp only [List.getElem?_toArray, List.getElem?_cons_succ, List.getElem?_cons_zero]; rfl)
      go_simp
      go_at_call 19
      refine Calls.mono (HC2.out _) ?_
      rintro e w9 ⟨rfl, hb⟩
      refine hK.out _ _ (blt hHeld hb) (fun hHeld => ?_)
      clear hK K
      (try simp only [Act.put, List.setIfInBounds_toArray, List.set_cons_zero, List.set_cons_succ])
      clear hb
      refine' wpAnyH_take (i := 10) (v := _) ?_ ?_ ?_ ?_ ?_ ?_ ?_ ?_
      rotate_left 2
      focus (simp only [List.getElem?_toArray, List.getElem?_cons_succ, List.getElem?_cons_zero]; rfl)
      focus kernel_rfl
      focus kernel_rfl
      focus kernel_rfl
      focus exact (fun _ _ _ h => h)
      refine Or.inl ⟨?_, ?_⟩
      focus (go_simp; done)
      focus (intro w hSw; have c0 := (hSw.cell (p := ⟨b, off + k * 6, none⟩) hb0).trans x0; have c1 := (hSw.cell (p := ⟨b, off + k * 6 + 1, none⟩) hb0).trans x1; have c2 := (hSw.cell (p := ⟨b, off + k * 6 + 2, none⟩) hb0).trans x2; have c3 := (hSw.cell (p := ⟨b, off + k * 6 + 3, none⟩) hb0).trans x3; have c4 := (hSw.cell (p := ⟨b, off + k * 6 + 4, none⟩) hb0).trans x4; have c5 := (hSw.cell (p := ⟨b, off + k * 6 + 5, none⟩) hb0).trans x5; (first | (go_simp; done) | (go_simp; with_reducible rfl)))
      focus assumption
      (try simp only [Act.put, List.setIfInBounds_toArray, List.set_cons_zero, List.set_cons_succ])
      refine' wpAnyH_take (i := 11) (v := _) ?_ ?_ ?_ ?_ ?_ ?_ ?_ ?_
      rotate_left 2
      focus (simp only [List.getElem?_toArray, List.getElem?_cons_succ, List.getElem?_cons_zero]; rfl)
      focus kernel_rfl
      focus kernel_rfl
      focus kernel_rfl
      focus exact (fun _ _ _ h => h)
      refine Or.inl ⟨?_, ?_⟩
      focus (go_simp; done)
      focus (intro w hSw; have c0 := (hSw.cell (p := ⟨b, off + k * 6, none⟩) hb0).trans x0; have c1 := (hSw.cell (p := ⟨b, off + k * 6 + 1, none⟩) hb0).trans x1; have c2 := (hSw.cell (p := ⟨b, off + k * 6 + 2, none⟩) hb0).trans x2; have c3 := (hSw.cell (p := ⟨b, off + k * 6 + 3, none⟩) hb0).trans x3; have c4 := (hSw.cell (p := ⟨b, off + k * 6 + 4, none⟩) hb0).trans x4; have c5 := (hSw.cell (p := ⟨b, off + k * 6 + 5, none⟩) hb0).trans x5; (first | (go_simp; done) | (go_simp; with_reducible rfl)))
      focus assumption
      (try simp only [Act.put, List.setIfInBounds_toArray, List.set_cons_zero, List.set_cons_succ])
      refine' wpAnyH_take (i := 12) (v := _) ?_ ?_ ?_ ?_ ?_ ?_ ?_ ?_
      rotate_left 2
      focus (simp only [List.getElem?_toArray, List.getElem?_cons_succ, List.getElem?_cons_zero]; rfl)
      focus kernel_rfl
      focus kernel_rfl
      focus kernel_rfl
      focus exact (fun _ _ _ h => h)
      refine Or.inl ⟨?_, ?_⟩
      focus (go_simp; done)
      focus (intro w hSw; have c0 := (hSw.cell (p := ⟨b, off + k * 6, none⟩) hb0).trans x0; have c1 := (hSw.cell (p := ⟨b, off + k * 6 + 1, none⟩) hb0).trans x1; have c2 := (hSw.cell (p := ⟨b, off + k * 6 + 2, none⟩) hb0).trans x2; have c3 := (hSw.cell (p := ⟨b, off + k * 6 + 3, none⟩) hb0).trans x3; have c4 := (hSw.cell (p := ⟨b, off + k * 6 + 4, none⟩) hb0).trans x4; have c5 := (hSw.cell (p := ⟨b, off + k * 6 + 5, none⟩) hb0).trans x5; (first | (go_simp; done) | (go_simp; with_reducible rfl)))
      focus assumption
      (try simp only [Act.put, List.setIfInBounds_toArray, List.set_cons_zero, List.set_cons_succ])
      refine' wpAnyH_take (i := 13) (v := _) ?_ ?_ ?_ ?_ ?_ ?_ ?_ ?_
      rotate_left 2
      focus (simp only [List.getElem?_toArray, List.getElem?_cons_succ, List.getElem?_cons_zero]; rfl)
      focus kernel_rfl
      focus kernel_rfl
      focus kernel_rfl
      focus exact (fun _ _ _ h => h)
      refine Or.inl ⟨?_, ?_⟩
      focus (go_simp; done)
      focus (intro w hSw; have c0 := (hSw.cell (p := ⟨b, off + k * 6, none⟩) hb0).trans x0; have c1 := (hSw.cell (p := ⟨b, off + k * 6 + 1, none⟩) hb0).trans x1; have c2 := (hSw.cell (p := ⟨b, off + k * 6 + 2, none⟩) hb0).trans x2; have c3 := (hSw.cell (p := ⟨b, off + k * 6 + 3, none⟩) hb0).trans x3; have c4 := (hSw.cell (p := ⟨b, off + k * 6 + 4, none⟩) hb0).trans x4; have c5 := (hSw.cell (p := ⟨b, off + k * 6 + 5, none⟩) hb0).trans x5; (first | (go_simp; done) | (go_simp; with_reducible rfl)))
      focus assumption
      (try simp only [Act.put, List.setIfInBounds_toArray, List.set_cons_zero, List.set_cons_succ])
      refine' wpAnyH_take (i := 14) (v := _) ?_ ?_ ?_ ?_ ?_ ?_ ?_ ?_
      rotate_left 2
      focus (simp only [List.getElem?_toArray, List.getElem?_cons_succ, List.getElem?_cons_zero]; rfl)
      focus kernel_rfl
      focus kernel_rfl
      focus kernel_rfl
      focus exact (fun _ _ _ h => h)
      refine Or.inl ⟨?_, ?_⟩
      focus (go_simp; done)
      focus (intro w hSw; have c0 := (hSw.cell (p := ⟨b, off + k * 6, none⟩) hb0).trans x0; have c1 := (hSw.cell (p := ⟨b, off + k * 6 + 1, none⟩) hb0).trans x1; have c2 := (hSw.cell (p := ⟨b, off + k * 6 + 2, none⟩) hb0).trans x2; have c3 := (hSw.cell (p := ⟨b, off + k * 6 + 3, none⟩) hb0).trans x3; have c4 := (hSw.cell (p := ⟨b, off + k * 6 + 4, none⟩) hb0).trans x4; have c5 := (hSw.cell (p := ⟨b, off + k * 6 + 5, none⟩) hb0).trans x5; (first | (go_simp; done) | (go_simp; with_reducible rfl)))
      focus assumption
      (try simp only [Act.put, List.setIfInBounds_toArray, List.set_cons_zero, List.set_cons_succ])
      refine' wpAnyH_take (i := 15) (v := _) ?_ ?_ ?_ ?_ ?_ ?_ ?_ ?_
      rotate_left 2
      focus (simp only [List.getElem?_toArray, List.getElem?_cons_succ, List.getElem?_cons_zero]; rfl)
      focus kernel_rfl
      focus kernel_rfl
      focus kernel_rfl
      focus exact (fun _ _ _ h => h)
      refine Or.inl ⟨?_, ?_⟩
      focus (go_simp; done)
      focus (intro w hSw; have c0 := (hSw.cell (p := ⟨b, off + k * 6, none⟩) hb0).trans x0; have c1 := (hSw.cell (p := ⟨b, off + k * 6 + 1, none⟩) hb0).trans x1; have c2 := (hSw.cell (p := ⟨b, off + k * 6 + 2, none⟩) hb0).trans x2; have c3 := (hSw.cell (p := ⟨b, off + k * 6 + 3, none⟩) hb0).trans x3; have c4 := (hSw.cell (p := ⟨b, off + k * 6 + 4, none⟩) hb0).trans x4; have c5 := (hSw.cell (p := ⟨b, off + k * 6 + 5, none⟩) hb0).trans x5; (first | (go_simp; done) | (go_simp; with_reducible rfl)))
      focus assumption
      (try simp only [Act.put, List.setIfInBounds_toArray, List.set_cons_zero, List.set_cons_succ])
      refine' wpAnyH_take (i := 17) (v := _) ?_ ?_ ?_ ?_ ?_ ?_ ?_ ?_
      rotate_left 2
      focus (simp only [List.getElem?_toArray, List.getElem?_cons_succ, List.getElem?_cons_zero]; rfl)
      focus kernel_rfl
      focus kernel_rfl
      focus kernel_rfl
      focus exact (fun _ _ _ h => h)
      refine Or.inl ⟨?_, ?_⟩
      focus (go_simp; done)
      focus (intro w hSw; have c0 := (hSw.cell (p := ⟨b, off + k * 6, none⟩) hb0).trans x0; have c1 := (hSw.cell (p := ⟨b, off + k * 6 + 1, none⟩) hb0).trans x1; have c2 := (hSw.cell (p := ⟨b, off + k * 6 + 2, none⟩) hb0).trans x2; have c3 := (hSw.cell (p := ⟨b, off + k * 6 + 3, none⟩) hb0).trans x3; have c4 := (hSw.cell (p := ⟨b, off + k * 6 + 4, none⟩) hb0).trans x4; have c5 := (hSw.cell (p := ⟨b, off + k * 6 + 5, none⟩) hb0).trans x5; (first | (go_simp; done) | (go_simp; with_reducible rfl)))
      focus assumption
      (try simp only [Act.put, List.setIfInBounds_toArray, List.set_cons_zero, List.set_cons_succ])
      refine' wpAnyH_take (i := 18) (v := _) ?_ ?_ ?_ ?_ ?_ ?_ ?_ ?_
      rotate_left 2
      focus (simp only [List.getElem?_toArray, List.getElem?_cons_succ, List.getElem?_cons_zero]; rfl)
      focus kernel_rfl
      focus kernel_rfl
      focus kernel_rfl
      focus exact (fun _ _ _ h => h)
      refine Or.inl ⟨?_, ?_⟩
      focus (go_simp; done)
      focus (intro w hSw; have c0 := (hSw.cell (p := ⟨b, off + k * 6, none⟩) hb0).trans x0; have c1 := (hSw.cell (p := ⟨b, off + k * 6 + 1, none⟩) hb0).trans x1; have c2 := (hSw.cell (p := ⟨b, off + k * 6 + 2, none⟩) hb0).trans x2; have c3 := (hSw.cell (p := ⟨b, off + k * 6 + 3, none⟩) hb0).trans x3; have c4 := (hSw.cell (p := ⟨b, off + k * 6 + 4, none⟩) hb0).trans x4; have c5 := (hSw.cell (p := ⟨b, off + k * 6 + 5, none⟩) hb0).trans x5; (first | (go_simp; done) | (go_simp; with_reducible rfl)))
      focus assumption
      (try simp only [Act.put, List.setIfInBounds_toArray, List.set_cons_zero, List.set_cons_succ])
      refine' wpAnyH_take (i := 19) (v := _) ?_ ?_ ?_ ?_ ?_ ?_ ?_ ?_
      rotate_left 2
      focus (simp only [List.getElem?_toArray, List.getElem?_cons_succ, List.getElem?_cons_zero]; rfl)
      focus kernel_rfl
      focus kernel_rfl
      focus kernel_rfl
      focus exact (fun _ _ _ h => h)
      refine Or.inl ⟨?_, ?_⟩
      focus (go_simp; done)
      focus (intro w hSw; have c0 := (hSw.cell (p := ⟨b, off + k * 6, none⟩) hb0).trans x0; have c1 := (hSw.cell (p := ⟨b, off + k * 6 + 1, none⟩) hb0).trans x1; have c2 := (hSw.cell (p := ⟨b, off + k * 6 + 2, none⟩) hb0).trans x2; have c3 := (hSw.cell (p := ⟨b, off + k * 6 + 3, none⟩) hb0).trans x3; have c4 := (hSw.cell (p := ⟨b, off + k * 6 + 4, none⟩) hb0).trans x4; have c5 := (hSw.cell (p := ⟨b, off + k * 6 + 5, none⟩) hb0).trans x5; (first | (go_simp; done) | (go_simp; with_reducible rfl)))
      focus assumption
      (try simp only [Act.put, List.setIfInBounds_toArray, List.set_cons_zero, List.set_cons_succ])
      refine' wpAnyH_take (i := 20) (v := _) ?_ ?_ ?_ ?_ ?_ ?_ ?_ ?_
      rotate_left 2
      focus (simp only [List.getElem?_toArray, List.getElem?_cons_succ, List.getElem?_cons_zero]; rfl)
      focus kernel_rfl
      focus kernel_rfl
      focus kernel_rfl
      focus exact (fun _ _ _ h => h)
      refine Or.inl ⟨?_, ?_⟩
      focus (go_simp; done)
      focus (intro w hSw; have c0 := (hSw.cell (p := ⟨b, off + k * 6, none⟩) hb0).trans x0; have c1 := (hSw.cell (p := ⟨b, off + k * 6 + 1, none⟩) hb0).trans x1; have c2 := (hSw.cell (p := ⟨b, off + k * 6 + 2, none⟩) hb0).trans x2; have c3 := (hSw.cell (p := ⟨b, off + k * 6 + 3, none⟩) hb0).trans x3; have c4 := (hSw.cell (p := ⟨b, off + k * 6 + 4, none⟩) hb0).trans x4; have c5 := (hSw.cell (p := ⟨b, off + k * 6 + 5, none⟩) hb0).trans x5; (first | (go_simp; done) | (go_simp; with_reducible rfl)))
      focus assumption
      (try simp only [Act.put, List.setIfInBounds_toArray, List.set_cons_zero, List.set_cons_succ])
      refine wpAnyH_ready (rs := [16]) (by kernel_rfl) (by simp) ?_
      refine' AllReadyH.cons ?_ (fun K hK => ?_) AllReadyH.nil
      rotate_left
      focus (simp only [List.getElem?_toArray, List.getElem?_cons_succ, List.getElem?_cons_zero]; rfl)
      go_simp
      go_at_call 17
      refine Calls.mono (HW1.out _) ?_
      rintro e w9 ⟨rfl, hb⟩
      refine hK.out _ _ (blt hHeld hb) (fun hHeld => ?_)
      clear hK K
      (try simp only [Act.put, List.setIfInBounds_toArray, List.set_cons_zero, List.set_cons_succ])
      clear hb
      refine wpAnyH_ready (rs := [21]) (by kernel_rfl) (by simp) ?_
      refine' AllReadyH.cons ?_ (fun K hK => ?_) AllReadyH.nil
      rotate_left
      focus (simp only [List.getElem?_toArray, List.getElem?_cons_succ, List.getElem?_cons_zero]; rfl)
      go_simp
      go_at_call 23
      refine Calls.mono (HW2.out _) ?_
      rintro e w9 ⟨rfl, hb⟩
      refine hK.out _ _ (blt hHeld hb) (fun hHeld => ?_)
      clear hK K
      (try simp only [Act.put, List.setIfInBounds_toArray, List.set_cons_zero, List.set_cons_succ])
      clear hb
      refine' wpAnyH_take (i := 22) (v := _) ?_ ?_ ?_ ?_ ?_ ?_ ?_ ?_
      rotate_left 2
      focus (simp only [List.getElem?_toArray, List.getElem?_cons_succ, List.getElem?_cons_zero]; rfl)
      focus kernel_rfl
      focus kernel_rfl
      focus kernel_rfl
      focus exact (fun _ _ _ h => h)
      refine Or.inl ⟨?_, ?_⟩
      focus (go_simp; done)
      focus (intro w hSw; have c0 := (hSw.cell (p := ⟨b, off + k * 6, none⟩) hb0).trans x0; have c1 := (hSw.cell (p := ⟨b, off + k * 6 + 1, none⟩) hb0).trans x1; have c2 := (hSw.cell (p := ⟨b, off + k * 6 + 2, none⟩) hb0).trans x2; have c3 := (hSw.cell (p := ⟨b, off + k * 6 + 3, none⟩) hb0).trans x3; have c4 := (hSw.cell (p := ⟨b, off + k * 6 + 4, none⟩) hb0).trans x4; have c5 := (hSw.cell (p := ⟨b, off + k * 6 + 5, none⟩) hb0).trans x5; (first | (go_simp; done) | (go_simp; with_reducible rfl)))
      focus assumption
      (try simp only [Act.put, List.setIfInBounds_toArray, List.set_cons_zero, List.set_cons_succ])
      refine' wpAnyH_take (i := 23) (v := _) ?_ ?_ ?_ ?_ ?_ ?_ ?_ ?_
      rotate_left 2
      focus (simp only [List.getElem?_toArray, List.getElem?_cons_succ, List.getElem?_cons_zero]; rfl)
      focus kernel_rfl
      focus kernel_rfl
      focus kernel_rfl
      focus exact (fun _ _ _ h => h)
      refine Or.inl ⟨?_, ?_⟩
      focus (go_simp; done)
      focus (intro w hSw; have c0 := (hSw.cell (p := ⟨b, off + k * 6, none⟩) hb0).trans x0; have c1 := (hSw.cell (p := ⟨b, off + k * 6 + 1, none⟩) hb0).trans x1; have c2 := (hSw.cell (p := ⟨b, off + k * 6 + 2, none⟩) hb0).trans x2; have c3 := (hSw.cell (p := ⟨b, off + k * 6 + 3, none⟩) hb0).trans x3; have c4 := (hSw.cell (p := ⟨b, off + k * 6 + 4, none⟩) hb0).trans x4; have c5 := (hSw.cell (p := ⟨b, off + k * 6 + 5, none⟩) hb0).trans x5; (first | (go_simp; done) | (go_simp; with_reducible rfl)))
      focus assumption
      (try simp only [Act.put, List.setIfInBounds_toArray, List.set_cons_zero, List.set_cons_succ])
      refine' wpAnyH_take (i := 24) (v := _) ?_ ?_ ?_ ?_ ?_ ?_ ?_ ?_
      rotate_left 2
      focus (simp only [List.getElem?_toArray, List.getElem?_cons_succ, List.getElem?_cons_zero]; rfl)
      focus kernel_rfl
      focus kernel_rfl
      focus kernel_rfl
      focus exact (fun _ _ _ h => h)
      refine Or.inl ⟨?_, ?_⟩
      focus (go_simp; done)
      focus (intro w hSw; have c0 := (hSw.cell (p := ⟨b, off + k * 6, none⟩) hb0).trans x0; have c1 := (hSw.cell (p := ⟨b, off + k * 6 + 1, none⟩) hb0).trans x1; have c2 := (hSw.cell (p := ⟨b, off + k * 6 + 2, none⟩) hb0).trans x2; have c3 := (hSw.cell (p := ⟨b, off + k * 6 + 3, none⟩) hb0).trans x3; have c4 := (hSw.cell (p := ⟨b, off + k * 6 + 4, none⟩) hb0).trans x4; have c5 := (hSw.cell (p := ⟨b, off + k * 6 + 5, none⟩) hb0).trans x5; (first | (go_simp; done) | (go_simp; with_reducible rfl)))
      focus assumption
      (try simp only [Act.put, List.setIfInBounds_toArray, List.set_cons_zero, List.set_cons_succ])
      refine' wpAnyH_take (i := 25) (v := _) ?_ ?_ ?_ ?_ ?_ ?_ ?_ ?_
      rotate_left 2
      focus (simp only [List.getElem?_toArray, List.getElem?_cons_succ, List.getElem?_cons_zero]; rfl)
      focus kernel_rfl
      focus kernel_rfl
      focus kernel_rfl
      focus exact (fun _ _ _ h => h)
      refine Or.inl ⟨?_, ?_⟩
      focus (go_simp; done)
      focus (intro w hSw; have c0 := (hSw.cell (p := ⟨b, off + k * 6, none⟩) hb0).trans x0; have c1 := (hSw.cell (p := ⟨b, off + k * 6 + 1, none⟩) hb0).trans x1; have c2 := (hSw.cell (p := ⟨b, off + k * 6 + 2, none⟩) hb0).trans x2; have c3 := (hSw.cell (p := ⟨b, off + k * 6 + 3, none⟩) hb0).trans x3; have c4 := (hSw.cell (p := ⟨b, off + k * 6 + 4, none⟩) hb0).trans x4; have c5 := (hSw.cell (p := ⟨b, off + k * 6 + 5, none⟩) hb0).trans x5; (first | (go_simp; done) | (go_simp; with_reducible rfl)))
      focus assumption
      (try simp only [Act.put, List.setIfInBounds_toArray, List.set_cons_zero, List.set_cons_succ])
      refine' wpAnyH_take (i := 26) (v := _) ?_ ?_ ?_ ?_ ?_ ?_ ?_ ?_
      rotate_left 2
      focus (simp only [List.getElem?_toArray, List.getElem?_cons_succ, List.getElem?_cons_zero]; rfl)
      focus kernel_rfl
      focus kernel_rfl
      focus kernel_rfl
      focus exact (fun _ _ _ h => h)
      refine Or.inl ⟨?_, ?_⟩
      focus (go_simp; done)
      focus (intro w hSw; have c0 := (hSw.cell (p := ⟨b, off + k * 6, none⟩) hb0).trans x0; have c1 := (hSw.cell (p := ⟨b, off + k * 6 + 1, none⟩) hb0).trans x1; have c2 := (hSw.cell (p := ⟨b, off + k * 6 + 2, none⟩) hb0).trans x2; have c3 := (hSw.cell (p := ⟨b, off + k * 6 + 3, none⟩) hb0).trans x3; have c4 := (hSw.cell (p := ⟨b, off + k * 6 + 4, none⟩) hb0).trans x4; have c5 := (hSw.cell (p := ⟨b, off + k * 6 + 5, none⟩) hb0).trans x5; (first | (go_simp; done) | (go_simp; with_reducible rfl)))
      focus assumption
      (try simp only [Act.put, List.setIfInBounds_toArray, List.set_cons_zero, List.set_cons_succ])
      refine' wpAnyH_take (i := 27) (v := _) ?_ ?_ ?_ ?_ ?_ ?_ ?_ ?_
      rotate_left 2
      focus (simp only [List.getElem?_toArray, List.getElem?_cons_succ, List.getElem?_cons_zero]; rfl)
      focus kernel_rfl
      focus kernel_rfl
      focus kernel_rfl
      focus exact (fun _ _ _ h => h)
      refine Or.inl ⟨?_, ?_⟩
      focus (go_simp; done)
      focus (intro w hSw; have c0 := (hSw.cell (p := ⟨b, off + k * 6, none⟩) hb0).trans x0; have c1 := (hSw.cell (p := ⟨b, off + k * 6 + 1, none⟩) hb0).trans x1; have c2 := (hSw.cell (p := ⟨b, off + k * 6 + 2, none⟩) hb0).trans x2; have c3 := (hSw.cell (p := ⟨b, off + k * 6 + 3, none⟩) hb0).trans x3; have c4 := (hSw.cell (p := ⟨b, off + k * 6 + 4, none⟩) hb0).trans x4; have c5 := (hSw.cell (p := ⟨b, off + k * 6 + 5, none⟩) hb0).trans x5; (first | (go_simp; done) | (go_simp; with_reducible rfl)))
      focus assumption
      (try simp only [Act.put, List.setIfInBounds_toArray, List.set_cons_zero, List.set_cons_succ])
      refine' wpAnyH_take (i := 28) (v := _) ?_ ?_ ?_ ?_ ?_ ?_ ?_ ?_
      rotate_left 2
      focus (simp only [List.getElem?_toArray, List.getElem?_cons_succ, List.getElem?_cons_zero]; rfl)
      focus kernel_rfl
      focus kernel_rfl
      focus kernel_rfl
      focus exact (fun _ _ _ h => h)
      refine Or.inl ⟨?_, ?_⟩
      focus (go_simp; done)
      focus (intro w hSw; have c0 := (hSw.cell (p := ⟨b, off + k * 6, none⟩) hb0).trans x0; have c1 := (hSw.cell (p := ⟨b, off + k * 6 + 1, none⟩) hb0).trans x1; have c2 := (hSw.cell (p := ⟨b, off + k * 6 + 2, none⟩) hb0).trans x2; have c3 := (hSw.cell (p := ⟨b, off + k * 6 + 3, none⟩) hb0).trans x3; have c4 := (hSw.cell (p := ⟨b, off + k * 6 + 4, none⟩) hb0).trans x4; have c5 := (hSw.cell (p := ⟨b, off + k * 6 + 5, none⟩) hb0).trans x5; (first | (go_simp; done) | (go_simp; with_reducible rfl)))
      focus assumption
      (try simp only [Act.put, List.setIfInBounds_toArray, List.set_cons_zero, List.set_cons_succ])
      refine' wpAnyH_take (i := 30) (v := _) ?_ ?_ ?_ ?_ ?_ ?_ ?_ ?_
      rotate_left 2
      focus (simp only [List.getElem?_toArray, List.getElem?_cons_succ, List.getElem?_cons_zero]; rfl)
      focus kernel_rfl
      focus kernel_rfl
      focus kernel_rfl
      focus exact (fun _ _ _ h => h)
      refine Or.inl ⟨?_, ?_⟩
      focus (go_simp; done)
      focus (intro w hSw; have c0 := (hSw.cell (p := ⟨b, off + k * 6, none⟩) hb0).trans x0; have c1 := (hSw.cell (p := ⟨b, off + k * 6 + 1, none⟩) hb0).trans x1; have c2 := (hSw.cell (p := ⟨b, off + k * 6 + 2, none⟩) hb0).trans x2; have c3 := (hSw.cell (p := ⟨b, off + k * 6 + 3, none⟩) hb0).trans x3; have c4 := (hSw.cell (p := ⟨b, off + k * 6 + 4, none⟩) hb0).trans x4; have c5 := (hSw.cell (p := ⟨b, off + k * 6 + 5, none⟩) hb0).trans x5; (first | (go_simp; done) | (go_simp; with_reducible rfl)))
      focus assumption
      (try simp only [Act.put, List.setIfInBounds_toArray, List.set_cons_zero, List.set_cons_succ])
      refine' wpAnyH_take (i := 31) (v := _) ?_ ?_ ?_ ?_ ?_ ?_ ?_ ?_
      rotate_left 2
      focus (simp only [List.getElem?_toArray, List.getElem?_cons_succ, List.getElem?_cons_zero]; rfl)
      focus kernel_rfl
      focus kernel_rfl
      focus kernel_rfl
      focus exact (fun _ _ _ h => h)
      refine Or.inl ⟨?_, ?_⟩
      focus (go_simp; done)
      focus (intro w hSw; have c0 := (hSw.cell (p := ⟨b, off + k * 6, none⟩) hb0).trans x0; have c1 := (hSw.cell (p := ⟨b, off + k * 6 + 1, none⟩) hb0).trans x1; have c2 := (hSw.cell (p := ⟨b, off + k * 6 + 2, none⟩) hb0).trans x2; have c3 := (hSw.cell (p := ⟨b, off + k * 6 + 3, none⟩) hb0).trans x3; have c4 := (hSw.cell (p := ⟨b, off + k * 6 + 4, none⟩) hb0).trans x4; have c5 := (hSw.cell (p := ⟨b, off + k * 6 + 5, none⟩) hb0).trans x5; (first | (go_simp; done) | (go_simp; with_reducible rfl)))
      focus assumption
      (try simp only [Act.put, List.setIfInBounds_toArray, List.set_cons_zero, List.set_cons_succ])
      refine' wpAnyH_take (i := 32) (v := _) ?_ ?_ ?_ ?_ ?_ ?_ ?_ ?_
      rotate_left 2
      focus (simp only [List.getElem?_toArray, List.getElem?_cons_succ, List.getElem?_cons_zero]; rfl)
      focus kernel_rfl
      focus kernel_rfl
      focus kernel_rfl
      focus exact (fun _ _ _ h => h)
      refine Or.inl ⟨?_, ?_⟩
      focus (go_simp; done)
      focus (intro w hSw; have c0 := (hSw.cell (p := ⟨b, off + k * 6, none⟩) hb0).trans x0; have c1 := (hSw.cell (p := ⟨b, off + k * 6 + 1, none⟩) hb0).trans x1; have c2 := (hSw.cell (p := ⟨b, off + k * 6 + 2, none⟩) hb0).trans x2; have c3 := (hSw.cell (p := ⟨b, off + k * 6 + 3, none⟩) hb0).trans x3; have c4 := (hSw.cell (p := ⟨b, off + k * 6 + 4, none⟩) hb0).trans x4; have c5 := (hSw.cell (p := ⟨b, off + k * 6 + 5, none⟩) hb0).trans x5; (first | (go_simp; done) | (go_simp; with_reducible rfl)))
      focus assumption
      (try simp only [Act.put, List.setIfInBounds_toArray, List.set_cons_zero, List.set_cons_succ])
      refine' wpAnyH_take (i := 33) (v := _) ?_ ?_ ?_ ?_ ?_ ?_ ?_ ?_
      rotate_left 2
      focus (simp only [List.getElem?_toArray, List.getElem?_cons_succ, List.getElem?_cons_zero]; rfl)
      focus kernel_rfl
      focus kernel_rfl
      focus kernel_rfl
      focus exact (fun _ _ _ h => h)
      refine Or.inl ⟨?_, ?_⟩
      focus (go_simp; done)
      focus (intro w hSw; have c0 := (hSw.cell (p := ⟨b, off + k * 6, none⟩) hb0).trans x0; have c1 := (hSw.cell (p := ⟨b, off + k * 6 + 1, none⟩) hb0).trans x1; have c2 := (hSw.cell (p := ⟨b, off + k * 6 + 2, none⟩) hb0).trans x2; have c3 := (hSw.cell (p := ⟨b, off + k * 6 + 3, none⟩) hb0).trans x3; have c4 := (hSw.cell (p := ⟨b, off + k * 6 + 4, none⟩) hb0).trans x4; have c5 := (hSw.cell (p := ⟨b, off + k * 6 + 5, none⟩) hb0).trans x5; (first | (go_simp; done) | (go_simp; with_reducible rfl)))
      focus assumption
      (try simp only [Act.put, List.setIfInBounds_toArray, List.set_cons_zero, List.set_cons_succ])
      refine wpAnyH_ready (rs := [29]) (by kernel_rfl) (by simp) ?_
      refine' AllReadyH.cons ?_ (fun K hK => ?_) AllReadyH.nil
      rotate_left
      focus (simp only [List.getElem?_toArray, List.getElem?_cons_succ, List.getElem?_cons_zero]; rfl)
      go_simp
      go_at_call 15
      refine Calls.mono (HR1.out _) ?_
      rintro e w9 ⟨⟨v1, rfl, hv⟩, hb⟩
      have HV1 := Lib.hid hv
      clear hv
      refine hK.out _ _ (blt hHeld hb) (fun hHeld => ?_)
      clear hK K
      (try simp only [Act.put, List.setIfInBounds_toArray, List.set_cons_zero, List.set_cons_succ])
      clear hb
      refine wpAnyH_ready (rs := [34]) (by kernel_rfl) (by simp) ?_
      refine' AllReadyH.cons ?_ (fun K hK => ?_) AllReadyH.nil
      rotate_left
      focus (simp only [List.getElem?_toArray, List.getElem?_cons_succ, List.getElem?_cons_zero]; rfl)
      go_simp
      go_at_call 24
      refine Calls.mono (HR2.out _) ?_
      rintro e w9 ⟨⟨v2, rfl, hv⟩, hb⟩
      have HV2 := Lib.hid (And.intro (HV1.out.below hb) hv)
      clear hv
      refine hK.out _ _ (blt hHeld hb) (fun hHeld => ?_)
      clear hK K
      (try simp only [Act.put, List.setIfInBounds_toArray, List.set_cons_zero, List.set_cons_succ])
      clear hb
      refine wpAnyH_ready (rs := [35]) (by kernel_rfl) (by simp) ?_
      refine' AllReadyH.cons ?_ (fun K hK => ?_) AllReadyH.nil
      rotate_left
      focus (simp only [List.getElem?_toArray, List.getElem?_cons_succ, List.getElem?_cons_zero]; rfl)
      go_simp
      go_at_call 18
      refine Calls.mono (sameints_any _ _ _ _ HV2.out.1 HV2.out.2 HL.out) ?_
      rintro e w9 ⟨rfl, hb⟩
      refine hK.out _ _ (blt hHeld hb) (fun hHeld => ?_)
      clear hK K
      (try simp only [Act.put, List.setIfInBounds_toArray, List.set_cons_zero, List.set_cons_succ])
      clear hb
      refine' wpAnyH_take (i := 36) (v := _) ?_ ?_ ?_ ?_ ?_ ?_ ?_ ?_
      rotate_left 2
      focus (simp only [List.getElem?_toArray, List.getElem?_cons_succ, List.getElem?_cons_zero]; rfl)
      focus kernel_rfl
      focus kernel_rfl
      focus kernel_rfl
      focus exact (fun _ _ _ h => h)
      refine Or.inl ⟨?_, ?_⟩
      focus (go_simp; done)
      focus (intro w hSw; have c0 := (hSw.cell (p := ⟨b, off + k * 6, none⟩) hb0).trans x0; have c1 := (hSw.cell (p := ⟨b, off + k * 6 + 1, none⟩) hb0).trans x1; have c2 := (hSw.cell (p := ⟨b, off + k * 6 + 2, none⟩) hb0).trans x2; have c3 := (hSw.cell (p := ⟨b, off + k * 6 + 3, none⟩) hb0).trans x3; have c4 := (hSw.cell (p := ⟨b, off + k * 6 + 4, none⟩) hb0).trans x4; have c5 := (hSw.cell (p := ⟨b, off + k * 6 + 5, none⟩) hb0).trans x5; (first | (go_simp; done) | (go_simp; with_reducible rfl)))
      focus assumption
      (try simp only [Act.put, List.setIfInBounds_toArray, List.set_cons_zero, List.set_cons_succ])
      refine' wpAnyH_take (i := 37) (v := _) ?_ ?_ ?_ ?_ ?_ ?_ ?_ ?_
      rotate_left 2
      focus (simp only [List.getElem?_toArray, List.getElem?_cons_succ, List.getElem?_cons_zero]; rfl)
      focus kernel_rfl
      focus kernel_rfl
      focus kernel_rfl
      focus exact (fun _ _ _ h => h)
      refine Or.inl ⟨?_, ?_⟩
      focus (go_simp; done)
      focus (intro w hSw; have c0 := (hSw.cell (p := ⟨b, off + k * 6, none⟩) hb0).trans x0; have c1 := (hSw.cell (p := ⟨b, off + k * 6 + 1, none⟩) hb0).trans x1; have c2 := (hSw.cell (p := ⟨b, off + k * 6 + 2, none⟩) hb0).trans x2; have c3 := (hSw.cell (p := ⟨b, off + k * 6 + 3, none⟩) hb0).trans x3; have c4 := (hSw.cell (p := ⟨b, off + k * 6 + 4, none⟩) hb0).trans x4; have c5 := (hSw.cell (p := ⟨b, off + k * 6 + 5, none⟩) hb0).trans x5; (first | (go_simp; done) | (go_simp; with_reducible rfl)))
      focus assumption
      (try simp only [Act.put, List.setIfInBounds_toArray, List.set_cons_zero, List.set_cons_succ])
      refine wpAnyH_done (by kernel_rfl) ?_ _
      have HZ := Lib.hid hHeld
      clear hHeld x0 x1 x2 x3 x4 x5
      go_wp2
      exact ⟨⟨k + 1, by omega, by first | rfl | go_num, HZ⟩, by simp [intOf]; omega⟩
    · go_wp2
      go_ret
      exact ⟨rfl, HK.out⟩
end Go.Proofs.Ythcjohfngnffpaa
