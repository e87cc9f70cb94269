/- The code of layer 11: Points. No condition. -/
import Derived.Test.YtpinncjnfbebkaaFcPtsA
import Derived.Deep.RegionWith
import Derived.Deep.DeepCutAuto
import Derived.Deep.CutBlock
namespace Go.Proofs.Ytpinncjnfbebkaa
open Go.RowKit
set_option linter.unusedVariables false
set_option linter.unusedSimpArgs false
attribute [local go_sem] y_undef
theorem lstsS_nil (w : World) : LstsS w (.slice none 0 0) [] := ⟨none, 0, rfl, fun i hi => by simp at hi⟩
theorem miss_any (ps : List (List Int)) (m : Nat) (h : (List.range ps.length).any (fun k => miss m (ps.getD k [])) = false) : ∀ q ∈ ps, ∀ x ∈ q, x < (m : Int) := by
  intro q hq x hx
  obtain ⟨i, hi, rfl⟩ := List.getElem_of_mem hq
  have h1 := any_false h i hi
  simp only [List.getD, List.getElem?_eq_getElem hi, Option.getD_some] at h1
  obtain ⟨j, hj, rfl⟩ := List.getElem_of_mem hx
  have h2 := any_false h1 j hj
  simp only [List.getD, List.getElem?_eq_getElem hj, Option.getD_some, decide_eq_false_iff_not] at h2
  omega
set_option maxRecDepth 100000 in
set_option maxHeartbeats 16000000 in
theorem fpoints_any (ps : List (List Int)) (vp : Value) (ts : List (List Int)) (vt : Value) (r : List (List Int) × Int) (w : World) (hp : LstsS w vp ps) (hmp : ps.length ≤ maxLen) (hmp2 : ∀ q ∈ ps, q.length ≤ maxLen) (ht : LstsS w vt ts) (hmt : ts.length ≤ maxLen) (hmt2 : ∀ q ∈ ts, q.length ≤ maxLen)
    (hr : Fa.pointsR ps ts = r) : Calls Try.prog 21 #[vp, vt] w (PtsPost r w) := by
  obtain ⟨bp, hbp⟩ : ∃ x, Fa.isMapB ps = x := ⟨_, rfl⟩
  obtain ⟨bt, hbt⟩ : ∃ x, Fa.isMapB ts = x := ⟨_, rfl⟩
  have HCp := Lib.hid (fvalid_any ps vp bp w hp.lsts hmp hmp2 hbp)
  have HCt := Lib.hid fun (u : World) (hb : Below w.heap.size w u) => fvalid_any ts vt bt u (ht.lsts.below hb) hmt hmt2 hbt
  have HCl := Lib.hid fun (u : World) (b : Bool) (hb : Below w.heap.size w u) (h : (List.range ps.length).any (fun k => miss ts.length (ps.getD k [])) = b) => flisted_any ps ts vp vt b u (hp.lsts.below hb) hmp hmp2 (ht.lsts.below hb) hmt h
  obtain ⟨A, c, rfl, hop⟩ := hp
  obtain ⟨C, d, rfl, hot⟩ := ht
  have HOp := Lib.hid hop
  have HOt := Lib.hid hot
  have HR := Lib.hid hr
  unfold maxLen at hmp hmt
  obtain ⟨iI, hi0, hz0, hz1, hz2⟩ := info_parts Try.infoInt
  have HII := Lib.hid (And.intro hi0 (And.intro hz0 (And.intro hz1 hz2)))
  clear hi0 hz0 hz1 hz2
  obtain ⟨iL, hi0, hz0, hz1, hz2⟩ := info_parts Try.infoLi
  have HIL := Lib.hid (And.intro hi0 (And.intro hz0 (And.intro hz1 hz2)))
  clear hi0 hz0 hz1 hz2 hop hot hr hmp2 hmt2
  obtain ⟨n, hn⟩ : ∃ n, ps.length = n := ⟨_, rfl⟩
  obtain ⟨m, hm⟩ : ∃ m, ts.length = m := ⟨_, rfl⟩
  have HN := Lib.hid hn
  have HM := Lib.hid hm
  rw [hn] at hmp HOp HCp HCl
  rw [hm] at hmt HOt HCt HCl
  rw [hn, hm]
  cases bp with
  | false =>
    have HE := Lib.hid (HR.out.symm.trans (Fa.pt_form (.inl hbp)))
    clear hbp hbt hn hm
    go_enter Try.func21, Try.ntmps21
    go_wp2_with (go_at_call 34; refine HCp.out.mono ?_; rintro e w1 ⟨rfl, hb1⟩; have HB1 := Lib.hid hb1; clear hb1)
    go_ret2
    rw [HE.out]
    exact ⟨_, rfl, lstsS_nil _, HB1.out⟩
  | true =>
    cases bt with
    | false =>
      have HE := Lib.hid (HR.out.symm.trans (Fa.pt_form (.inr hbt)))
      clear hbp hbt hn hm
      go_enter Try.func21, Try.ntmps21
      go_wp2_with (first | (go_at_call 34; with_reducible refine HCp.out.mono ?_; rintro e w1 ⟨rfl, hb1⟩; have HB1 := Lib.hid hb1; clear hb1) | (go_at_call 34; refine (HCt.out _ HB1.out).mono ?_; rintro e w2 ⟨rfl, hb2⟩; have HB2 := Lib.hid (HB1.out.trans (hb2.mono HB1.out.size)); clear hb2))
      go_ret2
      rw [HE.out]
      exact ⟨_, rfl, lstsS_nil _, HB2.out⟩
    | true =>
      have HBp := Lib.hid hbp
      have HBt := Lib.hid hbt
      cases hms : (List.range n).any fun k => miss m (ps.getD k [])
      · have HMs := Lib.hid hms
        have HAll := Lib.hid (show ∀ q ∈ ps, ∀ x ∈ q, x < (ts.length : Int) from miss_any ps ts.length (by rw [hn, hm]; exact hms))
        have HRst := Lib.hid (HR.out.symm.trans (Fa.pt_rest hbp hbt HAll.out))
        have hn256 : n ≤ 256 := by have := Fa.map_len hbp; omega
        clear hbp hbt hn hm hms
        go_enter Try.func21, Try.ntmps21
        go_wp2_with (first | (go_at_call 34; with_reducible refine HCp.out.mono ?_; rintro e w1 ⟨rfl, hb1⟩; have HB1 := Lib.hid hb1; clear hb1) | (go_at_call 34; refine (HCt.out _ HB1.out).mono ?_; rintro e w2 ⟨rfl, hb2⟩; have HB2 := Lib.hid (HB1.out.trans (hb2.mono HB1.out.size)); clear hb2))
        refine (HCl.out _ false HB2.out HMs.out).mono ?_
        rintro e w3 ⟨rfl, hb3⟩
        have HB3 := Lib.hid (HB2.out.trans (hb3.mono HB2.out.size))
        clear hb3 HCl HCt HCp HB1 HB2
        obtain ⟨w4, hmk, hown, hgr⟩ := run_makeSlice_full (P := Try.prog) w3 w.heap.size 32 22 iL _ 1 Try.underlying32 HIL.out.1 HIL.out.2.1 HIL.out.2.2.1 .i64 .i64 n (by omega) (by rw [HIL.out.2.2.2]; omega) (by unfold maxLen; omega) HB3.out.size
        have e0 : (madeCells (Value.slice none 0 0).cells (n * 1)).toList = List.replicate n (.slice none 0 0) := by rw [Nat.mul_one]; exact toList_madeCells_one _ _
        rw [e0] at hown
        obtain ⟨g, hgeq⟩ : ∃ g, w3.heap.size = g := ⟨_, rfl⟩
        have hgw : w.heap.size ≤ g := by have := HB3.out.size; omega
        have HB4 := Lib.hid (HB3.out.grown hgr HB3.out.size (fun k hk => by cases hk))
        rw [hgeq] at hown hmk
        have HM4 := Lib.hid (show Mps w.heap.size w4 (.slice (some ⟨g, 0, none⟩) n n) (List.replicate n (.slice none 0 0)) ((ps.take 0).map (Fa.thr ts) ++ List.replicate (n - 0) []) from Mps.made hown)
        clear hown hgr e0
        go_wp2
        clear hmk
        go_loopw [7, 8, 10, 28] (fun _ _ _ i wr => ∃ (k : Nat) (us : List Value), k ≤ n ∧ i = .int .i64 k ∧ Hid (Below w.heap.size w wr ∧ Mps w.heap.size wr (.slice (some ⟨g, 0, none⟩) n n) us ((ps.take k).map (Fa.thr ts) ++ List.replicate (n - k) [])) ∧ Hid (∀ j, j < k → (Fa.thr ts (ps.getD j [])).length ≤ 256)) (fun _ _ _ i _ => n - (intOf i).toNat)
        case atStart => exact ⟨0, _, Nat.zero_le _, rfl, Lib.hid ⟨HB4.out, HM4.out⟩, Lib.hid fun j hj => absurd hj (Nat.not_lt_zero _)⟩
        case round =>
          clear HM4 HB4
          obtain ⟨k, us, hk, rfl, HK, HF⟩ := hrel
          by_cases hlt : k < n
          · have hlt' : (k : Int) < n := by omega
            have hkl : k < ps.length := by have := HN.out; omega
            obtain ⟨b, off, u, rfl, hbb, hcu, hNq, _⟩ := HOp.out k hlt
            replace hcu := (HK.out.1.cell (p := ⟨b, off + k, none⟩) hbb).trans hcu
            obtain ⟨q, hqe⟩ : ∃ q, ps.getD k [] = q := ⟨_, rfl⟩
            have HQ := Lib.hid hqe
            have hqm := Fa.getD_in hkl []
            rw [hqe] at hNq hqm
            obtain ⟨D, e, rfl, hoq⟩ := hNq.opened
            have HOq := Lib.hid hoq
            have hq256 : q.length ≤ 256 := by have := Fa.map_row HBp.out (i := k) (by have := HN.out; omega); rw [hqe] at this; exact this
            have HXq := Lib.hid (show ∀ x ∈ q, 0 ≤ x ∧ x < (m : Int) from fun x hx => by
              obtain ⟨j, hj, rfl⟩ := List.getElem_of_mem hx
              have h1 := Fa.map_mem HBp.out (i := k) (j := j) (by have := HN.out; omega) (by rw [hqe]; exact hj)
              rw [hqe] at h1
              simp only [List.getD, List.getElem?_eq_getElem hj, Option.getD_some] at h1
              have h2 := HAll.out q hqm _ (List.getElem_mem hj)
              rw [HM.out] at h2
              exact ⟨h1.1, h2⟩)
            obtain ⟨l, hle⟩ : ∃ l, q.length = l := ⟨_, rfl⟩
            have HL := Lib.hid hle
            rw [hle] at HOq hq256 hcu
            have HS0 := Lib.hid (show Mps w.heap.size wr (.slice (some ⟨g, 0, none⟩) n n) us (Fa.sofar ps ts k (Fa.thr ts (q.take 0))) from by
              have h := HK.out.2
              rw [← HN.out, Fa.sofar_start hkl] at h
              rw [← HN.out]
              exact h)
            clear hqe hNq hqm hoq hle
            go_wp2
            clear hcu
            go_loopw [10, 35] (fun _ i wr => ∃ (j : Nat) (us : List Value), j ≤ l ∧ i = .int .i64 j ∧ Hid (Below w.heap.size w wr ∧ Mps w.heap.size wr (.slice (some ⟨g, 0, none⟩) n n) us (Fa.sofar ps ts k (Fa.thr ts (q.take j)))) ∧ Hid ((Fa.thr ts (q.take j)).length ≤ 256)) (fun _ i _ => l - (intOf i).toNat)
            case atStart => exact ⟨0, us, Nat.zero_le _, rfl, Lib.hid ⟨HK.out.1, HS0.out⟩, Lib.hid (by simp [Fa.thr])⟩
            case round =>
              clear HS0 HK
              obtain ⟨j, us, hj, rfl, HJ, HT256⟩ := hrel
              by_cases hlj : j < l
              · have hlj' : (j : Int) < l := by omega
                have hjl : j < q.length := by have := HL.out; omega
                obtain ⟨b3, off3, rfl, hb3, hz⟩ := HOq.out j hlj
                replace hz := (HJ.out.1.cell (p := ⟨b3, off3 + j, none⟩) hb3).trans hz
                have hstep := Fa.thr_step (ts := ts) j hjl
                have hxq := HXq.out _ (Fa.getD_in hjl 0)
                generalize q.getD j 0 = x at hz hstep hxq
                obtain ⟨xn, rfl⟩ := Int.eq_ofNat_of_zero_le hxq.1
                have hxm : xn < m := by omega
                obtain ⟨b2, off2, vR, rfl, hb2, hcq, hNR, hSR⟩ := HOt.out xn hxm
                have ex : ((xn : Nat) : Int).toNat = xn := by omega
                rw [ex] at hstep
                have hr256 := Fa.map_row HBt.out (i := xn) (by have := HM.out; omega)
                generalize ts.getD xn [] = R at hstep hr256 hNR
                obtain ⟨G, e2, rfl, hoR⟩ := hNR.opened
                have hNR2 := fun (u : World) (hb : Below w.heap.size w u) => hNR.below hb
                have HR256 := Lib.hid hr256
                have HRl := Lib.hid (show (R.map (Value.int .i64)).length = R.length * 1 by simp)
                have HRs := Lib.hid (show G = none → R.length = 0 ∧ e2 = 0 from fun h => hSR _ _ (by rw [h]))
                have HStep := Lib.hid hstep
                have hcW : w.cell? ⟨b2, off2 + xn, none⟩ = some (.slice G R.length e2) := hcq
                replace hcq := (HJ.out.1.cell (p := ⟨b2, off2 + xn, none⟩) hb2).trans hcq
                have HRc := Lib.hid (show ∀ ad, G = some ad → ∀ i t, (R.map (Value.int .i64))[i]? = some t → wr.drew.cell? (ad.add i) = some t from fun ad hG i t hi => by
                  have hiR : i < R.length := by have := (List.getElem?_eq_some_iff.1 hi).1; simpa using this
                  obtain ⟨b4, off4, h4, hb4, hz4⟩ := hoR i hiR
                  rw [hG] at h4
                  injection h4 with h4
                  subst h4
                  rw [show (⟨b4, off4, none⟩ : Addr).add i = ⟨b4, off4 + i, none⟩ from by unfold Addr.add; split <;> simp_all]
                  have h5 := (HJ.out.1.cell (p := ⟨b4, off4 + i, none⟩) hb4).trans hz4
                  have h6 : (R.map (Value.int .i64))[i]? = some (.int .i64 (R.getD i 0)) := by simp [List.getD, List.getElem?_eq_getElem hiR]
                  rw [h6] at hi
                  injection hi with hi
                  rw [← hi]
                  exact h5)
                clear hstep hr256 hNR hoR hNR2 hxq ex hSR
                obtain ⟨T, hT⟩ : ∃ T, Fa.thr ts (q.take j) = T := ⟨_, rfl⟩
                have HTe := Lib.hid hT
                rw [hT] at HJ HT256 HStep
                clear hT
                have hul : us.length = n := by have := HJ.out.2.len; rw [Fa.sofar_len hkl] at this; have := HN.out; omega
                obtain ⟨ux, hux⟩ : ∃ ux, us[k]? = some ux := ⟨us[k]'(by omega), List.getElem?_eq_getElem (by omega)⟩
                have hat := Fa.sofar_at (ts := ts) hkl T
                have hOx := HJ.out.2.2.1 k ux hux
                rw [hat] at hOx
                have hcu : wr.cell? ⟨g, k, none⟩ = some ux := by
                  have h := HJ.out.2.1
                  rw [Fa.sofar_len hkl, HN.out] at h
                  exact (h.cellAt k (by omega)).trans hux
                have hgf : wr.frozen? ⟨g, k, none⟩ = false := by
                  have h := HJ.out.2.1
                  rw [Fa.sofar_len hkl, HN.out] at h
                  exact h.frozenAt k
                have hgl : g < wr.heap.size := (HJ.out.2.1.lt g rfl).2
                obtain ⟨A0, d0, hxe, _⟩ := RowIn.own hOx
                subst hxe
                have hapy := HJ.out.2.2.2.2 _ (List.mem_of_getElem? hux)
                have HApn := Lib.hid (show some g ≠ (Value.slice A0 T.length d0).ownBlock from fun h => hapy g rfl h.symm)
                have HPut := Lib.hid (show ∀ (w9 : World) (v9 : Value), w9.ownsRow w.heap.size 3 1 v9 (T.length + R.length) (T.map (Value.int .i64) ++ R.map (Value.int .i64)) → wr.drew.grownBy w9 (Value.slice A0 T.length d0).ownBlock → (v9.ownBlock = (Value.slice A0 T.length d0).ownBlock ∨ v9.ownBlock = some wr.drew.heap.size) →
                    Mps w.heap.size (w9.setCell ⟨g, k, none⟩ v9) (.slice (some ⟨g, 0, none⟩) n n) (us.set k v9) (Fa.sofar ps ts k (T ++ R)) from fun w9 v9 h1 h2 h3 => by
                  have h := Mps.put (i := k) (HJ.out.2.below (below_drewN _ wr 1)) (by rw [Fa.sofar_len hkl]; exact HN.out) hux hat h1 h2 h3
                  rw [Fa.sofar_set hkl] at h
                  exact h)
                have HOx := Lib.hid (show wr.drew.ownsRow w.heap.size 3 1 (.slice A0 T.length d0) T.length (T.map (Value.int .i64)) from hOx)
                have HJb := Lib.hid (show Below w.heap.size w wr.drew from HJ.out.1.trans ((below_drewN _ wr 1)))
                have HBs := Lib.hid (show w.heap.size ≤ wr.drew.heap.size from HJ.out.1.size)
                have hkn : (0 : Int) ≤ (k : Int) ∧ (k : Int) < (n : Int) := by omega
                have hxn : (0 : Int) ≤ (xn : Int) ∧ (xn : Int) < (m : Int) := by omega
                clear hOx hat hapy hul hux
                go_upto_region 12 with fail
                refine wp_region_held_drew (S := (fun u => u.cell? ⟨b2, off2 + xn, none⟩ = some (.slice G R.length e2))) (by kernel_rfl) (by exact hcq) (fun hHeld => ?_)
                refine' wpAnyH_take (i := 0) (v := _) ?_ ?_ ?_ ?_ ?_ ?_ ?_ ?_
                rotate_left 2
                focus (simp only [List.getElem?_toArray, List.getElem?_cons_succ, List.getElem?_cons_zero]; rfl)
                focus kernel_rfl
                focus kernel_rfl
                focus kernel_rfl
                focus exact (fun _ _ _ h => h)
                refine Or.inl ⟨?_, ?_⟩
                focus (go_simp; done)
                focus (intro w hSw; (try dsimp only at hSw); (first | (go_simp; done) | (go_simp; with_reducible rfl)))
                focus assumption
                (try simp only [Act.put, List.setIfInBounds_toArray, List.set_cons_zero, List.set_cons_succ])
                refine' wpAnyH_take (i := 1) (v := _) ?_ ?_ ?_ ?_ ?_ ?_ ?_ ?_
                rotate_left 2
                focus (simp only [List.getElem?_toArray, List.getElem?_cons_succ, List.getElem?_cons_zero]; rfl)
                focus kernel_rfl
                focus kernel_rfl
                focus kernel_rfl
                focus exact (fun _ _ _ h => h)
                refine Or.inl ⟨?_, ?_⟩
                focus (go_simp; done)
                focus (intro w hSw; (try dsimp only at hSw); (first | (go_simp; done) | (go_simp; with_reducible rfl)))
                focus assumption
                (try simp only [Act.put, List.setIfInBounds_toArray, List.set_cons_zero, List.set_cons_succ])
                refine' wpAnyH_take (i := 2) (v := _) ?_ ?_ ?_ ?_ ?_ ?_ ?_ ?_
                rotate_left 2
                focus (simp only [List.getElem?_toArray, List.getElem?_cons_succ, List.getElem?_cons_zero]; rfl)
                focus kernel_rfl
                focus kernel_rfl
                focus kernel_rfl
                focus exact (fun _ _ _ h => h)
                refine Or.inl ⟨?_, ?_⟩
                focus (go_simp; done)
                focus (intro w hSw; (try dsimp only at hSw); (first | (go_simp; done) | (go_simp; with_reducible rfl)))
                focus assumption
                (try simp only [Act.put, List.setIfInBounds_toArray, List.set_cons_zero, List.set_cons_succ])
                refine' wpAnyH_take (i := 3) (v := _) ?_ ?_ ?_ ?_ ?_ ?_ ?_ ?_
                rotate_left 2
                focus (simp only [List.getElem?_toArray, List.getElem?_cons_succ, List.getElem?_cons_zero]; rfl)
                focus kernel_rfl
                focus kernel_rfl
                focus kernel_rfl
                focus exact (fun _ _ _ h => h)
                refine Or.inl ⟨?_, ?_⟩
                focus (go_simp; done)
                focus (intro w hSw; (try dsimp only at hSw); (first | (go_simp; done) | (go_simp; with_reducible rfl)))
                focus assumption
                (try simp only [Act.put, List.setIfInBounds_toArray, List.set_cons_zero, List.set_cons_succ])
                refine' wpAnyH_take (i := 4) (v := _) ?_ ?_ ?_ ?_ ?_ ?_ ?_ ?_
                rotate_left 2
                focus (simp only [List.getElem?_toArray, List.getElem?_cons_succ, List.getElem?_cons_zero]; rfl)
                focus kernel_rfl
                focus kernel_rfl
                focus kernel_rfl
                focus exact (fun _ _ _ h => h)
                refine Or.inl ⟨?_, ?_⟩
                focus (go_simp; done)
                focus (intro w hSw; (try dsimp only at hSw); (first | (go_simp; done) | (go_simp; with_reducible rfl)))
                focus assumption
                (try simp only [Act.put, List.setIfInBounds_toArray, List.set_cons_zero, List.set_cons_succ])
                refine' wpAnyH_take (i := 6) (v := _) ?_ ?_ ?_ ?_ ?_ ?_ ?_ ?_
                rotate_left 2
                focus (simp only [List.getElem?_toArray, List.getElem?_cons_succ, List.getElem?_cons_zero]; rfl)
                focus kernel_rfl
                focus kernel_rfl
                focus kernel_rfl
                focus exact (fun _ _ _ h => h)
                refine Or.inl ⟨?_, ?_⟩
                focus (go_simp; done)
                focus (intro w hSw; (try dsimp only at hSw); (first | (go_simp; done) | (go_simp; with_reducible rfl)))
                focus assumption
                (try simp only [Act.put, List.setIfInBounds_toArray, List.set_cons_zero, List.set_cons_succ])
                refine' wpAnyH_take (i := 7) (v := _) ?_ ?_ ?_ ?_ ?_ ?_ ?_ ?_
                rotate_left 2
                focus (simp only [List.getElem?_toArray, List.getElem?_cons_succ, List.getElem?_cons_zero]; rfl)
                focus kernel_rfl
                focus kernel_rfl
                focus kernel_rfl
                focus exact (fun _ _ _ h => h)
                refine Or.inl ⟨?_, ?_⟩
                focus (go_simp; done)
                focus (intro w hSw; (try dsimp only at hSw); (first | (go_simp; done) | (go_simp; with_reducible rfl)))
                focus assumption
                (try simp only [Act.put, List.setIfInBounds_toArray, List.set_cons_zero, List.set_cons_succ])
                refine' wpAnyH_take (i := 8) (v := _) ?_ ?_ ?_ ?_ ?_ ?_ ?_ ?_
                rotate_left 2
                focus (simp only [List.getElem?_toArray, List.getElem?_cons_succ, List.getElem?_cons_zero]; rfl)
                focus kernel_rfl
                focus kernel_rfl
                focus kernel_rfl
                focus exact (fun _ _ _ h => h)
                refine Or.inl ⟨?_, ?_⟩
                focus (go_simp; done)
                focus (intro w hSw; (try dsimp only at hSw); (first | (go_simp; done) | (go_simp; with_reducible rfl)))
                focus assumption
                (try simp only [Act.put, List.setIfInBounds_toArray, List.set_cons_zero, List.set_cons_succ])
                refine' wpAnyH_take (i := 9) (v := _) ?_ ?_ ?_ ?_ ?_ ?_ ?_ ?_
                rotate_left 2
                focus (simp only [List.getElem?_toArray, List.getElem?_cons_succ, List.getElem?_cons_zero]; rfl)
                focus kernel_rfl
                focus kernel_rfl
                focus kernel_rfl
                focus exact (fun _ _ _ h => h)
                refine Or.inl ⟨?_, ?_⟩
                focus (go_simp; done)
                focus (intro w hSw; (try dsimp only at hSw); (first | (go_simp; done) | (go_simp; with_reducible rfl)))
                focus assumption
                (try simp only [Act.put, List.setIfInBounds_toArray, List.set_cons_zero, List.set_cons_succ])
                refine wpAnyH_ready (rs := [5]) (by kernel_rfl) (by simp) ?_
                refine' AllReadyH.cons ?_ (fun K hK => ?_) AllReadyH.nil
                rotate_left
                focus (simp only [List.getElem?_toArray, List.getElem?_cons_succ, List.getElem?_cons_zero]; rfl)
                have hcu0 : wr.drew.cell? ⟨g, k, none⟩ = some (.slice A0 T.length d0) := hcu
                go_simp
                refine hK.out _ _ hHeld (fun hHeld => ?_)
                clear hK K
                (try simp only [Act.put, List.setIfInBounds_toArray, List.set_cons_zero, List.set_cons_succ])
                refine wpAnyH_ready (rs := [10]) (by kernel_rfl) (by simp) ?_
                refine' AllReadyH.cons ?_ (fun K hK => ?_) AllReadyH.nil
                rotate_left
                focus (simp only [List.getElem?_toArray, List.getElem?_cons_succ, List.getElem?_cons_zero]; rfl)
                refine step_append_both _ rfl (.tmp 44) (.tmp 48) 22 rfl w.heap.size 3 iI _ 1 8 Try.underlying22 HII.out.1 HII.out.2.1 HII.out.2.2.1 HII.out.2.2.2 rfl (by decide) (.slice A0 T.length d0) T.length (T.map (Value.int .i64)) (by simp [Act.eval]) HOx.out G R.length e2 (R.map (Value.int .i64)) (by simp [Act.eval]) HRl.out HRs.out HRc.out (by intro u hu; obtain ⟨x, _, rfl⟩ := List.mem_map.1 hu; rfl) (by have := HT256.out; have := HR256.out; unfold maxLen; omega) (by have := HT256.out; have := HR256.out; omega) HBs.out ?_
                intro v9 w9 hown hgr hvo
                have HV := Lib.hid (HPut.out w9 v9 hown hgr hvo)
                have hbb9 := HJb.out.grown hgr HJb.out.size (fun k hk => (HOx.out.lt k hk).1)
                obtain ⟨A9, c9, hv9, _⟩ := RowIn.own hown
                have hgc9 : w9.cell? ⟨g, k, none⟩ = some (.slice A0 T.length d0) := (World.cell?_of_block (a := ⟨g, k, none⟩) (hgr.block g hgl HApn.out)).trans hcu
                have hgf9 : w9.frozen? ⟨g, k, none⟩ = false := (World.frozen?_of_block (a := ⟨g, k, none⟩) (hgr.block g hgl HApn.out)).trans hgf
                subst hv9
                have HB9 := Lib.hid hbb9
                clear hown hgr hvo
                have hc9 := (hbb9.cell (p := ⟨b2, off2 + xn, none⟩) hb2).trans hcW
                clear hbb9
                refine hK.out _ _ hc9 (fun hHeld => ?_)
                clear hK K
                (try simp only [Act.put, List.setIfInBounds_toArray, List.set_cons_zero, List.set_cons_succ])
                refine' wpAnyH_take (i := 11) (v := _) ?_ ?_ ?_ ?_ ?_ ?_ ?_ ?_
                rotate_left 2
                focus (simp only [List.getElem?_toArray, List.getElem?_cons_succ, List.getElem?_cons_zero]; rfl)
                focus kernel_rfl
                focus kernel_rfl
                focus kernel_rfl
                focus exact (fun _ _ _ h => h)
                refine Or.inl ⟨?_, ?_⟩
                focus (go_simp; done)
                focus (intro w hSw; (try dsimp only at hSw); (first | (go_simp; done) | (go_simp; with_reducible rfl)))
                focus assumption
                (try simp only [Act.put, List.setIfInBounds_toArray, List.set_cons_zero, List.set_cons_succ])
                refine wpAnyH_ready (rs := [12]) (by kernel_rfl) (by simp) ?_
                refine' AllReadyH.cons ?_ (fun K hK => ?_) AllReadyH.nil
                rotate_left
                focus (simp only [List.getElem?_toArray, List.getElem?_cons_succ, List.getElem?_cons_zero]; rfl)
                have HB10 := Lib.hid (show Below w.heap.size w (w9.setCell ⟨g, k, none⟩ (.slice A9 (T.length + R.length) c9)) from HB9.out.setCell hgw _)
                have hc10 := (HB10.out.cell (p := ⟨b2, off2 + xn, none⟩) hb2).trans hcW
                go_simp
                refine hK.out _ _ hc10 (fun hHeld => ?_)
                clear hK K
                (try simp only [Act.put, List.setIfInBounds_toArray, List.set_cons_zero, List.set_cons_succ])
                refine wpAnyH_done (by kernel_rfl) ?_ _
                have HB11 := HB10
                clear hcq hgf hgl hc9 hc10 hcW hz
                by_cases hbig : 256 < T.length + R.length
                · have hbig' : (256 : Int) < (T.length : Int) + (R.length : Int) := by omega
                  have HE := Lib.hid (HRst.out.trans (if_pos ⟨q, by rw [← HQ.out]; exact Fa.getD_in hkl [], by have := Fa.thr_take (ts := ts) q (j + 1); rw [HStep.out, List.length_append] at this; omega⟩))
                  go_wp2
                  go_ret2
                  rw [HE.out]
                  exact ⟨_, rfl, lstsS_nil _, HB11.out⟩
                · have hbig' : ¬ (256 : Int) < (T.length : Int) + (R.length : Int) := by omega
                  go_wp2
                  go_roundw
                  case rel => exact ⟨j + 1, us.set k (.slice A9 (T.length + R.length) c9), by omega, by first | rfl | go_num, Lib.hid ⟨HB11.out, by rw [HStep.out]; exact HV.out⟩, Lib.hid (by rw [HStep.out, List.length_append]; omega)⟩
                  case measure => simp [intOf]; omega
              · have hlj' : ¬ (j : Int) < l := by omega
                obtain rfl : j = l := by omega
                have HJ2 := Lib.hid (show Mps w.heap.size wr (.slice (some ⟨g, 0, none⟩) n n) us ((ps.take (k + 1)).map (Fa.thr ts) ++ List.replicate (n - (k + 1)) []) from by
                  have h := HJ.out.2
                  rw [show q.take j = q by rw [← HL.out, List.take_length], ← HQ.out, Fa.sofar_end hkl, HN.out] at h
                  exact h)
                have HF2 := Lib.hid (show ∀ t, t < k + 1 → (Fa.thr ts (ps.getD t [])).length ≤ 256 from fun t ht => by
                  rcases Nat.lt_succ_iff_lt_or_eq.1 ht with h | rfl
                  · exact HF.out t h
                  · have h := HT256.out
                    rw [show q.take j = q by rw [← HL.out, List.take_length], ← HQ.out] at h
                    exact h)
                go_wp2
                go_roundw
                case rel => exact ⟨k + 1, us, by omega, by first | rfl | go_num, Lib.hid ⟨HJ.out.1, HJ2.out⟩, HF2⟩
                case measure => simp [intOf]; omega
          · have hlt' : ¬ (k : Int) < n := by omega
            obtain rfl : k = n := by omega
            have hM := HK.out.2
            rw [show ps.take k = ps by rw [← HN.out, List.take_length], Nat.sub_self, List.replicate_zero, List.append_nil] at hM
            have HL := Lib.hid hM.lstsS
            have HE := Lib.hid (HRst.out.trans (if_neg (by
              rintro ⟨q, hq, hlq⟩
              obtain ⟨j, hj, rfl⟩ := List.getElem_of_mem hq
              have := HF.out j (by have := HN.out; omega)
              simp only [List.getD, List.getElem?_eq_getElem hj, Option.getD_some] at this
              omega)))
            clear hM
            go_wp2
            go_ret2
            rw [HE.out]
            exact ⟨_, rfl, HL.out, HK.out.1⟩
      · have HMs := Lib.hid hms
        have HE := Lib.hid (show r = ([], 11) from HR.out.symm.trans (by
          obtain ⟨i, hi, hmi⟩ := any_true hms
          obtain ⟨j, hj, hx⟩ := any_true hmi
          exact Fa.pt_block hbp hbt (i := i) (j := j) (by omega) hj (by rw [hm]; simpa using hx)))
        clear hbp hbt hn hm hms
        go_enter Try.func21, Try.ntmps21
        go_wp2_with (first | (go_at_call 34; with_reducible refine HCp.out.mono ?_; rintro e w1 ⟨rfl, hb1⟩; have HB1 := Lib.hid hb1; clear hb1) | (go_at_call 34; refine (HCt.out _ HB1.out).mono ?_; rintro e w2 ⟨rfl, hb2⟩; have HB2 := Lib.hid (HB1.out.trans (hb2.mono HB1.out.size)); clear hb2) | (go_at_call 39; refine (HCl.out _ true HB2.out HMs.out).mono ?_; rintro e w3 ⟨rfl, hb3⟩; have HB3 := Lib.hid (HB2.out.trans (hb3.mono HB2.out.size)); clear hb3))
        go_ret2
        rw [HE.out]
        exact ⟨_, rfl, lstsS_nil _, HB3.out⟩
end Go.Proofs.Ytpinncjnfbebkaa
