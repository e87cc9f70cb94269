/- The code of layer 11: Sum, Holds. No condition. -/
import Derived.Test.YtpinncjnfbebkaaFcCheck
import Derived.Test.YtpinncjnfbebkaaFcFind
namespace Go.Proofs.Ytpinncjnfbebkaa
open Go.RowKit
set_option linter.unusedVariables false
set_option linter.unusedSimpArgs false
attribute [local go_sem] y_undef
theorem ent_sum1 (args : Array Value) (w : World) : (callFunc 35 args).run Try.prog w = .ok (.enter 35 args) w := enters_of Try.func35 (by kernel_rfl) rfl args w
theorem hasbad_any (cs : List Int) (v : Value) (w : World) (r : Bool) (hv : NumsIn w v cs) (hm : cs.length ≤ maxLen) (hr : (List.range cs.length).any (fun k => Fa.cbad (cs.getD k 0)) = r) :
    Calls Try.prog 36 #[v, .func (.func 35) #[] #[]] w fun e w' => e = .returned (.bool r) ∧ Below w.heap.size w w' :=
  hasNm_any 35 #[] ent_sum1 cs v w (fun k => Fa.cbad (cs.getD k 0)) hv hm (fun W k hb hk => sum1_any _ _ rfl W) r hr
set_option maxHeartbeats 8000000 in
theorem fsum_any (l : Fa.Tms) (most : Int) (v : Value) (cs : List Int) (vc : Value) (p q : Int) (w : World) (hv : PrsIn w v l) (hm : l.length ≤ maxLen) (hc : NumsIn w vc cs) (hmc : cs.length ≤ maxLen) (hr : Fa.sumR l most cs = (p, q)) :
    Calls Try.prog 18 #[.agg #[v, .int .i64 most], vc] w fun e w' => e = .returned (.tuple #[.int .i64 p, .int .i64 q]) ∧ Below w.heap.size w w' := by
  have HB := Lib.hid (bf_new w v most)
  obtain ⟨r, hk⟩ : ∃ r, Fa.chk l most = r := ⟨_, rfl⟩
  have HC := Lib.hid (fcheck_any l most v r (w.alloc (.cells #[v, .int .i64 most] 30)) (hv.below ((Below.refl _ _).alloc (Nat.le_refl _) _)) hm hk)
  have HH := Lib.hid fun (u : World) (r : Bool) (hb : Below w.heap.size w u) (h : (List.range cs.length).any (fun k => Fa.cbad (cs.getD k 0)) = r) => hasbad_any cs vc u r (hc.below hb) hmc h
  have HK := Lib.hid hk
  obtain ⟨A, c, rfl, ho⟩ := hv.opened
  obtain ⟨C, d, rfl, hoc⟩ := hc.opened
  have HO := Lib.hid ho
  have HOc := Lib.hid hoc
  unfold maxLen at hm hmc
  obtain ⟨n, hn⟩ : ∃ n, l.length = n := ⟨_, rfl⟩
  obtain ⟨m, hmm⟩ : ∃ m, cs.length = m := ⟨_, rfl⟩
  have HN := Lib.hid hn
  have HM := Lib.hid hmm
  have HR := Lib.hid hr
  clear hv hc ho hoc hr hk
  rw [hn] at hm HC HB HO
  rw [hmm] at hmc HOc HH
  clear hn hmm
  by_cases h0 : r = 0
  · have e0 : (r != 0) = false := by simp [h0]
    have HK0 := Lib.hid (HK.out.trans h0)
    clear h0
    rw [HN.out, HM.out]
    by_cases hl : 256 < m
    · have hl' : (256 : Int) < m := by omega
      have HE := Lib.hid (HR.out.symm.trans (Fa.sum_long HK0.out (by have := HM.out; omega)))
      go_enter Try.func18, Try.ntmps18
      go_wp2_with (go_at_call 20; refine HC.out.mono ?_; rintro e w1 ⟨rfl, hb1⟩; have HB1 := Lib.hid (HB.out.below hb1); clear hb1 HB HC)
      go_ret2
      exact ⟨by have := HE.out; injection this with h1 h2; rw [h1, h2]; rfl, HB1.out.1.1⟩
    · have hl' : ¬ (256 : Int) < m := by omega
      cases hh : (List.range m).any (fun k => Fa.cbad (cs.getD k 0))
      · have HF := Lib.hid hh
        have HAll := Lib.hid (show ∀ i, i < cs.length → Fa.cbad (cs.getD i 0) = false from fun i hi => any_false hh i (by have := HM.out; omega))
        have HSt := Lib.hid (HR.out.symm.trans (Fa.sum_ok HK0.out (by have := HM.out; omega) HAll.out))
        have hn64 : n ≤ 64 := by have := (Fa.ok_of HK0.out).1; have := HN.out; omega
        clear hh
        go_enter Try.func18, Try.ntmps18
        go_wp2_with (first | (go_at_call 20; refine HC.out.mono ?_; rintro e w1 ⟨rfl, hb1⟩; have HB1 := Lib.hid (HB.out.below hb1); clear hb1 HB HC; obtain ⟨hbx, f0, f1⟩ := HB1.out) | (go_at_call 36; refine (HH.out w1 false HB1.out.1.1 HF.out).mono ?_; rintro e w2 ⟨rfl, hb2⟩; have HB2 := Lib.hid (HB1.out.below hb2); clear hbx f0 f1 hb2; obtain ⟨hbx, f0, f1⟩ := HB2.out))
        clear hbx f0 f1 HB1
        go_loopw [8, 10, 27] (fun s _ i wr => ∃ k : Nat, k ≤ n ∧ i = .int .i64 k ∧ s = .int .i64 (Fa.sm l cs k) ∧ Hid (Bf w (.slice A n c) most wr)) (fun _ _ i _ => n - (intOf i).toNat)
        case atStart => exact ⟨0, Nat.zero_le _, rfl, rfl, HB2⟩
        case round =>
          obtain ⟨j, hj, rfl, rfl, HBj⟩ := hrel
          obtain ⟨hbx, f0, f1⟩ := HBj.out
          by_cases hlt : j < n
          · have hlt2 : (j : Int) < n := by omega
            obtain ⟨b, off, rfl, hbb, hx, hy⟩ := HO.out j hlt
            replace hx := (hbx.1.cell (p := ⟨b, off + j * 2, none⟩) hbb).trans hx
            replace hy := (hbx.1.cell (p := ⟨b, off + j * 2 + 1, none⟩) hbb).trans hy
            obtain ⟨⟨x0, x1⟩, ⟨y0, y1⟩⟩ := Fa.ok_term HK0.out (i := j) (by have := HN.out; omega)
            have hstep : Fa.sm l cs (j + 1) = Fa.sm l cs j + if (l.getD j (0, 0)).1 < cs.length then (l.getD j (0, 0)).2 * cs.getD (l.getD j (0, 0)).1.toNat 0 else 0 := rfl
            have hbd := Fa.sm_bds HK0.out HAll.out j (by have := HN.out; omega)
            have hbd' := Fa.sm_bds HK0.out HAll.out (j + 1) (by have := HN.out; omega)
            rw [HM.out] at hstep
            generalize (l.getD j (0, 0)).1 = x at *
            generalize (l.getD j (0, 0)).2 = y at *
            by_cases c1 : x < m
            · rw [if_pos c1] at hstep
              obtain ⟨xn, rfl⟩ := Int.eq_ofNat_of_zero_le x0
              have hxm : xn < m := by omega
              obtain ⟨b2, off2, rfl, hb2, hz⟩ := HOc.out xn hxm
              have hblt := Nat.lt_of_lt_of_le hb2 hbx.1.size
              replace hz := (hbx.1.cell (p := ⟨b2, off2 + xn, none⟩) hb2).trans hz
              have hzc := Fa.cok (HAll.out xn (by have := HM.out; omega))
              have e2 : ((xn : Nat) : Int).toNat = xn := by omega
              rw [e2] at hstep
              generalize cs.getD xn 0 = z at *
              have hp := Fa.prod_bds ⟨y0, y1⟩ hzc
              have w1 : IntKind.i64.wrap (y * z) = y * z := IntWalk.i64_in _ (by omega)
              have w2 : IntKind.i64.wrap (Fa.sm l cs j + y * z) = Fa.sm l cs j + y * z := IntWalk.i64_in _ (by rw [← hstep]; omega)
              have HSs := Lib.hid hstep
              clear hstep hbd hbd' hp
              generalize Fa.sm l cs j = s at *
              go_wp2_with fail
              go_quiet (fail)
              go_wp2
              go_roundw
              case rel => exact ⟨j + 1, by omega, by first | rfl | go_num, by rw [HSs.out], Lib.hid ((HBj.out.below ((Below.refl _ _).alloc (Nat.le_refl _) _)).below (below_drewN _ _ _))⟩
              case measure => simp [intOf]; omega
            · rw [if_neg c1, Int.add_zero] at hstep
              have HSs := Lib.hid hstep
              clear hstep hbd hbd'
              go_wp2
              go_roundw
              case rel => exact ⟨j + 1, by omega, by first | rfl | go_num, by rw [HSs.out], Lib.hid (HBj.out.below ((Below.refl _ _).alloc (Nat.le_refl _) _))⟩
              case measure => simp [intOf]; omega
          · have hlt2 : ¬ (j : Int) < n := by omega
            have hjn : j = n := by omega
            have HJ := Lib.hid hjn
            clear hjn
            go_wp2
            go_ret2
            exact ⟨by have := HSt.out; injection this with h1 h2; rw [h1, h2, HN.out, ← HJ.out]; rfl, hbx.1⟩
      · have HF := Lib.hid hh
        obtain ⟨i, hi, hbi⟩ := any_true hh
        have HE := Lib.hid (HR.out.symm.trans (Fa.sum_bad HK0.out (by have := HM.out; omega) (by have := HM.out; omega : i < cs.length) hbi))
        clear hh hbi hi
        go_enter Try.func18, Try.ntmps18
        go_wp2_with (first | (go_at_call 20; refine HC.out.mono ?_; rintro e w1 ⟨rfl, hb1⟩; have HB1 := Lib.hid (HB.out.below hb1); clear hb1 HB HC) | (go_at_call 36; refine (HH.out w1 true HB1.out.1.1 HF.out).mono ?_; rintro e w2 ⟨rfl, hb2⟩; have HB2 := Lib.hid (HB1.out.below hb2)))
        go_ret2
        exact ⟨by have := HE.out; injection this with h1 h2; rw [h1, h2]; rfl, HB2.out.1.1⟩
  · have e0 : (r != 0) = true := by simp [h0]
    have HE := Lib.hid (HR.out.symm.trans (Fa.sum_chk (by rw [HK.out]; exact h0)))
    clear h0
    rw [HN.out, HM.out]
    go_enter Try.func18, Try.ntmps18
    go_wp2_with fail
    refine HC.out.mono ?_
    rintro e w1 ⟨rfl, hb1⟩
    have HB1 := Lib.hid (HB.out.below hb1)
    clear hb1
    go_wp2
    go_ret2
    exact ⟨by have := HE.out; injection this with h1 h2; rw [h1, h2, HK.out]; rfl, HB1.out.1.1⟩
set_option maxHeartbeats 2000000 in
theorem fholds_any (l : Fa.Tms) (most : Int) (v : Value) (cs : List Int) (vc : Value) (t : Bool) (w : World) (hv : PrsIn w v l) (hm : l.length ≤ maxLen) (hc : NumsIn w vc cs) (hmc : cs.length ≤ maxLen) (ht : Fa.holds l most cs = t) :
    Calls Try.prog 19 #[.agg #[v, .int .i64 most], vc] w fun e w' => e = .returned (.bool t) ∧ Below w.heap.size w w' := by
  have HB := Lib.hid (bf_new w v most)
  have hb := (Below.refl w.heap.size w).alloc (Nat.le_refl _) (.cells #[v, .int .i64 most] 30)
  obtain ⟨⟨p, q⟩, hpq⟩ : ∃ r, Fa.sumR l most cs = r := ⟨_, rfl⟩
  have HC := Lib.hid (fsum_any l most v cs vc p q _ (hv.below hb) hm (hc.below hb) hmc hpq)
  have HT := Lib.hid (show (decide (q = 0) && decide (p ≤ most)) = t by rw [← ht]; unfold Fa.holds; rw [hpq])
  clear hv hm hc hmc ht hpq hb
  by_cases h0 : q = 0
  · have e0 : (q == 0) = true := by simp [h0]
    have HT2 := Lib.hid (show decide (p ≤ most) = t by rw [← HT.out]; simp [h0])
    clear h0
    go_enter Try.func19, Try.ntmps19
    go_wp2_with fail
    refine HC.out.mono ?_
    rintro e w1 ⟨rfl, hb1⟩
    have HB1 := Lib.hid (HB.out.below hb1)
    obtain ⟨hbx, f0, f1⟩ := HB1.out
    go_wp2
    go_ret
    exact ⟨ret_bool HT2.out, hbx.1⟩
  · have e0 : (q == 0) = false := by simp [h0]
    have HT2 := Lib.hid (show false = t by rw [← HT.out]; simp [h0])
    clear h0
    go_enter Try.func19, Try.ntmps19
    go_wp2_with fail
    refine HC.out.mono ?_
    rintro e w1 ⟨rfl, hb1⟩
    have HB1 := Lib.hid (HB.out.below hb1)
    go_wp2
    go_ret
    exact ⟨ret_bool HT2.out, HB1.out.1.1⟩
end Go.Proofs.Ytpinncjnfbebkaa
