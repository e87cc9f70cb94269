/- The specification of layer 11: Sum, Holds. No condition. -/
import Derived.Test.YtpinncjnfbebkaaFaRef
namespace Go.Proofs.Ytpinncjnfbebkaa
open Go.RowKit
set_option linter.unusedVariables false
set_option linter.unusedSimpArgs false
attribute [local go_sem] y_undef
set_option maxHeartbeats 8000000 in
theorem rsum_any (l : Fa.Tms) (most : Int) (v : Value) (cs : List Int) (vc : Value) (p q : Int) (w : World) (hv : PrsIn w v l) (hm : l.length ≤ maxLen) (hc : NumsIn w vc cs) (hmc : cs.length ≤ maxLen) (hr : Fa.sumR l most cs = (p, q)) :
    Calls Try.prog 28 #[.agg #[v, .int .i64 most], vc] w fun e w' => e = .returned (.tuple #[.int .i64 p, .int .i64 q]) ∧ Below w.heap.size w w' := by
  have HB := Lib.hid (bf_new w v most)
  obtain ⟨r, hk⟩ : ∃ r, Fa.chk l most = r := ⟨_, rfl⟩
  have HC := Lib.hid (rcheck_any l most v r (w.alloc (.cells #[v, .int .i64 most] 30)) (hv.below ((Below.refl _ _).alloc (Nat.le_refl _) _)) hm hk)
  have HK := Lib.hid hk
  obtain ⟨A, c, rfl, ho⟩ := hv.opened
  obtain ⟨C, d, rfl, hoc⟩ := hc.opened
  have HO := Lib.hid ho
  have HOc := Lib.hid hoc
  unfold maxLen at hm hmc
  obtain ⟨n, hn⟩ : ∃ n, l.length = n := ⟨_, rfl⟩
  obtain ⟨m, hmm⟩ : ∃ m, cs.length = m := ⟨_, rfl⟩
  have HN := Lib.hid hn
  have HM := Lib.hid hmm
  have HR := Lib.hid hr
  clear hv hc ho hoc hr hk
  rw [hn] at hm HC HB HO
  rw [hmm] at hmc HOc
  clear hn hmm
  by_cases h0 : r = 0
  · have e0 : (r != 0) = false := by simp [h0]
    have HK0 := Lib.hid (HK.out.trans h0)
    clear h0
    rw [HN.out, HM.out]
    go_enter Try.func28, Try.ntmps28
    go_wp2_with fail
    refine HC.out.mono ?_
    rintro e w1 ⟨rfl, hb1⟩
    have HB1 := Lib.hid (HB.out.below hb1)
    clear hb1 HB HC
    by_cases hl : 256 < m
    · have hl' : (256 : Int) < m := by omega
      have HE := Lib.hid (HR.out.symm.trans (Fa.sum_long HK0.out (by have := HM.out; omega)))
      go_wp2
      go_ret2
      exact ⟨by have := HE.out; injection this with h1 h2; rw [h1, h2]; rfl, HB1.out.1.1⟩
    · have hl' : ¬ (256 : Int) < m := by omega
      go_wp2
      go_loopw [7] (fun i wr => ∃ k : Nat, k ≤ m ∧ i = .int .i64 k ∧ Hid ((∀ j, j < k → Fa.cbad (cs.getD j 0) = false) ∧ Bf w (.slice A n c) most wr)) (fun i _ => m - (intOf i).toNat)
      case atStart => exact ⟨0, Nat.zero_le _, rfl, Lib.hid ⟨fun j hj => by omega, HB1.out⟩⟩
      case round =>
        obtain ⟨k, hk, rfl, HKk⟩ := hrel
        by_cases hlt : k < m
        · have hlt' : (k : Int) < m := by omega
          obtain ⟨b, off, rfl, hbb, hx⟩ := HOc.out k hlt
          replace hx := (HKk.out.2.1.1.cell (p := ⟨b, off + k, none⟩) hbb).trans hx
          obtain ⟨x, hxe⟩ : ∃ x, cs.getD k 0 = x := ⟨_, rfl⟩
          rw [hxe] at hx
          have hbad : Fa.cbad (cs.getD k 0) = (decide (x < 0) || decide (2147483648 < x)) := by rw [hxe]; rfl
          clear hxe
          by_cases c1 : x < 0
          · skip
            have HE := Lib.hid (HR.out.symm.trans (Fa.sum_bad HK0.out (by have := HM.out; omega) (by have := HM.out; omega : k < cs.length) (hbad.trans (by simp [c1]))))
            clear hbad
            go_wp2
            go_ret2
            exact ⟨by have := HE.out; injection this with h1 h2; rw [h1, h2]; rfl, HKk.out.2.1.1⟩
          · by_cases c2 : 2147483648 < x
            · skip
              have HE := Lib.hid (HR.out.symm.trans (Fa.sum_bad HK0.out (by have := HM.out; omega) (by have := HM.out; omega : k < cs.length) (hbad.trans (by simp [c2]))))
              clear hbad
              go_wp2
              go_ret2
              exact ⟨by have := HE.out; injection this with h1 h2; rw [h1, h2]; rfl, HKk.out.2.1.1⟩
            · have HOk := Lib.hid (show Fa.cbad (cs.getD k 0) = false from hbad.trans (by simp [c1, c2]))
              clear hbad
              go_wp2
              go_roundw
              case rel => exact ⟨k + 1, by omega, by first | rfl | go_num, Lib.hid ⟨fun j hj => by rcases Nat.lt_succ_iff_lt_or_eq.1 hj with h | rfl; exact HKk.out.1 j h; exact HOk.out, HKk.out.2⟩⟩
              case measure => simp [intOf]; omega
        · have hlt' : ¬ (k : Int) < m := by omega
          have HAll := Lib.hid (show ∀ i, i < cs.length → Fa.cbad (cs.getD i 0) = false from fun i hi => HKk.out.1 i (by have := HM.out; omega))
          have HB2 := Lib.hid HKk.out.2
          have HSt := Lib.hid (HR.out.symm.trans (Fa.sum_ok HK0.out (by have := HM.out; omega) HAll.out))
          have hn64 : n ≤ 64 := by have := (Fa.ok_of HK0.out).1; have := HN.out; omega
          clear HKk hk hlt
          go_wp2
          go_loopw [8, 9] (fun s i wr => ∃ k : Nat, k ≤ n ∧ i = .int .i64 k ∧ s = .int .i64 (Fa.sm l cs k) ∧ Hid (Bf w (.slice A n c) most wr)) (fun _ i _ => n - (intOf i).toNat)
          case atStart => exact ⟨0, Nat.zero_le _, rfl, rfl, HB2⟩
          case round =>
            obtain ⟨j, hj, rfl, rfl, HBj⟩ := hrel
            obtain ⟨hbx, f0, f1⟩ := HBj.out
            by_cases hlt : j < n
            · have hlt2 : (j : Int) < n := by omega
              obtain ⟨b, off, rfl, hbb, hx, hy⟩ := HO.out j hlt
              replace hx := (hbx.1.cell (p := ⟨b, off + j * 2, none⟩) hbb).trans hx
              replace hy := (hbx.1.cell (p := ⟨b, off + j * 2 + 1, none⟩) hbb).trans hy
              obtain ⟨⟨x0, x1⟩, ⟨y0, y1⟩⟩ := Fa.ok_term HK0.out (i := j) (by have := HN.out; omega)
              have hstep : Fa.sm l cs (j + 1) = Fa.sm l cs j + if (l.getD j (0, 0)).1 < cs.length then (l.getD j (0, 0)).2 * cs.getD (l.getD j (0, 0)).1.toNat 0 else 0 := rfl
              have hbd := Fa.sm_bds HK0.out HAll.out j (by have := HN.out; omega)
              have hbd' := Fa.sm_bds HK0.out HAll.out (j + 1) (by have := HN.out; omega)
              rw [HM.out] at hstep
              generalize (l.getD j (0, 0)).1 = x at *
              generalize (l.getD j (0, 0)).2 = y at *
              by_cases c1 : x < m
              · rw [if_pos c1] at hstep
                obtain ⟨xn, rfl⟩ := Int.eq_ofNat_of_zero_le x0
                have hxm : xn < m := by omega
                obtain ⟨b2, off2, rfl, hb2, hz⟩ := HOc.out xn hxm
                replace hz := (hbx.1.cell (p := ⟨b2, off2 + xn, none⟩) hb2).trans hz
                have hzc := Fa.cok (HAll.out xn (by have := HM.out; omega))
                have e2 : ((xn : Nat) : Int).toNat = xn := by omega
                rw [e2] at hstep
                generalize cs.getD xn 0 = z at *
                have hp := Fa.prod_bds ⟨y0, y1⟩ hzc
                have w1 : IntKind.i64.wrap (y * z) = y * z := IntWalk.i64_in _ (by omega)
                have w2 : IntKind.i64.wrap (Fa.sm l cs j + y * z) = Fa.sm l cs j + y * z := IntWalk.i64_in _ (by rw [← hstep]; omega)
                have HSs := Lib.hid hstep
                clear hstep hbd hbd' hp
                generalize Fa.sm l cs j = s at *
                go_wp2
                go_quiet (fail)
                go_wp2
                go_roundw
                case rel => exact ⟨j + 1, by omega, by first | rfl | go_num, by rw [HSs.out], by first | exact HBj | exact Lib.hid (HBj.out.below (below_drewN _ _ _)) | exact Lib.hid ((HBj.out.below (below_drewN _ _ 1)).below (below_drewN _ _ _))⟩
                case measure => simp [intOf]; omega
              · rw [if_neg c1, Int.add_zero] at hstep
                have HSs := Lib.hid hstep
                clear hstep hbd hbd'
                go_wp2
                go_roundw
                case rel => exact ⟨j + 1, by omega, by first | rfl | go_num, by rw [HSs.out], HBj⟩
                case measure => simp [intOf]; omega
            · have hlt2 : ¬ (j : Int) < n := by omega
              have hjn : j = n := by omega
              have HJ := Lib.hid hjn
              clear hjn
              go_wp2
              go_ret2
              exact ⟨by have := HSt.out; injection this with h1 h2; rw [h1, h2, HN.out, ← HJ.out]; rfl, hbx.1⟩
  · have e0 : (r != 0) = true := by simp [h0]
    have HE := Lib.hid (HR.out.symm.trans (Fa.sum_chk (by rw [HK.out]; exact h0)))
    clear h0
    rw [HN.out, HM.out]
    go_enter Try.func28, Try.ntmps28
    go_wp2_with fail
    refine HC.out.mono ?_
    rintro e w1 ⟨rfl, hb1⟩
    have HB1 := Lib.hid (HB.out.below hb1)
    clear hb1
    go_wp2
    go_ret2
    exact ⟨by have := HE.out; injection this with h1 h2; rw [h1, h2, HK.out]; rfl, HB1.out.1.1⟩
set_option maxHeartbeats 2000000 in
theorem rholds_any (l : Fa.Tms) (most : Int) (v : Value) (cs : List Int) (vc : Value) (t : Bool) (w : World) (hv : PrsIn w v l) (hm : l.length ≤ maxLen) (hc : NumsIn w vc cs) (hmc : cs.length ≤ maxLen) (ht : Fa.holds l most cs = t) :
    Calls Try.prog 27 #[.agg #[v, .int .i64 most], vc] w fun e w' => e = .returned (.bool t) ∧ Below w.heap.size w w' := by
  have HB := Lib.hid (bf_new w v most)
  have hb := (Below.refl w.heap.size w).alloc (Nat.le_refl _) (.cells #[v, .int .i64 most] 30)
  obtain ⟨⟨p, q⟩, hpq⟩ : ∃ r, Fa.sumR l most cs = r := ⟨_, rfl⟩
  have HC := Lib.hid (rsum_any l most v cs vc p q _ (hv.below hb) hm (hc.below hb) hmc hpq)
  have HT := Lib.hid (show (decide (q = 0) && decide (p ≤ most)) = t by rw [← ht]; unfold Fa.holds; rw [hpq])
  clear hv hm hc hmc ht hpq hb
  by_cases h0 : q = 0
  · have e0 : (q == 0) = true := by simp [h0]
    have HT2 := Lib.hid (show decide (p ≤ most) = t by rw [← HT.out]; simp [h0])
    clear h0
    go_enter Try.func27, Try.ntmps27
    go_wp2_with fail
    refine HC.out.mono ?_
    rintro e w1 ⟨rfl, hb1⟩
    have HB1 := Lib.hid (HB.out.below hb1)
    obtain ⟨hbx, f0, f1⟩ := HB1.out
    go_wp2
    go_ret
    exact ⟨ret_bool HT2.out, hbx.1⟩
  · have e0 : (q == 0) = false := by simp [h0]
    have HT2 := Lib.hid (show false = t by rw [← HT.out]; simp [h0])
    clear h0
    go_enter Try.func27, Try.ntmps27
    go_wp2_with fail
    refine HC.out.mono ?_
    rintro e w1 ⟨rfl, hb1⟩
    have HB1 := Lib.hid (HB.out.below hb1)
    go_wp2
    go_ret
    exact ⟨ret_bool HT2.out, HB1.out.1.1⟩
/-- Two facts' boxes. -/
def Bf2 (w : World) (v : Value) (a : Int) (v' : Value) (b : Int) (u : World) : Prop := Ahead 2 w u ∧ (u.cell? ⟨w.heap.size, 0, none⟩ = some v ∧ u.cell? ⟨w.heap.size, 1, none⟩ = some (.int .i64 a)) ∧ (u.cell? ⟨w.heap.size + 1, 0, none⟩ = some v' ∧ u.cell? ⟨w.heap.size + 1, 1, none⟩ = some (.int .i64 b))
theorem Bf2.below {w u u' : World} {v v' : Value} {a b : Int} (h : Bf2 w v a v' b u) (hb : Below u.heap.size u u') : Bf2 w v a v' b u' :=
  ⟨h.1.below hb, ⟨h.1.cell0 hb h.2.1.1 (by omega), h.1.cell0 hb h.2.1.2 (by omega)⟩, ⟨h.1.cell hb h.2.2.1 (by omega), h.1.cell hb h.2.2.2 (by omega)⟩⟩
theorem bf2_new (w : World) (v v' : Value) (a b : Int) (t : TypeId) : Bf2 w v a v' b ((w.alloc (.cells #[v, .int .i64 a] t)).alloc (.cells #[v', .int .i64 b] t)) :=
  ⟨((Ahead.refl w).alloc _).alloc _, ⟨by go_simp, by go_simp⟩, ⟨by go_simp, by go_simp⟩⟩
theorem tmFields : Try.prog.fieldsOf 36 = #[{ name := "Of", type := 3, offset := 0, embedded := false, tag := "", pkgPath := "", byteOffset := 0 }, { name := "Coef", type := 3, offset := 1, embedded := false, tag := "", pkgPath := "", byteOffset := 8 }] := by kernel_rfl
theorem tm_neq (a b c d : Int) (r : Bool) (h : (!((a == c) && (b == d))) = r) (w : World) : (binOp .neq 36 (.agg #[.int .i64 a, .int .i64 b]) (.agg #[.int .i64 c, .int .i64 d])).run Try.prog w = .ok (.bool r) w := by
  subst h
  rw [run_neq_struct, run_equalIn_agg w 9999 _ _ _ (by kernel_rfl) (by kernel_rfl), tmFields]
  simp [go_sem, Try.underlying3]
  by_cases h1 : a = c <;> by_cases h2 : b = d <;> simp [h1, h2]
theorem tm_guard (op : BinOp) (x y : Operand) (xs ys : Array Value) (w : World) : (eqGuard op 36 x y (.agg xs) (.agg ys)).run Try.prog w = .ok () w := run_eqGuard_agg w op _ x y xs ys (by kernel_rfl)
set_option maxHeartbeats 4000000 in
/-- Equal facts are equal. -/
theorem rsame_any (l : Fa.Tms) (most : Int) (v v' : Value) (w : World) (hv : PrsIn w v l) (hv' : PrsIn w v' l) (hm : l.length ≤ maxLen) :
    Calls Try.prog 22 #[.agg #[v, .int .i64 most], .agg #[v', .int .i64 most]] w fun e w' => e = .returned (.bool true) ∧ Below w.heap.size w w' := by
  obtain ⟨A, c, rfl, ho⟩ := hv.opened
  obtain ⟨B, d, rfl, ho'⟩ := hv'.opened
  have HB := Lib.hid (bf2_new w (.slice A l.length c) (.slice B l.length d) most most 30)
  have HO := Lib.hid ho
  have HO' := Lib.hid ho'
  unfold maxLen at hm
  have hg := tm_guard
  clear hv hv' ho ho'
  obtain ⟨n, hn⟩ : ∃ n, l.length = n := ⟨_, rfl⟩
  rw [hn] at hm HB HO HO' ⊢
  clear hn
  go_enter Try.func22, Try.ntmps22
  go_wp2
  go_loopw [5] (fun i wr => ∃ k : Nat, k ≤ n ∧ i = .int .i64 k ∧ Hid (Bf2 w (.slice A n c) most (.slice B n d) most wr)) (fun i _ => n - (intOf i).toNat)
  case atStart => exact ⟨0, Nat.zero_le _, rfl, HB⟩
  case round =>
    obtain ⟨k, hk, rfl, HK⟩ := hrel
    obtain ⟨hbx, ⟨f0, f1⟩, ⟨g0, g1⟩⟩ := HK.out
    by_cases hlt : k < n
    · have hlt' : (k : Int) < n := by omega
      obtain ⟨b, off, rfl, hbb, hx, hy⟩ := HO.out k hlt
      obtain ⟨b', off', rfl, hbb', hx', hy'⟩ := HO'.out k hlt
      replace hx := (hbx.1.cell (p := ⟨b, off + k * 2, none⟩) hbb).trans hx
      replace hy := (hbx.1.cell (p := ⟨b, off + k * 2 + 1, none⟩) hbb).trans hy
      replace hx' := (hbx.1.cell (p := ⟨b', off' + k * 2, none⟩) hbb').trans hx'
      replace hy' := (hbx.1.cell (p := ⟨b', off' + k * 2 + 1, none⟩) hbb').trans hy'
      generalize (l.getD k (0, 0)).1 = x at *
      generalize (l.getD k (0, 0)).2 = y at *
      have he := tm_neq x y x y false (by simp)
      go_wp2
      go_quiet (fail)
      go_wp2
      go_roundw
      case rel => exact ⟨k + 1, by omega, by first | rfl | go_num, Lib.hid (HK.out.below (below_drewN _ _ _))⟩
      case measure => simp [intOf]; omega
    · have hlt' : ¬ (k : Int) < n := by omega
      go_wp2
      go_ret
      exact ⟨rfl, hbx.1⟩
end Go.Proofs.Ytpinncjnfbebkaa
