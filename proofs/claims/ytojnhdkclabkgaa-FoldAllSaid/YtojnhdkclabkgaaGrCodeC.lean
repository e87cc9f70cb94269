/- The code of layer 12: the operations and the successors of a block. No condition. -/
import Derived.Test.YtojnhdkclabkgaaGrCodeB
import Derived.Deep.RegionWith
namespace Go.Proofs.Ytojnhdkclabkgaa
open Go.RowKit
set_option linter.unusedVariables false
set_option linter.unusedSimpArgs false
attribute [local go_sem] y_undef
theorem Gr.opOk_no {V A kd d a b i : Int} (h : ¬ (kd = 1 ∨ kd = 2 ∨ kd = 3 ∨ kd = 4 ∨ kd = 5 ∨ kd = 6 ∨ kd = 7)) : Gr.opOk V A ⟨kd, d, a, b, i⟩ = false := by
  unfold Gr.opOk
  simp only [not_or] at h
  simp [h.1, h.2.1, h.2.2.1, h.2.2.2.1, h.2.2.2.2.1, h.2.2.2.2.2.1, h.2.2.2.2.2.2]
theorem rop_any (Ai Aa Ab Ap Ah : Option Addr) (ni ci na ca nb cb np cp nh ch : Nat) (V K S : Int) (hna : na ≤ maxLen) (kd d a b i : Int) (r : Bool) (hr : Gr.opOk V na ⟨kd, d, a, b, i⟩ = r) (w : World) :
    Calls Try.prog 119 #[.agg #[.slice Ai ni ci, .int .i64 V, .int .i64 K, .slice Aa na ca, .int .i64 S, .slice Ab nb cb, .slice Ap np cp, .slice Ah nh ch], .agg #[.int .i64 kd, .int .i64 d, .int .i64 a, .int .i64 b, .int .i64 i]] w fun e w' => e = .returned (.bool r) ∧ Below w.heap.size w w' := by
  by_cases h : kd = 1 ∨ kd = 2 ∨ kd = 3 ∨ kd = 4 ∨ kd = 5 ∨ kd = 6 ∨ kd = 7
  · rcases h with rfl | rfl | rfl | rfl | rfl | rfl | rfl
    · exact rop_k1 Ai Aa Ab Ap Ah ni ci na ca nb cb np cp nh ch V K S hna d a b i r hr w
    · exact rop_k2 Ai Aa Ab Ap Ah ni ci na ca nb cb np cp nh ch V K S hna d a b i r hr w
    · exact rop_k3 Ai Aa Ab Ap Ah ni ci na ca nb cb np cp nh ch V K S hna d a b i r hr w
    · exact rop_k4 Ai Aa Ab Ap Ah ni ci na ca nb cb np cp nh ch V K S hna d a b i r hr w
    · exact rop_k5 Ai Aa Ab Ap Ah ni ci na ca nb cb np cp nh ch V K S hna d a b i r hr w
    · exact rop_k6 Ai Aa Ab Ap Ah ni ci na ca nb cb np cp nh ch V K S hna d a b i r hr w
    · exact rop_k7 Ai Aa Ab Ap Ah ni ci na ca nb cb np cp nh ch V K S hna d a b i r hr w
  · have HR := Lib.hid ((Gr.opOk_no h).symm.trans hr)
    have HB0 := Lib.hid (bla (bla (Below.refl w.heap.size w) (.cells #[.slice Ai ni ci, .int .i64 V, .int .i64 K, .slice Aa na ca, .int .i64 S, .slice Ab nb cb, .slice Ap np cp, .slice Ah nh ch] 40)) (.cells #[.int .i64 kd, .int .i64 d, .int .i64 a, .int .i64 b, .int .i64 i] 27))
    simp only [not_or] at h
    obtain ⟨h1, h2, h3, h4, h5, h6, h7⟩ := h
    have e1 : (kd == 1) = false := by simp [h1]
    have e2 : (kd == 2) = false := by simp [h2]
    have e3 : (kd == 3) = false := by simp [h3]
    have e4 : (kd == 4) = false := by simp [h4]
    have e5 : (kd == 5) = false := by simp [h5]
    have e6 : (kd == 6) = false := by simp [h6]
    have e7 : (kd == 7) = false := by simp [h7]
    clear h1 h2 h3 h4 h5 h6 h7 hr
    go_enter Try.func119, Try.ntmps119
    go_wp2
    go_ret
    exact ⟨ret_bool HR.out, HB0.out⟩
theorem opsOk_bad {V A : Int} {l : List Gr.Op} {k : Nat} (hk : k < l.length) (h : Gr.opAt V A l k = false) : Gr.opsOk V A l = false := all_false hk h
set_option maxHeartbeats 4000000 in
theorem rops_any (Ai Aa Ab Ap Ah : Option Addr) (ni ci na ca nb cb np cp nh ch : Nat) (V K S : Int) (hna : na ≤ maxLen) (l : List Gr.Op) (v : Value) (r : Bool) (hr : Gr.opsOk V na l = r) (w : World) (hv : OpsIn w v l) (hm : l.length ≤ maxLen) :
    Calls Try.prog 80 #[.agg #[.slice Ai ni ci, .int .i64 V, .int .i64 K, .slice Aa na ca, .int .i64 S, .slice Ab nb cb, .slice Ap np cp, .slice Ah nh ch], v] w fun e w' => e = .returned (.bool r) ∧ Below w.heap.size w w' := by
  obtain ⟨A, c, rfl, ho⟩ := hv.opened
  have HO := Lib.hid ho
  unfold maxLen at hm
  obtain ⟨n, hn⟩ : ∃ n, l.length = n := ⟨_, rfl⟩
  have HR : Hid ((List.range n).all (Gr.opAt V na l) = r) := Lib.hid (by rw [← hn]; exact hr)
  rw [hn] at hm HO ⊢
  have HN := Lib.hid hn
  have HG0 := Lib.hid (Bk.new w 40 #[.slice Ai ni ci, .int .i64 V, .int .i64 K, .slice Aa na ca, .int .i64 S, .slice Ab nb cb, .slice Ap np cp, .slice Ah nh ch])
  have HB0 := Lib.hid (bla (Below.refl w.heap.size w) (.cells #[.slice Ai ni ci, .int .i64 V, .int .i64 K, .slice Aa na ca, .int .i64 S, .slice Ab nb cb, .slice Ap np cp, .slice Ah nh ch] 40))
  clear hv ho hr hn
  go_enter Try.func80, Try.ntmps80
  go_wp2
  go_loopw [5, 6, 9] (fun _ _ i wr => ∃ k : Nat, k ≤ n ∧ i = .int .i64 k ∧ Hid (Below w.heap.size w wr) ∧ Hid (Bk wr w.heap.size 40 #[.slice Ai ni ci, .int .i64 V, .int .i64 K, .slice Aa na ca, .int .i64 S, .slice Ab nb cb, .slice Ap np cp, .slice Ah nh ch]) ∧ Hid (∀ j, j < k → Gr.opAt V na l j = true)) (fun _ _ i _ => n - (intOf i).toNat)
  case atStart => exact ⟨0, Nat.zero_le _, rfl, HB0, HG0, Lib.hid fun j hj => absurd hj (Nat.not_lt_zero _)⟩
  case round =>
    obtain ⟨k, hk, rfl, HB, HG, HF⟩ := hrel
    by_cases hlt : k < n
    · have hlt' : (k : Int) < n := by omega
      obtain ⟨b, off, rfl, hbb, hx0, hx1, hx2, hx3, hx4⟩ := HO.out k hlt
      replace hx0 := (HB.out.cell (p := ⟨b, off + k * 5, none⟩) hbb).trans hx0
      replace hx1 := (HB.out.cell (p := ⟨b, off + k * 5 + 1, none⟩) hbb).trans hx1
      replace hx2 := (HB.out.cell (p := ⟨b, off + k * 5 + 2, none⟩) hbb).trans hx2
      replace hx3 := (HB.out.cell (p := ⟨b, off + k * 5 + 3, none⟩) hbb).trans hx3
      replace hx4 := (HB.out.cell (p := ⟨b, off + k * 5 + 4, none⟩) hbb).trans hx4
      have HAt := Lib.hid (show Gr.opAt V na l k = (Gr.opOk V na (l.getD k Gr.op0) && !(decide ((l.getD k Gr.op0).kind = 6) && decide (k ≠ 0)) && !(decide ((l.getD k Gr.op0).kind = 7) && decide (k + 1 ≠ n))) by rw [← HN.out]; rfl)
      generalize (l.getD k Gr.op0) = o at *
      obtain ⟨kd, d, a, bb, i⟩ := o
      simp only at hx0 hx1 hx2 hx3 hx4
      have hgs : w.heap.size < wr.heap.size := HG.out.lt
      have g0 := HG.out.cell 0
      have g1 := HG.out.cell 1
      have g2 := HG.out.cell 2
      have g3 := HG.out.cell 3
      have g4 := HG.out.cell 4
      have g5 := HG.out.cell 5
      have g6 := HG.out.cell 6
      have g7 := HG.out.cell 7
      have HO0 := Lib.hid (Bk.new wr 27 #[.int .i64 kd, .int .i64 d, .int .i64 a, .int .i64 bb, .int .i64 i])
      have HBo := Lib.hid (bla (Below.refl wr.heap.size wr) (.cells #[.int .i64 kd, .int .i64 d, .int .i64 a, .int .i64 bb, .int .i64 i] 27))
      cases h1 : Gr.opOk V na ⟨kd, d, a, bb, i⟩
      · have H1 := Lib.hid h1
        clear h1 HO
        go_wp2_with fail
        refine (rop_any Ai Aa Ab Ap Ah ni ci na ca nb cb np cp nh ch V K S hna kd d a bb i _ H1.out _).mono ?_
        rintro e w1 ⟨rfl, hb1⟩
        go_wp2
        go_ret
        exact ⟨ret_bool (HR.out.symm.trans (all_false hlt (HAt.out.trans (by rw [show _ = _ from H1.out]; rfl)))).symm, blt HB.out (blt HBo.out hb1)⟩
      · have H1 := Lib.hid h1
        clear h1
        by_cases h6 : kd = 6
        · subst h6
          by_cases hk0 : k = 0
          · have k0 : ((k : Int) != 0) = false := by simp [hk0]
            have HX := Lib.hid (show Gr.opAt V na l k = true by rw [HAt.out, show _ = _ from H1.out]; simp [hk0])
            clear hk0
            go_wp2_with fail
            refine (rop_any Ai Aa Ab Ap Ah ni ci na ca nb cb np cp nh ch V K S hna 6 d a bb i _ H1.out _).mono ?_
            rintro e w1 ⟨rfl, hb1⟩
            have o0 := (HO0.out.below hb1).cell 0
            have HW := Lib.hid (blt HBo.out hb1)
            clear hb1
            go_wp2
            go_roundw
            case rel => exact ⟨k + 1, by omega, by first | rfl | go_num, Lib.hid (blt HB.out HW.out), Lib.hid (HG.out.below HW.out), Lib.hid fun j hj => by rcases Nat.lt_succ_iff_lt_or_eq.1 hj with h | rfl; exact HF.out j h; exact HX.out⟩
            case measure => simp [intOf]; omega
          · have k0 : ((k : Int) != 0) = true := by simp; omega
            have k1 : ((k : Int) == 0) = false := by simp; omega
            have HX := Lib.hid (show Gr.opAt V na l k = false by rw [HAt.out]; simp [hk0])
            clear hk0
            go_wp2_with fail
            refine (rop_any Ai Aa Ab Ap Ah ni ci na ca nb cb np cp nh ch V K S hna 6 d a bb i _ H1.out _).mono ?_
            rintro e w1 ⟨rfl, hb1⟩
            have o0 := (HO0.out.below hb1).cell 0
            have HW := Lib.hid (blt HBo.out hb1)
            clear hb1
            go_wp2
            go_ret
            exact ⟨ret_bool (HR.out.symm.trans (all_false hlt HX.out)).symm, blt HB.out HW.out⟩
        · have e6 : (kd == 6) = false := by simp [h6]
          by_cases h7 : kd = 7
          · subst h7
            have wm : wrap64 ((n : Int) - 1) = (n : Int) - 1 := by apply wrap64_same; omega
            by_cases hl : k + 1 = n
            · have k0 : ((k : Int) != (n : Int) - 1) = false := by simp; omega
              have HX := Lib.hid (show Gr.opAt V na l k = true by rw [HAt.out, show _ = _ from H1.out]; simp [hl])
              clear hl h6 wm
              go_wp2_with fail
              refine (rop_any Ai Aa Ab Ap Ah ni ci na ca nb cb np cp nh ch V K S hna 7 d a bb i _ H1.out _).mono ?_
              rintro e w1 ⟨rfl, hb1⟩
              have o0 := (HO0.out.below hb1).cell 0
              have HW := Lib.hid (blt HBo.out hb1)
              clear hb1
              go_wp2
              go_roundw
              case rel => exact ⟨k + 1, by omega, by first | rfl | go_num, Lib.hid (blt HB.out HW.out), Lib.hid (HG.out.below HW.out), Lib.hid fun j hj => by rcases Nat.lt_succ_iff_lt_or_eq.1 hj with h | rfl; exact HF.out j h; exact HX.out⟩
              case measure => simp [intOf]; omega
            · have k0 : ((k : Int) != (n : Int) - 1) = true := by simp; omega
              have HX := Lib.hid (show Gr.opAt V na l k = false by rw [HAt.out]; simp [hl])
              clear hl h6 wm
              go_wp2_with fail
              refine (rop_any Ai Aa Ab Ap Ah ni ci na ca nb cb np cp nh ch V K S hna 7 d a bb i _ H1.out _).mono ?_
              rintro e w1 ⟨rfl, hb1⟩
              have o0 := (HO0.out.below hb1).cell 0
              have HW := Lib.hid (blt HBo.out hb1)
              clear hb1
              go_wp2
              go_ret
              exact ⟨ret_bool (HR.out.symm.trans (all_false hlt HX.out)).symm, blt HB.out HW.out⟩
          · have e7 : (kd == 7) = false := by simp [h7]
            have HX := Lib.hid (show Gr.opAt V na l k = true by rw [HAt.out, show _ = _ from H1.out]; simp [h6, h7])
            clear h6 h7
            go_wp2_with fail
            refine (rop_any Ai Aa Ab Ap Ah ni ci na ca nb cb np cp nh ch V K S hna kd d a bb i _ H1.out _).mono ?_
            rintro e w1 ⟨rfl, hb1⟩
            have o0 := (HO0.out.below hb1).cell 0
            have HW := Lib.hid (blt HBo.out hb1)
            clear hb1
            go_wp2
            go_roundw
            case rel => exact ⟨k + 1, by omega, by first | rfl | go_num, Lib.hid (blt HB.out HW.out), Lib.hid (HG.out.below HW.out), Lib.hid fun j hj => by rcases Nat.lt_succ_iff_lt_or_eq.1 hj with h | rfl; exact HF.out j h; exact HX.out⟩
            case measure => simp [intOf]; omega
    · have hlt' : ¬ (k : Int) < n := by omega
      obtain rfl : k = n := by omega
      go_wp2
      go_ret
      exact ⟨ret_bool ((all_true HF.out).symm.trans HR.out), HB.out⟩
end Go.Proofs.Ytojnhdkclabkgaa
