/- The code of layer 12: the operations and the successors of a block. No condition. The code of layer 12: the successors of a block, all blocks, how many there are, inputs and arrays. No condition. The code of layer 12: all blocks, how many there are, inputs and arrays. No condition. -/
import Derived.Test.YtojflhkmonicoaaGreatGrCodeB
import Derived.Deep.RegionWith
namespace Go.Proofs.YtojflhkmonicoaaGreat
open Go.RowKit
set_option linter.unusedVariables false
set_option linter.unusedSimpArgs false
attribute [local go_sem] y_undef
theorem Gr.opOk_no {V A kd d a b i : Int} (h : ¬ (kd = 1 ∨ kd = 2 ∨ kd = 3 ∨ kd = 4 ∨ kd = 5 ∨ kd = 6 ∨ kd = 7)) : Gr.opOk V A ⟨kd, d, a, b, i⟩ = false := by
  unfold Gr.opOk
  simp only [not_or] at h
  simp [h.1, h.2.1, h.2.2.1, h.2.2.2.1, h.2.2.2.2.1, h.2.2.2.2.2.1, h.2.2.2.2.2.2]
theorem rop_any (Ai Aa Ab Ap Ah : Option Addr) (ni ci na ca nb cb np cp nh ch : Nat) (V K S : Int) (hna : na ≤ maxLen) (kd d a b i : Int) (r : Bool) (hr : Gr.opOk V na ⟨kd, d, a, b, i⟩ = r) (w : World) :
    Calls Tryz.prog 79 #[.agg #[.slice Ai ni ci, .int .i64 V, .int .i64 K, .slice Aa na ca, .int .i64 S, .slice Ab nb cb, .slice Ap np cp, .slice Ah nh ch], .agg #[.int .i64 kd, .int .i64 d, .int .i64 a, .int .i64 b, .int .i64 i]] w fun e w' => e = .returned (.bool r) ∧ Below w.heap.size w w' := by
  by_cases h : kd = 1 ∨ kd = 2 ∨ kd = 3 ∨ kd = 4 ∨ kd = 5 ∨ kd = 6 ∨ kd = 7
  · rcases h with rfl | rfl | rfl | rfl | rfl | rfl | rfl
    · exact rop_k1 Ai Aa Ab Ap Ah ni ci na ca nb cb np cp nh ch V K S hna d a b i r hr w
    · exact rop_k2 Ai Aa Ab Ap Ah ni ci na ca nb cb np cp nh ch V K S hna d a b i r hr w
    · exact rop_k3 Ai Aa Ab Ap Ah ni ci na ca nb cb np cp nh ch V K S hna d a b i r hr w
    · exact rop_k4 Ai Aa Ab Ap Ah ni ci na ca nb cb np cp nh ch V K S hna d a b i r hr w
    · exact rop_k5 Ai Aa Ab Ap Ah ni ci na ca nb cb np cp nh ch V K S hna d a b i r hr w
    · exact rop_k6 Ai Aa Ab Ap Ah ni ci na ca nb cb np cp nh ch V K S hna d a b i r hr w
    · exact rop_k7 Ai Aa Ab Ap Ah ni ci na ca nb cb np cp nh ch V K S hna d a b i r hr w
  · have HR := Lib.hid ((Gr.opOk_no h).symm.trans hr)
    have HB0 := Lib.hid (bla (bla (Below.refl w.heap.size w) (.cells #[.slice Ai ni ci, .int .i64 V, .int .i64 K, .slice Aa na ca, .int .i64 S, .slice Ab nb cb, .slice Ap np cp, .slice Ah nh ch] 28)) (.cells #[.int .i64 kd, .int .i64 d, .int .i64 a, .int .i64 b, .int .i64 i] 42))
    simp only [not_or] at h
    obtain ⟨h1, h2, h3, h4, h5, h6, h7⟩ := h
    have e1 : (kd == 1) = false := by simp [h1]
    have e2 : (kd == 2) = false := by simp [h2]
    have e3 : (kd == 3) = false := by simp [h3]
    have e4 : (kd == 4) = false := by simp [h4]
    have e5 : (kd == 5) = false := by simp [h5]
    have e6 : (kd == 6) = false := by simp [h6]
    have e7 : (kd == 7) = false := by simp [h7]
    clear h1 h2 h3 h4 h5 h6 h7 hr
    go_enter Tryz.func79, Tryz.ntmps79
    go_wp2
    go_ret
    exact ⟨ret_bool HR.out, HB0.out⟩
theorem opsOk_bad {V A : Int} {l : List Gr.Op} {k : Nat} (hk : k < l.length) (h : Gr.opAt V A l k = false) : Gr.opsOk V A l = false := all_false hk h
set_option maxHeartbeats 4000000 in
theorem rops_any (Ai Aa Ab Ap Ah : Option Addr) (ni ci na ca nb cb np cp nh ch : Nat) (V K S : Int) (hna : na ≤ maxLen) (l : List Gr.Op) (v : Value) (r : Bool) (hr : Gr.opsOk V na l = r) (w : World) (hv : OpsIn w v l) (hm : l.length ≤ maxLen) :
    Calls Tryz.prog 56 #[.agg #[.slice Ai ni ci, .int .i64 V, .int .i64 K, .slice Aa na ca, .int .i64 S, .slice Ab nb cb, .slice Ap np cp, .slice Ah nh ch], v] w fun e w' => e = .returned (.bool r) ∧ Below w.heap.size w w' := by
  obtain ⟨A, c, rfl, ho⟩ := hv.opened
  have HO := Lib.hid ho
  unfold maxLen at hm
  obtain ⟨n, hn⟩ : ∃ n, l.length = n := ⟨_, rfl⟩
  have HR : Hid ((List.range n).all (Gr.opAt V na l) = r) := Lib.hid (by rw [← hn]; exact hr)
  rw [hn] at hm HO ⊢
  have HN := Lib.hid hn
  have HG0 := Lib.hid (Bk.new w 28 #[.slice Ai ni ci, .int .i64 V, .int .i64 K, .slice Aa na ca, .int .i64 S, .slice Ab nb cb, .slice Ap np cp, .slice Ah nh ch])
  have HB0 := Lib.hid (bla (Below.refl w.heap.size w) (.cells #[.slice Ai ni ci, .int .i64 V, .int .i64 K, .slice Aa na ca, .int .i64 S, .slice Ab nb cb, .slice Ap np cp, .slice Ah nh ch] 28))
  clear hv ho hr hn
  go_enter Tryz.func56, Tryz.ntmps56
  go_wp2
  go_loopw [5, 6, 9] (fun _ _ i wr => ∃ k : Nat, k ≤ n ∧ i = .int .i64 k ∧ Hid (Below w.heap.size w wr) ∧ Hid (Bk wr w.heap.size 28 #[.slice Ai ni ci, .int .i64 V, .int .i64 K, .slice Aa na ca, .int .i64 S, .slice Ab nb cb, .slice Ap np cp, .slice Ah nh ch]) ∧ Hid (∀ j, j < k → Gr.opAt V na l j = true)) (fun _ _ i _ => n - (intOf i).toNat)
  case atStart => exact ⟨0, Nat.zero_le _, rfl, HB0, HG0, Lib.hid fun j hj => absurd hj (Nat.not_lt_zero _)⟩
  case round =>
    obtain ⟨k, hk, rfl, HB, HG, HF⟩ := hrel
    by_cases hlt : k < n
    · have hlt' : (k : Int) < n := by omega
      obtain ⟨b, off, rfl, hbb, hx0, hx1, hx2, hx3, hx4⟩ := HO.out k hlt
      replace hx0 := (HB.out.cell (p := ⟨b, off + k * 5, none⟩) hbb).trans hx0
      replace hx1 := (HB.out.cell (p := ⟨b, off + k * 5 + 1, none⟩) hbb).trans hx1
      replace hx2 := (HB.out.cell (p := ⟨b, off + k * 5 + 2, none⟩) hbb).trans hx2
      replace hx3 := (HB.out.cell (p := ⟨b, off + k * 5 + 3, none⟩) hbb).trans hx3
      replace hx4 := (HB.out.cell (p := ⟨b, off + k * 5 + 4, none⟩) hbb).trans hx4
      have HAt := Lib.hid (show Gr.opAt V na l k = (Gr.opOk V na (l.getD k Gr.op0) && !(decide ((l.getD k Gr.op0).kind = 6) && decide (k ≠ 0)) && !(decide ((l.getD k Gr.op0).kind = 7) && decide (k + 1 ≠ n))) by rw [← HN.out]; rfl)
      generalize (l.getD k Gr.op0) = o at *
      obtain ⟨kd, d, a, bb, i⟩ := o
      simp only at hx0 hx1 hx2 hx3 hx4
      have hgs : w.heap.size < wr.heap.size := HG.out.lt
      have g0 := HG.out.cell 0
      have g1 := HG.out.cell 1
      have g2 := HG.out.cell 2
      have g3 := HG.out.cell 3
      have g4 := HG.out.cell 4
      have g5 := HG.out.cell 5
      have g6 := HG.out.cell 6
      have g7 := HG.out.cell 7
      have HO0 := Lib.hid (Bk.new wr 42 #[.int .i64 kd, .int .i64 d, .int .i64 a, .int .i64 bb, .int .i64 i])
      have HBo := Lib.hid (bla (Below.refl wr.heap.size wr) (.cells #[.int .i64 kd, .int .i64 d, .int .i64 a, .int .i64 bb, .int .i64 i] 42))
      cases h1 : Gr.opOk V na ⟨kd, d, a, bb, i⟩
      · have H1 := Lib.hid h1
        clear h1 HO
        go_wp2_with fail
        refine (rop_any Ai Aa Ab Ap Ah ni ci na ca nb cb np cp nh ch V K S hna kd d a bb i _ H1.out _).mono ?_
        rintro e w1 ⟨rfl, hb1⟩
        go_wp2
        go_ret
        exact ⟨ret_bool (HR.out.symm.trans (all_false hlt (HAt.out.trans (by rw [show _ = _ from H1.out]; rfl)))).symm, blt HB.out (blt HBo.out hb1)⟩
      · have H1 := Lib.hid h1
        clear h1
        by_cases h6 : kd = 6
        · subst h6
          by_cases hk0 : k = 0
          · have k0 : ((k : Int) != 0) = false := by simp [hk0]
            have HX := Lib.hid (show Gr.opAt V na l k = true by rw [HAt.out, show _ = _ from H1.out]; simp [hk0])
            clear hk0
            go_wp2_with fail
            refine (rop_any Ai Aa Ab Ap Ah ni ci na ca nb cb np cp nh ch V K S hna 6 d a bb i _ H1.out _).mono ?_
            rintro e w1 ⟨rfl, hb1⟩
            have o0 := (HO0.out.below hb1).cell 0
            have HW := Lib.hid (blt HBo.out hb1)
            clear hb1
            go_wp2
            go_roundw
            case rel => exact ⟨k + 1, by omega, by first | rfl | go_num, Lib.hid (blt HB.out HW.out), Lib.hid (HG.out.below HW.out), Lib.hid fun j hj => by rcases Nat.lt_succ_iff_lt_or_eq.1 hj with h | rfl; exact HF.out j h; exact HX.out⟩
            case measure => simp [intOf]; omega
          · have k0 : ((k : Int) != 0) = true := by simp; omega
            have k1 : ((k : Int) == 0) = false := by simp; omega
            have HX := Lib.hid (show Gr.opAt V na l k = false by rw [HAt.out]; simp [hk0])
            clear hk0
            go_wp2_with fail
            refine (rop_any Ai Aa Ab Ap Ah ni ci na ca nb cb np cp nh ch V K S hna 6 d a bb i _ H1.out _).mono ?_
            rintro e w1 ⟨rfl, hb1⟩
            have o0 := (HO0.out.below hb1).cell 0
            have HW := Lib.hid (blt HBo.out hb1)
            clear hb1
            go_wp2
            go_ret
            exact ⟨ret_bool (HR.out.symm.trans (all_false hlt HX.out)).symm, blt HB.out HW.out⟩
        · have e6 : (kd == 6) = false := by simp [h6]
          by_cases h7 : kd = 7
          · subst h7
            have wm : wrap64 ((n : Int) - 1) = (n : Int) - 1 := by apply wrap64_same; omega
            by_cases hl : k + 1 = n
            · have k0 : ((k : Int) != (n : Int) - 1) = false := by simp; omega
              have HX := Lib.hid (show Gr.opAt V na l k = true by rw [HAt.out, show _ = _ from H1.out]; simp [hl])
              clear hl h6 wm
              go_wp2_with fail
              refine (rop_any Ai Aa Ab Ap Ah ni ci na ca nb cb np cp nh ch V K S hna 7 d a bb i _ H1.out _).mono ?_
              rintro e w1 ⟨rfl, hb1⟩
              have o0 := (HO0.out.below hb1).cell 0
              have HW := Lib.hid (blt HBo.out hb1)
              clear hb1
              go_wp2
              go_roundw
              case rel => exact ⟨k + 1, by omega, by first | rfl | go_num, Lib.hid (blt HB.out HW.out), Lib.hid (HG.out.below HW.out), Lib.hid fun j hj => by rcases Nat.lt_succ_iff_lt_or_eq.1 hj with h | rfl; exact HF.out j h; exact HX.out⟩
              case measure => simp [intOf]; omega
            · have k0 : ((k : Int) != (n : Int) - 1) = true := by simp; omega
              have HX := Lib.hid (show Gr.opAt V na l k = false by rw [HAt.out]; simp [hl])
              clear hl h6 wm
              go_wp2_with fail
              refine (rop_any Ai Aa Ab Ap Ah ni ci na ca nb cb np cp nh ch V K S hna 7 d a bb i _ H1.out _).mono ?_
              rintro e w1 ⟨rfl, hb1⟩
              have o0 := (HO0.out.below hb1).cell 0
              have HW := Lib.hid (blt HBo.out hb1)
              clear hb1
              go_wp2
              go_ret
              exact ⟨ret_bool (HR.out.symm.trans (all_false hlt HX.out)).symm, blt HB.out HW.out⟩
          · have e7 : (kd == 7) = false := by simp [h7]
            have HX := Lib.hid (show Gr.opAt V na l k = true by rw [HAt.out, show _ = _ from H1.out]; simp [h6, h7])
            clear h6 h7
            go_wp2_with fail
            refine (rop_any Ai Aa Ab Ap Ah ni ci na ca nb cb np cp nh ch V K S hna kd d a bb i _ H1.out _).mono ?_
            rintro e w1 ⟨rfl, hb1⟩
            have o0 := (HO0.out.below hb1).cell 0
            have HW := Lib.hid (blt HBo.out hb1)
            clear hb1
            go_wp2
            go_roundw
            case rel => exact ⟨k + 1, by omega, by first | rfl | go_num, Lib.hid (blt HB.out HW.out), Lib.hid (HG.out.below HW.out), Lib.hid fun j hj => by rcases Nat.lt_succ_iff_lt_or_eq.1 hj with h | rfl; exact HF.out j h; exact HX.out⟩
            case measure => simp [intOf]; omega
    · have hlt' : ¬ (k : Int) < n := by omega
      obtain rfl : k = n := by omega
      go_wp2
      go_ret
      exact ⟨ret_bool ((all_true HF.out).symm.trans HR.out), HB.out⟩
end Go.Proofs.YtojflhkmonicoaaGreat
namespace Go.Proofs.YtojflhkmonicoaaGreat
open Go.RowKit
set_option linter.unusedVariables false
set_option linter.unusedSimpArgs false
attribute [local go_sem] y_undef
theorem ent_rnx1 (args : Array Value) (w : World) : (callFunc 80 args).run Tryz.prog w = .ok (.enter 80 args) w := enters_of Tryz.func80 (by kernel_rfl) rfl args w
theorem ent_rbl1 (args : Array Value) (w : World) : (callFunc 55 args).run Tryz.prog w = .ok (.enter 55 args) w := enters_of Tryz.func55 (by kernel_rfl) rfl args w
theorem ent_rd1 (args : Array Value) (w : World) : (callFunc 50 args).run Tryz.prog w = .ok (.enter 50 args) w := enters_of Tryz.func50 (by kernel_rfl) rfl args w
theorem ent_rd2 (args : Array Value) (w : World) : (callFunc 53 args).run Tryz.prog w = .ok (.enter 53 args) w := enters_of Tryz.func53 (by kernel_rfl) rfl args w
theorem rnx1_any (x : Int) (B : Nat) (Ab : Option Addr) (nb cb : Nat) (w : World) (hB : w.cell? ⟨B, 5, none⟩ = some (.slice Ab nb cb)) : Calls Tryz.prog 80 #[.int .i64 x, .pointer (some ⟨B, 0, none⟩)] w fun e w' => e = .returned (.bool (Gr.nxAt nb x)) ∧ w' = w := by
  unfold Gr.nxAt
  by_cases h0 : x = 0
  · have e : (x != 0) = false := by simp [h0]
    have e2 : decide (x ≠ 0) = false := by simp [h0]
    rw [e2]
    clear h0 e2
    go_enter Tryz.func80, Tryz.ntmps80
    go_wp2
    go_ret
    exact ⟨rfl, rfl⟩
  · have e : (x != 0) = true := by simp [h0]
    have e2 : decide (x ≠ 0) = true := by simp [h0]
    rw [e2]
    clear h0 e2
    go_enter Tryz.func80, Tryz.ntmps80
    go_wp2_with fail
    refine (gbelow_any x nb _ rfl _).mono ?_
    rintro e w' ⟨rfl, rfl⟩
    go_wp2
    go_ret
    exact ⟨by simp, rfl⟩
set_option maxHeartbeats 4000000 in
theorem rnext_any (Ai Aa Ab Ap Ah : Option Addr) (ni ci na ca nb cb np cp nh ch : Nat) (V K S : Int) (b : Gr.Blk) (vo vn : Value) (r : Bool) (hr : Gr.nxOk V nb b = r) (w : World) (hvo : ∃ A n c, vo = .slice A n c) (hvn : NumsIn w vn b.next) (hm : b.next.length ≤ maxLen) :
    Calls Tryz.prog 57 #[.agg #[.slice Ai ni ci, .int .i64 V, .int .i64 K, .slice Aa na ca, .int .i64 S, .slice Ab nb cb, .slice Ap np cp, .slice Ah nh ch], .agg #[vo, .int .i64 b.cond, vn]] w fun e w' => e = .returned (.bool r) ∧ Below w.heap.size w w' := by
  obtain ⟨Ao, no, co, rfl⟩ := hvo
  obtain ⟨A, c, rfl, ho⟩ := hvn.opened
  obtain ⟨n, hn⟩ : ∃ n, b.next.length = n := ⟨_, rfl⟩
  have hp : ∀ W, Below w.heap.size w W → (2 ≤ n → ∃ bb off, A = some ⟨bb, off, none⟩ ∧ W.cell? ⟨bb, off, none⟩ = some (.int .i64 (b.next.getD 0 0)) ∧ W.cell? ⟨bb, off + 1, none⟩ = some (.int .i64 (b.next.getD 1 0))) := fun W hW h2 => by
    obtain ⟨b0, o0, e0, hl0, h0⟩ := ho 0 (by omega)
    obtain ⟨b1, o1, e1, hl1, h1⟩ := ho 1 (by omega)
    obtain ⟨rfl, rfl⟩ : b0 = b1 ∧ o0 = o1 := by rw [e0] at e1; injection e1 with e1; injection e1 with e2 e3 _; exact ⟨e2, e3⟩
    exact ⟨b0, o0, e0, (hW.cell (p := ⟨b0, o0 + 0, none⟩) hl0).trans h0, (hW.cell (p := ⟨b0, o0 + 1, none⟩) hl0).trans h1⟩
  have HP := Lib.hid hp
  rw [hn] at ho hm ⊢
  have hall : (((List.range n).all fun k => Gr.nxAt nb (b.next.getD k 0)) && (if n = 2 then decide (b.next.getD 0 0 ≠ b.next.getD 1 0) && Gr.inn b.cond V else decide (n < 2) && Gr.zer b.cond)) = r := by
    rw [← hr, ← hn]; rfl
  have HR := Lib.hid hall
  obtain ⟨x0, hx0⟩ : ∃ x, b.next.getD 0 0 = x := ⟨_, rfl⟩
  obtain ⟨x1, hx1⟩ : ∃ x, b.next.getD 1 0 = x := ⟨_, rfl⟩
  obtain ⟨cd, hcd⟩ : ∃ x, b.cond = x := ⟨_, rfl⟩
  rw [hx0, hx1, hcd] at HR
  rw [hx0, hx1] at HP
  rw [hcd]
  have HG1 := Lib.hid ((Bk.new w 28 #[.slice Ai ni ci, .int .i64 V, .int .i64 K, .slice Aa na ca, .int .i64 S, .slice Ab nb cb, .slice Ap np cp, .slice Ah nh ch]).below (bla (Below.refl _ _) (.cells #[.slice Ao no co, .int .i64 cd, .slice A n c] 40)))
  have HO1 := Lib.hid (Bk.new (w.alloc (.cells #[.slice Ai ni ci, .int .i64 V, .int .i64 K, .slice Aa na ca, .int .i64 S, .slice Ab nb cb, .slice Ap np cp, .slice Ah nh ch] 28)) 40 #[.slice Ao no co, .int .i64 cd, .slice A n c])
  rw [size_alloc] at HO1
  have HB1 := Lib.hid (bla (bla (Below.refl w.heap.size w) (.cells #[.slice Ai ni ci, .int .i64 V, .int .i64 K, .slice Aa na ca, .int .i64 S, .slice Ab nb cb, .slice Ap np cp, .slice Ah nh ch] 28)) (.cells #[.slice Ao no co, .int .i64 cd, .slice A n c] 40))
  have HC := Lib.hid fun (q : Bool) (hq : ((List.range n).all fun k => Gr.nxAt nb (b.next.getD k 0)) = q) =>
    everyNm_any 80 #[.pointer (some ⟨w.heap.size, 0, none⟩)] ent_rnx1 A n c (fun k => b.next.getD k 0) ((w.alloc (.cells #[.slice Ai ni ci, .int .i64 V, .int .i64 K, .slice Aa na ca, .int .i64 S, .slice Ab nb cb, .slice Ap np cp, .slice Ah nh ch] 28)).alloc (.cells #[.slice Ao no co, .int .i64 cd, .slice A n c] 40)) (fun k => Gr.nxAt nb (b.next.getD k 0)) (fun _ W => Below ((w.alloc (.cells #[.slice Ai ni ci, .int .i64 V, .int .i64 K, .slice Aa na ca, .int .i64 S, .slice Ab nb cb, .slice Ap np cp, .slice Ah nh ch] 28)).alloc (.cells #[.slice Ao no co, .int .i64 cd, .slice A n c] 40)).heap.size ((w.alloc (.cells #[.slice Ai ni ci, .int .i64 V, .int .i64 K, .slice Aa na ca, .int .i64 S, .slice Ab nb cb, .slice Ap np cp, .slice Ah nh ch] 28)).alloc (.cells #[.slice Ao no co, .int .i64 cd, .slice A n c] 40)) W) hm (Below.refl _ _)
    (fun k W hI hk => by
      obtain ⟨bb, off, e, hb, hx⟩ := ho k hk
      exact ⟨bb, off, e, (Below.cell (blt HB1.out hI) (p := ⟨bb, off + k, none⟩) hb).trans hx⟩)
    (fun k W W' hI hb => blt hI hb)
    (fun k W hI hk => (rnx1_any (b.next.getD k 0) w.heap.size Ab nb cb W ((HG1.out.below hI).cell 5)).mono fun e w' h => ⟨h.1, by rw [h.2]; exact hI, by rw [h.2]; exact Sfe.of_below (Below.refl _ _)⟩) q hq
  have HX0 := Lib.hid hx0
  have HX1 := Lib.hid hx1
  clear hvn ho hp hr hall hn hx0 hx1 hcd
  unfold maxLen at hm
  cases h1 : (List.range n).all fun k => Gr.nxAt nb (b.next.getD k 0)
  · have H1 := Lib.hid h1
    clear h1
    go_enter Tryz.func57, Tryz.ntmps57
    go_wp2_with fail
    refine (HC.out _ H1.out).mono ?_
    rintro e w1 ⟨rfl, k, hb⟩
    go_wp2
    go_ret
    exact ⟨ret_bool (by rw [← HR.out, H1.out]; rfl), blt HB1.out hb⟩
  · have H1 := Lib.hid h1
    clear h1
    by_cases h2 : n = 2
    · subst h2
      cases h3 : Gr.inn cd V
      all_goals
        have H3 := Lib.hid h3
        clear h3
        by_cases h4 : x0 = x1
        all_goals
          first | (have e4 : (x0 != x1) = false := by simp [h4]) | (have e4 : (x0 != x1) = true := by simp [h4])
          have H4 := Lib.hid h4
          clear h4
          go_enter Tryz.func57, Tryz.ntmps57
          go_wp2_with fail
          refine (HC.out _ H1.out).mono ?_
          rintro e w1 ⟨rfl, k, hb⟩
          have q1 := (HO1.out.below hb).cell 1
          have q2 := (HO1.out.below hb).cell 2
          have q3 := (HG1.out.below hb).cell 1
          obtain ⟨bb, off, rfl, c0, c1⟩ := HP.out w1 (blt HB1.out hb) (by omega)
          have HW := Lib.hid (blt HB1.out hb)
          clear hb
          go_wp2
          go_quiet ((go_at_call 48; exact Calls.quiet_of_same (gbelow_any cd V _ H3.out _)))
          go_wp2
          go_ret
          exact ⟨ret_bool (by rw [← HR.out, H1.out, H3.out]; simp [H4.out]), HW.out.trans (below_drewN _ _ _)⟩
    · have e2 : ((n : Int) == 2) = false := by simp; omega
      by_cases h3 : n < 2
      · have h3' : (n : Int) < 2 := by omega
        by_cases h4 : cd = 0
        all_goals
          first | (have e4 : (cd == 0) = false := by simp [h4]; done) | (have e4 : (cd == 0) = true := by simp [h4])
          have H4 := Lib.hid h4
          have H2 := Lib.hid h2
          have H3 := Lib.hid h3
          clear h4 h2 h3
          go_enter Tryz.func57, Tryz.ntmps57
          go_wp2_with fail
          refine (HC.out _ H1.out).mono ?_
          rintro e w1 ⟨rfl, k, hb⟩
          have q1 := (HO1.out.below hb).cell 1
          have q2 := (HO1.out.below hb).cell 2
          have HW := Lib.hid (blt HB1.out hb)
          clear hb
          go_wp2
          go_ret
          exact ⟨ret_bool (by rw [← HR.out, H1.out, if_neg H2.out, decide_eq_true H3.out]; simp [Gr.zer, H4.out, e4]), HW.out⟩
      · have h3' : ¬ (n : Int) < 2 := by omega
        have H2 := Lib.hid h2
        have H3 := Lib.hid h3
        clear h2 h3
        go_enter Tryz.func57, Tryz.ntmps57
        go_wp2_with fail
        refine (HC.out _ H1.out).mono ?_
        rintro e w1 ⟨rfl, k, hb⟩
        have q1 := (HO1.out.below hb).cell 1
        have q2 := (HO1.out.below hb).cell 2
        have HW := Lib.hid (blt HB1.out hb)
        clear hb
        go_wp2
        go_ret
        exact ⟨ret_bool (by rw [← HR.out, H1.out, if_neg H2.out, decide_eq_false H3.out]; rfl), HW.out⟩
end Go.Proofs.YtojflhkmonicoaaGreat
namespace Go.Proofs.YtojflhkmonicoaaGreat
open Go.RowKit
set_option linter.unusedVariables false
set_option linter.unusedSimpArgs false
attribute [local go_sem] y_undef
theorem rbl1_any (Ai Aa Ab Ap Ah : Option Addr) (ni ci na ca nb cb np cp nh ch : Nat) (V K S : Int) (hna : na ≤ maxLen) (b : Gr.Blk) (a1 a2 : Option Addr) (n1 c1 n2 c2 B : Nat) (r : Bool) (hr : Gr.blkOk V na nb b = r) (w : World) (ho : OpsIn w (.slice a1 n1 c1) b.ops) (hn : NumsIn w (.slice a2 n2 c2) b.next) (hm : b.ops.length ≤ maxLen ∧ b.next.length ≤ maxLen)
    (hB : Bk w B 28 #[.slice Ai ni ci, .int .i64 V, .int .i64 K, .slice Aa na ca, .int .i64 S, .slice Ab nb cb, .slice Ap np cp, .slice Ah nh ch]) :
    Calls Tryz.prog 55 #[.agg #[.slice a1 n1 c1, .int .i64 b.cond, .slice a2 n2 c2], .pointer (some ⟨B, 0, none⟩)] w fun e w' => e = .returned (.bool r) ∧ Below w.heap.size w w' := by
  subst hr
  have HW := Lib.hid (bla (Below.refl w.heap.size w) (.cells #[.slice a1 n1 c1, .int .i64 b.cond, .slice a2 n2 c2] 40))
  have HC := Lib.hid fun (q : Bool) (hq : Gr.opsOk V na b.ops = q) => rops_any Ai Aa Ab Ap Ah ni ci na ca nb cb np cp nh ch V K S hna b.ops (.slice a1 n1 c1) q hq _ (ho.below HW.out) hm.1
  have HO := Lib.hid (Bk.new w 40 #[.slice a1 n1 c1, .int .i64 b.cond, .slice a2 n2 c2])
  have HN := Lib.hid (hn.below HW.out)
  have HG := Lib.hid (hB.below HW.out)
  have HM := Lib.hid hm.2
  have hlt : B < w.heap.size := hB.lt
  have g0 := hB.cell 0
  have g1 := hB.cell 1
  have g2 := hB.cell 2
  have g3 := hB.cell 3
  have g4 := hB.cell 4
  have g5 := hB.cell 5
  have g6 := hB.cell 6
  have g7 := hB.cell 7
  unfold Gr.blkOk
  obtain ⟨cd, hcd⟩ : ∃ x, b.cond = x := ⟨_, rfl⟩
  rw [hcd] at HW HC HO HN HG ⊢
  have HCD := Lib.hid hcd
  clear ho hn hm hB hcd
  cases h1 : Gr.opsOk V na b.ops
  · have H1 := Lib.hid h1
    clear h1
    go_enter Tryz.func55, Tryz.ntmps55
    go_wp2_with fail
    refine (HC.out _ H1.out).mono ?_
    rintro e w1 ⟨rfl, hb⟩
    go_wp2
    go_ret
    exact ⟨rfl, blt HW.out hb⟩
  · cases h2 : Gr.nxOk V nb b
    all_goals
      have H1 := Lib.hid h1
      have H2 := Lib.hid h2
      clear h1 h2
      go_enter Tryz.func55, Tryz.ntmps55
      go_wp2_with fail
      refine (HC.out _ H1.out).mono ?_
      rintro e w1 ⟨rfl, hb⟩
      have k0 := (HG.out.below hb).cell 0
      have k1 := (HG.out.below hb).cell 1
      have k2 := (HG.out.below hb).cell 2
      have k3 := (HG.out.below hb).cell 3
      have k4 := (HG.out.below hb).cell 4
      have k5 := (HG.out.below hb).cell 5
      have k6 := (HG.out.below hb).cell 6
      have k7 := (HG.out.below hb).cell 7
      have q0 := (HO.out.below hb).cell 0
      have q1 := (HO.out.below hb).cell 1
      have q2 := (HO.out.below hb).cell 2
      have HN1 := Lib.hid (HN.out.below hb)
      have HW1 := Lib.hid (blt HW.out hb)
      have HC2 := Lib.hid (rnext_any Ai Aa Ab Ap Ah ni ci na ca nb cb np cp nh ch V K S b (.slice a1 n1 c1) (.slice a2 n2 c2) _ H2.out w1 ⟨_, _, _, rfl⟩ HN1.out HM.out)
      rw [HCD.out] at HC2
      clear hb
      go_wp2_with fail
      refine HC2.out.mono ?_
      rintro e w2 ⟨rfl, hb2⟩
      go_wp2
      go_ret
      exact ⟨rfl, blt HW1.out hb2⟩
set_option maxHeartbeats 4000000 in
theorem rblocks_any (Ai Aa Ab Ap Ah : Option Addr) (ni ci na ca nb cb np cp nh ch : Nat) (V K S : Int) (hna : na ≤ maxLen) (l : List Gr.Blk) (r : Bool) (hr : (decide (Gr.ends l l.length = 1) && Gr.blksOk V na nb l) = r) (w : World) (hv : BlksIn w (.slice Ab nb cb) l) (hm : l.length ≤ maxLen) (hm2 : ∀ b ∈ l, b.ops.length ≤ maxLen ∧ b.next.length ≤ maxLen) :
    Calls Tryz.prog 32 #[.agg #[.slice Ai ni ci, .int .i64 V, .int .i64 K, .slice Aa na ca, .int .i64 S, .slice Ab nb cb, .slice Ap np cp, .slice Ah nh ch]] w fun e w' => e = .returned (.bool r) ∧ Below w.heap.size w w' := by
  obtain ⟨A, c, a1, a2, c1, c2, hA, ho⟩ := id hv
  injection hA with hA1 hA2 hA3
  subst hA1 hA3
  have HO := Lib.hid ho
  have HM2 := Lib.hid hm2
  have HB0 := Lib.hid (bla (Below.refl w.heap.size w) (.cells #[.slice Ai ni ci, .int .i64 V, .int .i64 K, .slice Aa na ca, .int .i64 S, .slice Ab nb cb, .slice Ap np cp, .slice Ah nh ch] 28))
  have HG0 := Lib.hid (Bk.new w 28 #[.slice Ai ni ci, .int .i64 V, .int .i64 K, .slice Aa na ca, .int .i64 S, .slice Ab nb cb, .slice Ap np cp, .slice Ah nh ch])
  have HNL := Lib.hid hA2
  have HMax := Lib.hid hm
  unfold maxLen at hm
  rw [← hA2] at HO hm hr
  have HR := Lib.hid hr
  have HEl := Lib.hid fun (k : Nat) => Gr.ends_le l k
  have HC := Lib.hid fun (W : World) (hW : Below w.heap.size w W) (hGW : Bk W w.heap.size 28 #[.slice Ai ni ci, .int .i64 V, .int .i64 K, .slice Aa na ca, .int .i64 S, .slice Ab nb cb, .slice Ap np cp, .slice Ah nh ch]) (q : Bool) (hq : Gr.blksOk V na nb l = q) =>
    everyBl_any 55 #[.pointer (some ⟨w.heap.size, 0, none⟩)] ent_rbl1 Ab nb cb a1 a2 (fun k => (l.getD k Gr.blk0).ops.length) c1 (fun k => (l.getD k Gr.blk0).next.length) c2 (fun k => (l.getD k Gr.blk0).cond) W (fun k => Gr.blkOk V na nb (l.getD k Gr.blk0)) (fun _ W' => Below W.heap.size W W') (by unfold maxLen; exact hm) (Below.refl _ _)
    (fun k W' hI hk => by
      obtain ⟨bb, off, e, hb, h0, h1, h2, _, _⟩ := HO.out k hk
      have hw := blt hW hI
      exact ⟨bb, off, e, (Below.cell hw (p := ⟨bb, off + k * 3, none⟩) hb).trans h0, (Below.cell hw (p := ⟨bb, off + k * 3 + 1, none⟩) hb).trans h1, (Below.cell hw (p := ⟨bb, off + k * 3 + 2, none⟩) hb).trans h2⟩)
    (fun k W' W'' hI hb => blt hI hb)
    (fun k W' hI hk => by
      obtain ⟨bb, off, e, hb, _, _, _, h3, h4⟩ := HO.out k hk
      have hw := blt hW hI
      exact (rbl1_any Ai Aa Ab Ap Ah ni ci na ca nb cb np cp nh ch V K S hna (l.getD k Gr.blk0) _ _ _ _ _ _ w.heap.size _ rfl W' (h3.below hw) (h4.below hw) (HM2.out _ (mem_getD (by rw [← HNL.out]; exact hk))) (hGW.below hI)).mono fun e w' h => ⟨h.1, blt hI h.2, Sfe.of_below h.2⟩) q (by rw [← hq]; unfold Gr.blksOk; rw [← HNL.out])
  clear hv ho hr hA2 hm2
  go_enter Tryz.func32, Tryz.ntmps32
  go_wp2
  go_loopw [3, 5, 9] (fun t _ i wr => ∃ k : Nat, k ≤ nb ∧ i = .int .i64 k ∧ t = .int .i64 (Gr.ends l k) ∧ Hid (Below w.heap.size w wr) ∧ Hid (Bk wr w.heap.size 28 #[.slice Ai ni ci, .int .i64 V, .int .i64 K, .slice Aa na ca, .int .i64 S, .slice Ab nb cb, .slice Ap np cp, .slice Ah nh ch])) (fun _ _ i _ => nb - (intOf i).toNat)
  case atStart => exact ⟨0, Nat.zero_le _, rfl, rfl, HB0, HG0⟩
  case round =>
    obtain ⟨k, hk, rfl, rfl, HB, HG⟩ := hrel
    have hel := HEl.out k
    by_cases hlt : k < nb
    · have hlt' : (k : Int) < nb := by omega
      obtain ⟨bb, off, rfl, hbb, hx0, hx1, hx2, _, _⟩ := HO.out k hlt
      replace hx0 := (HB.out.cell (p := ⟨bb, off + k * 3, none⟩) hbb).trans hx0
      replace hx1 := (HB.out.cell (p := ⟨bb, off + k * 3 + 1, none⟩) hbb).trans hx1
      replace hx2 := (HB.out.cell (p := ⟨bb, off + k * 3 + 2, none⟩) hbb).trans hx2
      have HE := Lib.hid (show Gr.ends l (k + 1) = Gr.ends l k + if (l.getD k Gr.blk0).next.length = 0 then 1 else 0 from rfl)
      generalize (l.getD k Gr.blk0).next.length = q at *
      generalize (l.getD k Gr.blk0).ops.length = q1 at *
      generalize (l.getD k Gr.blk0).cond = q2 at *
      generalize Gr.ends l k = en at *
      clear HO HC HEl
      by_cases hq : q = 0
      · subst hq
        have HE2 := Lib.hid (show Gr.ends l (k + 1) = en + 1 from HE.out)
        go_wp2
        go_roundw
        case rel => exact ⟨k + 1, by omega, by first | rfl | go_num, by rw [HE2.out]; first | rfl | go_num, Lib.hid (bla HB.out _), Lib.hid (HG.out.below (bla (Below.refl _ _) _))⟩
        case measure => simp [intOf]; omega
      · have e : ((q : Int) == 0) = false := by simp; omega
        have HE2 := Lib.hid (show Gr.ends l (k + 1) = en by rw [HE.out, if_neg hq]; rfl)
        clear hq
        go_wp2
        go_roundw
        case rel => exact ⟨k + 1, by omega, by first | rfl | go_num, by rw [HE2.out], Lib.hid (bla HB.out _), Lib.hid (HG.out.below (bla (Below.refl _ _) _))⟩
        case measure => simp [intOf]; omega
    · have hlt' : ¬ (k : Int) < nb := by omega
      obtain rfl : k = nb := by omega
      have g5 := HG.out.cell 5
      have HCW := Lib.hid (HC.out wr HB.out HG.out)
      clear HC HO HEl
      by_cases h1 : Gr.ends l k = 1
      · have H1 := Lib.hid h1
        rw [h1]
        clear h1 hel
        cases h2 : Gr.blksOk V na k l
        all_goals
          have H2 := Lib.hid h2
          clear h2
          go_wp2_with fail
          refine (HCW.out _ H2.out).mono ?_
          rintro e w1 ⟨rfl, k1, hb⟩
          go_wp2
          go_ret
          exact ⟨ret_bool (by rw [← HR.out, H1.out, H2.out]; rfl), blt HB.out hb⟩
      · have e1 : ((Gr.ends l k : Int) == 1) = false := by simp; omega
        have H1 := Lib.hid h1
        clear h1
        go_wp2
        go_ret
        exact ⟨ret_bool (by rw [← HR.out, decide_eq_false H1.out]; rfl), HB.out⟩
theorem opsN_le {l : List Gr.Blk} (hm : ∀ b ∈ l, b.ops.length ≤ 140737488355328) : ∀ k, k ≤ l.length → Gr.opsN l k ≤ k * 140737488355328
  | 0, _ => by simp [Gr.opsN]
  | k + 1, h => by
    have := opsN_le hm k (by omega)
    have := hm _ (mem_getD (d := Gr.blk0) (show k < l.length by omega))
    unfold Gr.opsN
    rw [Nat.add_mul]
    omega
set_option maxHeartbeats 4000000 in
theorem many_any (l : List Gr.Blk) (v : Value) (r : Bool) (hr : Gr.manyB l = r) (w : World) (hv : BlksIn w v l) (hm : l.length ≤ maxLen) (hm2 : ∀ b ∈ l, b.ops.length ≤ 140737488355328 ∧ b.next.length ≤ 140737488355328) :
    Calls Tryz.prog 30 #[v] w fun e w' => e = .returned (.bool r) ∧ Below w.heap.size w w' := by
  obtain ⟨A, c, a1, a2, c1, c2, rfl, ho⟩ := id hv
  have HO := Lib.hid ho
  have HL := Lib.hid (opsN_le fun b hb => (hm2 b hb).1)
  have HM := Lib.hid fun (k : Nat) (hk : k < l.length) => (hm2 _ (mem_getD (d := Gr.blk0) hk)).1
  unfold maxLen at hm
  have HR := Lib.hid hr
  obtain ⟨n, hn⟩ : ∃ n, l.length = n := ⟨_, rfl⟩
  unfold Gr.manyB at HR
  rw [hn] at hm HO HL HR HM ⊢
  clear hv ho hr hm2 hn
  by_cases h1 : 64 < n
  · have h1' : (64 : Int) < n := by omega
    go_enter Tryz.func30, Tryz.ntmps30
    go_wp2
    go_ret
    exact ⟨ret_bool (by rw [← HR.out]; simp [h1]), Below.refl _ _⟩
  · have h1' : ¬ (64 : Int) < n := by omega
    go_enter Tryz.func30, Tryz.ntmps30
    go_wp2
    go_loopw [3, 5, 11] (fun t _ i wr => ∃ k : Nat, k ≤ n ∧ i = .int .i64 k ∧ t = .int .i64 (Gr.opsN l k) ∧ Hid (Below w.heap.size w wr)) (fun _ _ i _ => n - (intOf i).toNat)
    case atStart => exact ⟨0, Nat.zero_le _, rfl, rfl, Lib.hid (Below.refl _ _)⟩
    case round =>
      obtain ⟨k, hk, rfl, rfl, HB⟩ := hrel
      have hel := HL.out k hk
      by_cases hlt : k < n
      · have hlt' : (k : Int) < n := by omega
        obtain ⟨bb, off, rfl, hbb, hx0, hx1, hx2, _, _⟩ := HO.out k hlt
        replace hx0 := (HB.out.cell (p := ⟨bb, off + k * 3, none⟩) hbb).trans hx0
        replace hx1 := (HB.out.cell (p := ⟨bb, off + k * 3 + 1, none⟩) hbb).trans hx1
        replace hx2 := (HB.out.cell (p := ⟨bb, off + k * 3 + 2, none⟩) hbb).trans hx2
        have HE := Lib.hid (show Gr.opsN l (k + 1) = Gr.opsN l k + (l.getD k Gr.blk0).ops.length from rfl)
        have hop := HM.out k hlt
        generalize (l.getD k Gr.blk0).next.length = q at *
        generalize (l.getD k Gr.blk0).ops.length = q1 at *
        generalize (l.getD k Gr.blk0).cond = q2 at *
        generalize Gr.opsN l k = en at *
        clear HO HL HM
        have hb1 : (en : Int) + q1 ≤ 9223372036854775807 := by omega
        go_wp2
        go_roundw
        case rel => exact ⟨k + 1, by omega, by first | rfl | go_num, by rw [HE.out]; first | rfl | go_num, Lib.hid (bla HB.out _)⟩
        case measure => simp [intOf]; omega
      · have hlt' : ¬ (k : Int) < n := by omega
        obtain rfl : k = n := by omega
        generalize Gr.opsN l k = en at *
        by_cases h2 : 600 < en
        · have h2' : (600 : Int) < en := by omega
          go_wp2
          go_ret
          exact ⟨ret_bool (by rw [← HR.out]; simp [h2]), HB.out⟩
        · have h2' : ¬ (600 : Int) < en := by omega
          go_wp2
          go_ret
          exact ⟨ret_bool (by rw [← HR.out]; simp [h2]; omega), HB.out⟩
end Go.Proofs.YtojflhkmonicoaaGreat
