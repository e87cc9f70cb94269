/- The code of layer 12: all blocks, how many there are, inputs and arrays. No condition. -/
import Derived.Test.YtojnhdkclabkgaaGrCodeD
namespace Go.Proofs.Ytojnhdkclabkgaa
open Go.RowKit
set_option linter.unusedVariables false
set_option linter.unusedSimpArgs false
attribute [local go_sem] y_undef
theorem rbl1_any (Ai Aa Ab Ap Ah : Option Addr) (ni ci na ca nb cb np cp nh ch : Nat) (V K S : Int) (hna : na ≤ maxLen) (b : Gr.Blk) (a1 a2 : Option Addr) (n1 c1 n2 c2 B : Nat) (r : Bool) (hr : Gr.blkOk V na nb b = r) (w : World) (ho : OpsIn w (.slice a1 n1 c1) b.ops) (hn : NumsIn w (.slice a2 n2 c2) b.next) (hm : b.ops.length ≤ maxLen ∧ b.next.length ≤ maxLen)
    (hB : Bk w B 40 #[.slice Ai ni ci, .int .i64 V, .int .i64 K, .slice Aa na ca, .int .i64 S, .slice Ab nb cb, .slice Ap np cp, .slice Ah nh ch]) :
    Calls Try.prog 79 #[.agg #[.slice a1 n1 c1, .int .i64 b.cond, .slice a2 n2 c2], .pointer (some ⟨B, 0, none⟩)] w fun e w' => e = .returned (.bool r) ∧ Below w.heap.size w w' := by
  subst hr
  have HW := Lib.hid (bla (Below.refl w.heap.size w) (.cells #[.slice a1 n1 c1, .int .i64 b.cond, .slice a2 n2 c2] 34))
  have HC := Lib.hid fun (q : Bool) (hq : Gr.opsOk V na b.ops = q) => rops_any Ai Aa Ab Ap Ah ni ci na ca nb cb np cp nh ch V K S hna b.ops (.slice a1 n1 c1) q hq _ (ho.below HW.out) hm.1
  have HO := Lib.hid (Bk.new w 34 #[.slice a1 n1 c1, .int .i64 b.cond, .slice a2 n2 c2])
  have HN := Lib.hid (hn.below HW.out)
  have HG := Lib.hid (hB.below HW.out)
  have HM := Lib.hid hm.2
  have hlt : B < w.heap.size := hB.lt
  have g0 := hB.cell 0
  have g1 := hB.cell 1
  have g2 := hB.cell 2
  have g3 := hB.cell 3
  have g4 := hB.cell 4
  have g5 := hB.cell 5
  have g6 := hB.cell 6
  have g7 := hB.cell 7
  unfold Gr.blkOk
  obtain ⟨cd, hcd⟩ : ∃ x, b.cond = x := ⟨_, rfl⟩
  rw [hcd] at HW HC HO HN HG ⊢
  have HCD := Lib.hid hcd
  clear ho hn hm hB hcd
  cases h1 : Gr.opsOk V na b.ops
  · have H1 := Lib.hid h1
    clear h1
    go_enter Try.func79, Try.ntmps79
    go_wp2_with fail
    refine (HC.out _ H1.out).mono ?_
    rintro e w1 ⟨rfl, hb⟩
    go_wp2
    go_ret
    exact ⟨rfl, blt HW.out hb⟩
  · cases h2 : Gr.nxOk V nb b
    all_goals
      have H1 := Lib.hid h1
      have H2 := Lib.hid h2
      clear h1 h2
      go_enter Try.func79, Try.ntmps79
      go_wp2_with fail
      refine (HC.out _ H1.out).mono ?_
      rintro e w1 ⟨rfl, hb⟩
      have k0 := (HG.out.below hb).cell 0
      have k1 := (HG.out.below hb).cell 1
      have k2 := (HG.out.below hb).cell 2
      have k3 := (HG.out.below hb).cell 3
      have k4 := (HG.out.below hb).cell 4
      have k5 := (HG.out.below hb).cell 5
      have k6 := (HG.out.below hb).cell 6
      have k7 := (HG.out.below hb).cell 7
      have q0 := (HO.out.below hb).cell 0
      have q1 := (HO.out.below hb).cell 1
      have q2 := (HO.out.below hb).cell 2
      have HN1 := Lib.hid (HN.out.below hb)
      have HW1 := Lib.hid (blt HW.out hb)
      have HC2 := Lib.hid (rnext_any Ai Aa Ab Ap Ah ni ci na ca nb cb np cp nh ch V K S b (.slice a1 n1 c1) (.slice a2 n2 c2) _ H2.out w1 ⟨_, _, _, rfl⟩ HN1.out HM.out)
      rw [HCD.out] at HC2
      clear hb
      go_wp2_with fail
      refine HC2.out.mono ?_
      rintro e w2 ⟨rfl, hb2⟩
      go_wp2
      go_ret
      exact ⟨rfl, blt HW1.out hb2⟩
set_option maxHeartbeats 4000000 in
theorem rblocks_any (Ai Aa Ab Ap Ah : Option Addr) (ni ci na ca nb cb np cp nh ch : Nat) (V K S : Int) (hna : na ≤ maxLen) (l : List Gr.Blk) (r : Bool) (hr : (decide (Gr.ends l l.length = 1) && Gr.blksOk V na nb l) = r) (w : World) (hv : BlksIn w (.slice Ab nb cb) l) (hm : l.length ≤ maxLen) (hm2 : ∀ b ∈ l, b.ops.length ≤ maxLen ∧ b.next.length ≤ maxLen) :
    Calls Try.prog 39 #[.agg #[.slice Ai ni ci, .int .i64 V, .int .i64 K, .slice Aa na ca, .int .i64 S, .slice Ab nb cb, .slice Ap np cp, .slice Ah nh ch]] w fun e w' => e = .returned (.bool r) ∧ Below w.heap.size w w' := by
  obtain ⟨A, c, a1, a2, c1, c2, hA, ho⟩ := id hv
  injection hA with hA1 hA2 hA3
  subst hA1 hA3
  have HO := Lib.hid ho
  have HM2 := Lib.hid hm2
  have HB0 := Lib.hid (bla (Below.refl w.heap.size w) (.cells #[.slice Ai ni ci, .int .i64 V, .int .i64 K, .slice Aa na ca, .int .i64 S, .slice Ab nb cb, .slice Ap np cp, .slice Ah nh ch] 40))
  have HG0 := Lib.hid (Bk.new w 40 #[.slice Ai ni ci, .int .i64 V, .int .i64 K, .slice Aa na ca, .int .i64 S, .slice Ab nb cb, .slice Ap np cp, .slice Ah nh ch])
  have HNL := Lib.hid hA2
  have HMax := Lib.hid hm
  unfold maxLen at hm
  rw [← hA2] at HO hm hr
  have HR := Lib.hid hr
  have HEl := Lib.hid fun (k : Nat) => Gr.ends_le l k
  have HC := Lib.hid fun (W : World) (hW : Below w.heap.size w W) (hGW : Bk W w.heap.size 40 #[.slice Ai ni ci, .int .i64 V, .int .i64 K, .slice Aa na ca, .int .i64 S, .slice Ab nb cb, .slice Ap np cp, .slice Ah nh ch]) (q : Bool) (hq : Gr.blksOk V na nb l = q) =>
    everyBl_any 79 #[.pointer (some ⟨w.heap.size, 0, none⟩)] ent_rbl1 Ab nb cb a1 a2 (fun k => (l.getD k Gr.blk0).ops.length) c1 (fun k => (l.getD k Gr.blk0).next.length) c2 (fun k => (l.getD k Gr.blk0).cond) W (fun k => Gr.blkOk V na nb (l.getD k Gr.blk0)) (fun _ W' => Below W.heap.size W W') (by unfold maxLen; exact hm) (Below.refl _ _)
    (fun k W' hI hk => by
      obtain ⟨bb, off, e, hb, h0, h1, h2, _, _⟩ := HO.out k hk
      have hw := blt hW hI
      exact ⟨bb, off, e, (Below.cell hw (p := ⟨bb, off + k * 3, none⟩) hb).trans h0, (Below.cell hw (p := ⟨bb, off + k * 3 + 1, none⟩) hb).trans h1, (Below.cell hw (p := ⟨bb, off + k * 3 + 2, none⟩) hb).trans h2⟩)
    (fun k W' W'' hI hb => blt hI hb)
    (fun k W' hI hk => by
      obtain ⟨bb, off, e, hb, _, _, _, h3, h4⟩ := HO.out k hk
      have hw := blt hW hI
      exact (rbl1_any Ai Aa Ab Ap Ah ni ci na ca nb cb np cp nh ch V K S hna (l.getD k Gr.blk0) _ _ _ _ _ _ w.heap.size _ rfl W' (h3.below hw) (h4.below hw) (HM2.out _ (mem_getD (by rw [← HNL.out]; exact hk))) (hGW.below hI)).mono fun e w' h => ⟨h.1, blt hI h.2, Sfe.of_below h.2⟩) q (by rw [← hq]; unfold Gr.blksOk; rw [← HNL.out])
  clear hv ho hr hA2 hm2
  go_enter Try.func39, Try.ntmps39
  go_wp2
  go_loopw [3, 5, 9] (fun t _ i wr => ∃ k : Nat, k ≤ nb ∧ i = .int .i64 k ∧ t = .int .i64 (Gr.ends l k) ∧ Hid (Below w.heap.size w wr) ∧ Hid (Bk wr w.heap.size 40 #[.slice Ai ni ci, .int .i64 V, .int .i64 K, .slice Aa na ca, .int .i64 S, .slice Ab nb cb, .slice Ap np cp, .slice Ah nh ch])) (fun _ _ i _ => nb - (intOf i).toNat)
  case atStart => exact ⟨0, Nat.zero_le _, rfl, rfl, HB0, HG0⟩
  case round =>
    obtain ⟨k, hk, rfl, rfl, HB, HG⟩ := hrel
    have hel := HEl.out k
    by_cases hlt : k < nb
    · have hlt' : (k : Int) < nb := by omega
      obtain ⟨bb, off, rfl, hbb, hx0, hx1, hx2, _, _⟩ := HO.out k hlt
      replace hx0 := (HB.out.cell (p := ⟨bb, off + k * 3, none⟩) hbb).trans hx0
      replace hx1 := (HB.out.cell (p := ⟨bb, off + k * 3 + 1, none⟩) hbb).trans hx1
      replace hx2 := (HB.out.cell (p := ⟨bb, off + k * 3 + 2, none⟩) hbb).trans hx2
      have HE := Lib.hid (show Gr.ends l (k + 1) = Gr.ends l k + if (l.getD k Gr.blk0).next.length = 0 then 1 else 0 from rfl)
      generalize (l.getD k Gr.blk0).next.length = q at *
      generalize (l.getD k Gr.blk0).ops.length = q1 at *
      generalize (l.getD k Gr.blk0).cond = q2 at *
      generalize Gr.ends l k = en at *
      clear HO HC HEl
      by_cases hq : q = 0
      · subst hq
        have HE2 := Lib.hid (show Gr.ends l (k + 1) = en + 1 from HE.out)
        go_wp2
        go_roundw
        case rel => exact ⟨k + 1, by omega, by first | rfl | go_num, by rw [HE2.out]; first | rfl | go_num, Lib.hid (bla HB.out _), Lib.hid (HG.out.below (bla (Below.refl _ _) _))⟩
        case measure => simp [intOf]; omega
      · have e : ((q : Int) == 0) = false := by simp; omega
        have HE2 := Lib.hid (show Gr.ends l (k + 1) = en by rw [HE.out, if_neg hq]; rfl)
        clear hq
        go_wp2
        go_roundw
        case rel => exact ⟨k + 1, by omega, by first | rfl | go_num, by rw [HE2.out], Lib.hid (bla HB.out _), Lib.hid (HG.out.below (bla (Below.refl _ _) _))⟩
        case measure => simp [intOf]; omega
    · have hlt' : ¬ (k : Int) < nb := by omega
      obtain rfl : k = nb := by omega
      have g5 := HG.out.cell 5
      have HCW := Lib.hid (HC.out wr HB.out HG.out)
      clear HC HO HEl
      by_cases h1 : Gr.ends l k = 1
      · have H1 := Lib.hid h1
        rw [h1]
        clear h1 hel
        cases h2 : Gr.blksOk V na k l
        all_goals
          have H2 := Lib.hid h2
          clear h2
          go_wp2_with fail
          refine (HCW.out _ H2.out).mono ?_
          rintro e w1 ⟨rfl, k1, hb⟩
          go_wp2
          go_ret
          exact ⟨ret_bool (by rw [← HR.out, H1.out, H2.out]; rfl), blt HB.out hb⟩
      · have e1 : ((Gr.ends l k : Int) == 1) = false := by simp; omega
        have H1 := Lib.hid h1
        clear h1
        go_wp2
        go_ret
        exact ⟨ret_bool (by rw [← HR.out, decide_eq_false H1.out]; rfl), HB.out⟩
theorem opsN_le {l : List Gr.Blk} (hm : ∀ b ∈ l, b.ops.length ≤ 140737488355328) : ∀ k, k ≤ l.length → Gr.opsN l k ≤ k * 140737488355328
  | 0, _ => by simp [Gr.opsN]
  | k + 1, h => by
    have := opsN_le hm k (by omega)
    have := hm _ (mem_getD (d := Gr.blk0) (show k < l.length by omega))
    unfold Gr.opsN
    rw [Nat.add_mul]
    omega
set_option maxHeartbeats 4000000 in
theorem many_any (l : List Gr.Blk) (v : Value) (r : Bool) (hr : Gr.manyB l = r) (w : World) (hv : BlksIn w v l) (hm : l.length ≤ maxLen) (hm2 : ∀ b ∈ l, b.ops.length ≤ 140737488355328 ∧ b.next.length ≤ 140737488355328) :
    Calls Try.prog 37 #[v] w fun e w' => e = .returned (.bool r) ∧ Below w.heap.size w w' := by
  obtain ⟨A, c, a1, a2, c1, c2, rfl, ho⟩ := id hv
  have HO := Lib.hid ho
  have HL := Lib.hid (opsN_le fun b hb => (hm2 b hb).1)
  have HM := Lib.hid fun (k : Nat) (hk : k < l.length) => (hm2 _ (mem_getD (d := Gr.blk0) hk)).1
  unfold maxLen at hm
  have HR := Lib.hid hr
  obtain ⟨n, hn⟩ : ∃ n, l.length = n := ⟨_, rfl⟩
  unfold Gr.manyB at HR
  rw [hn] at hm HO HL HR HM ⊢
  clear hv ho hr hm2 hn
  by_cases h1 : 64 < n
  · have h1' : (64 : Int) < n := by omega
    go_enter Try.func37, Try.ntmps37
    go_wp2
    go_ret
    exact ⟨ret_bool (by rw [← HR.out]; simp [h1]), Below.refl _ _⟩
  · have h1' : ¬ (64 : Int) < n := by omega
    go_enter Try.func37, Try.ntmps37
    go_wp2
    go_loopw [3, 5, 11] (fun t _ i wr => ∃ k : Nat, k ≤ n ∧ i = .int .i64 k ∧ t = .int .i64 (Gr.opsN l k) ∧ Hid (Below w.heap.size w wr)) (fun _ _ i _ => n - (intOf i).toNat)
    case atStart => exact ⟨0, Nat.zero_le _, rfl, rfl, Lib.hid (Below.refl _ _)⟩
    case round =>
      obtain ⟨k, hk, rfl, rfl, HB⟩ := hrel
      have hel := HL.out k hk
      by_cases hlt : k < n
      · have hlt' : (k : Int) < n := by omega
        obtain ⟨bb, off, rfl, hbb, hx0, hx1, hx2, _, _⟩ := HO.out k hlt
        replace hx0 := (HB.out.cell (p := ⟨bb, off + k * 3, none⟩) hbb).trans hx0
        replace hx1 := (HB.out.cell (p := ⟨bb, off + k * 3 + 1, none⟩) hbb).trans hx1
        replace hx2 := (HB.out.cell (p := ⟨bb, off + k * 3 + 2, none⟩) hbb).trans hx2
        have HE := Lib.hid (show Gr.opsN l (k + 1) = Gr.opsN l k + (l.getD k Gr.blk0).ops.length from rfl)
        have hop := HM.out k hlt
        generalize (l.getD k Gr.blk0).next.length = q at *
        generalize (l.getD k Gr.blk0).ops.length = q1 at *
        generalize (l.getD k Gr.blk0).cond = q2 at *
        generalize Gr.opsN l k = en at *
        clear HO HL HM
        have hb1 : (en : Int) + q1 ≤ 9223372036854775807 := by omega
        go_wp2
        go_roundw
        case rel => exact ⟨k + 1, by omega, by first | rfl | go_num, by rw [HE.out]; first | rfl | go_num, Lib.hid (bla HB.out _)⟩
        case measure => simp [intOf]; omega
      · have hlt' : ¬ (k : Int) < n := by omega
        obtain rfl : k = n := by omega
        generalize Gr.opsN l k = en at *
        by_cases h2 : 600 < en
        · have h2' : (600 : Int) < en := by omega
          go_wp2
          go_ret
          exact ⟨ret_bool (by rw [← HR.out]; simp [h2]), HB.out⟩
        · have h2' : ¬ (600 : Int) < en := by omega
          go_wp2
          go_ret
          exact ⟨ret_bool (by rw [← HR.out]; simp [h2]; omega), HB.out⟩
end Go.Proofs.Ytojnhdkclabkgaa
