/- The specification of layer 16: whether a block takes the one behind it. No condition. -/
import Derived.Test.YtojnhdkclabkgaaMeRws
import Derived.Test.YtojnhdkclabkgaaMeMath
import Derived.Test.YtojnhdkclabkgaaMeRefA
namespace Go.Proofs.Ytojnhdkclabkgaa
open Go.RowKit
set_option linter.unusedVariables false
set_option linter.unusedSimpArgs false
attribute [local go_sem] y_undef
theorem rhas_nums (v : Value) (l : List Int) (x : Int) (r : Bool) (hr : Me.has l x = r) (w : World) (hv : NumsIn w v l) (hm : l.length ≤ 1000) : Calls Try.prog 50 #[v, .int .i64 x] w fun e w' => e = .returned (.bool r) ∧ w' = w := by
  obtain ⟨A, c, rfl, ho⟩ := hv.opened
  exact rhas_any A l.length c (fun k => l.getD k 0) x r hr w ho (by unfold maxLen; omega)
def TkPost (g : Gr.G) (a : Nat) (r : Bool) (w : World) (e : Ending) (w' : World) : Prop :=
  Below w.heap.size w w' ∧ e = .returned (.tuple #[.int .i64 (if r then Me.nb g a else 0), .bool r])
/-- The boxes of takes. -/
structure Tx (w : World) (gc : Array Value) (base : Nat) (y : Value) (us : List Value) (ts : List (List Int)) (u : World) : Prop where
  low : Below w.heap.size w u
  gb : Bk u w.heap.size 40 gc
  lst : Lst base u y us ts
theorem Tx.below {w u u' : World} {gc : Array Value} {base : Nat} {y : Value} {us : List Value} {ts : List (List Int)} (h : Tx w gc base y us ts u) (hb : Below u.heap.size u u') : Tx w gc base y us ts u' := ⟨blt h.low hb, h.gb.below hb, h.lst.below hb⟩
theorem unl_pos {l : List Gr.Op} {p : Nat} (h : l.length = p + 1) : Me.unl l = decide ((l.getD p Gr.op0).kind = 7) := by
  unfold Me.unl
  rw [h]
  simp
theorem lck_pos {l : List Gr.Op} {p : Nat} (h : l.length = p + 1) : Me.lck l = decide ((l.getD 0 Gr.op0).kind = 6) := by
  unfold Me.lck
  rw [h]
  simp
theorem unl_nil {l : List Gr.Op} (h : l.length = 0) : Me.unl l = false := by unfold Me.unl; rw [h]; rfl
theorem lck_nil {l : List Gr.Op} (h : l.length = 0) : Me.lck l = false := by unfold Me.lck; rw [h]; rfl
theorem hd_all {g : Gr.G} {b : Int} (h : ∀ j, j < g.hds.length → (g.hds.getD j (0, 0)).1 ≠ b) : Me.hd g b = false := by
  unfold Me.hd
  rw [List.any_eq_false]
  intro j hj
  simpa using h j (by simpa using hj)
theorem hd_one {g : Gr.G} {b : Int} {k : Nat} (hk : k < g.hds.length) (h : (g.hds.getD k (0, 0)).1 = b) : Me.hd g b = true := by
  unfold Me.hd
  rw [List.any_eq_true]
  exact ⟨k, by simpa using hk, by simpa using h⟩
theorem both_all {g : Gr.G} {a b : Int} (h : ∀ j, j < g.pts.length → (Me.has (g.pts.getD j []) a && Me.has (g.pts.getD j []) b) = false) : Me.both g a b = false := by
  unfold Me.both
  rw [List.any_eq_false]
  intro j hj
  rw [h j (by simpa using hj)]
  simp
theorem both_one {g : Gr.G} {a b : Int} {k : Nat} (hk : k < g.pts.length) (h : (Me.has (g.pts.getD k []) a && Me.has (g.pts.getD k []) b) = true) : Me.both g a b = true := by
  unfold Me.both
  rw [List.any_eq_true]
  exact ⟨k, by simpa using hk, h⟩
set_option maxHeartbeats 4000000 in
set_option maxRecDepth 100000 in
theorem takes_any (Ai Aa Ab Ap Ah : Option Addr) (ni ci na ca nb cb np cp nh ch : Nat) (V K S : Int) (g : Gr.G) (a base gy cy : Nat) (us : List Value) (r : Bool) (hr : Me.tk g a = r) (w : World) (hi : GrIn w g (.slice Ai ni ci) (.slice Aa na ca) (.slice Ab nb cb) (.slice Ap np cp) (.slice Ah nh ch)) (hI : Me.Iv g) (ha : a < g.blks.length) (hL : Lst base w (.slice (some ⟨gy, 0, none⟩) nb cy) us (Me.bef g.blks)) :
    Calls Try.prog 69 #[.agg #[.slice Ai ni ci, .int .i64 V, .int .i64 K, .slice Aa na ca, .int .i64 S, .slice Ab nb cb, .slice Ap np cp, .slice Ah nh ch], .slice (some ⟨gy, 0, none⟩) nb cy, .int .i64 (a : Int)] w (TkPost g a r w) := by
  have HIv := Lib.hid hI
  obtain ⟨A, c, a1, a2, c1, c2, hA, ho⟩ := id hi.blks
  injection hA with hA1 hA2 hA3
  subst hA1 hA3
  obtain ⟨A, c, hA4, hhd⟩ := hi.hds.opened
  injection hA4 with hA4 hA5 hA6
  subst hA4 hA6
  obtain ⟨A, c, p1, pc, hA7, hpt⟩ := hi.pts.opened
  injection hA7 with hA7 hA8 hA9
  subst hA7 hA9
  rw [← hA5] at hhd
  rw [← hA8] at hpt
  rw [← hA2] at ho
  have HNs := Lib.hid (And.intro hA2 (And.intro hA5 hA8))
  have HO := Lib.hid ho
  have HHd := Lib.hid hhd
  have HPt := Lib.hid hpt
  have hn64 : nb ≤ 64 := by rw [hA2]; exact hI.hi
  have hh64 : nh ≤ 64 := by rw [hA5]; exact hI.hdn
  have hp64 : np ≤ 64 := by rw [hA8]; have := hI.ptn; omega
  have hla : (a : Int) < (nb : Int) := by omega
  have hla0 : (0 : Int) ≤ (a : Int) := by omega
  obtain ⟨bo, off, rfl, hbo, x0, x1, x2, hopx, hnx⟩ := ho a (by omega)
  have HT2 := Lib.hid (show (decide ((g.blks.getD a Gr.blk0).next.length = 1) && (decide (((Me.bef g.blks).getD (Me.nb g a).toNat []).length = 1) && !Me.apart g (a : Int) (Me.nb g a))) = r from hr)
  have HNx := Lib.hid (hI.nx a ha)
  have HNb := Lib.hid (show Me.nb g a = (g.blks.getD a Gr.blk0).next.getD 0 0 from rfl)
  have HOx := Lib.hid hopx
  have HLo := Lib.hid (And.intro (hI.op a) hI.op)
  obtain ⟨A1, C1, hA', hqo⟩ := hnx.opened
  injection hA' with hB1 hB2 hB3
  have HQo := Lib.hid hqo
  obtain ⟨nq, hnq⟩ : ∃ n, (g.blks.getD a Gr.blk0).next.length = n := ⟨_, rfl⟩
  obtain ⟨no, hno⟩ : ∃ n, (g.blks.getD a Gr.blk0).ops.length = n := ⟨_, rfl⟩
  obtain ⟨co, hco⟩ : ∃ n, (g.blks.getD a Gr.blk0).cond = n := ⟨_, rfl⟩
  have HNo := Lib.hid hno
  have HNq := Lib.hid hnq
  rw [hB1, hB3, hnq] at x2
  rw [hno] at x0
  rw [hco] at x1
  rw [hnq] at HQo HT2
  have HX0 := Lib.hid (show Tx w #[.slice Ai ni ci, .int .i64 V, .int .i64 K, .slice Aa na ca, .int .i64 S, .slice (some ⟨bo, off, none⟩) nb cb, .slice Ap np cp, .slice Ah nh ch] base (.slice (some ⟨gy, 0, none⟩) nb cy) us (Me.bef g.blks) (w.alloc (.cells #[.slice Ai ni ci, .int .i64 V, .int .i64 K, .slice Aa na ca, .int .i64 S, .slice (some ⟨bo, off, none⟩) nb cb, .slice Ap np cp, .slice Ah nh ch] 40)) from ⟨bla (Below.refl _ _) _, Bk.new _ _ _, hL.below (bla (Below.refl _ _) _)⟩)
  clear hi hI hL ho hhd hpt hA2 hA5 hA8 hopx hnx hqo hB1 hB2 hB3 hnq hno hco hr ha
  go_enter Try.func69, Try.ntmps69
  go_upto_region 1 with fail
  generalize hW : World.alloc w (.cells #[.slice Ai ni ci, .int .i64 V, .int .i64 K, .slice Aa na ca, .int .i64 S, .slice (some ⟨bo, off, none⟩) nb cb, .slice Ap np cp, .slice Ah nh ch] 40) = W0 at HX0 ⊢
  clear hW
  have g5 := HX0.out.gb.cell 5
  replace x0 := (HX0.out.low.cell (p := ⟨bo, off + a * 3, none⟩) hbo).trans x0
  replace x1 := (HX0.out.low.cell (p := ⟨bo, off + a * 3 + 1, none⟩) hbo).trans x1
  replace x2 := (HX0.out.low.cell (p := ⟨bo, off + a * 3 + 2, none⟩) hbo).trans x2
  have hbk : Below W0.heap.size W0 (W0.alloc (.cells #[.slice (a1 a) no (c1 a), .int .i64 co, .slice A1 nq C1] 34)) := bla (Below.refl _ _) _
  have HX1 := Lib.hid (HX0.out.below hbk)
  have HB1 := Lib.hid (Bk.new W0 34 #[.slice (a1 a) no (c1 a), .int .i64 co, .slice A1 nq C1])
  have hbw : bo < W0.heap.size := Nat.lt_of_lt_of_le hbo HX0.out.low.size
  go_upto_region 2 with fail
  clear x0 x1 x2 g5 hbw hbk HX0
  obtain ⟨t1, ht1⟩ : ∃ t, W0.heap.size = t := ⟨_, rfl⟩
  rw [ht1] at HB1 ⊢
  clear ht1
  generalize hW : World.alloc W0 (.cells #[.slice (a1 a) no (c1 a), .int .i64 co, .slice A1 nq C1] 34) = W1 at HX1 HB1 ⊢
  clear hW W0
  have q2 := HB1.out.cell 2
  by_cases hq1 : nq = 1
  · subst hq1
    obtain ⟨bq, oq, rfl, hbq, hxq⟩ := HQo.out 0 (by omega)
    replace hxq := (HX1.out.low.cell (p := ⟨bq, oq, none⟩) hbq).trans hxq
    have hzr := HNx.out _ (Me.getD_mem (d := (0 : Int)) (show 0 < (g.blks.getD a Gr.blk0).next.length by rw [HNq.out]; omega))
    obtain ⟨z, hz⟩ : ∃ z, (g.blks.getD a Gr.blk0).next.getD 0 0 = z := ⟨_, rfl⟩
    replace HNb := HNb.out
    rw [hz] at hzr hxq HNb
    clear hz
    obtain ⟨zn, rfl⟩ : ∃ zn : Nat, z = (zn : Int) := ⟨z.toNat, by omega⟩
    replace HT2 := HT2.out
    rw [HNb, Int.toNat_natCast, decide_eq_true rfl, Bool.true_and] at HT2
    replace HT2 := Lib.hid HT2
    replace HNb := Lib.hid HNb
    have hzb : zn < nb := by rw [HNs.out.1]; omega
    have hz1 : (zn : Int) < (nb : Int) := by omega
    have hz0 : (0 : Int) ≤ (zn : Int) := by omega
    have ez0 : ((zn : Int) == 0) = false := by simp; omega
    obtain ⟨bo2, off2, e, -, z0, z1, z2, hopy, -⟩ := HO.out zn hzb
    injection e with e
    injection e with e1 e2
    subst e1 e2
    have HOy := Lib.hid hopy
    obtain ⟨mo, hmo⟩ : ∃ n, (g.blks.getD zn Gr.blk0).ops.length = n := ⟨_, rfl⟩
    obtain ⟨mc, hmc⟩ : ∃ n, (g.blks.getD zn Gr.blk0).cond = n := ⟨_, rfl⟩
    have HMo := Lib.hid hmo
    obtain ⟨my, hmy⟩ : ∃ n, (g.blks.getD zn Gr.blk0).next.length = n := ⟨_, rfl⟩
    rw [hmy] at z2
    clear hmy
    rw [hmo] at z0
    rw [hmc] at z1
    replace z0 := (HX1.out.low.cell (p := ⟨bo, off + zn * 3, none⟩) hbo).trans z0
    replace z1 := (HX1.out.low.cell (p := ⟨bo, off + zn * 3 + 1, none⟩) hbo).trans z1
    replace z2 := (HX1.out.low.cell (p := ⟨bo, off + zn * 3 + 2, none⟩) hbo).trans z2
    have g5 := HX1.out.gb.cell 5
    have hbk : Below W1.heap.size W1 (W1.alloc (.cells #[.slice (a1 zn) mo (c1 zn), .int .i64 mc, .slice (a2 zn) my (c2 zn)] 34)) := bla (Below.refl _ _) _
    have HX2 := Lib.hid (HX1.out.below hbk)
    have HB3 := Lib.hid (HB1.out.below hbk)
    have HB2 := Lib.hid (Bk.new W1 34 #[.slice (a1 zn) mo (c1 zn), .int .i64 mc, .slice (a2 zn) my (c2 zn)])
    clear hopy hmo hmc hzr
    have hbw : bo < W1.heap.size := Nat.lt_of_lt_of_le hbo HX1.out.low.size
    have hbqw : bq < W1.heap.size := Nat.lt_of_lt_of_le hbq HX1.out.low.size
    go_upto_region 6 with fail
    clear z0 z1 z2 g5 hbw hbqw hxq hbk HX1 HB1 q2
    obtain ⟨t2, ht2⟩ : ∃ t, W1.heap.size = t := ⟨_, rfl⟩
    rw [ht2] at HB2 ⊢
    clear ht2
    generalize hW : World.alloc W1 (.cells #[.slice (a1 zn) mo (c1 zn), .int .i64 mc, .slice (a2 zn) my (c2 zn)] 34) = W2 at HX2 HB2 HB3 ⊢
    clear hW W1
    have HX := HX2
    clear HX2
    have q0 := HB3.out.cell 0
    have r0 := HB2.out.cell 0
    have g6 := HX.out.gb.cell 6
    have g7 := HX.out.gb.cell 7
    have hzl : zn < (Me.bef g.blks).length := by rw [show (Me.bef g.blks).length = nb from (Me.befK_len _ _).trans HNs.out.1.symm]; exact hzb
    have hcz := own_cell nl HX.out.lst.out hzl
    obtain ⟨Z, hZ⟩ : ∃ Z, (Me.bef g.blks).getD zn [] = Z := ⟨_, rfl⟩
    have hR := HX.out.lst.rws.row zn hzl
    rw [hZ] at hR
    replace HT2 := HT2.out
    rw [hZ] at HT2
    obtain ⟨A9, C9, hA9⟩ := own_eta hR
    rw [hA9] at hcz
    have hcz1 := hcz.1
    clear hcz hzl hZ hR hA9
    obtain ⟨zl, hzl⟩ : ∃ n, Z.length = n := ⟨_, rfl⟩
    rw [hzl] at hcz1 HT2
    clear hzl Z
    have HTa := Lib.hid (show Me.apart g (a : Int) (zn : Int) = ((((decide ((a : Int) = (zn : Int)) || Me.unl (g.blks.getD a Gr.blk0).ops) || Me.lck (g.blks.getD zn Gr.blk0).ops) || Me.hd g (zn : Int)) || Me.both g (a : Int) (zn : Int)) by unfold Me.apart; rw [Int.toNat_natCast, Int.toNat_natCast])
    rw [HTa.out] at HT2
    replace HT2 := Lib.hid HT2
    clear HTa
    by_cases hza : zn = a
    · have e : ((zn : Int) == (a : Int)) = true := by simp [hza]
      have HR := Lib.hid (show false = r by rw [← HT2.out, hza]; simp)
      clear hza HT2
      go_wp2
      refine bodyPost_ret (v := .tuple #[.int .i64 0, .bool false]) ?_ rfl ⟨HX.out.low, by rw [← HR.out]; rfl⟩
      simp [results, Try.results69]
    · have e : ((zn : Int) == (a : Int)) = false := by simp; omega
      replace HT2 := HT2.out
      rw [show decide ((a : Int) = (zn : Int)) = false by simp; omega, Bool.false_or] at HT2
      replace HT2 := Lib.hid HT2
      clear hza
      by_cases hz1 : zl = 1
      · subst hz1
        replace HT2 := HT2.out
        rw [decide_eq_true rfl, Bool.true_and] at HT2
        replace HT2 := Lib.hid HT2
        have HUx := Lib.hid (show no = 0 ∧ Me.unl (g.blks.getD a Gr.blk0).ops = false ∨ ∃ (p b3 o3 : Nat) (kd : Int), no = p + 1 ∧ a1 a = some ⟨b3, o3, none⟩ ∧ W2.cell? ⟨b3, o3 + p * 5, none⟩ = some (.int .i64 kd) ∧ Me.unl (g.blks.getD a Gr.blk0).ops = decide (kd = 7) from by
          have hn := HNo.out
          rcases Nat.eq_zero_or_pos no with h0 | h0
          · exact .inl ⟨h0, unl_nil (by omega)⟩
          · obtain ⟨A', c', e, ho⟩ := HOx.out.opened
            injection e with e1 e2 e3
            obtain ⟨b3, o3, e4, hb3, y0, -⟩ := ho (no - 1) (by omega)
            exact .inr ⟨no - 1, b3, o3, _, by omega, e1.trans e4, (HX.out.low.cell (p := ⟨b3, o3 + (no - 1) * 5, none⟩) hb3).trans y0, unl_pos (by omega)⟩)
        have HUy := Lib.hid (show mo = 0 ∧ Me.lck (g.blks.getD zn Gr.blk0).ops = false ∨ ∃ (p b3 o3 : Nat) (kd : Int), mo = p + 1 ∧ a1 zn = some ⟨b3, o3, none⟩ ∧ W2.cell? ⟨b3, o3, none⟩ = some (.int .i64 kd) ∧ Me.lck (g.blks.getD zn Gr.blk0).ops = decide (kd = 6) from by
          have hn := HMo.out
          rcases Nat.eq_zero_or_pos mo with h0 | h0
          · exact .inl ⟨h0, lck_nil (by omega)⟩
          · obtain ⟨A', c', e, ho⟩ := HOy.out.opened
            injection e with e1 e2 e3
            obtain ⟨b3, o3, e4, hb3, y0, -⟩ := ho 0 (by omega)
            exact .inr ⟨mo - 1, b3, o3, _, by omega, e1.trans e4, (HX.out.low.cell (p := ⟨b3, o3, none⟩) hb3).trans (by simpa using y0), lck_pos (p := mo - 1) (by omega)⟩)
        have hno : no ≤ 600 := by have := HLo.out.1; have := HNo.out; omega
        have hmo : mo ≤ 600 := by have := HLo.out.2 zn; have := HMo.out; omega
        clear HNo HMo HOx HOy HLo
        generalize Me.unl (g.blks.getD a Gr.blk0).ops = ux at HT2 HUx
        generalize Me.lck (g.blks.getD zn Gr.blk0).ops = uy at HT2 HUy
        rcases HUx.out with ⟨rfl, rfl⟩ | ⟨p, b3, o3, kd, rfl, ha1, y0, rfl⟩
        · clear HUx
          replace HT2 := HT2.out
          rw [Bool.false_or] at HT2
          replace HT2 := Lib.hid HT2
          rcases HUy.out with ⟨rfl, rfl⟩ | ⟨p', b4, o4, kd', rfl, ha2, y4, rfl⟩
          · clear HUy
            replace HT2 := HT2.out
            rw [Bool.false_or] at HT2
            have HR4 := Lib.hid HT2
            clear HT2
            go_wp2
            go_loop [11] (fun i => ∃ k : Nat, k ≤ nh ∧ i = .int .i64 k ∧ Hid (∀ j, j < k → (g.hds.getD j (0, 0)).1 ≠ (zn : Int))) (fun i => nh - (intOf i).toNat)
            case atStart => exact ⟨0, Nat.zero_le _, rfl, Lib.hid fun j hj => absurd hj (Nat.not_lt_zero _)⟩
            case round =>
              obtain ⟨k, hk, rfl, HF⟩ := hrel
              by_cases hlt : k < nh
              · have hlt' : (k : Int) < nh := by omega
                have hlt0 : (0 : Int) ≤ (k : Int) := by omega
                obtain ⟨bh, oh, rfl, hbh, y0, -⟩ := HHd.out k hlt
                replace y0 := (HX.out.low.cell (p := ⟨bh, oh + k * 2, none⟩) hbh).trans y0
                obtain ⟨hv, hhv⟩ : ∃ x, (g.hds.getD k (0, 0)).1 = x := ⟨_, rfl⟩
                rw [hhv] at y0
                by_cases he : hv = (zn : Int)
                · subst he
                  have HR := Lib.hid (show false = r from by rw [← HR4.out, hd_one (k := k) (by rw [← HNs.out.2.1]; exact hlt) hhv]; rfl)
                  clear hhv HF
                  go_wp2
                  refine bodyPost_ret (v := .tuple #[.int .i64 0, .bool false]) ?_ rfl ⟨HX.out.low, by rw [← HR.out]; rfl⟩
                  simp [results, Try.results69]
                · have e : (hv == (zn : Int)) = false := by simp [he]
                  have HN := Lib.hid (show ∀ j, j < k + 1 → (g.hds.getD j (0, 0)).1 ≠ (zn : Int) from fun j hj => by
                    rcases Nat.lt_succ_iff_lt_or_eq.1 hj with h | rfl
                    · exact HF.out j h
                    · rw [hhv]; exact he)
                  clear hhv HF he
                  go_wp2
                  go_round
                  case rel => exact ⟨k + 1, by omega, by first | rfl | go_num, HN⟩
                  case measure => simp [intOf]; omega
              · have hlt' : ¬ (k : Int) < nh := by omega
                obtain rfl : k = nh := by omega
                have HR5 := Lib.hid (show (!Me.both g (a : Int) (zn : Int)) = r from by rw [← HR4.out, hd_all (by rw [← HNs.out.2.1]; exact HF.out)]; rfl)
                clear HF
                go_wp2
                go_loop [12] (fun i => ∃ m : Nat, m ≤ np ∧ i = .int .i64 m ∧ Hid (∀ j, j < m → (Me.has (g.pts.getD j []) (a : Int) && Me.has (g.pts.getD j []) (zn : Int)) = false)) (fun i => np - (intOf i).toNat)
                case atStart => exact ⟨0, Nat.zero_le _, rfl, Lib.hid fun j hj => absurd hj (Nat.not_lt_zero _)⟩
                case round =>
                  obtain ⟨m, hm, rfl, HF⟩ := hrel
                  by_cases hlt2 : m < np
                  · have hlt3 : (m : Int) < np := by omega
                    have hlt4 : (0 : Int) ≤ (m : Int) := by omega
                    obtain ⟨bp, op, rfl, hbp, y0, y1⟩ := HPt.out m hlt2
                    replace y0 := (HX.out.low.cell (p := ⟨bp, op + m, none⟩) hbp).trans y0
                    have HA := Lib.hid fun (x : Int) (r : Bool) (hr : Me.has (g.pts.getD m []) x = r) => rhas_nums _ (g.pts.getD m []) x r hr W2 (y1.below HX.out.low) (by have := HIv.out.ptl _ (Me.getD_mem (d := []) (show m < g.pts.length by rw [← HNs.out.2.2]; exact hlt2)); omega)
                    obtain ⟨mp, hmp⟩ : ∃ n, (g.pts.getD m []).length = n := ⟨_, rfl⟩
                    rw [hmp] at y0 HA
                    clear y1 hmp
                    cases h1 : Me.has (g.pts.getD m []) (a : Int)
                    · have H1 := Lib.hid h1
                      have HN := Lib.hid (show ∀ j, j < m + 1 → (Me.has (g.pts.getD j []) (a : Int) && Me.has (g.pts.getD j []) (zn : Int)) = false from fun j hj => by
                        rcases Nat.lt_succ_iff_lt_or_eq.1 hj with h | rfl
                        · exact HF.out j h
                        · rw [h1]; rfl)
                      clear h1 HF
                      go_wp2_with fail
                      refine (HA.out _ _ H1.out).mono ?_
                      rintro e w' ⟨rfl, hw⟩
                      obtain rfl := hw.symm
                      go_wp2
                      go_round
                      case rel => exact ⟨m + 1, by omega, by first | rfl | go_num, HN⟩
                      case measure => simp [intOf]; omega
                    · cases h2 : Me.has (g.pts.getD m []) (zn : Int)
                      · have H1 := Lib.hid h1
                        have H2 := Lib.hid h2
                        have HN := Lib.hid (show ∀ j, j < m + 1 → (Me.has (g.pts.getD j []) (a : Int) && Me.has (g.pts.getD j []) (zn : Int)) = false from fun j hj => by
                          rcases Nat.lt_succ_iff_lt_or_eq.1 hj with h | rfl
                          · exact HF.out j h
                          · rw [h2]; simp)
                        clear h1 h2 HF
                        go_wp2_with fail
                        refine (HA.out _ _ H1.out).mono ?_
                        rintro e w' ⟨rfl, hw⟩
                        obtain rfl := hw.symm
                        go_wp2_with fail
                        refine (HA.out _ _ H2.out).mono ?_
                        rintro e w' ⟨rfl, hw⟩
                        obtain rfl := hw.symm
                        go_wp2
                        go_round
                        case rel => exact ⟨m + 1, by omega, by first | rfl | go_num, HN⟩
                        case measure => simp [intOf]; omega
                      · have H1 := Lib.hid h1
                        have H2 := Lib.hid h2
                        have HR := Lib.hid (show false = r from by rw [← HR5.out, both_one (k := m) (by rw [← HNs.out.2.2]; exact hlt2) (by rw [h1, h2]; rfl)]; rfl)
                        clear h1 h2 HF
                        go_wp2_with fail
                        refine (HA.out _ _ H1.out).mono ?_
                        rintro e w' ⟨rfl, hw⟩
                        obtain rfl := hw.symm
                        go_wp2_with fail
                        refine (HA.out _ _ H2.out).mono ?_
                        rintro e w' ⟨rfl, hw⟩
                        obtain rfl := hw.symm
                        go_wp2
                        refine bodyPost_ret (v := .tuple #[.int .i64 0, .bool false]) ?_ rfl ⟨HX.out.low, by rw [← HR.out]; rfl⟩
                        simp [results, Try.results69]
                  · have hlt3 : ¬ (m : Int) < np := by omega
                    obtain rfl : m = np := by omega
                    have HR := Lib.hid (show true = r from by rw [← HR5.out, both_all (by rw [← HNs.out.2.2]; exact HF.out)]; rfl)
                    clear HF
                    go_wp2
                    refine bodyPost_ret (v := .tuple #[.int .i64 (zn : Int), .bool true]) ?_ rfl ⟨HX.out.low, by rw [← HR.out, if_pos rfl, HNb.out]⟩
                    simp [results, Try.results69]
          · clear HUy
            by_cases hkd2 : kd' = 6
            · have HR := Lib.hid (show false = r from by rw [← HT2.out, decide_eq_true hkd2]; simp)
              clear HT2
              subst hkd2
              rw [ha2] at r0
              have h2p : (0 : Int) < (p' : Int) + 1 := by omega
              go_wp2
              refine bodyPost_ret (v := .tuple #[.int .i64 0, .bool false]) ?_ rfl ⟨HX.out.low, by rw [← HR.out]; rfl⟩
              simp [results, Try.results69]
            · replace HT2 := HT2.out
              rw [decide_eq_false hkd2, Bool.false_or] at HT2
              have HR4 := Lib.hid HT2
              have ekd2 : (kd' == 6) = false := by simp [hkd2]
              clear HT2 hkd2
              rw [ha2] at r0
              have h2p : (0 : Int) < (p' : Int) + 1 := by omega
              go_wp2
              go_loop [11] (fun i => ∃ k : Nat, k ≤ nh ∧ i = .int .i64 k ∧ Hid (∀ j, j < k → (g.hds.getD j (0, 0)).1 ≠ (zn : Int))) (fun i => nh - (intOf i).toNat)
              case atStart => exact ⟨0, Nat.zero_le _, rfl, Lib.hid fun j hj => absurd hj (Nat.not_lt_zero _)⟩
              case round =>
                obtain ⟨k, hk, rfl, HF⟩ := hrel
                by_cases hlt : k < nh
                · have hlt' : (k : Int) < nh := by omega
                  have hlt0 : (0 : Int) ≤ (k : Int) := by omega
                  obtain ⟨bh, oh, rfl, hbh, y0, -⟩ := HHd.out k hlt
                  replace y0 := (HX.out.low.cell (p := ⟨bh, oh + k * 2, none⟩) hbh).trans y0
                  obtain ⟨hv, hhv⟩ : ∃ x, (g.hds.getD k (0, 0)).1 = x := ⟨_, rfl⟩
                  rw [hhv] at y0
                  by_cases he : hv = (zn : Int)
                  · subst he
                    have HR := Lib.hid (show false = r from by rw [← HR4.out, hd_one (k := k) (by rw [← HNs.out.2.1]; exact hlt) hhv]; rfl)
                    clear hhv HF
                    go_wp2
                    refine bodyPost_ret (v := .tuple #[.int .i64 0, .bool false]) ?_ rfl ⟨HX.out.low, by rw [← HR.out]; rfl⟩
                    simp [results, Try.results69]
                  · have e : (hv == (zn : Int)) = false := by simp [he]
                    have HN := Lib.hid (show ∀ j, j < k + 1 → (g.hds.getD j (0, 0)).1 ≠ (zn : Int) from fun j hj => by
                      rcases Nat.lt_succ_iff_lt_or_eq.1 hj with h | rfl
                      · exact HF.out j h
                      · rw [hhv]; exact he)
                    clear hhv HF he
                    go_wp2
                    go_round
                    case rel => exact ⟨k + 1, by omega, by first | rfl | go_num, HN⟩
                    case measure => simp [intOf]; omega
                · have hlt' : ¬ (k : Int) < nh := by omega
                  obtain rfl : k = nh := by omega
                  have HR5 := Lib.hid (show (!Me.both g (a : Int) (zn : Int)) = r from by rw [← HR4.out, hd_all (by rw [← HNs.out.2.1]; exact HF.out)]; rfl)
                  clear HF
                  go_wp2
                  go_loop [12] (fun i => ∃ m : Nat, m ≤ np ∧ i = .int .i64 m ∧ Hid (∀ j, j < m → (Me.has (g.pts.getD j []) (a : Int) && Me.has (g.pts.getD j []) (zn : Int)) = false)) (fun i => np - (intOf i).toNat)
                  case atStart => exact ⟨0, Nat.zero_le _, rfl, Lib.hid fun j hj => absurd hj (Nat.not_lt_zero _)⟩
                  case round =>
                    obtain ⟨m, hm, rfl, HF⟩ := hrel
                    by_cases hlt2 : m < np
                    · have hlt3 : (m : Int) < np := by omega
                      have hlt4 : (0 : Int) ≤ (m : Int) := by omega
                      obtain ⟨bp, op, rfl, hbp, y0, y1⟩ := HPt.out m hlt2
                      replace y0 := (HX.out.low.cell (p := ⟨bp, op + m, none⟩) hbp).trans y0
                      have HA := Lib.hid fun (x : Int) (r : Bool) (hr : Me.has (g.pts.getD m []) x = r) => rhas_nums _ (g.pts.getD m []) x r hr W2 (y1.below HX.out.low) (by have := HIv.out.ptl _ (Me.getD_mem (d := []) (show m < g.pts.length by rw [← HNs.out.2.2]; exact hlt2)); omega)
                      obtain ⟨mp, hmp⟩ : ∃ n, (g.pts.getD m []).length = n := ⟨_, rfl⟩
                      rw [hmp] at y0 HA
                      clear y1 hmp
                      cases h1 : Me.has (g.pts.getD m []) (a : Int)
                      · have H1 := Lib.hid h1
                        have HN := Lib.hid (show ∀ j, j < m + 1 → (Me.has (g.pts.getD j []) (a : Int) && Me.has (g.pts.getD j []) (zn : Int)) = false from fun j hj => by
                          rcases Nat.lt_succ_iff_lt_or_eq.1 hj with h | rfl
                          · exact HF.out j h
                          · rw [h1]; rfl)
                        clear h1 HF
                        go_wp2_with fail
                        refine (HA.out _ _ H1.out).mono ?_
                        rintro e w' ⟨rfl, hw⟩
                        obtain rfl := hw.symm
                        go_wp2
                        go_round
                        case rel => exact ⟨m + 1, by omega, by first | rfl | go_num, HN⟩
                        case measure => simp [intOf]; omega
                      · cases h2 : Me.has (g.pts.getD m []) (zn : Int)
                        · have H1 := Lib.hid h1
                          have H2 := Lib.hid h2
                          have HN := Lib.hid (show ∀ j, j < m + 1 → (Me.has (g.pts.getD j []) (a : Int) && Me.has (g.pts.getD j []) (zn : Int)) = false from fun j hj => by
                            rcases Nat.lt_succ_iff_lt_or_eq.1 hj with h | rfl
                            · exact HF.out j h
                            · rw [h2]; simp)
                          clear h1 h2 HF
                          go_wp2_with fail
                          refine (HA.out _ _ H1.out).mono ?_
                          rintro e w' ⟨rfl, hw⟩
                          obtain rfl := hw.symm
                          go_wp2_with fail
                          refine (HA.out _ _ H2.out).mono ?_
                          rintro e w' ⟨rfl, hw⟩
                          obtain rfl := hw.symm
                          go_wp2
                          go_round
                          case rel => exact ⟨m + 1, by omega, by first | rfl | go_num, HN⟩
                          case measure => simp [intOf]; omega
                        · have H1 := Lib.hid h1
                          have H2 := Lib.hid h2
                          have HR := Lib.hid (show false = r from by rw [← HR5.out, both_one (k := m) (by rw [← HNs.out.2.2]; exact hlt2) (by rw [h1, h2]; rfl)]; rfl)
                          clear h1 h2 HF
                          go_wp2_with fail
                          refine (HA.out _ _ H1.out).mono ?_
                          rintro e w' ⟨rfl, hw⟩
                          obtain rfl := hw.symm
                          go_wp2_with fail
                          refine (HA.out _ _ H2.out).mono ?_
                          rintro e w' ⟨rfl, hw⟩
                          obtain rfl := hw.symm
                          go_wp2
                          refine bodyPost_ret (v := .tuple #[.int .i64 0, .bool false]) ?_ rfl ⟨HX.out.low, by rw [← HR.out]; rfl⟩
                          simp [results, Try.results69]
                    · have hlt3 : ¬ (m : Int) < np := by omega
                      obtain rfl : m = np := by omega
                      have HR := Lib.hid (show true = r from by rw [← HR5.out, both_all (by rw [← HNs.out.2.2]; exact HF.out)]; rfl)
                      clear HF
                      go_wp2
                      refine bodyPost_ret (v := .tuple #[.int .i64 (zn : Int), .bool true]) ?_ rfl ⟨HX.out.low, by rw [← HR.out, if_pos rfl, HNb.out]⟩
                      simp [results, Try.results69]
        · clear HUx
          by_cases hkd : kd = 7
          · have HR := Lib.hid (show false = r from by rw [← HT2.out, decide_eq_true hkd]; simp)
            clear HT2
            subst hkd
            rw [ha1] at q0
            have h1p : (0 : Int) < (p : Int) + 1 := by omega
            have h1q : (0 : Int) ≤ (p : Int) := by omega
            have h1r : (p : Int) < (p : Int) + 1 := by omega
            have hwp : wrap64 (p : Int) = (p : Int) := IntWalk.wrap64_in _ (by omega)
            go_wp2
            refine bodyPost_ret (v := .tuple #[.int .i64 0, .bool false]) ?_ rfl ⟨HX.out.low, by rw [← HR.out]; rfl⟩
            simp [results, Try.results69]
          · replace HT2 := HT2.out
            rw [decide_eq_false hkd, Bool.false_or] at HT2
            replace HT2 := Lib.hid HT2
            have ekd : (kd == 7) = false := by simp [hkd]
            clear hkd
            rw [ha1] at q0
            have h1p : (0 : Int) < (p : Int) + 1 := by omega
            have h1q : (0 : Int) ≤ (p : Int) := by omega
            have h1r : (p : Int) < (p : Int) + 1 := by omega
            have hwp : wrap64 (p : Int) = (p : Int) := IntWalk.wrap64_in _ (by omega)
            rcases HUy.out with ⟨rfl, rfl⟩ | ⟨p', b4, o4, kd', rfl, ha2, y4, rfl⟩
            · clear HUy
              replace HT2 := HT2.out
              rw [Bool.false_or] at HT2
              have HR4 := Lib.hid HT2
              clear HT2
              go_wp2
              go_loop [11] (fun i => ∃ k : Nat, k ≤ nh ∧ i = .int .i64 k ∧ Hid (∀ j, j < k → (g.hds.getD j (0, 0)).1 ≠ (zn : Int))) (fun i => nh - (intOf i).toNat)
              case atStart => exact ⟨0, Nat.zero_le _, rfl, Lib.hid fun j hj => absurd hj (Nat.not_lt_zero _)⟩
              case round =>
                obtain ⟨k, hk, rfl, HF⟩ := hrel
                by_cases hlt : k < nh
                · have hlt' : (k : Int) < nh := by omega
                  have hlt0 : (0 : Int) ≤ (k : Int) := by omega
                  obtain ⟨bh, oh, rfl, hbh, y0, -⟩ := HHd.out k hlt
                  replace y0 := (HX.out.low.cell (p := ⟨bh, oh + k * 2, none⟩) hbh).trans y0
                  obtain ⟨hv, hhv⟩ : ∃ x, (g.hds.getD k (0, 0)).1 = x := ⟨_, rfl⟩
                  rw [hhv] at y0
                  by_cases he : hv = (zn : Int)
                  · subst he
                    have HR := Lib.hid (show false = r from by rw [← HR4.out, hd_one (k := k) (by rw [← HNs.out.2.1]; exact hlt) hhv]; rfl)
                    clear hhv HF
                    go_wp2
                    refine bodyPost_ret (v := .tuple #[.int .i64 0, .bool false]) ?_ rfl ⟨HX.out.low, by rw [← HR.out]; rfl⟩
                    simp [results, Try.results69]
                  · have e : (hv == (zn : Int)) = false := by simp [he]
                    have HN := Lib.hid (show ∀ j, j < k + 1 → (g.hds.getD j (0, 0)).1 ≠ (zn : Int) from fun j hj => by
                      rcases Nat.lt_succ_iff_lt_or_eq.1 hj with h | rfl
                      · exact HF.out j h
                      · rw [hhv]; exact he)
                    clear hhv HF he
                    go_wp2
                    go_round
                    case rel => exact ⟨k + 1, by omega, by first | rfl | go_num, HN⟩
                    case measure => simp [intOf]; omega
                · have hlt' : ¬ (k : Int) < nh := by omega
                  obtain rfl : k = nh := by omega
                  have HR5 := Lib.hid (show (!Me.both g (a : Int) (zn : Int)) = r from by rw [← HR4.out, hd_all (by rw [← HNs.out.2.1]; exact HF.out)]; rfl)
                  clear HF
                  go_wp2
                  go_loop [12] (fun i => ∃ m : Nat, m ≤ np ∧ i = .int .i64 m ∧ Hid (∀ j, j < m → (Me.has (g.pts.getD j []) (a : Int) && Me.has (g.pts.getD j []) (zn : Int)) = false)) (fun i => np - (intOf i).toNat)
                  case atStart => exact ⟨0, Nat.zero_le _, rfl, Lib.hid fun j hj => absurd hj (Nat.not_lt_zero _)⟩
                  case round =>
                    obtain ⟨m, hm, rfl, HF⟩ := hrel
                    by_cases hlt2 : m < np
                    · have hlt3 : (m : Int) < np := by omega
                      have hlt4 : (0 : Int) ≤ (m : Int) := by omega
                      obtain ⟨bp, op, rfl, hbp, y0, y1⟩ := HPt.out m hlt2
                      replace y0 := (HX.out.low.cell (p := ⟨bp, op + m, none⟩) hbp).trans y0
                      have HA := Lib.hid fun (x : Int) (r : Bool) (hr : Me.has (g.pts.getD m []) x = r) => rhas_nums _ (g.pts.getD m []) x r hr W2 (y1.below HX.out.low) (by have := HIv.out.ptl _ (Me.getD_mem (d := []) (show m < g.pts.length by rw [← HNs.out.2.2]; exact hlt2)); omega)
                      obtain ⟨mp, hmp⟩ : ∃ n, (g.pts.getD m []).length = n := ⟨_, rfl⟩
                      rw [hmp] at y0 HA
                      clear y1 hmp
                      cases h1 : Me.has (g.pts.getD m []) (a : Int)
                      · have H1 := Lib.hid h1
                        have HN := Lib.hid (show ∀ j, j < m + 1 → (Me.has (g.pts.getD j []) (a : Int) && Me.has (g.pts.getD j []) (zn : Int)) = false from fun j hj => by
                          rcases Nat.lt_succ_iff_lt_or_eq.1 hj with h | rfl
                          · exact HF.out j h
                          · rw [h1]; rfl)
                        clear h1 HF
                        go_wp2_with fail
                        refine (HA.out _ _ H1.out).mono ?_
                        rintro e w' ⟨rfl, hw⟩
                        obtain rfl := hw.symm
                        go_wp2
                        go_round
                        case rel => exact ⟨m + 1, by omega, by first | rfl | go_num, HN⟩
                        case measure => simp [intOf]; omega
                      · cases h2 : Me.has (g.pts.getD m []) (zn : Int)
                        · have H1 := Lib.hid h1
                          have H2 := Lib.hid h2
                          have HN := Lib.hid (show ∀ j, j < m + 1 → (Me.has (g.pts.getD j []) (a : Int) && Me.has (g.pts.getD j []) (zn : Int)) = false from fun j hj => by
                            rcases Nat.lt_succ_iff_lt_or_eq.1 hj with h | rfl
                            · exact HF.out j h
                            · rw [h2]; simp)
                          clear h1 h2 HF
                          go_wp2_with fail
                          refine (HA.out _ _ H1.out).mono ?_
                          rintro e w' ⟨rfl, hw⟩
                          obtain rfl := hw.symm
                          go_wp2_with fail
                          refine (HA.out _ _ H2.out).mono ?_
                          rintro e w' ⟨rfl, hw⟩
                          obtain rfl := hw.symm
                          go_wp2
                          go_round
                          case rel => exact ⟨m + 1, by omega, by first | rfl | go_num, HN⟩
                          case measure => simp [intOf]; omega
                        · have H1 := Lib.hid h1
                          have H2 := Lib.hid h2
                          have HR := Lib.hid (show false = r from by rw [← HR5.out, both_one (k := m) (by rw [← HNs.out.2.2]; exact hlt2) (by rw [h1, h2]; rfl)]; rfl)
                          clear h1 h2 HF
                          go_wp2_with fail
                          refine (HA.out _ _ H1.out).mono ?_
                          rintro e w' ⟨rfl, hw⟩
                          obtain rfl := hw.symm
                          go_wp2_with fail
                          refine (HA.out _ _ H2.out).mono ?_
                          rintro e w' ⟨rfl, hw⟩
                          obtain rfl := hw.symm
                          go_wp2
                          refine bodyPost_ret (v := .tuple #[.int .i64 0, .bool false]) ?_ rfl ⟨HX.out.low, by rw [← HR.out]; rfl⟩
                          simp [results, Try.results69]
                    · have hlt3 : ¬ (m : Int) < np := by omega
                      obtain rfl : m = np := by omega
                      have HR := Lib.hid (show true = r from by rw [← HR5.out, both_all (by rw [← HNs.out.2.2]; exact HF.out)]; rfl)
                      clear HF
                      go_wp2
                      refine bodyPost_ret (v := .tuple #[.int .i64 (zn : Int), .bool true]) ?_ rfl ⟨HX.out.low, by rw [← HR.out, if_pos rfl, HNb.out]⟩
                      simp [results, Try.results69]
            · clear HUy
              by_cases hkd2 : kd' = 6
              · have HR := Lib.hid (show false = r from by rw [← HT2.out, decide_eq_true hkd2]; simp)
                clear HT2
                subst hkd2
                rw [ha2] at r0
                have h2p : (0 : Int) < (p' : Int) + 1 := by omega
                go_wp2
                refine bodyPost_ret (v := .tuple #[.int .i64 0, .bool false]) ?_ rfl ⟨HX.out.low, by rw [← HR.out]; rfl⟩
                simp [results, Try.results69]
              · replace HT2 := HT2.out
                rw [decide_eq_false hkd2, Bool.false_or] at HT2
                have HR4 := Lib.hid HT2
                have ekd2 : (kd' == 6) = false := by simp [hkd2]
                clear HT2 hkd2
                rw [ha2] at r0
                have h2p : (0 : Int) < (p' : Int) + 1 := by omega
                go_wp2
                go_loop [11] (fun i => ∃ k : Nat, k ≤ nh ∧ i = .int .i64 k ∧ Hid (∀ j, j < k → (g.hds.getD j (0, 0)).1 ≠ (zn : Int))) (fun i => nh - (intOf i).toNat)
                case atStart => exact ⟨0, Nat.zero_le _, rfl, Lib.hid fun j hj => absurd hj (Nat.not_lt_zero _)⟩
                case round =>
                  obtain ⟨k, hk, rfl, HF⟩ := hrel
                  by_cases hlt : k < nh
                  · have hlt' : (k : Int) < nh := by omega
                    have hlt0 : (0 : Int) ≤ (k : Int) := by omega
                    obtain ⟨bh, oh, rfl, hbh, y0, -⟩ := HHd.out k hlt
                    replace y0 := (HX.out.low.cell (p := ⟨bh, oh + k * 2, none⟩) hbh).trans y0
                    obtain ⟨hv, hhv⟩ : ∃ x, (g.hds.getD k (0, 0)).1 = x := ⟨_, rfl⟩
                    rw [hhv] at y0
                    by_cases he : hv = (zn : Int)
                    · subst he
                      have HR := Lib.hid (show false = r from by rw [← HR4.out, hd_one (k := k) (by rw [← HNs.out.2.1]; exact hlt) hhv]; rfl)
                      clear hhv HF
                      go_wp2
                      refine bodyPost_ret (v := .tuple #[.int .i64 0, .bool false]) ?_ rfl ⟨HX.out.low, by rw [← HR.out]; rfl⟩
                      simp [results, Try.results69]
                    · have e : (hv == (zn : Int)) = false := by simp [he]
                      have HN := Lib.hid (show ∀ j, j < k + 1 → (g.hds.getD j (0, 0)).1 ≠ (zn : Int) from fun j hj => by
                        rcases Nat.lt_succ_iff_lt_or_eq.1 hj with h | rfl
                        · exact HF.out j h
                        · rw [hhv]; exact he)
                      clear hhv HF he
                      go_wp2
                      go_round
                      case rel => exact ⟨k + 1, by omega, by first | rfl | go_num, HN⟩
                      case measure => simp [intOf]; omega
                  · have hlt' : ¬ (k : Int) < nh := by omega
                    obtain rfl : k = nh := by omega
                    have HR5 := Lib.hid (show (!Me.both g (a : Int) (zn : Int)) = r from by rw [← HR4.out, hd_all (by rw [← HNs.out.2.1]; exact HF.out)]; rfl)
                    clear HF
                    go_wp2
                    go_loop [12] (fun i => ∃ m : Nat, m ≤ np ∧ i = .int .i64 m ∧ Hid (∀ j, j < m → (Me.has (g.pts.getD j []) (a : Int) && Me.has (g.pts.getD j []) (zn : Int)) = false)) (fun i => np - (intOf i).toNat)
                    case atStart => exact ⟨0, Nat.zero_le _, rfl, Lib.hid fun j hj => absurd hj (Nat.not_lt_zero _)⟩
                    case round =>
                      obtain ⟨m, hm, rfl, HF⟩ := hrel
                      by_cases hlt2 : m < np
                      · have hlt3 : (m : Int) < np := by omega
                        have hlt4 : (0 : Int) ≤ (m : Int) := by omega
                        obtain ⟨bp, op, rfl, hbp, y0, y1⟩ := HPt.out m hlt2
                        replace y0 := (HX.out.low.cell (p := ⟨bp, op + m, none⟩) hbp).trans y0
                        have HA := Lib.hid fun (x : Int) (r : Bool) (hr : Me.has (g.pts.getD m []) x = r) => rhas_nums _ (g.pts.getD m []) x r hr W2 (y1.below HX.out.low) (by have := HIv.out.ptl _ (Me.getD_mem (d := []) (show m < g.pts.length by rw [← HNs.out.2.2]; exact hlt2)); omega)
                        obtain ⟨mp, hmp⟩ : ∃ n, (g.pts.getD m []).length = n := ⟨_, rfl⟩
                        rw [hmp] at y0 HA
                        clear y1 hmp
                        cases h1 : Me.has (g.pts.getD m []) (a : Int)
                        · have H1 := Lib.hid h1
                          have HN := Lib.hid (show ∀ j, j < m + 1 → (Me.has (g.pts.getD j []) (a : Int) && Me.has (g.pts.getD j []) (zn : Int)) = false from fun j hj => by
                            rcases Nat.lt_succ_iff_lt_or_eq.1 hj with h | rfl
                            · exact HF.out j h
                            · rw [h1]; rfl)
                          clear h1 HF
                          go_wp2_with fail
                          refine (HA.out _ _ H1.out).mono ?_
                          rintro e w' ⟨rfl, hw⟩
                          obtain rfl := hw.symm
                          go_wp2
                          go_round
                          case rel => exact ⟨m + 1, by omega, by first | rfl | go_num, HN⟩
                          case measure => simp [intOf]; omega
                        · cases h2 : Me.has (g.pts.getD m []) (zn : Int)
                          · have H1 := Lib.hid h1
                            have H2 := Lib.hid h2
                            have HN := Lib.hid (show ∀ j, j < m + 1 → (Me.has (g.pts.getD j []) (a : Int) && Me.has (g.pts.getD j []) (zn : Int)) = false from fun j hj => by
                              rcases Nat.lt_succ_iff_lt_or_eq.1 hj with h | rfl
                              · exact HF.out j h
                              · rw [h2]; simp)
                            clear h1 h2 HF
                            go_wp2_with fail
                            refine (HA.out _ _ H1.out).mono ?_
                            rintro e w' ⟨rfl, hw⟩
                            obtain rfl := hw.symm
                            go_wp2_with fail
                            refine (HA.out _ _ H2.out).mono ?_
                            rintro e w' ⟨rfl, hw⟩
                            obtain rfl := hw.symm
                            go_wp2
                            go_round
                            case rel => exact ⟨m + 1, by omega, by first | rfl | go_num, HN⟩
                            case measure => simp [intOf]; omega
                          · have H1 := Lib.hid h1
                            have H2 := Lib.hid h2
                            have HR := Lib.hid (show false = r from by rw [← HR5.out, both_one (k := m) (by rw [← HNs.out.2.2]; exact hlt2) (by rw [h1, h2]; rfl)]; rfl)
                            clear h1 h2 HF
                            go_wp2_with fail
                            refine (HA.out _ _ H1.out).mono ?_
                            rintro e w' ⟨rfl, hw⟩
                            obtain rfl := hw.symm
                            go_wp2_with fail
                            refine (HA.out _ _ H2.out).mono ?_
                            rintro e w' ⟨rfl, hw⟩
                            obtain rfl := hw.symm
                            go_wp2
                            refine bodyPost_ret (v := .tuple #[.int .i64 0, .bool false]) ?_ rfl ⟨HX.out.low, by rw [← HR.out]; rfl⟩
                            simp [results, Try.results69]
                      · have hlt3 : ¬ (m : Int) < np := by omega
                        obtain rfl : m = np := by omega
                        have HR := Lib.hid (show true = r from by rw [← HR5.out, both_all (by rw [← HNs.out.2.2]; exact HF.out)]; rfl)
                        clear HF
                        go_wp2
                        refine bodyPost_ret (v := .tuple #[.int .i64 (zn : Int), .bool true]) ?_ rfl ⟨HX.out.low, by rw [← HR.out, if_pos rfl, HNb.out]⟩
                        simp [results, Try.results69]
      · have e3 : ((zl : Int) == 1) = false := by simp; omega
        have e4 : ¬ ((zl : Int) = 1) := by omega
        have HR := Lib.hid (show false = r by rw [← HT2.out, decide_eq_false hz1]; rfl)
        clear hz1 HT2
        go_wp2
        refine bodyPost_ret (v := .tuple #[.int .i64 0, .bool false]) ?_ rfl ⟨HX.out.low, by rw [← HR.out]; rfl⟩
        simp [results, Try.results69]
  · have e2 : ((nq : Int) == 1) = false := by simp; omega
    have e3 : ¬ ((nq : Int) = 1) := by omega
    have HR := Lib.hid (show false = r by rw [← HT2.out, decide_eq_false hq1]; rfl)
    clear hq1 HT2
    go_wp2
    refine bodyPost_ret (v := .tuple #[.int .i64 0, .bool false]) ?_ rfl ⟨HX1.out.low, by rw [← HR.out]; rfl⟩
    simp [results, Try.results69]
end Go.Proofs.Ytojnhdkclabkgaa
