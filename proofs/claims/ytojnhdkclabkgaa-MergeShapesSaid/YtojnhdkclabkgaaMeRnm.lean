/- The specification of layer 15: Renamed. No condition. -/
import Derived.Test.YtojnhdkclabkgaaMeRnA
import Derived.Test.YtojnhdkclabkgaaMeRefA
import Derived.Test.YtojnhdkclabkgaaMeJoin
import Derived.Test.YtojnhdkclabkgaaMeRn
import Derived.Deep.RegionHeld
namespace Go.Proofs.Ytojnhdkclabkgaa
open Go.RowKit
set_option linter.unusedVariables false
set_option linter.unusedSimpArgs false
attribute [local go_sem] y_undef
def RnmPost (g : Gr.G) (t : List Int) (w : World) (e : Ending) (w' : World) : Prop :=
  ∃ vi va vb vp vh us ps, e = .returned (.agg #[vi, .int .i64 g.vars, .int .i64 g.keep, va, .int .i64 g.sh, vb, vp, vh]) ∧ Below w.heap.size w w' ∧ Gf (w.heap.size + 1 + 1) (Me.ren g t) vi va vb vp vh us ps w'
/-- What Renamed may be asked for. -/
structure Rk (g : Gr.G) (t : List Int) : Prop where
  ins : g.ins.length ≤ 1000
  ars : g.ars.length ≤ 1000
  hds : g.hds.length ≤ 1000
  blks : g.blks.length ≤ 1000
  pts : g.pts.length ≤ 1000
  bo : ∀ k, k < g.blks.length → (g.blks.getD k Gr.blk0).ops.length ≤ 1000 ∧ (g.blks.getD k Gr.blk0).next.length ≤ 1000
  po : ∀ k, k < g.pts.length → (g.pts.getD k []).length ≤ 1000
  tb : g.blks.length ≤ t.length
  tn : ∀ k, k < g.blks.length → ∀ x ∈ (g.blks.getD k Gr.blk0).next, 0 ≤ x ∧ x < (t.length : Int)
  th : ∀ x ∈ g.hds, 0 ≤ x.1 ∧ x.1 < (t.length : Int)
  tp : ∀ q ∈ g.pts, ∀ x ∈ q, 0 ≤ x ∧ x < (t.length : Int)
  tl : t.length ≤ 1000
theorem bk_grown_ne {u u' : World} {g : Nat} {t : TypeId} {cs : Array Value} {o : Option Nat} (h : Bk u g t cs) (hg : u.grownBy u' o) (hne : o ≠ some g) : Bk u' g t cs := (hg.block g h.lt (fun e => hne e.symm)).trans h
def rnx (t q : List Int) (k : Nat) : List Int := (q.take k).map fun n => t.getD n.toNat 0
theorem rnx_zero (t q : List Int) : rnx t q 0 = [] := rfl
theorem rnx_len {t q : List Int} {k : Nat} (h : k ≤ q.length) : (rnx t q k).length = k := by unfold rnx; simp; omega
theorem rnx_succ {t q : List Int} {k : Nat} (h : k < q.length) : rnx t q (k + 1) = rnx t q k ++ [t.getD (q.getD k 0).toNat 0] := by
  unfold rnx
  rw [List.take_add_one, List.getElem?_eq_getElem h, List.map_append, Me.getD_eq h]
  rfl
theorem rnx_all {t q : List Int} : rnx t q q.length = q.map fun n => t.getD n.toNat 0 := by unfold rnx; rw [List.take_length]
set_option maxHeartbeats 4000000 in
set_option maxRecDepth 100000 in
theorem renamed_any (g : Gr.G) (t : List Int) (vi va vb vp vh vt : Value) (w : World) (hi : GrIn w g vi va vb vp vh) (ht : NumsIn w vt t) (hR : Rk g t) :
    Calls Try.prog 58 #[.agg #[vi, .int .i64 g.vars, .int .i64 g.keep, va, .int .i64 g.sh, vb, vp, vh], vt] w (RnmPost g t w) := by
  obtain ⟨Ai, ci, rfl, -⟩ := hi.ins.opened
  obtain ⟨Aa, ca, rfl, -⟩ := hi.ars.opened
  obtain ⟨Ab, cb, a1, a2, k1, k2, rfl, hbl⟩ := id hi.blks
  obtain ⟨Aq, cp, ap, kp, rfl, hpt⟩ := hi.pts.opened
  obtain ⟨Ah, ch, rfl, hhd⟩ := hi.hds.opened
  obtain ⟨At, ct, rfl, htn⟩ := ht.opened
  have HBl := Lib.hid hbl
  have HPt := Lib.hid hpt
  have HHd := Lib.hid hhd
  have HTn := Lib.hid htn
  have HR := Lib.hid hR
  have HCp := Lib.hid fun (W : World) (hW : Below w.heap.size w W) => rcopy_any g _ _ _ _ _ W (hi.below hW) hR.ins hR.ars hR.hds hR.blks hR.pts hR.bo hR.po
  obtain ⟨nb, hnb⟩ : ∃ n, g.blks.length = n := ⟨_, rfl⟩
  obtain ⟨np, hnp⟩ : ∃ n, g.pts.length = n := ⟨_, rfl⟩
  obtain ⟨nh, hnh⟩ : ∃ n, g.hds.length = n := ⟨_, rfl⟩
  obtain ⟨nt, hnt⟩ : ∃ n, t.length = n := ⟨_, rfl⟩
  have HNs := Lib.hid (And.intro hnb (And.intro hnp (And.intro hnh hnt)))
  have hn1 : nb ≤ 1000 := by have := hR.blks; omega
  have hn2 : np ≤ 1000 := by have := hR.pts; omega
  have hn3 : nh ≤ 1000 := by have := hR.hds; omega
  have hn4 : nt ≤ 1000 := by have := hR.tl; omega
  have hn5 : nb ≤ nt := by have := hR.tb; omega
  rw [hnb, hnp, hnh] at HCp
  rw [hnb] at HBl
  rw [hnp] at HPt
  rw [hnh] at HHd
  rw [hnt] at HTn
  rw [hnb, hnp, hnh, hnt]
  clear hi ht hR hbl hpt hhd htn hnb hnp hnh hnt
  obtain ⟨iTN, hi0, hz0, hz1, hz2⟩ := info_parts rw_info
  have HTN := Lib.hid (And.intro hi0 (And.intro hz0 (And.intro hz1 hz2)))
  clear hi0 hz0 hz1 hz2
  obtain ⟨iTO, hi0, hz0, hz1, hz2⟩ := info_parts info_op
  have HTO := Lib.hid (And.intro hi0 (And.intro hz0 (And.intro hz1 hz2)))
  clear hi0 hz0 hz1 hz2
  obtain ⟨iTB, hi0, hz0, hz1, hz2⟩ := info_parts info_blk
  have HTB := Lib.hid (And.intro hi0 (And.intro hz0 (And.intro hz1 hz2)))
  clear hi0 hz0 hz1 hz2
  obtain ⟨iTH, hi0, hz0, hz1, hz2⟩ := info_parts cinfo_hds
  have HTH := Lib.hid (And.intro hi0 (And.intro hz0 (And.intro hz1 hz2)))
  clear hi0 hz0 hz1 hz2
  have HS := Lib.hid (show Cb w #[.slice Ai g.ins.length ci, .int .i64 g.vars, .int .i64 g.keep, .slice Aa g.ars.length ca, .int .i64 g.sh, .slice Ab nb cb, .slice Aq np cp, .slice Ah nh ch] #[.slice none 0 0, .int .i64 0, .int .i64 0, .slice none 0 0, .int .i64 0, .slice none 0 0, .slice none 0 0, .slice none 0 0] ((w.alloc (.cells #[.slice Ai g.ins.length ci, .int .i64 g.vars, .int .i64 g.keep, .slice Aa g.ars.length ca, .int .i64 g.sh, .slice Ab nb cb, .slice Aq np cp, .slice Ah nh ch] 40)).alloc (.cells #[.slice none 0 0, .int .i64 0, .int .i64 0, .slice none 0 0, .int .i64 0, .slice none 0 0, .slice none 0 0, .slice none 0 0] 40)) from ⟨bla (bla (Below.refl _ _) _) _, (Bk.new w _ _).below (bla (Below.refl _ _) _), by
    have h := Bk.new (w.alloc (.cells #[.slice Ai g.ins.length ci, .int .i64 g.vars, .int .i64 g.keep, .slice Aa g.ars.length ca, .int .i64 g.sh, .slice Ab nb cb, .slice Aq np cp, .slice Ah nh ch] 40)) 40 #[.slice none 0 0, .int .i64 0, .int .i64 0, .slice none 0 0, .int .i64 0, .slice none 0 0, .slice none 0 0, .slice none 0 0]
    rw [size_alloc] at h
    exact h⟩)
  go_enter Try.func58, Try.ntmps58
  go_upto_region 1 with fail
  have HSz := Lib.hid (show w.heap.size ≤ (((w.alloc (.cells #[.slice Ai g.ins.length ci, .int .i64 g.vars, .int .i64 g.keep, .slice Aa g.ars.length ca, .int .i64 g.sh, .slice Ab nb cb, .slice Aq np cp, .slice Ah nh ch] 40)).alloc (.cells #[.slice none 0 0, .int .i64 0, .int .i64 0, .slice none 0 0, .int .i64 0, .slice none 0 0, .slice none 0 0, .slice none 0 0] 40))).heap.size from HS.out.low.size)
  generalize hW : World.alloc _ (.cells #[.slice none 0 0, .int .i64 0, .int .i64 0, .slice none 0 0, .int .i64 0, .slice none 0 0, .slice none 0 0, .slice none 0 0] 40) = W0 at HS HSz ⊢
  clear hW
  have c0 := HS.out.gb.cell 0
  have c1 := HS.out.gb.cell 1
  have c2 := HS.out.gb.cell 2
  have c3 := HS.out.gb.cell 3
  have c4 := HS.out.gb.cell 4
  have c5 := HS.out.gb.cell 5
  have c6 := HS.out.gb.cell 6
  have c7 := HS.out.gb.cell 7
  go_wp2_with fail
  refine (HCp.out _ HS.out.low).mono ?_
  rintro e w1 ⟨vi', va', vh', y', us', p', ps', rfl, hb1, hcr, hbk, hmp⟩
  have HS1 := Lib.hid (Rq.start (HS.out.below hb1) hcr HSz.out hmp)
  obtain ⟨Bi, di, rfl⟩ := own_eta hcr.ins
  obtain ⟨Ba, da, rfl⟩ := own_eta hcr.ars
  obtain ⟨Bh, dh, rfl⟩ := own_eta hcr.hds
  obtain ⟨By, dy, rfl⟩ := own_eta hbk.row
  obtain ⟨Bp, dp, rfl⟩ := own_eta hmp.1
  rw [HNs.out.2.1] at HS1
  rw [HNs.out.1, HNs.out.2.1, HNs.out.2.2.1]
  clear hb1 hcr hbk hmp HS c0 c1 c2 c3 c4 c5 c6 c7
  go_upto_region 3 with fail
  obtain ⟨F, hF⟩ : ∃ F, w1.heap.size = F := ⟨_, rfl⟩
  rw [hF] at HS1 ⊢
  generalize hW : World.alloc w1 _ = W1 at HS1 ⊢
  clear hW hF
  have HL := Lib.hid (show Rq g w #[.slice Ai g.ins.length ci, .int .i64 g.vars, .int .i64 g.keep, .slice Aa g.ars.length ca, .int .i64 g.sh, .slice Ab nb cb, .slice Aq np cp, .slice Ah nh ch] #[.slice none 0 0, .int .i64 0, .int .i64 0, .slice none 0 0, .int .i64 0, .slice none 0 0, .slice none 0 0, .slice none 0 0] F (.slice Bi g.ins.length di) (.slice Ba g.ars.length da) (.slice Bp np dp) ps' g.pts (.slice none 0 0) [] (Me.rblks g.blks t 0) (.slice none 0 0) [] W1 from HS1.out)
  clear HS1 HSz
  go_wp2
  go_loopw [6] (fun i wr => ∃ (k : Nat) (yb : Value) (us : List (Value × Int × Value)), k ≤ nb ∧ i = .int .i64 k ∧ Hid (Rq g w #[.slice Ai g.ins.length ci, .int .i64 g.vars, .int .i64 g.keep, .slice Aa g.ars.length ca, .int .i64 g.sh, .slice Ab nb cb, .slice Aq np cp, .slice Ah nh ch] #[.slice none 0 0, .int .i64 0, .int .i64 0, .slice none 0 0, .int .i64 0, .slice none 0 0, .slice none 0 0, .slice none 0 0] F (.slice Bi g.ins.length di) (.slice Ba g.ars.length da) (.slice Bp np dp) ps' g.pts yb us (Me.rblks g.blks t k) (.slice none 0 0) [] wr)) (fun i _ => nb - (intOf i).toNat)
  case atStart => exact ⟨0, _, _, Nat.zero_le _, rfl, HL⟩
  case round =>
    clear HL
    obtain ⟨k, yb, us, hk, rfl, HL⟩ := hrel
    have g5 := HL.out.cb.gb.cell 5
    by_cases hlt : k < nb
    · have hlt' : (k : Int) < nb := by omega
      have hlt0 : (0 : Int) ≤ (k : Int) := by omega
      have hlt2 : (k : Int) < nt := by omega
      obtain ⟨bt, ot, rfl, hbt, xt⟩ := HTn.out k (by omega)
      replace xt := (HL.out.cb.low.cell (p := ⟨bt, ot + k, none⟩) hbt).trans xt
      have HSu := Lib.hid (Me.rblks_succ g.blks t k)
      obtain ⟨z, hz⟩ : ∃ z, t.getD k 0 = z := ⟨_, rfl⟩
      have HZ := Lib.hid hz
      rw [hz] at xt
      clear hz
      by_cases hneg : z < 0
      · have HN := Lib.hid (show Rq g w #[.slice Ai g.ins.length ci, .int .i64 g.vars, .int .i64 g.keep, .slice Aa g.ars.length ca, .int .i64 g.sh, .slice Ab nb cb, .slice Aq np cp, .slice Ah nh ch] #[.slice none 0 0, .int .i64 0, .int .i64 0, .slice none 0 0, .int .i64 0, .slice none 0 0, .slice none 0 0, .slice none 0 0] F (.slice Bi g.ins.length di) (.slice Ba g.ars.length da) (.slice Bp np dp) ps' g.pts yb us (Me.rblks g.blks t (k + 1)) (.slice none 0 0) [] wr from by rw [HSu.out, HZ.out, if_pos hneg, List.append_nil]; exact HL.out)
        clear HL
        go_wp2
        go_roundw
        case rel => exact ⟨k + 1, _, _, by omega, by first | rfl | go_num, HN⟩
        case measure => simp [intOf]; omega
      · obtain ⟨bo, off, rfl, hbo, x0, x1, x2, hops, hnx⟩ := HBl.out k hlt
        have HOps := Lib.hid hops
        have HNx := Lib.hid hnx
        replace x0 := (HL.out.cb.low.cell (p := ⟨bo, off + k * 3, none⟩) hbo).trans x0
        replace x1 := (HL.out.cb.low.cell (p := ⟨bo, off + k * 3 + 1, none⟩) hbo).trans x1
        replace x2 := (HL.out.cb.low.cell (p := ⟨bo, off + k * 3 + 2, none⟩) hbo).trans x2
        have hbw : bo < wr.heap.size := Nat.lt_of_lt_of_le hbo HL.out.cb.low.size
        have HBo := Lib.hid (HR.out.bo k (by rw [HNs.out.1]; exact hlt))
        have HTx := Lib.hid (HR.out.tn k (by rw [HNs.out.1]; exact hlt))
        obtain ⟨b, hb⟩ : ∃ b, g.blks.getD k Gr.blk0 = b := ⟨_, rfl⟩
        have HE := Lib.hid hb
        rw [hb] at x0 x1 x2 HOps HNx HBo HTx
        clear hops hnx hb
        obtain ⟨no, hno⟩ : ∃ n, b.ops.length = n := ⟨_, rfl⟩
        obtain ⟨nn, hnn⟩ : ∃ n, b.next.length = n := ⟨_, rfl⟩
        obtain ⟨cc, hcc⟩ : ∃ n, b.cond = n := ⟨_, rfl⟩
        have HBl2 := Lib.hid (And.intro hno (And.intro hnn hcc))
        rw [hno] at x0 HOps HBo
        rw [hnn] at x2 HNx HBo
        rw [hcc] at x1
        clear hno hnn hcc
        have hbk : Below wr.heap.size wr (wr.alloc (.cells #[.slice (a1 k) no (k1 k), .int .i64 cc, .slice (a2 k) nn (k2 k)] 34)) := bla (Below.refl _ _) _
        have HL1 := Lib.hid (HL.out.below hbk)
        have HX := Lib.hid (Bk.new wr 34 #[.slice (a1 k) no (k1 k), .int .i64 cc, .slice (a2 k) nn (k2 k)])
        have HAp := Lib.hid (show ∀ i, i < (Me.rblks g.blks t k).length → ∀ (u : World) (sz n : Nat) (v : Value) (xs : List Value), u.ownsRow wr.heap.size 27 sz v n xs → Ap (us.getD i bkz).1 v from fun i hi u sz n v xs h => ap_late (HL.out.bks.el i hi).ops h)
        have HRt := Lib.hid (show yb.ownBlock ≠ some wr.heap.size from fun e => by have := (HL.out.bks.row.lt _ e).2; omega)
        have HXs := Lib.hid (show wr.heap.size < (wr.alloc (.cells #[.slice (a1 k) no (k1 k), .int .i64 cc, .slice (a2 k) nn (k2 k)] 34)).heap.size by rw [size_alloc]; omega)
        have HF2 := Lib.hid HL.out.fb.lt
        go_upto_region 8 with fail
        clear x0 x1 x2 hbk HL g5 hbw xt
        obtain ⟨X, hX⟩ : ∃ X, wr.heap.size = X := ⟨_, rfl⟩
        rw [hX] at HX HAp HXs HF2 HRt ⊢
        clear hX
        generalize hW : World.alloc wr (.cells #[.slice (a1 k) no (k1 k), .int .i64 cc, .slice (a2 k) nn (k2 k)] 34) = U at HL1 HX HXs ⊢
        clear hW wr
        have HY := Lib.hid (show Below U.heap.size U U ∧ U.ownsRow U.heap.size 3 1 (.slice none 0 0) 0 ((rnx t b.next 0).map (.int .i64)) from ⟨Below.refl _ _, World.ownsRow_nil _ _ _ _⟩)
        have hnn1 : nn ≤ 1000 := HBo.out.2
        go_wp2
        go_loopw [9, 8] (fun i v wr => ∃ (q : Nat) (y : Value), q ≤ nn ∧ i = .int .i64 q ∧ y = v ∧ Hid (Below U.heap.size U wr ∧ wr.ownsRow U.heap.size 3 1 y q ((rnx t b.next q).map (.int .i64)))) (fun i _ _ => nn - (intOf i).toNat)
        case atStart => exact ⟨0, _, Nat.zero_le _, rfl, rfl, HY⟩
        case round =>
          clear HY
          obtain ⟨q, y, hq, rfl, rfl, HY⟩ := hrel
          have q2 := (HX.out.below HY.out.1).cell 2
          by_cases hlq : q < nn
          · have hlq' : (q : Int) < nn := by omega
            have hlq0 : (0 : Int) ≤ (q : Int) := by omega
            have hqb : q < b.next.length := by rw [HBl2.out.2.1]; exact hlq
            have HSq := Lib.hid (rnx_succ (t := t) hqb)
            have hzr := HTx.out _ (Me.getD_mem (d := (0 : Int)) hqb)
            obtain ⟨A', c', e, hqo⟩ := HNx.out.opened
            injection e with e1 e2 e3
            obtain ⟨bq, oq, e4, hbq, hxq⟩ := hqo q hqb
            rw [e1, e4] at q2
            have HAe := Lib.hid (e1.trans e4)
            clear hqo e1 e2 e3 e4 hqb
            replace hxq := ((HL1.out.cb.low.trans (HY.out.1.mono HL1.out.cb.low.size)).cell (p := ⟨bq, oq + q, none⟩) hbq).trans hxq
            obtain ⟨zq, hzq⟩ : ∃ z, b.next.getD q 0 = z := ⟨_, rfl⟩
            rw [hzq] at HSq hzr hxq
            clear hzq
            obtain ⟨zn, rfl⟩ : ∃ zn : Nat, zq = (zn : Int) := ⟨zq.toNat, by omega⟩
            rw [Int.toNat_natCast] at HSq
            have hzb : zn < nt := by have := HNs.out.2.2.2; omega
            have hz1 : (zn : Int) < (nt : Int) := by omega
            have hz0 : (0 : Int) ≤ (zn : Int) := by omega
            obtain ⟨bt', ot', e, -, xz⟩ := HTn.out zn hzb
            injection e with e
            injection e with e1 e2
            subst e1 e2
            replace xz := ((HL1.out.cb.low.trans (HY.out.1.mono HL1.out.cb.low.size)).cell (p := ⟨bt, ot + zn, none⟩) hbt).trans xz
            obtain ⟨tz, htz⟩ : ∃ z, t.getD zn 0 = z := ⟨_, rfl⟩
            rw [htz] at HSq xz
            clear htz hzr
            obtain ⟨A8, C8, rfl⟩ := own_eta HY.out.2
            have hbk : Below wr.heap.size wr (wr.alloc (.cells #[.int .i64 tz] 3)) := bla (Below.refl _ _) _
            have hsz := HY.out.1.size
            have HQ4 := Lib.hid (show q + 1 ≤ maxLen ∧ (q + 1) * 8 ≤ 140737488355328 ∧ U.heap.size ≤ (wr.alloc (.cells #[.int .i64 tz] 3)).heap.size from ⟨by unfold maxLen; omega, by omega, by rw [size_alloc]; omega⟩)
            have hbqw : bq < wr.heap.size := Nat.lt_of_lt_of_le hbq (HL1.out.cb.low.trans (HY.out.1.mono HL1.out.cb.low.size)).size
            have hbtw : bt < wr.heap.size := Nat.lt_of_lt_of_le hbt (HL1.out.cb.low.trans (HY.out.1.mono HL1.out.cb.low.size)).size
            clear hsz
            go_wp2_with (at_builtin; refine wpList_append_row rfl (.tmp 44) (.tmp 53) 32 rfl U.heap.size 3 iTN _ 1 8 Try.underlying32 HTN.out.1 HTN.out.2.1 HTN.out.2.2.1 HTN.out.2.2.2 rfl (by decide) _ _ _ rfl (own_below HY.out.2 hbk) _ 1 [Value.int .i64 tz] rfl (lit_num wr _ _ _ rfl) one_z HQ4.out.1 HQ4.out.2.1 HQ4.out.2.2 ?_)
            intro v1 w3 hown hg hv
            have HN := Lib.hid (show Below U.heap.size U w3 ∧ w3.ownsRow U.heap.size 3 1 v1 (q + 1) ((rnx t b.next (q + 1)).map (.int .i64)) from by
              have h1 := blt HY.out.1 hbk
              refine ⟨h1.grown hg h1.size (fun j hj => ((own_below HY.out.2 hbk).lt j hj).1), ?_⟩
              rw [HSq.out, List.map_append]
              exact hown)
            clear hown hg hv HY q2 hxq xz hbk hbqw hbtw
            go_wp2
            go_roundw
            case rel => exact ⟨q + 1, _, by omega, by first | rfl | go_num, rfl, HN⟩
            case measure => simp [intOf]; omega
          · have hlq' : ¬ (q : Int) < nn := by omega
            obtain rfl : nn = q := by omega
            obtain ⟨A8, C8, rfl⟩ := own_eta HY.out.2
            have HL2 := Lib.hid (HL1.out.below HY.out.1)
            have HX2 := Lib.hid (HX.out.below HY.out.1)
            have q0 := HX2.out.cell 0
            have q1 := HX2.out.cell 1
            obtain ⟨Ay, Cy, hyb⟩ := own_eta HL2.out.bks.row
            obtain ⟨m, hm⟩ : ∃ n, (Me.rblks g.blks t k).length = n := ⟨_, rfl⟩
            have HMl := Lib.hid hm
            rw [hm] at hyb
            subst hyb
            have hm1 : m ≤ 1000 := by have := Me.rblks_le g.blks t k; omega
            clear hm
            have c5 := HL2.out.fb.cell 5
            have y5 := HL2.out.fb.frozen 5
            have hXw := HX2.out.lt
            have hFw := HL2.out.fb.lt
            go_upto_region 13 with fail
            have hwF := HL2.out.cb.rb.lt
            have hbd : Below wr.heap.size wr (wr.alloc (.cells #[] 27)).drew := (bla (Below.refl _ _) _).trans (below_drewN _ _ 1)
            have HO1 := Lib.hid (show (wr.alloc (.cells #[] 27)).drew.ownsRow wr.heap.size 27 5 (.slice (some ⟨wr.heap.size, 0, none⟩) 0 0) 0 [] from own_below (World.ownsRow_made wr #[] 0 (Nat.le_refl _) (Nat.zero_le _) (by simp)) (below_drewN _ _ 1))
            have HO2 := Lib.hid (show RowIn 5 (wr.alloc (.cells #[] 27)).drew (.slice (a1 k) no (k1 k)) no (b.ops.flatMap opCells) from by
              have h := HOps.out.below (HL2.out.cb.low.trans (hbd.mono HL2.out.cb.low.size))
              unfold OpsIn at h
              rw [HBl2.out.1] at h
              exact h)
            have HO3 := Lib.hid (show 0 + no ≤ maxLen ∧ (0 + no) * 40 ≤ 140737488355328 ∧ wr.heap.size ≤ (wr.alloc (.cells #[] 27)).drew.heap.size ∧ m + 1 ≤ maxLen ∧ (m + 1) * 56 ≤ 140737488355328 from ⟨by have := HBo.out.1; unfold maxLen; omega, by have := HBo.out.1; omega, hbd.size, by unfold maxLen; omega, by omega⟩)
            have HBd := Lib.hid hbd
            have HBs := Lib.hid hwF
            have HOne := Lib.hid (show ∀ (A4 A8 : Option Addr) (C4 C8 : Nat), ∀ u ∈ bkC (.slice A4 no C4, cc, .slice A8 nn C8), u.oneCell' = true from fun A4 A8 C4 C8 u hu => by simp [bkC] at hu; rcases hu with rfl | rfl | rfl <;> rfl)
            clear hbd hwF
            have HZb := Lib.hid fun (u : World) (h : Bk u X 34 #[.slice (a1 k) no (k1 k), .int .i64 cc, .slice (a2 k) nn (k2 k)]) => And.intro (h.cell 0) (h.cell 1)
            have z1 := HZb.out _ (HX2.out.below (below_drewN wr.heap.size _ 1))
            refine wp_region_held_drew (S := (fun w' => w'.cell? ⟨X, 0, none⟩ = some (.slice (a1 k) no (k1 k)) ∧ w'.cell? ⟨X, 1, none⟩ = some (.int .i64 cc))) (by kernel_rfl) (z1) (fun hHeld => ?_)
            refine' wpAnyH_take (i := 0) (v := _) ?_ ?_ ?_ ?_ ?_ ?_ ?_ ?_
            rotate_left 2
            focus (simp only [List.getElem?_toArray, List.getElem?_cons_succ, List.getElem?_cons_zero]; rfl)
            focus kernel_rfl
            focus kernel_rfl
            focus kernel_rfl
            focus exact (fun _ _ _ h => h)
            refine Or.inl ⟨?_, ?_⟩
            focus (go_simp; done)
            focus (intro w hSw; (try dsimp only at hSw); (first | (go_simp; done) | (go_simp; with_reducible rfl)))
            focus assumption
            (try simp only [Act.put, List.setIfInBounds_toArray, List.set_cons_zero, List.set_cons_succ])
            refine' wpAnyH_take (i := 3) (v := _) ?_ ?_ ?_ ?_ ?_ ?_ ?_ ?_
            rotate_left 2
            focus (simp only [List.getElem?_toArray, List.getElem?_cons_succ, List.getElem?_cons_zero]; rfl)
            focus kernel_rfl
            focus kernel_rfl
            focus kernel_rfl
            focus exact (fun _ _ _ h => h)
            refine Or.inl ⟨?_, ?_⟩
            focus (go_simp; done)
            focus (intro w hSw; (try dsimp only at hSw); (first | (go_simp; done) | (go_simp; with_reducible rfl)))
            focus assumption
            (try simp only [Act.put, List.setIfInBounds_toArray, List.set_cons_zero, List.set_cons_succ])
            refine' wpAnyH_take (i := 4) (v := _) ?_ ?_ ?_ ?_ ?_ ?_ ?_ ?_
            rotate_left 2
            focus (simp only [List.getElem?_toArray, List.getElem?_cons_succ, List.getElem?_cons_zero]; rfl)
            focus kernel_rfl
            focus kernel_rfl
            focus kernel_rfl
            focus exact (fun _ _ _ h => h)
            refine Or.inl ⟨?_, ?_⟩
            focus (go_simp; done)
            focus (intro w hSw; (try dsimp only at hSw); (first | (go_simp; done) | (go_simp; with_reducible rfl)))
            focus assumption
            (try simp only [Act.put, List.setIfInBounds_toArray, List.set_cons_zero, List.set_cons_succ])
            refine' wpAnyH_take (i := 6) (v := _) ?_ ?_ ?_ ?_ ?_ ?_ ?_ ?_
            rotate_left 2
            focus (simp only [List.getElem?_toArray, List.getElem?_cons_succ, List.getElem?_cons_zero]; rfl)
            focus kernel_rfl
            focus kernel_rfl
            focus kernel_rfl
            focus exact (fun _ _ _ h => h)
            refine Or.inl ⟨?_, ?_⟩
            focus (go_simp; done)
            focus (intro w hSw; (try dsimp only at hSw); (first | (go_simp; done) | (go_simp; with_reducible rfl)))
            focus assumption
            (try simp only [Act.put, List.setIfInBounds_toArray, List.set_cons_zero, List.set_cons_succ])
            refine' wpAnyH_take (i := 7) (v := _) ?_ ?_ ?_ ?_ ?_ ?_ ?_ ?_
            rotate_left 2
            focus (simp only [List.getElem?_toArray, List.getElem?_cons_succ, List.getElem?_cons_zero]; rfl)
            focus kernel_rfl
            focus kernel_rfl
            focus kernel_rfl
            focus exact (fun _ _ _ h => h)
            refine Or.inl ⟨?_, ?_⟩
            focus (go_simp; done)
            focus (intro w hSw; (try dsimp only at hSw); (first | (go_simp; done) | (go_simp; with_reducible rfl)))
            focus assumption
            (try simp only [Act.put, List.setIfInBounds_toArray, List.set_cons_zero, List.set_cons_succ])
            refine' wpAnyH_take (i := 8) (v := _) ?_ ?_ ?_ ?_ ?_ ?_ ?_ ?_
            rotate_left 2
            focus (simp only [List.getElem?_toArray, List.getElem?_cons_succ, List.getElem?_cons_zero]; rfl)
            focus kernel_rfl
            focus kernel_rfl
            focus kernel_rfl
            focus exact (fun _ _ _ h => h)
            refine Or.inl ⟨?_, ?_⟩
            focus (go_simp; done)
            focus (intro w hSw; (try dsimp only at hSw); (first | (go_simp; done) | (go_simp; with_reducible rfl)))
            focus assumption
            (try simp only [Act.put, List.setIfInBounds_toArray, List.set_cons_zero, List.set_cons_succ])
            refine wpAnyH_ready (rs := [1, 2]) (by kernel_rfl) (by simp) ?_
            refine' AllReadyH.cons ?_ (fun K hK => ?_) ?_
            rotate_left
            focus (simp only [List.getElem?_toArray, List.getElem?_cons_succ, List.getElem?_cons_zero]; rfl)
            · go_simp
              refine hK.out _ _ (by first | exact z1 | exact HZb.out _ (HX2.out.below HBd.out) | exact HZb.out _ HXw3.out | exact HZb.out _ (HXw3.out.below HK3.out) | exact HZb.out _ HXw4.out | exact HZb.out _ (HXw4.out.far (by show X ≠ F; have := HF2.out; omega) _)) (fun hH2 => ?_)
              clear hK K hHeld
              have hHeld := hH2
              clear hH2
              (try simp only [Act.put, List.setIfInBounds_toArray, List.set_cons_zero, List.set_cons_succ])
              refine wpAnyH_ready (rs := [2]) (by kernel_rfl) (by simp) ?_
              refine' AllReadyH.cons ?_ (fun K hK => ?_) AllReadyH.nil
              rotate_left
              focus (simp only [List.getElem?_toArray, List.getElem?_cons_succ, List.getElem?_cons_zero]; rfl)
              go_simp
              refine hK.out _ _ (by first | exact z1 | exact HZb.out _ (HX2.out.below HBd.out) | exact HZb.out _ HXw3.out | exact HZb.out _ (HXw3.out.below HK3.out) | exact HZb.out _ HXw4.out | exact HZb.out _ (HXw4.out.far (by show X ≠ F; have := HF2.out; omega) _)) (fun hH2 => ?_)
              clear hK K hHeld
              have hHeld := hH2
              clear hH2
              (try simp only [Act.put, List.setIfInBounds_toArray, List.set_cons_zero, List.set_cons_succ])
              refine wpAnyH_ready (rs := [5]) (by kernel_rfl) (by simp) ?_
              refine' AllReadyH.cons ?_ (fun K hK => ?_) AllReadyH.nil
              rotate_left
              focus (simp only [List.getElem?_toArray, List.getElem?_cons_succ, List.getElem?_cons_zero]; rfl)
              refine step_append_row rfl (.tmp 57) (.tmp 59) 25 rfl wr.heap.size 27 iTO _ 5 40 Try.underlying25 HTO.out.1 HTO.out.2.1 HTO.out.2.2.1 HTO.out.2.2.2 rfl (by decide) (.slice (some ⟨wr.heap.size, 0, none⟩) 0 0) 0 [] (by simp [Act.eval, Act.put]) HO1.out (.slice (a1 k) no (k1 k)) no (b.ops.flatMap opCells) (by simp [Act.eval, Act.put]) HO2.out one_opC HO3.out.1 HO3.out.2.1 HO3.out.2.2.1 ?_
              intro v1 w3 hown hg hv
              simp only [Nat.zero_add, List.nil_append] at hown
              have hb3 : Below wr.heap.size wr w3 := HBd.out.grown hg HBd.out.size (fun j hj => (HO1.out.lt j hj).1)
              obtain ⟨A4, C4, rfl⟩ := own_eta hown
              have c53 := (HL2.out.below hb3).fb.cell 5
              have x13 := (HX2.out.below hb3).cell 1
              have hF3 := (HL2.out.below hb3).fb.lt
              have hX3 := (HX2.out.below hb3).lt
              have HW3 := Lib.hid (And.intro hb3 hown)
              have HXw3 := Lib.hid (HX2.out.below hb3)
              have HK3 := Lib.hid (show Below w3.heap.size w3 (w3.alloc (.cells #[.slice A4 no C4, .int .i64 cc, .slice A8 nn C8] 34)) from bla (Below.refl _ _) _)
              clear hb3 hown hg hv
              refine hK.out _ _ (by first | exact z1 | exact HZb.out _ (HX2.out.below HBd.out) | exact HZb.out _ HXw3.out | exact HZb.out _ (HXw3.out.below HK3.out) | exact HZb.out _ HXw4.out | exact HZb.out _ (HXw4.out.far (by show X ≠ F; have := HF2.out; omega) _)) (fun hH2 => ?_)
              clear hK K hHeld
              have hHeld := hH2
              clear hH2
              (try simp only [Act.put, List.setIfInBounds_toArray, List.set_cons_zero, List.set_cons_succ])
              refine' wpAnyH_take (i := 9) (v := _) ?_ ?_ ?_ ?_ ?_ ?_ ?_ ?_
              rotate_left 2
              focus (simp only [List.getElem?_toArray, List.getElem?_cons_succ, List.getElem?_cons_zero]; rfl)
              focus kernel_rfl
              focus kernel_rfl
              focus kernel_rfl
              focus exact (fun _ _ _ h => h)
              refine Or.inl ⟨?_, ?_⟩
              focus (go_simp; done)
              focus (intro w hSw; (try dsimp only at hSw); (first | (go_simp; done) | (go_simp; with_reducible rfl)))
              focus assumption
              (try simp only [Act.put, List.setIfInBounds_toArray, List.set_cons_zero, List.set_cons_succ])
              refine wpAnyH_ready (rs := [10]) (by kernel_rfl) (by simp) ?_
              refine' AllReadyH.cons ?_ (fun K hK => ?_) AllReadyH.nil
              rotate_left
              focus (simp only [List.getElem?_toArray, List.getElem?_cons_succ, List.getElem?_cons_zero]; rfl)
              go_simp
              refine hK.out _ _ (by first | exact z1 | exact HZb.out _ (HX2.out.below HBd.out) | exact HZb.out _ HXw3.out | exact HZb.out _ (HXw3.out.below HK3.out) | exact HZb.out _ HXw4.out | exact HZb.out _ (HXw4.out.far (by show X ≠ F; have := HF2.out; omega) _)) (fun hH2 => ?_)
              clear hK K hHeld
              have hHeld := hH2
              clear hH2
              (try simp only [Act.put, List.setIfInBounds_toArray, List.set_cons_zero, List.set_cons_succ])
              refine wpAnyH_ready (rs := [11]) (by kernel_rfl) (by simp) ?_
              refine' AllReadyH.cons ?_ (fun K hK => ?_) AllReadyH.nil
              rotate_left
              focus (simp only [List.getElem?_toArray, List.getElem?_cons_succ, List.getElem?_cons_zero]; rfl)
              have HRq := Lib.hid ((HL2.out.below HW3.out.1).below HK3.out)
              have HB1 := Lib.hid (show (w3.alloc (.cells #[.slice A4 no C4, .int .i64 cc, .slice A8 nn C8] 34)).ownsRow (w.heap.size + 1 + 1) 34 3 (.slice Ay m Cy) m (us.flatMap bkC) from HMl.out ▸ HRq.out.bks.row)
              have HB3 := Lib.hid (show w.heap.size + 1 + 1 ≤ (w3.alloc (.cells #[.slice A4 no C4, .int .i64 cc, .slice A8 nn C8] 34)).heap.size from HRq.out.cb.rb.lt)
              refine step_append_row rfl (.tmp 56) (.tmp 65) 35 rfl (w.heap.size + 1 + 1) 34 iTB _ 3 56 Try.underlying35 HTB.out.1 HTB.out.2.1 HTB.out.2.2.1 HTB.out.2.2.2 rfl (by decide) (.slice Ay m Cy) m (us.flatMap bkC) (by simp [Act.eval, Act.put]) HB1.out (.slice (some ⟨w3.heap.size, 0, none⟩) 1 1) 1 (bkC (.slice A4 no C4, cc, .slice A8 nn C8)) (by simp [Act.eval, Act.put]) (lit_blk w3 A4 A8 no nn C4 C8 _ cc rfl) (HOne.out _ _ _ _) HO3.out.2.2.2.1 HO3.out.2.2.2.2 HB3.out ?_
              intro v2 w4 hown hg hv
              obtain ⟨A9, C9, rfl⟩ := own_eta hown
              have r := (bk_grown_t HRq.out.fb HB1.out (by decide) hg).cell 5
              have y := (bk_grown_t HRq.out.fb HB1.out (by decide) hg).frozen 5
              have HXw4 := Lib.hid (bk_grown_ne (HXw3.out.below HK3.out) hg HRt.out)
              have HW4 := Lib.hid (And.intro hown hg)
              clear hown hg hv
              refine hK.out _ _ (by first | exact z1 | exact HZb.out _ (HX2.out.below HBd.out) | exact HZb.out _ HXw3.out | exact HZb.out _ (HXw3.out.below HK3.out) | exact HZb.out _ HXw4.out | exact HZb.out _ (HXw4.out.far (by show X ≠ F; have := HF2.out; omega) _)) (fun hH2 => ?_)
              clear hK K hHeld
              have hHeld := hH2
              clear hH2
              (try simp only [Act.put, List.setIfInBounds_toArray, List.set_cons_zero, List.set_cons_succ])
              refine' wpAnyH_take (i := 12) (v := _) ?_ ?_ ?_ ?_ ?_ ?_ ?_ ?_
              rotate_left 2
              focus (simp only [List.getElem?_toArray, List.getElem?_cons_succ, List.getElem?_cons_zero]; rfl)
              focus kernel_rfl
              focus kernel_rfl
              focus kernel_rfl
              focus exact (fun _ _ _ h => h)
              refine Or.inl ⟨?_, ?_⟩
              focus (go_simp; done)
              focus (intro w hSw; (try dsimp only at hSw); (first | (go_simp; done) | (go_simp; with_reducible rfl)))
              focus assumption
              (try simp only [Act.put, List.setIfInBounds_toArray, List.set_cons_zero, List.set_cons_succ])
              refine wpAnyH_ready (rs := [13]) (by kernel_rfl) (by simp) ?_
              refine' AllReadyH.cons ?_ (fun K hK => ?_) AllReadyH.nil
              rotate_left
              focus (simp only [List.getElem?_toArray, List.getElem?_cons_succ, List.getElem?_cons_zero]; rfl)
              go_simp
              refine hK.out _ _ (by first | exact z1 | exact HZb.out _ (HX2.out.below HBd.out) | exact HZb.out _ HXw3.out | exact HZb.out _ (HXw3.out.below HK3.out) | exact HZb.out _ HXw4.out | exact HZb.out _ (HXw4.out.far (by show X ≠ F; have := HF2.out; omega) _)) (fun hH2 => ?_)
              clear hK K hHeld
              have hHeld := hH2
              clear hH2
              (try simp only [Act.put, List.setIfInBounds_toArray, List.set_cons_zero, List.set_cons_succ])
              refine wpAnyH_done (by kernel_rfl) ?_ _
              have HN := Lib.hid (show Rq g w #[.slice Ai g.ins.length ci, .int .i64 g.vars, .int .i64 g.keep, .slice Aa g.ars.length ca, .int .i64 g.sh, .slice (some ⟨bo, off, none⟩) nb cb, .slice Aq np cp, .slice Ah nh ch] #[.slice none 0 0, .int .i64 0, .int .i64 0, .slice none 0 0, .int .i64 0, .slice none 0 0, .slice none 0 0, .slice none 0 0] F (.slice Bi g.ins.length di) (.slice Ba g.ars.length da) (.slice Bp np dp) ps' g.pts (.slice A9 (m + 1) C9) (us ++ [(.slice A4 no C4, cc, .slice A8 nn C8)]) (Me.rblks g.blks t (k + 1)) (.slice none 0 0) [] (w4.setCell ⟨F, 5, none⟩ (.slice A9 (m + 1) C9)) from by
                rw [HSu.out, HZ.out, if_neg (by omega), HE.out]
                refine HRq.out.blk (x := (.slice A4 no C4, cc, .slice A8 nn C8)) (b := Me.rb t b) ?_ ?_ ?_ HW4.out.2
                · refine ⟨HBl2.out.2.2.symm, ?_, ?_⟩
                  · show (w3.alloc _).ownsRow _ _ 5 (.slice A4 no C4) b.ops.length _
                    rw [HBl2.out.1]
                    exact own_mono_b (own_below HW3.out.2 HK3.out) HBs.out
                  · have h := own_below HY.out.2 (HW3.out.1.trans (HK3.out.mono HW3.out.1.size))
                    have e : (Me.rb t b).next = rnx t b.next nn := by rw [← HBl2.out.2.1, rnx_all]; rfl
                    rw [e, rnx_len (by rw [HBl2.out.2.1]; exact Nat.le_refl _)]
                    exact own_mono_b h (Nat.le_trans HL1.out.cb.rb.lt (Nat.le_refl _))
                · intro i hi
                  exact HAp.out i hi _ _ _ _ _ (own_mono_b HW3.out.2 (Nat.le_of_lt hXw))
                · rw [HMl.out]
                  exact HW4.out.1)
              clear HW4 HW3 HK3 HRq HB1 HB3 r y
              go_wp2
              go_roundw
              case rel => exact ⟨k + 1, _, _, by omega, by first | rfl | go_num, HN⟩
              case measure => simp [intOf]; omega
            refine' AllReadyH.cons ?_ (fun K hK => ?_) AllReadyH.nil
            rotate_left
            focus (simp only [List.getElem?_toArray, List.getElem?_cons_succ, List.getElem?_cons_zero]; rfl)
            go_simp
            refine hK.out _ _ (by first | exact z1 | exact HZb.out _ (HX2.out.below HBd.out) | exact HZb.out _ HXw3.out | exact HZb.out _ (HXw3.out.below HK3.out) | exact HZb.out _ HXw4.out | exact HZb.out _ (HXw4.out.far (by show X ≠ F; have := HF2.out; omega) _)) (fun hH2 => ?_)
            clear hK K hHeld
            have hHeld := hH2
            clear hH2
            (try simp only [Act.put, List.setIfInBounds_toArray, List.set_cons_zero, List.set_cons_succ])
            refine wpAnyH_ready (rs := [1, 5]) (by kernel_rfl) (by simp) ?_
            refine' AllReadyH.cons ?_ (fun K hK => ?_) ?_
            rotate_left
            focus (simp only [List.getElem?_toArray, List.getElem?_cons_succ, List.getElem?_cons_zero]; rfl)
            · go_simp
              refine hK.out _ _ (by first | exact z1 | exact HZb.out _ (HX2.out.below HBd.out) | exact HZb.out _ HXw3.out | exact HZb.out _ (HXw3.out.below HK3.out) | exact HZb.out _ HXw4.out | exact HZb.out _ (HXw4.out.far (by show X ≠ F; have := HF2.out; omega) _)) (fun hH2 => ?_)
              clear hK K hHeld
              have hHeld := hH2
              clear hH2
              (try simp only [Act.put, List.setIfInBounds_toArray, List.set_cons_zero, List.set_cons_succ])
              refine wpAnyH_ready (rs := [5]) (by kernel_rfl) (by simp) ?_
              refine' AllReadyH.cons ?_ (fun K hK => ?_) AllReadyH.nil
              rotate_left
              focus (simp only [List.getElem?_toArray, List.getElem?_cons_succ, List.getElem?_cons_zero]; rfl)
              refine step_append_row rfl (.tmp 57) (.tmp 59) 25 rfl wr.heap.size 27 iTO _ 5 40 Try.underlying25 HTO.out.1 HTO.out.2.1 HTO.out.2.2.1 HTO.out.2.2.2 rfl (by decide) (.slice (some ⟨wr.heap.size, 0, none⟩) 0 0) 0 [] (by simp [Act.eval, Act.put]) HO1.out (.slice (a1 k) no (k1 k)) no (b.ops.flatMap opCells) (by simp [Act.eval, Act.put]) HO2.out one_opC HO3.out.1 HO3.out.2.1 HO3.out.2.2.1 ?_
              intro v1 w3 hown hg hv
              simp only [Nat.zero_add, List.nil_append] at hown
              have hb3 : Below wr.heap.size wr w3 := HBd.out.grown hg HBd.out.size (fun j hj => (HO1.out.lt j hj).1)
              obtain ⟨A4, C4, rfl⟩ := own_eta hown
              have c53 := (HL2.out.below hb3).fb.cell 5
              have x13 := (HX2.out.below hb3).cell 1
              have hF3 := (HL2.out.below hb3).fb.lt
              have hX3 := (HX2.out.below hb3).lt
              have HW3 := Lib.hid (And.intro hb3 hown)
              have HXw3 := Lib.hid (HX2.out.below hb3)
              have HK3 := Lib.hid (show Below w3.heap.size w3 (w3.alloc (.cells #[.slice A4 no C4, .int .i64 cc, .slice A8 nn C8] 34)) from bla (Below.refl _ _) _)
              clear hb3 hown hg hv
              refine hK.out _ _ (by first | exact z1 | exact HZb.out _ (HX2.out.below HBd.out) | exact HZb.out _ HXw3.out | exact HZb.out _ (HXw3.out.below HK3.out) | exact HZb.out _ HXw4.out | exact HZb.out _ (HXw4.out.far (by show X ≠ F; have := HF2.out; omega) _)) (fun hH2 => ?_)
              clear hK K hHeld
              have hHeld := hH2
              clear hH2
              (try simp only [Act.put, List.setIfInBounds_toArray, List.set_cons_zero, List.set_cons_succ])
              refine' wpAnyH_take (i := 9) (v := _) ?_ ?_ ?_ ?_ ?_ ?_ ?_ ?_
              rotate_left 2
              focus (simp only [List.getElem?_toArray, List.getElem?_cons_succ, List.getElem?_cons_zero]; rfl)
              focus kernel_rfl
              focus kernel_rfl
              focus kernel_rfl
              focus exact (fun _ _ _ h => h)
              refine Or.inl ⟨?_, ?_⟩
              focus (go_simp; done)
              focus (intro w hSw; (try dsimp only at hSw); (first | (go_simp; done) | (go_simp; with_reducible rfl)))
              focus assumption
              (try simp only [Act.put, List.setIfInBounds_toArray, List.set_cons_zero, List.set_cons_succ])
              refine wpAnyH_ready (rs := [10]) (by kernel_rfl) (by simp) ?_
              refine' AllReadyH.cons ?_ (fun K hK => ?_) AllReadyH.nil
              rotate_left
              focus (simp only [List.getElem?_toArray, List.getElem?_cons_succ, List.getElem?_cons_zero]; rfl)
              go_simp
              refine hK.out _ _ (by first | exact z1 | exact HZb.out _ (HX2.out.below HBd.out) | exact HZb.out _ HXw3.out | exact HZb.out _ (HXw3.out.below HK3.out) | exact HZb.out _ HXw4.out | exact HZb.out _ (HXw4.out.far (by show X ≠ F; have := HF2.out; omega) _)) (fun hH2 => ?_)
              clear hK K hHeld
              have hHeld := hH2
              clear hH2
              (try simp only [Act.put, List.setIfInBounds_toArray, List.set_cons_zero, List.set_cons_succ])
              refine wpAnyH_ready (rs := [11]) (by kernel_rfl) (by simp) ?_
              refine' AllReadyH.cons ?_ (fun K hK => ?_) AllReadyH.nil
              rotate_left
              focus (simp only [List.getElem?_toArray, List.getElem?_cons_succ, List.getElem?_cons_zero]; rfl)
              have HRq := Lib.hid ((HL2.out.below HW3.out.1).below HK3.out)
              have HB1 := Lib.hid (show (w3.alloc (.cells #[.slice A4 no C4, .int .i64 cc, .slice A8 nn C8] 34)).ownsRow (w.heap.size + 1 + 1) 34 3 (.slice Ay m Cy) m (us.flatMap bkC) from HMl.out ▸ HRq.out.bks.row)
              have HB3 := Lib.hid (show w.heap.size + 1 + 1 ≤ (w3.alloc (.cells #[.slice A4 no C4, .int .i64 cc, .slice A8 nn C8] 34)).heap.size from HRq.out.cb.rb.lt)
              refine step_append_row rfl (.tmp 56) (.tmp 65) 35 rfl (w.heap.size + 1 + 1) 34 iTB _ 3 56 Try.underlying35 HTB.out.1 HTB.out.2.1 HTB.out.2.2.1 HTB.out.2.2.2 rfl (by decide) (.slice Ay m Cy) m (us.flatMap bkC) (by simp [Act.eval, Act.put]) HB1.out (.slice (some ⟨w3.heap.size, 0, none⟩) 1 1) 1 (bkC (.slice A4 no C4, cc, .slice A8 nn C8)) (by simp [Act.eval, Act.put]) (lit_blk w3 A4 A8 no nn C4 C8 _ cc rfl) (HOne.out _ _ _ _) HO3.out.2.2.2.1 HO3.out.2.2.2.2 HB3.out ?_
              intro v2 w4 hown hg hv
              obtain ⟨A9, C9, rfl⟩ := own_eta hown
              have r := (bk_grown_t HRq.out.fb HB1.out (by decide) hg).cell 5
              have y := (bk_grown_t HRq.out.fb HB1.out (by decide) hg).frozen 5
              have HXw4 := Lib.hid (bk_grown_ne (HXw3.out.below HK3.out) hg HRt.out)
              have HW4 := Lib.hid (And.intro hown hg)
              clear hown hg hv
              refine hK.out _ _ (by first | exact z1 | exact HZb.out _ (HX2.out.below HBd.out) | exact HZb.out _ HXw3.out | exact HZb.out _ (HXw3.out.below HK3.out) | exact HZb.out _ HXw4.out | exact HZb.out _ (HXw4.out.far (by show X ≠ F; have := HF2.out; omega) _)) (fun hH2 => ?_)
              clear hK K hHeld
              have hHeld := hH2
              clear hH2
              (try simp only [Act.put, List.setIfInBounds_toArray, List.set_cons_zero, List.set_cons_succ])
              refine' wpAnyH_take (i := 12) (v := _) ?_ ?_ ?_ ?_ ?_ ?_ ?_ ?_
              rotate_left 2
              focus (simp only [List.getElem?_toArray, List.getElem?_cons_succ, List.getElem?_cons_zero]; rfl)
              focus kernel_rfl
              focus kernel_rfl
              focus kernel_rfl
              focus exact (fun _ _ _ h => h)
              refine Or.inl ⟨?_, ?_⟩
              focus (go_simp; done)
              focus (intro w hSw; (try dsimp only at hSw); (first | (go_simp; done) | (go_simp; with_reducible rfl)))
              focus assumption
              (try simp only [Act.put, List.setIfInBounds_toArray, List.set_cons_zero, List.set_cons_succ])
              refine wpAnyH_ready (rs := [13]) (by kernel_rfl) (by simp) ?_
              refine' AllReadyH.cons ?_ (fun K hK => ?_) AllReadyH.nil
              rotate_left
              focus (simp only [List.getElem?_toArray, List.getElem?_cons_succ, List.getElem?_cons_zero]; rfl)
              go_simp
              refine hK.out _ _ (by first | exact z1 | exact HZb.out _ (HX2.out.below HBd.out) | exact HZb.out _ HXw3.out | exact HZb.out _ (HXw3.out.below HK3.out) | exact HZb.out _ HXw4.out | exact HZb.out _ (HXw4.out.far (by show X ≠ F; have := HF2.out; omega) _)) (fun hH2 => ?_)
              clear hK K hHeld
              have hHeld := hH2
              clear hH2
              (try simp only [Act.put, List.setIfInBounds_toArray, List.set_cons_zero, List.set_cons_succ])
              refine wpAnyH_done (by kernel_rfl) ?_ _
              have HN := Lib.hid (show Rq g w #[.slice Ai g.ins.length ci, .int .i64 g.vars, .int .i64 g.keep, .slice Aa g.ars.length ca, .int .i64 g.sh, .slice (some ⟨bo, off, none⟩) nb cb, .slice Aq np cp, .slice Ah nh ch] #[.slice none 0 0, .int .i64 0, .int .i64 0, .slice none 0 0, .int .i64 0, .slice none 0 0, .slice none 0 0, .slice none 0 0] F (.slice Bi g.ins.length di) (.slice Ba g.ars.length da) (.slice Bp np dp) ps' g.pts (.slice A9 (m + 1) C9) (us ++ [(.slice A4 no C4, cc, .slice A8 nn C8)]) (Me.rblks g.blks t (k + 1)) (.slice none 0 0) [] (w4.setCell ⟨F, 5, none⟩ (.slice A9 (m + 1) C9)) from by
                rw [HSu.out, HZ.out, if_neg (by omega), HE.out]
                refine HRq.out.blk (x := (.slice A4 no C4, cc, .slice A8 nn C8)) (b := Me.rb t b) ?_ ?_ ?_ HW4.out.2
                · refine ⟨HBl2.out.2.2.symm, ?_, ?_⟩
                  · show (w3.alloc _).ownsRow _ _ 5 (.slice A4 no C4) b.ops.length _
                    rw [HBl2.out.1]
                    exact own_mono_b (own_below HW3.out.2 HK3.out) HBs.out
                  · have h := own_below HY.out.2 (HW3.out.1.trans (HK3.out.mono HW3.out.1.size))
                    have e : (Me.rb t b).next = rnx t b.next nn := by rw [← HBl2.out.2.1, rnx_all]; rfl
                    rw [e, rnx_len (by rw [HBl2.out.2.1]; exact Nat.le_refl _)]
                    exact own_mono_b h (Nat.le_trans HL1.out.cb.rb.lt (Nat.le_refl _))
                · intro i hi
                  exact HAp.out i hi _ _ _ _ _ (own_mono_b HW3.out.2 (Nat.le_of_lt hXw))
                · rw [HMl.out]
                  exact HW4.out.1)
              clear HW4 HW3 HK3 HRq HB1 HB3 r y
              go_wp2
              go_roundw
              case rel => exact ⟨k + 1, _, _, by omega, by first | rfl | go_num, HN⟩
              case measure => simp [intOf]; omega
            refine' AllReadyH.cons ?_ (fun K hK => ?_) AllReadyH.nil
            rotate_left
            focus (simp only [List.getElem?_toArray, List.getElem?_cons_succ, List.getElem?_cons_zero]; rfl)
            refine step_append_row rfl (.tmp 57) (.tmp 59) 25 rfl wr.heap.size 27 iTO _ 5 40 Try.underlying25 HTO.out.1 HTO.out.2.1 HTO.out.2.2.1 HTO.out.2.2.2 rfl (by decide) (.slice (some ⟨wr.heap.size, 0, none⟩) 0 0) 0 [] (by simp [Act.eval, Act.put]) HO1.out (.slice (a1 k) no (k1 k)) no (b.ops.flatMap opCells) (by simp [Act.eval, Act.put]) HO2.out one_opC HO3.out.1 HO3.out.2.1 HO3.out.2.2.1 ?_
            intro v1 w3 hown hg hv
            simp only [Nat.zero_add, List.nil_append] at hown
            have hb3 : Below wr.heap.size wr w3 := HBd.out.grown hg HBd.out.size (fun j hj => (HO1.out.lt j hj).1)
            obtain ⟨A4, C4, rfl⟩ := own_eta hown
            have c53 := (HL2.out.below hb3).fb.cell 5
            have x13 := (HX2.out.below hb3).cell 1
            have hF3 := (HL2.out.below hb3).fb.lt
            have hX3 := (HX2.out.below hb3).lt
            have HW3 := Lib.hid (And.intro hb3 hown)
            have HXw3 := Lib.hid (HX2.out.below hb3)
            have HK3 := Lib.hid (show Below w3.heap.size w3 (w3.alloc (.cells #[.slice A4 no C4, .int .i64 cc, .slice A8 nn C8] 34)) from bla (Below.refl _ _) _)
            clear hb3 hown hg hv
            refine hK.out _ _ (by first | exact z1 | exact HZb.out _ (HX2.out.below HBd.out) | exact HZb.out _ HXw3.out | exact HZb.out _ (HXw3.out.below HK3.out) | exact HZb.out _ HXw4.out | exact HZb.out _ (HXw4.out.far (by show X ≠ F; have := HF2.out; omega) _)) (fun hH2 => ?_)
            clear hK K hHeld
            have hHeld := hH2
            clear hH2
            (try simp only [Act.put, List.setIfInBounds_toArray, List.set_cons_zero, List.set_cons_succ])
            refine' wpAnyH_take (i := 9) (v := _) ?_ ?_ ?_ ?_ ?_ ?_ ?_ ?_
            rotate_left 2
            focus (simp only [List.getElem?_toArray, List.getElem?_cons_succ, List.getElem?_cons_zero]; rfl)
            focus kernel_rfl
            focus kernel_rfl
            focus kernel_rfl
            focus exact (fun _ _ _ h => h)
            refine Or.inl ⟨?_, ?_⟩
            focus (go_simp; done)
            focus (intro w hSw; (try dsimp only at hSw); (first | (go_simp; done) | (go_simp; with_reducible rfl)))
            focus assumption
            (try simp only [Act.put, List.setIfInBounds_toArray, List.set_cons_zero, List.set_cons_succ])
            refine wpAnyH_ready (rs := [1, 10]) (by kernel_rfl) (by simp) ?_
            refine' AllReadyH.cons ?_ (fun K hK => ?_) ?_
            rotate_left
            focus (simp only [List.getElem?_toArray, List.getElem?_cons_succ, List.getElem?_cons_zero]; rfl)
            · go_simp
              refine hK.out _ _ (by first | exact z1 | exact HZb.out _ (HX2.out.below HBd.out) | exact HZb.out _ HXw3.out | exact HZb.out _ (HXw3.out.below HK3.out) | exact HZb.out _ HXw4.out | exact HZb.out _ (HXw4.out.far (by show X ≠ F; have := HF2.out; omega) _)) (fun hH2 => ?_)
              clear hK K hHeld
              have hHeld := hH2
              clear hH2
              (try simp only [Act.put, List.setIfInBounds_toArray, List.set_cons_zero, List.set_cons_succ])
              refine wpAnyH_ready (rs := [10]) (by kernel_rfl) (by simp) ?_
              refine' AllReadyH.cons ?_ (fun K hK => ?_) AllReadyH.nil
              rotate_left
              focus (simp only [List.getElem?_toArray, List.getElem?_cons_succ, List.getElem?_cons_zero]; rfl)
              go_simp
              refine hK.out _ _ (by first | exact z1 | exact HZb.out _ (HX2.out.below HBd.out) | exact HZb.out _ HXw3.out | exact HZb.out _ (HXw3.out.below HK3.out) | exact HZb.out _ HXw4.out | exact HZb.out _ (HXw4.out.far (by show X ≠ F; have := HF2.out; omega) _)) (fun hH2 => ?_)
              clear hK K hHeld
              have hHeld := hH2
              clear hH2
              (try simp only [Act.put, List.setIfInBounds_toArray, List.set_cons_zero, List.set_cons_succ])
              refine wpAnyH_ready (rs := [11]) (by kernel_rfl) (by simp) ?_
              refine' AllReadyH.cons ?_ (fun K hK => ?_) AllReadyH.nil
              rotate_left
              focus (simp only [List.getElem?_toArray, List.getElem?_cons_succ, List.getElem?_cons_zero]; rfl)
              have HRq := Lib.hid ((HL2.out.below HW3.out.1).below HK3.out)
              have HB1 := Lib.hid (show (w3.alloc (.cells #[.slice A4 no C4, .int .i64 cc, .slice A8 nn C8] 34)).ownsRow (w.heap.size + 1 + 1) 34 3 (.slice Ay m Cy) m (us.flatMap bkC) from HMl.out ▸ HRq.out.bks.row)
              have HB3 := Lib.hid (show w.heap.size + 1 + 1 ≤ (w3.alloc (.cells #[.slice A4 no C4, .int .i64 cc, .slice A8 nn C8] 34)).heap.size from HRq.out.cb.rb.lt)
              refine step_append_row rfl (.tmp 56) (.tmp 65) 35 rfl (w.heap.size + 1 + 1) 34 iTB _ 3 56 Try.underlying35 HTB.out.1 HTB.out.2.1 HTB.out.2.2.1 HTB.out.2.2.2 rfl (by decide) (.slice Ay m Cy) m (us.flatMap bkC) (by simp [Act.eval, Act.put]) HB1.out (.slice (some ⟨w3.heap.size, 0, none⟩) 1 1) 1 (bkC (.slice A4 no C4, cc, .slice A8 nn C8)) (by simp [Act.eval, Act.put]) (lit_blk w3 A4 A8 no nn C4 C8 _ cc rfl) (HOne.out _ _ _ _) HO3.out.2.2.2.1 HO3.out.2.2.2.2 HB3.out ?_
              intro v2 w4 hown hg hv
              obtain ⟨A9, C9, rfl⟩ := own_eta hown
              have r := (bk_grown_t HRq.out.fb HB1.out (by decide) hg).cell 5
              have y := (bk_grown_t HRq.out.fb HB1.out (by decide) hg).frozen 5
              have HXw4 := Lib.hid (bk_grown_ne (HXw3.out.below HK3.out) hg HRt.out)
              have HW4 := Lib.hid (And.intro hown hg)
              clear hown hg hv
              refine hK.out _ _ (by first | exact z1 | exact HZb.out _ (HX2.out.below HBd.out) | exact HZb.out _ HXw3.out | exact HZb.out _ (HXw3.out.below HK3.out) | exact HZb.out _ HXw4.out | exact HZb.out _ (HXw4.out.far (by show X ≠ F; have := HF2.out; omega) _)) (fun hH2 => ?_)
              clear hK K hHeld
              have hHeld := hH2
              clear hH2
              (try simp only [Act.put, List.setIfInBounds_toArray, List.set_cons_zero, List.set_cons_succ])
              refine' wpAnyH_take (i := 12) (v := _) ?_ ?_ ?_ ?_ ?_ ?_ ?_ ?_
              rotate_left 2
              focus (simp only [List.getElem?_toArray, List.getElem?_cons_succ, List.getElem?_cons_zero]; rfl)
              focus kernel_rfl
              focus kernel_rfl
              focus kernel_rfl
              focus exact (fun _ _ _ h => h)
              refine Or.inl ⟨?_, ?_⟩
              focus (go_simp; done)
              focus (intro w hSw; (try dsimp only at hSw); (first | (go_simp; done) | (go_simp; with_reducible rfl)))
              focus assumption
              (try simp only [Act.put, List.setIfInBounds_toArray, List.set_cons_zero, List.set_cons_succ])
              refine wpAnyH_ready (rs := [13]) (by kernel_rfl) (by simp) ?_
              refine' AllReadyH.cons ?_ (fun K hK => ?_) AllReadyH.nil
              rotate_left
              focus (simp only [List.getElem?_toArray, List.getElem?_cons_succ, List.getElem?_cons_zero]; rfl)
              go_simp
              refine hK.out _ _ (by first | exact z1 | exact HZb.out _ (HX2.out.below HBd.out) | exact HZb.out _ HXw3.out | exact HZb.out _ (HXw3.out.below HK3.out) | exact HZb.out _ HXw4.out | exact HZb.out _ (HXw4.out.far (by show X ≠ F; have := HF2.out; omega) _)) (fun hH2 => ?_)
              clear hK K hHeld
              have hHeld := hH2
              clear hH2
              (try simp only [Act.put, List.setIfInBounds_toArray, List.set_cons_zero, List.set_cons_succ])
              refine wpAnyH_done (by kernel_rfl) ?_ _
              have HN := Lib.hid (show Rq g w #[.slice Ai g.ins.length ci, .int .i64 g.vars, .int .i64 g.keep, .slice Aa g.ars.length ca, .int .i64 g.sh, .slice (some ⟨bo, off, none⟩) nb cb, .slice Aq np cp, .slice Ah nh ch] #[.slice none 0 0, .int .i64 0, .int .i64 0, .slice none 0 0, .int .i64 0, .slice none 0 0, .slice none 0 0, .slice none 0 0] F (.slice Bi g.ins.length di) (.slice Ba g.ars.length da) (.slice Bp np dp) ps' g.pts (.slice A9 (m + 1) C9) (us ++ [(.slice A4 no C4, cc, .slice A8 nn C8)]) (Me.rblks g.blks t (k + 1)) (.slice none 0 0) [] (w4.setCell ⟨F, 5, none⟩ (.slice A9 (m + 1) C9)) from by
                rw [HSu.out, HZ.out, if_neg (by omega), HE.out]
                refine HRq.out.blk (x := (.slice A4 no C4, cc, .slice A8 nn C8)) (b := Me.rb t b) ?_ ?_ ?_ HW4.out.2
                · refine ⟨HBl2.out.2.2.symm, ?_, ?_⟩
                  · show (w3.alloc _).ownsRow _ _ 5 (.slice A4 no C4) b.ops.length _
                    rw [HBl2.out.1]
                    exact own_mono_b (own_below HW3.out.2 HK3.out) HBs.out
                  · have h := own_below HY.out.2 (HW3.out.1.trans (HK3.out.mono HW3.out.1.size))
                    have e : (Me.rb t b).next = rnx t b.next nn := by rw [← HBl2.out.2.1, rnx_all]; rfl
                    rw [e, rnx_len (by rw [HBl2.out.2.1]; exact Nat.le_refl _)]
                    exact own_mono_b h (Nat.le_trans HL1.out.cb.rb.lt (Nat.le_refl _))
                · intro i hi
                  exact HAp.out i hi _ _ _ _ _ (own_mono_b HW3.out.2 (Nat.le_of_lt hXw))
                · rw [HMl.out]
                  exact HW4.out.1)
              clear HW4 HW3 HK3 HRq HB1 HB3 r y
              go_wp2
              go_roundw
              case rel => exact ⟨k + 1, _, _, by omega, by first | rfl | go_num, HN⟩
              case measure => simp [intOf]; omega
            refine' AllReadyH.cons ?_ (fun K hK => ?_) AllReadyH.nil
            rotate_left
            focus (simp only [List.getElem?_toArray, List.getElem?_cons_succ, List.getElem?_cons_zero]; rfl)
            go_simp
            refine hK.out _ _ (by first | exact z1 | exact HZb.out _ (HX2.out.below HBd.out) | exact HZb.out _ HXw3.out | exact HZb.out _ (HXw3.out.below HK3.out) | exact HZb.out _ HXw4.out | exact HZb.out _ (HXw4.out.far (by show X ≠ F; have := HF2.out; omega) _)) (fun hH2 => ?_)
            clear hK K hHeld
            have hHeld := hH2
            clear hH2
            (try simp only [Act.put, List.setIfInBounds_toArray, List.set_cons_zero, List.set_cons_succ])
            refine wpAnyH_ready (rs := [1]) (by kernel_rfl) (by simp) ?_
            refine' AllReadyH.cons ?_ (fun K hK => ?_) AllReadyH.nil
            rotate_left
            focus (simp only [List.getElem?_toArray, List.getElem?_cons_succ, List.getElem?_cons_zero]; rfl)
            go_simp
            refine hK.out _ _ (by first | exact z1 | exact HZb.out _ (HX2.out.below HBd.out) | exact HZb.out _ HXw3.out | exact HZb.out _ (HXw3.out.below HK3.out) | exact HZb.out _ HXw4.out | exact HZb.out _ (HXw4.out.far (by show X ≠ F; have := HF2.out; omega) _)) (fun hH2 => ?_)
            clear hK K hHeld
            have hHeld := hH2
            clear hH2
            (try simp only [Act.put, List.setIfInBounds_toArray, List.set_cons_zero, List.set_cons_succ])
            refine wpAnyH_ready (rs := [11]) (by kernel_rfl) (by simp) ?_
            refine' AllReadyH.cons ?_ (fun K hK => ?_) AllReadyH.nil
            rotate_left
            focus (simp only [List.getElem?_toArray, List.getElem?_cons_succ, List.getElem?_cons_zero]; rfl)
            have HRq := Lib.hid ((HL2.out.below HW3.out.1).below HK3.out)
            have HB1 := Lib.hid (show (w3.alloc (.cells #[.slice A4 no C4, .int .i64 cc, .slice A8 nn C8] 34)).ownsRow (w.heap.size + 1 + 1) 34 3 (.slice Ay m Cy) m (us.flatMap bkC) from HMl.out ▸ HRq.out.bks.row)
            have HB3 := Lib.hid (show w.heap.size + 1 + 1 ≤ (w3.alloc (.cells #[.slice A4 no C4, .int .i64 cc, .slice A8 nn C8] 34)).heap.size from HRq.out.cb.rb.lt)
            refine step_append_row rfl (.tmp 56) (.tmp 65) 35 rfl (w.heap.size + 1 + 1) 34 iTB _ 3 56 Try.underlying35 HTB.out.1 HTB.out.2.1 HTB.out.2.2.1 HTB.out.2.2.2 rfl (by decide) (.slice Ay m Cy) m (us.flatMap bkC) (by simp [Act.eval, Act.put]) HB1.out (.slice (some ⟨w3.heap.size, 0, none⟩) 1 1) 1 (bkC (.slice A4 no C4, cc, .slice A8 nn C8)) (by simp [Act.eval, Act.put]) (lit_blk w3 A4 A8 no nn C4 C8 _ cc rfl) (HOne.out _ _ _ _) HO3.out.2.2.2.1 HO3.out.2.2.2.2 HB3.out ?_
            intro v2 w4 hown hg hv
            obtain ⟨A9, C9, rfl⟩ := own_eta hown
            have r := (bk_grown_t HRq.out.fb HB1.out (by decide) hg).cell 5
            have y := (bk_grown_t HRq.out.fb HB1.out (by decide) hg).frozen 5
            have HXw4 := Lib.hid (bk_grown_ne (HXw3.out.below HK3.out) hg HRt.out)
            have HW4 := Lib.hid (And.intro hown hg)
            clear hown hg hv
            refine hK.out _ _ (by first | exact z1 | exact HZb.out _ (HX2.out.below HBd.out) | exact HZb.out _ HXw3.out | exact HZb.out _ (HXw3.out.below HK3.out) | exact HZb.out _ HXw4.out | exact HZb.out _ (HXw4.out.far (by show X ≠ F; have := HF2.out; omega) _)) (fun hH2 => ?_)
            clear hK K hHeld
            have hHeld := hH2
            clear hH2
            (try simp only [Act.put, List.setIfInBounds_toArray, List.set_cons_zero, List.set_cons_succ])
            refine' wpAnyH_take (i := 12) (v := _) ?_ ?_ ?_ ?_ ?_ ?_ ?_ ?_
            rotate_left 2
            focus (simp only [List.getElem?_toArray, List.getElem?_cons_succ, List.getElem?_cons_zero]; rfl)
            focus kernel_rfl
            focus kernel_rfl
            focus kernel_rfl
            focus exact (fun _ _ _ h => h)
            refine Or.inl ⟨?_, ?_⟩
            focus (go_simp; done)
            focus (intro w hSw; (try dsimp only at hSw); (first | (go_simp; done) | (go_simp; with_reducible rfl)))
            focus assumption
            (try simp only [Act.put, List.setIfInBounds_toArray, List.set_cons_zero, List.set_cons_succ])
            refine wpAnyH_ready (rs := [13]) (by kernel_rfl) (by simp) ?_
            refine' AllReadyH.cons ?_ (fun K hK => ?_) AllReadyH.nil
            rotate_left
            focus (simp only [List.getElem?_toArray, List.getElem?_cons_succ, List.getElem?_cons_zero]; rfl)
            go_simp
            refine hK.out _ _ (by first | exact z1 | exact HZb.out _ (HX2.out.below HBd.out) | exact HZb.out _ HXw3.out | exact HZb.out _ (HXw3.out.below HK3.out) | exact HZb.out _ HXw4.out | exact HZb.out _ (HXw4.out.far (by show X ≠ F; have := HF2.out; omega) _)) (fun hH2 => ?_)
            clear hK K hHeld
            have hHeld := hH2
            clear hH2
            (try simp only [Act.put, List.setIfInBounds_toArray, List.set_cons_zero, List.set_cons_succ])
            refine wpAnyH_done (by kernel_rfl) ?_ _
            have HN := Lib.hid (show Rq g w #[.slice Ai g.ins.length ci, .int .i64 g.vars, .int .i64 g.keep, .slice Aa g.ars.length ca, .int .i64 g.sh, .slice (some ⟨bo, off, none⟩) nb cb, .slice Aq np cp, .slice Ah nh ch] #[.slice none 0 0, .int .i64 0, .int .i64 0, .slice none 0 0, .int .i64 0, .slice none 0 0, .slice none 0 0, .slice none 0 0] F (.slice Bi g.ins.length di) (.slice Ba g.ars.length da) (.slice Bp np dp) ps' g.pts (.slice A9 (m + 1) C9) (us ++ [(.slice A4 no C4, cc, .slice A8 nn C8)]) (Me.rblks g.blks t (k + 1)) (.slice none 0 0) [] (w4.setCell ⟨F, 5, none⟩ (.slice A9 (m + 1) C9)) from by
              rw [HSu.out, HZ.out, if_neg (by omega), HE.out]
              refine HRq.out.blk (x := (.slice A4 no C4, cc, .slice A8 nn C8)) (b := Me.rb t b) ?_ ?_ ?_ HW4.out.2
              · refine ⟨HBl2.out.2.2.symm, ?_, ?_⟩
                · show (w3.alloc _).ownsRow _ _ 5 (.slice A4 no C4) b.ops.length _
                  rw [HBl2.out.1]
                  exact own_mono_b (own_below HW3.out.2 HK3.out) HBs.out
                · have h := own_below HY.out.2 (HW3.out.1.trans (HK3.out.mono HW3.out.1.size))
                  have e : (Me.rb t b).next = rnx t b.next nn := by rw [← HBl2.out.2.1, rnx_all]; rfl
                  rw [e, rnx_len (by rw [HBl2.out.2.1]; exact Nat.le_refl _)]
                  exact own_mono_b h (Nat.le_trans HL1.out.cb.rb.lt (Nat.le_refl _))
              · intro i hi
                exact HAp.out i hi _ _ _ _ _ (own_mono_b HW3.out.2 (Nat.le_of_lt hXw))
              · rw [HMl.out]
                exact HW4.out.1)
            clear HW4 HW3 HK3 HRq HB1 HB3 r y
            go_wp2
            go_roundw
            case rel => exact ⟨k + 1, _, _, by omega, by first | rfl | go_num, HN⟩
            case measure => simp [intOf]; omega
    · have hlt' : ¬ (k : Int) < nb := by omega
      obtain rfl : nb = k := by omega
      have HM := Lib.hid (show Rq g w #[.slice Ai g.ins.length ci, .int .i64 g.vars, .int .i64 g.keep, .slice Aa g.ars.length ca, .int .i64 g.sh, .slice Ab nb cb, .slice Aq np cp, .slice Ah nh ch] #[.slice none 0 0, .int .i64 0, .int .i64 0, .slice none 0 0, .int .i64 0, .slice none 0 0, .slice none 0 0, .slice none 0 0] F (.slice Bi g.ins.length di) (.slice Ba g.ars.length da) (.slice Bp np dp) ps' g.pts yb us (Me.rblks g.blks t nb) (.slice none 0 0) (Me.rhds g.hds t 0) wr from HL.out)
      clear HL
      go_wp2
      clear g5
      go_loopw [10] (fun i wr => ∃ (k : Nat) (yh : Value), k ≤ nh ∧ i = .int .i64 k ∧ Hid (Rq g w #[.slice Ai g.ins.length ci, .int .i64 g.vars, .int .i64 g.keep, .slice Aa g.ars.length ca, .int .i64 g.sh, .slice Ab nb cb, .slice Aq np cp, .slice Ah nh ch] #[.slice none 0 0, .int .i64 0, .int .i64 0, .slice none 0 0, .int .i64 0, .slice none 0 0, .slice none 0 0, .slice none 0 0] F (.slice Bi g.ins.length di) (.slice Ba g.ars.length da) (.slice Bp np dp) ps' g.pts yb us (Me.rblks g.blks t nb) yh (Me.rhds g.hds t k) wr)) (fun i _ => nh - (intOf i).toNat)
      case atStart => exact ⟨0, _, Nat.zero_le _, rfl, HM⟩
      case round =>
        clear HM
        obtain ⟨k, yh, hk, rfl, HM⟩ := hrel
        have g7 := HM.out.cb.gb.cell 7
        by_cases hlt : k < nh
        · have hlt' : (k : Int) < nh := by omega
          have hlt0 : (0 : Int) ≤ (k : Int) := by omega
          have HSu := Lib.hid (Me.rhds_succ g.hds t k)
          have hkl : k < g.hds.length := by rw [HNs.out.2.2.1]; exact hlt
          have hzr := HR.out.th _ (Me.getD_mem (d := ((0, 0) : Int × Int)) hkl)
          obtain ⟨bh, oh, rfl, hbh, x0, x1⟩ := HHd.out k hlt
          have HX1 := Lib.hid x1
          replace x0 := (HM.out.cb.low.cell (p := ⟨bh, oh + k * 2, none⟩) hbh).trans x0
          obtain ⟨hv, hhv⟩ : ∃ x, (g.hds.getD k (0, 0)).1 = x := ⟨_, rfl⟩
          obtain ⟨hn, hhn⟩ : ∃ x, (g.hds.getD k (0, 0)).2 = x := ⟨_, rfl⟩
          rw [hhv] at x0 HSu hzr
          rw [hhn] at HX1 HSu
          clear hhv hhn x1 hkl
          obtain ⟨zn, rfl⟩ : ∃ zn : Nat, hv = (zn : Int) := ⟨hv.toNat, by omega⟩
          rw [Int.toNat_natCast] at HSu
          have hzb : zn < nt := by have := HNs.out.2.2.2; omega
          have hz1 : (zn : Int) < (nt : Int) := by omega
          have hz0 : (0 : Int) ≤ (zn : Int) := by omega
          obtain ⟨bt, ot, rfl, hbt, xz⟩ := HTn.out zn hzb
          replace xz := (HM.out.cb.low.cell (p := ⟨bt, ot + zn, none⟩) hbt).trans xz
          obtain ⟨tz, htz⟩ : ∃ z, t.getD zn 0 = z := ⟨_, rfl⟩
          rw [htz] at HSu xz
          clear htz hzr
          by_cases hge : 0 ≤ tz
          · obtain ⟨Ay, Cy, hyh⟩ := own_eta HM.out.hds
            obtain ⟨m, hm⟩ : ∃ n, (Me.rhds g.hds t k).length = n := ⟨_, rfl⟩
            have HMl := Lib.hid hm
            rw [hm] at hyh
            subst hyh
            have hm1 : m ≤ 1000 := by have := Me.rhds_le g.hds t k; omega
            clear hm
            have c7 := HM.out.fb.cell 7
            have y7 := HM.out.fb.frozen 7
            have hFw := HM.out.fb.lt
            have hbhw : bh < wr.heap.size := Nat.lt_of_lt_of_le hbh HM.out.cb.low.size
            have hgw := HM.out.cb.gb.lt
            have hbd : Below wr.heap.size wr (wr.alloc (.cells #[.int .i64 tz, .int .i64 hn] 52)).drew := (bla (Below.refl _ _) _).trans (below_drewN _ _ 1)
            have HRq := Lib.hid (HM.out.below hbd)
            have HB1 := Lib.hid (show (wr.alloc (.cells #[.int .i64 tz, .int .i64 hn] 52)).drew.ownsRow (w.heap.size + 1 + 1) 52 2 (.slice Ay m Cy) m ((Me.rhds g.hds t k).flatMap prCells) from by have h := HRq.out.hds; rw [HMl.out] at h; exact h)
            have HO3 := Lib.hid (show m + 1 ≤ maxLen ∧ (m + 1) * 16 ≤ 140737488355328 ∧ w.heap.size + 1 + 1 ≤ (wr.alloc (.cells #[.int .i64 tz, .int .i64 hn] 52)).drew.heap.size from ⟨by unfold maxLen; omega, by omega, HRq.out.cb.rb.lt⟩)
            have HOne := Lib.hid (show ∀ u ∈ prCells (tz, hn), u.oneCell' = true from fun u hu => by simp [prCells] at hu; rcases hu with rfl | rfl <;> rfl)
            go_upto_region 19 with fail
            have HZb := Lib.hid fun (u : World) (h : Cb w #[.slice Ai g.ins.length ci, .int .i64 g.vars, .int .i64 g.keep, .slice Aa g.ars.length ca, .int .i64 g.sh, .slice Ab nb cb, .slice Aq np cp, .slice (some ⟨bh, oh, none⟩) nh ch] #[.slice none 0 0, .int .i64 0, .int .i64 0, .slice none 0 0, .int .i64 0, .slice none 0 0, .slice none 0 0, .slice none 0 0] u) => And.intro (h.gb.cell 7) ((h.low.cell (p := ⟨bh, oh + k * 2 + 1, none⟩) hbh).trans HX1.out)
            have z1 := HZb.out _ (HM.out.cb.below (below_drewN wr.heap.size _ 1))
            clear x0 xz hbd
            refine wp_region_held_drew (S := (fun w' => w'.cell? ⟨w.heap.size, 7, none⟩ = some (.slice (some ⟨bh, oh, none⟩) nh ch) ∧ w'.cell? ⟨bh, oh + k * 2 + 1, none⟩ = some (.int .i64 hn))) (by kernel_rfl) (z1) (fun hHeld => ?_)
            refine' wpAnyH_take (i := 0) (v := _) ?_ ?_ ?_ ?_ ?_ ?_ ?_ ?_
            rotate_left 2
            focus (simp only [List.getElem?_toArray, List.getElem?_cons_succ, List.getElem?_cons_zero]; rfl)
            focus kernel_rfl
            focus kernel_rfl
            focus kernel_rfl
            focus exact (fun _ _ _ h => h)
            refine Or.inl ⟨?_, ?_⟩
            focus (go_simp; done)
            focus (intro w hSw; (try dsimp only at hSw); (first | (go_simp; done) | (go_simp; with_reducible rfl)))
            focus assumption
            (try simp only [Act.put, List.setIfInBounds_toArray, List.set_cons_zero, List.set_cons_succ])
            refine' wpAnyH_take (i := 2) (v := _) ?_ ?_ ?_ ?_ ?_ ?_ ?_ ?_
            rotate_left 2
            focus (simp only [List.getElem?_toArray, List.getElem?_cons_succ, List.getElem?_cons_zero]; rfl)
            focus kernel_rfl
            focus kernel_rfl
            focus kernel_rfl
            focus exact (fun _ _ _ h => h)
            refine Or.inl ⟨?_, ?_⟩
            focus (go_simp; done)
            focus (intro w hSw; (try dsimp only at hSw); (first | (go_simp; done) | (go_simp; with_reducible rfl)))
            focus assumption
            (try simp only [Act.put, List.setIfInBounds_toArray, List.set_cons_zero, List.set_cons_succ])
            refine' wpAnyH_take (i := 3) (v := _) ?_ ?_ ?_ ?_ ?_ ?_ ?_ ?_
            rotate_left 2
            focus (simp only [List.getElem?_toArray, List.getElem?_cons_succ, List.getElem?_cons_zero]; rfl)
            focus kernel_rfl
            focus kernel_rfl
            focus kernel_rfl
            focus exact (fun _ _ _ h => h)
            refine Or.inl ⟨?_, ?_⟩
            focus (go_simp; done)
            focus (intro w hSw; (try dsimp only at hSw); (first | (go_simp; done) | (go_simp; with_reducible rfl)))
            focus assumption
            (try simp only [Act.put, List.setIfInBounds_toArray, List.set_cons_zero, List.set_cons_succ])
            refine' wpAnyH_take (i := 4) (v := _) ?_ ?_ ?_ ?_ ?_ ?_ ?_ ?_
            rotate_left 2
            focus (simp only [List.getElem?_toArray, List.getElem?_cons_succ, List.getElem?_cons_zero]; rfl)
            focus kernel_rfl
            focus kernel_rfl
            focus kernel_rfl
            focus exact (fun _ _ _ h => h)
            refine Or.inl ⟨?_, ?_⟩
            focus (go_simp; done)
            focus (intro w hSw; (try dsimp only at hSw); (first | (go_simp; done) | (go_simp; with_reducible rfl)))
            focus assumption
            (try simp only [Act.put, List.setIfInBounds_toArray, List.set_cons_zero, List.set_cons_succ])
            refine' wpAnyH_take (i := 5) (v := _) ?_ ?_ ?_ ?_ ?_ ?_ ?_ ?_
            rotate_left 2
            focus (simp only [List.getElem?_toArray, List.getElem?_cons_succ, List.getElem?_cons_zero]; rfl)
            focus kernel_rfl
            focus kernel_rfl
            focus kernel_rfl
            focus exact (fun _ _ _ h => h)
            refine Or.inl ⟨?_, ?_⟩
            focus (go_simp; done)
            focus (intro w hSw; (try dsimp only at hSw); (first | (go_simp; done) | (go_simp; with_reducible rfl)))
            focus assumption
            (try simp only [Act.put, List.setIfInBounds_toArray, List.set_cons_zero, List.set_cons_succ])
            refine' wpAnyH_take (i := 6) (v := _) ?_ ?_ ?_ ?_ ?_ ?_ ?_ ?_
            rotate_left 2
            focus (simp only [List.getElem?_toArray, List.getElem?_cons_succ, List.getElem?_cons_zero]; rfl)
            focus kernel_rfl
            focus kernel_rfl
            focus kernel_rfl
            focus exact (fun _ _ _ h => h)
            refine Or.inl ⟨?_, ?_⟩
            focus (go_simp; done)
            focus (intro w hSw; (try dsimp only at hSw); (first | (go_simp; done) | (go_simp; with_reducible rfl)))
            focus assumption
            (try simp only [Act.put, List.setIfInBounds_toArray, List.set_cons_zero, List.set_cons_succ])
            refine' wpAnyH_take (i := 7) (v := _) ?_ ?_ ?_ ?_ ?_ ?_ ?_ ?_
            rotate_left 2
            focus (simp only [List.getElem?_toArray, List.getElem?_cons_succ, List.getElem?_cons_zero]; rfl)
            focus kernel_rfl
            focus kernel_rfl
            focus kernel_rfl
            focus exact (fun _ _ _ h => h)
            refine Or.inl ⟨?_, ?_⟩
            focus (go_simp; done)
            focus (intro w hSw; (try dsimp only at hSw); (first | (go_simp; done) | (go_simp; with_reducible rfl)))
            focus assumption
            (try simp only [Act.put, List.setIfInBounds_toArray, List.set_cons_zero, List.set_cons_succ])
            refine' wpAnyH_take (i := 8) (v := _) ?_ ?_ ?_ ?_ ?_ ?_ ?_ ?_
            rotate_left 2
            focus (simp only [List.getElem?_toArray, List.getElem?_cons_succ, List.getElem?_cons_zero]; rfl)
            focus kernel_rfl
            focus kernel_rfl
            focus kernel_rfl
            focus exact (fun _ _ _ h => h)
            refine Or.inl ⟨?_, ?_⟩
            focus (go_simp; done)
            focus (intro w hSw; (try dsimp only at hSw); (first | (go_simp; done) | (go_simp; with_reducible rfl)))
            focus assumption
            (try simp only [Act.put, List.setIfInBounds_toArray, List.set_cons_zero, List.set_cons_succ])
            refine' wpAnyH_take (i := 9) (v := _) ?_ ?_ ?_ ?_ ?_ ?_ ?_ ?_
            rotate_left 2
            focus (simp only [List.getElem?_toArray, List.getElem?_cons_succ, List.getElem?_cons_zero]; rfl)
            focus kernel_rfl
            focus kernel_rfl
            focus kernel_rfl
            focus exact (fun _ _ _ h => h)
            refine Or.inl ⟨?_, ?_⟩
            focus (go_simp; done)
            focus (intro w hSw; (try dsimp only at hSw); (first | (go_simp; done) | (go_simp; with_reducible rfl)))
            focus assumption
            (try simp only [Act.put, List.setIfInBounds_toArray, List.set_cons_zero, List.set_cons_succ])
            refine wpAnyH_ready (rs := [1, 10]) (by kernel_rfl) (by simp) ?_
            refine' AllReadyH.cons ?_ (fun K hK => ?_) ?_
            rotate_left
            focus (simp only [List.getElem?_toArray, List.getElem?_cons_succ, List.getElem?_cons_zero]; rfl)
            · go_simp
              refine hK.out _ _ (by first | exact z1 | exact HZb.out _ HRq.out.cb | exact HZb.out _ (HRq.out.cb.grown HB1.out HW4.out.2) | exact HZb.out _ ((HRq.out.cb.grown HB1.out HW4.out.2).at HM.out.far 7 _)) (fun hH2 => ?_)
              clear hK K hHeld
              have hHeld := hH2
              clear hH2
              (try simp only [Act.put, List.setIfInBounds_toArray, List.set_cons_zero, List.set_cons_succ])
              refine wpAnyH_ready (rs := [10]) (by kernel_rfl) (by simp) ?_
              refine' AllReadyH.cons ?_ (fun K hK => ?_) AllReadyH.nil
              rotate_left
              focus (simp only [List.getElem?_toArray, List.getElem?_cons_succ, List.getElem?_cons_zero]; rfl)
              go_simp
              refine hK.out _ _ (by first | exact z1 | exact HZb.out _ HRq.out.cb | exact HZb.out _ (HRq.out.cb.grown HB1.out HW4.out.2) | exact HZb.out _ ((HRq.out.cb.grown HB1.out HW4.out.2).at HM.out.far 7 _)) (fun hH2 => ?_)
              clear hK K hHeld
              have hHeld := hH2
              clear hH2
              (try simp only [Act.put, List.setIfInBounds_toArray, List.set_cons_zero, List.set_cons_succ])
              refine wpAnyH_ready (rs := [11]) (by kernel_rfl) (by simp) ?_
              refine' AllReadyH.cons ?_ (fun K hK => ?_) AllReadyH.nil
              rotate_left
              focus (simp only [List.getElem?_toArray, List.getElem?_cons_succ, List.getElem?_cons_zero]; rfl)
              refine step_append_row rfl (.tmp 87) (.tmp 96) 38 rfl (w.heap.size + 1 + 1) 52 iTH _ 2 16 Try.underlying38 HTH.out.1 HTH.out.2.1 HTH.out.2.2.1 HTH.out.2.2.2 rfl (by decide) (.slice Ay m Cy) m _ (by simp [Act.eval, Act.put]) HB1.out (.slice (some ⟨wr.heap.size, 0, none⟩) 1 1) 1 (prCells (tz, hn)) (by simp [Act.eval, Act.put]) (lit_hd wr tz hn _ rfl) HOne.out HO3.out.1 HO3.out.2.1 HO3.out.2.2 ?_
              intro v2 w4 hown hg hv
              obtain ⟨A9, C9, rfl⟩ := own_eta hown
              have r := (bk_grown_t HRq.out.fb HB1.out (by decide) hg).cell 7
              have y := (bk_grown_t HRq.out.fb HB1.out (by decide) hg).frozen 7
              have HW4 := Lib.hid (And.intro hown hg)
              clear hown hg hv
              refine hK.out _ _ (by first | exact z1 | exact HZb.out _ HRq.out.cb | exact HZb.out _ (HRq.out.cb.grown HB1.out HW4.out.2) | exact HZb.out _ ((HRq.out.cb.grown HB1.out HW4.out.2).at HM.out.far 7 _)) (fun hH2 => ?_)
              clear hK K hHeld
              have hHeld := hH2
              clear hH2
              (try simp only [Act.put, List.setIfInBounds_toArray, List.set_cons_zero, List.set_cons_succ])
              refine' wpAnyH_take (i := 12) (v := _) ?_ ?_ ?_ ?_ ?_ ?_ ?_ ?_
              rotate_left 2
              focus (simp only [List.getElem?_toArray, List.getElem?_cons_succ, List.getElem?_cons_zero]; rfl)
              focus kernel_rfl
              focus kernel_rfl
              focus kernel_rfl
              focus exact (fun _ _ _ h => h)
              refine Or.inl ⟨?_, ?_⟩
              focus (go_simp; done)
              focus (intro w hSw; (try dsimp only at hSw); (first | (go_simp; done) | (go_simp; with_reducible rfl)))
              focus assumption
              (try simp only [Act.put, List.setIfInBounds_toArray, List.set_cons_zero, List.set_cons_succ])
              refine wpAnyH_ready (rs := [13]) (by kernel_rfl) (by simp) ?_
              refine' AllReadyH.cons ?_ (fun K hK => ?_) AllReadyH.nil
              rotate_left
              focus (simp only [List.getElem?_toArray, List.getElem?_cons_succ, List.getElem?_cons_zero]; rfl)
              go_simp
              refine hK.out _ _ (by first | exact z1 | exact HZb.out _ HRq.out.cb | exact HZb.out _ (HRq.out.cb.grown HB1.out HW4.out.2) | exact HZb.out _ ((HRq.out.cb.grown HB1.out HW4.out.2).at HM.out.far 7 _)) (fun hH2 => ?_)
              clear hK K hHeld
              have hHeld := hH2
              clear hH2
              (try simp only [Act.put, List.setIfInBounds_toArray, List.set_cons_zero, List.set_cons_succ])
              refine wpAnyH_done (by kernel_rfl) ?_ _
              have HN := Lib.hid (show Rq g w #[.slice Ai g.ins.length ci, .int .i64 g.vars, .int .i64 g.keep, .slice Aa g.ars.length ca, .int .i64 g.sh, .slice Ab nb cb, .slice Aq np cp, .slice (some ⟨bh, oh, none⟩) nh ch] #[.slice none 0 0, .int .i64 0, .int .i64 0, .slice none 0 0, .int .i64 0, .slice none 0 0, .slice none 0 0, .slice none 0 0] F (.slice Bi g.ins.length di) (.slice Ba g.ars.length da) (.slice Bp np dp) ps' g.pts yb us (Me.rblks g.blks t nb) (.slice A9 (m + 1) C9) (Me.rhds g.hds t (k + 1)) (w4.setCell ⟨F, 7, none⟩ (.slice A9 (m + 1) C9)) from by
                rw [HSu.out, if_pos hge]
                refine HRq.out.hd (x := (tz, hn)) ?_ HW4.out.2
                rw [HMl.out]
                exact HW4.out.1)
              clear HW4 HRq HB1 r y c7 y7 HM hFw hbhw hgw g7
              go_wp2
              go_roundw
              case rel => exact ⟨k + 1, _, by omega, by first | rfl | go_num, HN⟩
              case measure => simp [intOf]; omega
            refine' AllReadyH.cons ?_ (fun K hK => ?_) AllReadyH.nil
            rotate_left
            focus (simp only [List.getElem?_toArray, List.getElem?_cons_succ, List.getElem?_cons_zero]; rfl)
            go_simp
            refine hK.out _ _ (by first | exact z1 | exact HZb.out _ HRq.out.cb | exact HZb.out _ (HRq.out.cb.grown HB1.out HW4.out.2) | exact HZb.out _ ((HRq.out.cb.grown HB1.out HW4.out.2).at HM.out.far 7 _)) (fun hH2 => ?_)
            clear hK K hHeld
            have hHeld := hH2
            clear hH2
            (try simp only [Act.put, List.setIfInBounds_toArray, List.set_cons_zero, List.set_cons_succ])
            refine wpAnyH_ready (rs := [1]) (by kernel_rfl) (by simp) ?_
            refine' AllReadyH.cons ?_ (fun K hK => ?_) AllReadyH.nil
            rotate_left
            focus (simp only [List.getElem?_toArray, List.getElem?_cons_succ, List.getElem?_cons_zero]; rfl)
            go_simp
            refine hK.out _ _ (by first | exact z1 | exact HZb.out _ HRq.out.cb | exact HZb.out _ (HRq.out.cb.grown HB1.out HW4.out.2) | exact HZb.out _ ((HRq.out.cb.grown HB1.out HW4.out.2).at HM.out.far 7 _)) (fun hH2 => ?_)
            clear hK K hHeld
            have hHeld := hH2
            clear hH2
            (try simp only [Act.put, List.setIfInBounds_toArray, List.set_cons_zero, List.set_cons_succ])
            refine wpAnyH_ready (rs := [11]) (by kernel_rfl) (by simp) ?_
            refine' AllReadyH.cons ?_ (fun K hK => ?_) AllReadyH.nil
            rotate_left
            focus (simp only [List.getElem?_toArray, List.getElem?_cons_succ, List.getElem?_cons_zero]; rfl)
            refine step_append_row rfl (.tmp 87) (.tmp 96) 38 rfl (w.heap.size + 1 + 1) 52 iTH _ 2 16 Try.underlying38 HTH.out.1 HTH.out.2.1 HTH.out.2.2.1 HTH.out.2.2.2 rfl (by decide) (.slice Ay m Cy) m _ (by simp [Act.eval, Act.put]) HB1.out (.slice (some ⟨wr.heap.size, 0, none⟩) 1 1) 1 (prCells (tz, hn)) (by simp [Act.eval, Act.put]) (lit_hd wr tz hn _ rfl) HOne.out HO3.out.1 HO3.out.2.1 HO3.out.2.2 ?_
            intro v2 w4 hown hg hv
            obtain ⟨A9, C9, rfl⟩ := own_eta hown
            have r := (bk_grown_t HRq.out.fb HB1.out (by decide) hg).cell 7
            have y := (bk_grown_t HRq.out.fb HB1.out (by decide) hg).frozen 7
            have HW4 := Lib.hid (And.intro hown hg)
            clear hown hg hv
            refine hK.out _ _ (by first | exact z1 | exact HZb.out _ HRq.out.cb | exact HZb.out _ (HRq.out.cb.grown HB1.out HW4.out.2) | exact HZb.out _ ((HRq.out.cb.grown HB1.out HW4.out.2).at HM.out.far 7 _)) (fun hH2 => ?_)
            clear hK K hHeld
            have hHeld := hH2
            clear hH2
            (try simp only [Act.put, List.setIfInBounds_toArray, List.set_cons_zero, List.set_cons_succ])
            refine' wpAnyH_take (i := 12) (v := _) ?_ ?_ ?_ ?_ ?_ ?_ ?_ ?_
            rotate_left 2
            focus (simp only [List.getElem?_toArray, List.getElem?_cons_succ, List.getElem?_cons_zero]; rfl)
            focus kernel_rfl
            focus kernel_rfl
            focus kernel_rfl
            focus exact (fun _ _ _ h => h)
            refine Or.inl ⟨?_, ?_⟩
            focus (go_simp; done)
            focus (intro w hSw; (try dsimp only at hSw); (first | (go_simp; done) | (go_simp; with_reducible rfl)))
            focus assumption
            (try simp only [Act.put, List.setIfInBounds_toArray, List.set_cons_zero, List.set_cons_succ])
            refine wpAnyH_ready (rs := [13]) (by kernel_rfl) (by simp) ?_
            refine' AllReadyH.cons ?_ (fun K hK => ?_) AllReadyH.nil
            rotate_left
            focus (simp only [List.getElem?_toArray, List.getElem?_cons_succ, List.getElem?_cons_zero]; rfl)
            go_simp
            refine hK.out _ _ (by first | exact z1 | exact HZb.out _ HRq.out.cb | exact HZb.out _ (HRq.out.cb.grown HB1.out HW4.out.2) | exact HZb.out _ ((HRq.out.cb.grown HB1.out HW4.out.2).at HM.out.far 7 _)) (fun hH2 => ?_)
            clear hK K hHeld
            have hHeld := hH2
            clear hH2
            (try simp only [Act.put, List.setIfInBounds_toArray, List.set_cons_zero, List.set_cons_succ])
            refine wpAnyH_done (by kernel_rfl) ?_ _
            have HN := Lib.hid (show Rq g w #[.slice Ai g.ins.length ci, .int .i64 g.vars, .int .i64 g.keep, .slice Aa g.ars.length ca, .int .i64 g.sh, .slice Ab nb cb, .slice Aq np cp, .slice (some ⟨bh, oh, none⟩) nh ch] #[.slice none 0 0, .int .i64 0, .int .i64 0, .slice none 0 0, .int .i64 0, .slice none 0 0, .slice none 0 0, .slice none 0 0] F (.slice Bi g.ins.length di) (.slice Ba g.ars.length da) (.slice Bp np dp) ps' g.pts yb us (Me.rblks g.blks t nb) (.slice A9 (m + 1) C9) (Me.rhds g.hds t (k + 1)) (w4.setCell ⟨F, 7, none⟩ (.slice A9 (m + 1) C9)) from by
              rw [HSu.out, if_pos hge]
              refine HRq.out.hd (x := (tz, hn)) ?_ HW4.out.2
              rw [HMl.out]
              exact HW4.out.1)
            clear HW4 HRq HB1 r y c7 y7 HM hFw hbhw hgw g7
            go_wp2
            go_roundw
            case rel => exact ⟨k + 1, _, by omega, by first | rfl | go_num, HN⟩
            case measure => simp [intOf]; omega
          · have HN := Lib.hid (show Rq g w #[.slice Ai g.ins.length ci, .int .i64 g.vars, .int .i64 g.keep, .slice Aa g.ars.length ca, .int .i64 g.sh, .slice Ab nb cb, .slice Aq np cp, .slice (some ⟨bh, oh, none⟩) nh ch] #[.slice none 0 0, .int .i64 0, .int .i64 0, .slice none 0 0, .int .i64 0, .slice none 0 0, .slice none 0 0, .slice none 0 0] F (.slice Bi g.ins.length di) (.slice Ba g.ars.length da) (.slice Bp np dp) ps' g.pts yb us (Me.rblks g.blks t nb) yh (Me.rhds g.hds t (k + 1)) wr from by rw [HSu.out, if_neg hge, List.append_nil]; exact HM.out)
            clear HM
            go_wp2
            go_roundw
            case rel => exact ⟨k + 1, _, by omega, by first | rfl | go_num, HN⟩
            case measure => simp [intOf]; omega
        · have hlt' : ¬ (k : Int) < nh := by omega
          obtain rfl : nh = k := by omega
          have HP := Lib.hid (show Rq g w #[.slice Ai g.ins.length ci, .int .i64 g.vars, .int .i64 g.keep, .slice Aa g.ars.length ca, .int .i64 g.sh, .slice Ab nb cb, .slice Aq np cp, .slice Ah nh ch] #[.slice none 0 0, .int .i64 0, .int .i64 0, .slice none 0 0, .int .i64 0, .slice none 0 0, .slice none 0 0, .slice none 0 0] F (.slice Bi g.ins.length di) (.slice Ba g.ars.length da) (.slice Bp np dp) ps' (mxg (fun q => Me.rpt t q q.length) g.pts 0) yb us (Me.rblks g.blks t nb) yh (Me.rhds g.hds t nh) wr from by rw [mxg_zero]; exact HM.out)
          clear HM
          go_wp2
          clear g7
          have HFp := Lib.hid (rfl : mxg (fun q => Me.rpt t q q.length) g.pts np = mxg (fun q => Me.rpt t q q.length) g.pts np)
          go_loopw [12] (fun i wr => ∃ (k : Nat) (ps : List Value), k ≤ np ∧ i = .int .i64 k ∧ Hid (Rq g w #[.slice Ai g.ins.length ci, .int .i64 g.vars, .int .i64 g.keep, .slice Aa g.ars.length ca, .int .i64 g.sh, .slice Ab nb cb, .slice Aq np cp, .slice Ah nh ch] #[.slice none 0 0, .int .i64 0, .int .i64 0, .slice none 0 0, .int .i64 0, .slice none 0 0, .slice none 0 0, .slice none 0 0] F (.slice Bi g.ins.length di) (.slice Ba g.ars.length da) (.slice Bp np dp) ps (mxg (fun q => Me.rpt t q q.length) g.pts k) yb us (Me.rblks g.blks t nb) yh (Me.rhds g.hds t nh) wr)) (fun i _ => np - (intOf i).toNat)
          case atStart => exact ⟨0, _, Nat.zero_le _, rfl, HP⟩
          case round =>
            clear HP
            obtain ⟨k, ps, hk, rfl, HP⟩ := hrel
            have g6 := HP.out.cb.gb.cell 6
            by_cases hlt : k < np
            · have hlt' : (k : Int) < np := by omega
              have hlt0 : (0 : Int) ≤ (k : Int) := by omega
              have hkl : k < g.pts.length := by rw [HNs.out.2.1]; exact hlt
              have HMs := Lib.hid (mxg_set (fun q => Me.rpt t q q.length) ([] : List Int) hkl)
              have HBp := Lib.hid (HR.out.po k hkl)
              have HTp := Lib.hid (HR.out.tp _ (Me.getD_mem (d := []) hkl))
              obtain ⟨bp, op, rfl, hbp, x0, hnum⟩ := HPt.out k hlt
              have HNum := Lib.hid hnum
              have HX0 := Lib.hid x0
              obtain ⟨q, hq⟩ : ∃ q, g.pts.getD k [] = q := ⟨_, rfl⟩
              rw [hq] at HMs HBp HTp HNum HX0
              clear hq hnum x0 hkl
              obtain ⟨nq, hnq⟩ : ∃ n, q.length = n := ⟨_, rfl⟩
              have HQl := Lib.hid hnq
              rw [hnq] at HMs HBp HNum HX0
              clear hnq
              have hq1 : nq ≤ 1000 := HBp.out
              obtain ⟨gp, hgp⟩ : ∃ gp, Bp = some ⟨gp, 0, none⟩ := by
                obtain ⟨g', c', e, -⟩ := own_at (d := nl) HP.out.po (show k < (mxg (fun q => Me.rpt t q q.length) g.pts k).length by rw [mxg_len, HNs.out.2.1]; exact hlt)
                injection e with e _ _
                exact ⟨g', e⟩
              subst hgp
              have HY := Lib.hid (show Below wr.heap.size wr wr ∧ wr.ownsRow wr.heap.size 3 1 (.slice none 0 0) (Me.rpt t q 0).length ((Me.rpt t q 0).map (.int .i64)) from ⟨Below.refl _ _, World.ownsRow_nil _ _ _ _⟩)
              obtain ⟨U, hU⟩ : ∃ U, U = wr := ⟨_, rfl⟩
              subst hU
              go_wp2
              clear g6
              go_loopw [14, 13] (fun i v wr => ∃ (j : Nat) (y : Value), j ≤ nq ∧ i = .int .i64 j ∧ y = v ∧ Hid (Below U.heap.size U wr ∧ wr.ownsRow U.heap.size 3 1 y (Me.rpt t q j).length ((Me.rpt t q j).map (.int .i64)))) (fun i _ _ => nq - (intOf i).toNat)
              case atStart => exact ⟨0, _, Nat.zero_le _, rfl, rfl, HY⟩
              case round =>
                clear HY
                obtain ⟨j, y, hj, rfl, rfl, HY⟩ := hrel
                have HPw := Lib.hid (HP.out.below HY.out.1)
                have g6 := HPw.out.cb.gb.cell 6
                have x0 := (HPw.out.cb.low.cell (p := ⟨bp, op + k, none⟩) hbp).trans HX0.out
                by_cases hlj : j < nq
                · have hlj' : (j : Int) < nq := by omega
                  have hlj0 : (0 : Int) ≤ (j : Int) := by omega
                  have hqb : j < q.length := by rw [HQl.out]; exact hlj
                  have HSq := Lib.hid (Me.rpt_succ t q j)
                  have hzr := HTp.out _ (Me.getD_mem (d := (0 : Int)) hqb)
                  obtain ⟨A', c', e, hqo⟩ := HNum.out.opened
                  injection e with e1 e2 e3
                  obtain ⟨bq, oq, e4, hbq, hxq⟩ := hqo j hqb
                  rw [e1, e4] at x0
                  clear hqo e1 e2 e3 e4 hqb
                  replace hxq := (HPw.out.cb.low.cell (p := ⟨bq, oq + j, none⟩) hbq).trans hxq
                  obtain ⟨zq, hzq⟩ : ∃ z, q.getD j 0 = z := ⟨_, rfl⟩
                  rw [hzq] at HSq hzr hxq
                  clear hzq
                  obtain ⟨zn, rfl⟩ : ∃ zn : Nat, zq = (zn : Int) := ⟨zq.toNat, by omega⟩
                  rw [Int.toNat_natCast] at HSq
                  have hzb : zn < nt := by have := HNs.out.2.2.2; omega
                  have hz1 : (zn : Int) < (nt : Int) := by omega
                  have hz0 : (0 : Int) ≤ (zn : Int) := by omega
                  obtain ⟨bt, ot, rfl, hbt, xz⟩ := HTn.out zn hzb
                  replace xz := (HPw.out.cb.low.cell (p := ⟨bt, ot + zn, none⟩) hbt).trans xz
                  obtain ⟨tz, htz⟩ : ∃ z, t.getD zn 0 = z := ⟨_, rfl⟩
                  rw [htz] at HSq xz
                  clear htz hzr
                  by_cases hge : 0 ≤ tz
                  · obtain ⟨m, hm⟩ : ∃ n, (Me.rpt t q j).length = n := ⟨_, rfl⟩
                    have hm1 : m ≤ 1000 := by have := Me.rpt_le t q j; omega
                    have HMl := Lib.hid hm
                    have HOw := Lib.hid HY.out.2
                    rw [hm] at HOw
                    clear hm
                    obtain ⟨A8, C8, rfl⟩ := own_eta HOw.out
                    have hbk : Below wr.heap.size wr (wr.alloc (.cells #[.int .i64 tz] 3)) := bla (Below.refl _ _) _
                    have hsz := HY.out.1.size
                    have HQ4 := Lib.hid (show m + 1 ≤ maxLen ∧ (m + 1) * 8 ≤ 140737488355328 ∧ U.heap.size ≤ (wr.alloc (.cells #[.int .i64 tz] 3)).heap.size from ⟨by unfold maxLen; omega, by omega, by rw [size_alloc]; omega⟩)
                    clear hsz
                    go_wp2_with (at_builtin; refine wpList_append_row rfl (.tmp 129) (.tmp 131) 32 rfl U.heap.size 3 iTN _ 1 8 Try.underlying32 HTN.out.1 HTN.out.2.1 HTN.out.2.2.1 HTN.out.2.2.2 rfl (by decide) _ _ _ rfl (own_below HOw.out hbk) _ 1 [Value.int .i64 tz] rfl (lit_num wr _ _ _ rfl) one_z HQ4.out.1 HQ4.out.2.1 HQ4.out.2.2 ?_)
                    intro v1 w3 hown hg hv
                    have HN := Lib.hid (show Below U.heap.size U w3 ∧ w3.ownsRow U.heap.size 3 1 v1 (Me.rpt t q (j + 1)).length ((Me.rpt t q (j + 1)).map (.int .i64)) from by
                      have h1 := blt HY.out.1 hbk
                      refine ⟨h1.grown hg h1.size (fun i hi => ((own_below HOw.out hbk).lt i hi).1), ?_⟩
                      rw [HSq.out, if_pos hge, List.length_append, List.map_append, HMl.out]
                      exact hown)
                    clear hown hg hv HY HOw HPw g6 x0 hxq xz hbk
                    go_wp2
                    go_roundw
                    case rel => exact ⟨j + 1, _, by omega, by first | rfl | go_num, rfl, HN⟩
                    case measure => simp [intOf]; omega
                  · have HN := Lib.hid (show Below U.heap.size U wr ∧ wr.ownsRow U.heap.size 3 1 y (Me.rpt t q (j + 1)).length ((Me.rpt t q (j + 1)).map (.int .i64)) from by
                      rw [HSq.out, if_neg hge, List.append_nil]
                      exact HY.out)
                    clear HY
                    go_wp2
                    go_roundw
                    case rel => exact ⟨j + 1, _, by omega, by first | rfl | go_num, rfl, HN⟩
                    case measure => simp [intOf]; omega
                · have hlj' : ¬ (j : Int) < nq := by omega
                  obtain rfl : nq = j := by omega
                  have hkm : k < (mxg (fun q => Me.rpt t q q.length) g.pts k).length := by rw [mxg_len, HNs.out.2.1]; exact hlt
                  have hcl := own_cell nl HPw.out.po hkm
                  have r := hcl.1
                  have y_ := hcl.2.1
                  have hgl := hcl.2.2.1
                  have c6 := HPw.out.fb.cell 6
                  obtain ⟨A8, C8, hy8⟩ := own_eta HY.out.2
                  have HN := Lib.hid (show Rq g w #[.slice Ai g.ins.length ci, .int .i64 g.vars, .int .i64 g.keep, .slice Aa g.ars.length ca, .int .i64 g.sh, .slice Ab nb cb, .slice (some ⟨bp, op, none⟩) np cp, .slice Ah nh ch] #[.slice none 0 0, .int .i64 0, .int .i64 0, .slice none 0 0, .int .i64 0, .slice none 0 0, .slice none 0 0, .slice none 0 0] F (.slice Bi g.ins.length di) (.slice Ba g.ars.length da) (.slice (some ⟨gp, 0, none⟩) np dp) (ps.set k y) (mxg (fun q => Me.rpt t q q.length) g.pts (k + 1)) yb us (Me.rblks g.blks t nb) yh (Me.rhds g.hds t nh) (wr.setCell ⟨gp, k, none⟩ y) from by
                    rw [← HMs.out]
                    have hown := own_mono_b HY.out.2 (show w.heap.size + 1 + 1 ≤ U.heap.size from HP.out.cb.rb.lt)
                    have h := HPw.out.lst (k := k) (x' := y) (q := Me.rpt t q nq) (by rw [mxg_len]; exact HNs.out.2.1.symm) hkm hown
                    exact h)
                  subst hy8
                  clear hcl HPw hkm
                  go_wp2
                  clear r y_ c6 g6 x0 hgl HY HP
                  go_roundw
                  case rel => exact ⟨k + 1, _, by omega, by first | rfl | go_num, HN⟩
                  case measure => simp [intOf]; omega
            · have hlt' : ¬ (k : Int) < np := by omega
              obtain rfl : np = k := by omega
              have HE := Lib.hid (show Rq g w #[.slice Ai g.ins.length ci, .int .i64 g.vars, .int .i64 g.keep, .slice Aa g.ars.length ca, .int .i64 g.sh, .slice Ab nb cb, .slice Aq np cp, .slice Ah nh ch] #[.slice none 0 0, .int .i64 0, .int .i64 0, .slice none 0 0, .int .i64 0, .slice none 0 0, .slice none 0 0, .slice none 0 0] F (.slice Bi g.ins.length di) (.slice Ba g.ars.length da) (.slice Bp np dp) ps (g.pts.map fun q => Me.rpt t q q.length) yb us (Me.rblks g.blks t nb) yh (Me.rhds g.hds t nh) wr from by
                have h := HP.out
                have e : mxg (fun q => Me.rpt t q q.length) g.pts np = g.pts.map fun q => Me.rpt t q q.length := by rw [← HNs.out.2.1, mxg_all]
                rw [e] at h
                exact h)
              clear HP
              obtain ⟨Ab2, cb2, hyb⟩ := own_eta HE.out.bks.row
              obtain ⟨Ah2, ch2, hyh⟩ := own_eta HE.out.hds
              obtain ⟨m1, hm1⟩ : ∃ n, (Me.rblks g.blks t nb).length = n := ⟨_, rfl⟩
              obtain ⟨m2, hm2⟩ : ∃ n, (Me.rhds g.hds t nh).length = n := ⟨_, rfl⟩
              rw [hm1] at hyb
              rw [hm2] at hyh
              clear hm1 hm2
              subst hyb hyh
              have c0 := HE.out.fb.cell 0
              have z0 := HE.out.cb.rb.cell 0
              have y0 := HE.out.cb.rb.frozen 0
              have c1 := HE.out.fb.cell 1
              have z1 := HE.out.cb.rb.cell 1
              have y1 := HE.out.cb.rb.frozen 1
              have c2 := HE.out.fb.cell 2
              have z2 := HE.out.cb.rb.cell 2
              have y2 := HE.out.cb.rb.frozen 2
              have c3 := HE.out.fb.cell 3
              have z3 := HE.out.cb.rb.cell 3
              have y3 := HE.out.cb.rb.frozen 3
              have c4 := HE.out.fb.cell 4
              have z4 := HE.out.cb.rb.cell 4
              have y4 := HE.out.cb.rb.frozen 4
              have c5 := HE.out.fb.cell 5
              have z5 := HE.out.cb.rb.cell 5
              have y5 := HE.out.cb.rb.frozen 5
              have c6 := HE.out.fb.cell 6
              have z6 := HE.out.cb.rb.cell 6
              have y6 := HE.out.cb.rb.frozen 6
              have c7 := HE.out.fb.cell 7
              have z7 := HE.out.cb.rb.cell 7
              have y7 := HE.out.cb.rb.frozen 7
              have HF := Lib.hid (((((((((HE.out.res 0 (.slice Bi g.ins.length di)).res 1 (.int .i64 g.vars)).res 2 (.int .i64 g.keep)).res 3 (.slice Ba g.ars.length da)).res 4 (.int .i64 g.sh)).res 5 (.slice Ab2 m1 cb2)).res 6 (.slice Bp np dp)).res 7 (.slice Ah2 m2 ch2)))
              clear HE
              go_wp2
              refine bodyPost_ret (v := .agg #[.slice Bi g.ins.length di, .int .i64 g.vars, .int .i64 g.keep, .slice Ba g.ars.length da, .int .i64 g.sh, .slice Ab2 m1 cb2, .slice Bp np dp, .slice Ah2 m2 ch2]) (by simp [results, Try.results58, go_sem, z0, z1, z2, z3, z4, z5, z6, z7]) rfl ⟨_, _, _, _, _, us, ps, rfl, HF.out.cb.low, ?_⟩
              have h := HF.out.gf
              have e : ({ g with blks := Me.rblks g.blks t nb, hds := Me.rhds g.hds t nh, pts := g.pts.map fun q => Me.rpt t q q.length } : Gr.G) = Me.ren g t := by unfold Me.ren; rw [HNs.out.1, HNs.out.2.2.1]
              rw [e] at h
              exact h
end Go.Proofs.Ytojnhdkclabkgaa
