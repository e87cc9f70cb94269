/- The specification of layer 11: Map. No condition. -/
import Derived.Test.YtpinncjnfbebkaaFaOf
import Derived.Test.YtpinncjnfbebkaaFaMapM
namespace Go.Proofs.Ytpinncjnfbebkaa
open Go.RowKit
set_option linter.unusedVariables false
set_option linter.unusedSimpArgs false
attribute [local go_sem] y_undef
/-- The boxes of a fact, and the result's. -/
def Md (w : World) (v : Value) (mf : Int) (u : World) : Prop :=
  Ahead 2 w u ∧ (u.cell? ⟨w.heap.size, 0, none⟩ = some v ∧ u.cell? ⟨w.heap.size, 1, none⟩ = some (.int .i64 mf)) ∧ u.cell? ⟨w.heap.size + 1, 0, none⟩ = some (.slice none 0 0) ∧ u.cell? ⟨w.heap.size + 1, 1, none⟩ = some (.int .i64 0) ∧ ∀ o, u.frozen? ⟨w.heap.size + 1, o, none⟩ = false
theorem Md.keep {w u u' : World} {v : Value} {mf : Int} (h : Md w v mf u) (hb : Below (w.heap.size + 2) u u') : Md w v mf u' := by
  obtain ⟨hA, ⟨f0, f1⟩, r0, r1, rf⟩ := h
  refine ⟨⟨hA.1.trans (hb.mono (by omega)), by have := hA.2; have := hb.size; omega⟩, ⟨?_, ?_⟩, ?_, ?_, fun o => ?_⟩
  · exact (hb.cell (p := ⟨w.heap.size, 0, none⟩) (by show w.heap.size < _; omega)).trans f0
  · exact (hb.cell (p := ⟨w.heap.size, 1, none⟩) (by show w.heap.size < _; omega)).trans f1
  · exact (hb.cell (p := ⟨w.heap.size + 1, 0, none⟩) (by show w.heap.size + 1 < _; omega)).trans r0
  · exact (hb.cell (p := ⟨w.heap.size + 1, 1, none⟩) (by show w.heap.size + 1 < _; omega)).trans r1
  · exact (hb.frozen (p := ⟨w.heap.size + 1, o, none⟩) (by show w.heap.size + 1 < _; omega)).trans (rf o)
theorem Md.below {w u u' : World} {v : Value} {mf : Int} (h : Md w v mf u) (hb : Below u.heap.size u u') : Md w v mf u' := h.keep (hb.mono h.1.2)
theorem md_new (w : World) (v : Value) (mf : Int) (t : TypeId) : Md w v mf ((w.alloc (.cells #[v, .int .i64 mf] t)).alloc (.cells #[.slice none 0 0, .int .i64 0] t)) :=
  ⟨((Ahead.refl w).alloc _).alloc _, ⟨by go_simp, by go_simp⟩, by go_simp, by go_simp, fun o => by go_simp⟩
/-- The row of terms in the making. -/
def Rm (w : World) (x : Value) (q : Fa.Tms) (u : World) : Prop := u.ownsRow (w.heap.size + 2) 36 2 x q.length (q.flatMap prCells)
theorem Rm.below {w u u' : World} {x : Value} {q : Fa.Tms} (h : Rm w x q u) (hb : Below u.heap.size u u') : Rm w x q u' :=
  World.ownsRow.kept h (row := none) ⟨hb.os, hb.tape, hb.output, hb.size, fun k hk _ => hb.block k hk⟩ (by cases hv : x.ownBlock <;> simp)
theorem Rm.app {w u' : World} {x' : Value} {q : Fa.Tms} {t : Int × Int} (hown : u'.ownsRow (w.heap.size + 2) 36 2 x' (q.length + 1) (q.flatMap prCells ++ prCells t)) : Rm w x' (q ++ [t]) u' := by
  unfold Rm; rw [List.flatMap_append]; simpa using hown
/-- The whole state of the loops: the boxes, the row; and of the inner one: the term's box, which is not the row's block. -/
def Ms (w : World) (v : Value) (mf : Int) (x : Value) (q : Fa.Tms) (u : World) : Prop := Md w v mf u ∧ Rm w x q u
theorem Ms.below {w u u' : World} {v : Value} {mf : Int} {x : Value} {q : Fa.Tms} (h : Ms w v mf x q u) (hb : Below u.heap.size u u') : Ms w v mf x q u' := ⟨h.1.below hb, h.2.below hb⟩
def Mt (w : World) (v : Value) (mf : Int) (g : Nat) (a b : Int) (x : Value) (q : Fa.Tms) (u : World) : Prop := Ms w v mf x q u ∧ Bk u g 36 #[.int .i64 a, .int .i64 b] ∧ x.ownBlock ≠ some g ∧ w.heap.size + 2 ≤ g
theorem Mt.below {w u u' : World} {v : Value} {mf : Int} {g : Nat} {a b : Int} {x : Value} {q : Fa.Tms} (h : Mt w v mf g a b x q u) (hb : Below u.heap.size u u') : Mt w v mf g a b x q u' := ⟨h.1.below hb, h.2.1.below hb, h.2.2⟩
theorem Ms.toT {w u : World} {v : Value} {mf : Int} {x : Value} {q : Fa.Tms} (h : Ms w v mf x q u) (a b : Int) : Mt w v mf u.heap.size a b x q (u.alloc (.cells #[.int .i64 a, .int .i64 b] 36)) :=
  ⟨h.below ((Below.refl _ _).alloc (Nat.le_refl _) _), Bk.new _ _ _, fun e => by have := (World.ownsRow.lt h.2 _ e).2; omega, h.1.1.2⟩
/-- Behind an append. -/
theorem Mt.app {w u u' : World} {v : Value} {mf : Int} {g : Nat} {a b : Int} {x : Value} {q : Fa.Tms} (h : Mt w v mf g a b x q u) {g' cap : Nat} {t : Int × Int}
    (hown : u'.ownsRow (w.heap.size + 2) 36 2 (.slice (some ⟨g', 0, none⟩) (q.length + 1) cap) (q.length + 1) (q.flatMap prCells ++ prCells t)) (hg : u.grownBy u' x.ownBlock) (hv : x.ownBlock = some g' ∨ g' = u.heap.size) :
    Mt w v mf g a b (.slice (some ⟨g', 0, none⟩) (q.length + 1) cap) (q ++ [t]) u' := by
  obtain ⟨⟨hM, hR⟩, hB, hne, hge⟩ := h
  refine ⟨⟨hM.keep ((Below.refl _ u).grown hg hM.1.2 fun k hk => (World.ownsRow.lt hR k hk).1), Rm.app hown⟩, (hg.block g hB.lt (fun e => hne e.symm)).trans hB, ?_, hge⟩
  intro e3
  have e4 : g' = g := by simpa [Value.ownBlock] using e3
  rcases hv with e | e
  · exact hne (e.trans (by rw [e4]))
  · have := hB.lt; omega
set_option maxRecDepth 100000 in
set_option maxHeartbeats 16000000 in
theorem rmapf_any (f : Fa.Tms) (mf : Int) (vf : Value) (ts : List (List Int)) (vt : Value) (r : Fa.Tms × Int × Int) (w : World) (hf : PrsIn w vf f) (hmf : f.length ≤ maxLen) (ht : LstsIn w vt ts) (hmt : ts.length ≤ maxLen) (hmt2 : ∀ q ∈ ts, q.length ≤ maxLen)
    (hr : Fa.mapR f mf ts = r) : Calls Try.prog 29 #[.agg #[vf, .int .i64 mf], vt] w (OfPost r w) := by
  have HA := Lib.hid (md_new w vf mf 30)
  obtain ⟨ef, hef⟩ : ∃ x, Fa.chk f mf = x := ⟨_, rfl⟩
  obtain ⟨bm, hbm⟩ : ∃ x, Fa.isMapB ts = x := ⟨_, rfl⟩
  have HCf := Lib.hid (rcheck_any f mf vf ef _ (hf.below (((Below.refl _ _).alloc (Nat.le_refl _) (.cells #[vf, .int .i64 mf] 30)).alloc (by simp) (.cells #[.slice none 0 0, .int .i64 0] 30))) hmf hef)
  have HCt := Lib.hid fun (u : World) (hb : Below w.heap.size w u) => rmap_any ts vt bm u (ht.below hb) hmt hmt2 hbm
  obtain ⟨A, c, rfl, hof⟩ := hf.opened
  obtain ⟨C, d, rfl, hot⟩ := ht
  unfold maxLen at hmf hmt
  have HOf := Lib.hid hof
  have HOt := Lib.hid hot
  have HEf := Lib.hid hef
  have HBm := Lib.hid hbm
  have HR := Lib.hid hr
  have HMt2 := Lib.hid hmt2
  obtain ⟨n, hn⟩ : ∃ n, f.length = n := ⟨_, rfl⟩
  obtain ⟨m, hm⟩ : ∃ m, ts.length = m := ⟨_, rfl⟩
  have HN := Lib.hid hn
  have HM := Lib.hid hm
  rw [hn] at hmf HOf HA HCf
  rw [hm] at hmt HOt HCt
  rw [hn, hm]
  clear hf hof hot hef hbm hr hn hm hmt2
  obtain ⟨iT, hi0, hz0, hz1, hz2⟩ := info_parts Try.infoTm
  have HIT := Lib.hid (And.intro hi0 (And.intro hz0 (And.intro hz1 hz2)))
  clear hi0 hz0 hz1 hz2
  go_enter Try.func29, Try.ntmps29
  go_wp2_with fail
  refine HCf.out.mono ?_
  rintro e w1 ⟨rfl, hb1⟩
  have HA1 := Lib.hid (HA.out.below hb1)
  clear hb1 HA HCf
  by_cases h1 : ef = 0
  · subst h1
    go_wp2_with fail
    refine (HCt.out _ HA1.out.1.1).mono ?_
    rintro e w2 ⟨rfl, hb2⟩
    have HA2 := Lib.hid (HA1.out.below hb2)
    clear hb2 HA1 HCt
    cases hb : bm
    · have HE := Lib.hid (HR.out.symm.trans (Fa.mp_map HEf.out (HBm.out.trans hb)))
      clear HR
      obtain ⟨hbx, ⟨f0, f1⟩, r0, r1, rf⟩ := HA2.out
      have rf0 := rf 0
      have rf1 := rf 1
      go_wp2
      refine bodyPost_ret (v := .tuple #[.agg #[.slice none 0 0, .int .i64 0], .int .i64 10]) ?_ rfl ⟨_, by rw [HE.out], by rw [HE.out]; exact World.ownsRow_nil _ _ _ _, by first | exact hbx.1 | exact ((hbx.set (by omega) _).set (by omega) _).1⟩
      simp [results, Try.results29, go_sem, r0, r1, hbx.lt1]
    · have hbt := HBm.out.trans hb
      have HBt := Lib.hid hbt
      clear hbt HBm
      have hn64 : n ≤ 64 := by have := (Fa.ok_of HEf.out).1; have := HN.out; omega
      have HS := Lib.hid (show Ms w (.slice A n c) mf (.slice none 0 0) (Fa.toAll ts (f.take 0)) w2 from ⟨HA2.out, World.ownsRow_nil _ _ _ _⟩)
      clear HA2
      go_wp2
      go_loopw [7, 8] (fun x i wr => ∃ k : Nat, k ≤ n ∧ i = .int .i64 k ∧ Hid ((∀ j, j < k → (f.getD j (0, 0)).1 < (m : Int)) ∧ Ms w (.slice A n c) mf x (Fa.toAll ts (f.take k)) wr)) (fun _ i _ => n - (intOf i).toNat)
      case atStart => exact ⟨0, Nat.zero_le _, rfl, Lib.hid ⟨fun j hj => by omega, HS.out⟩⟩
      case round =>
        clear HS
        obtain ⟨k, hk, rfl, HK⟩ := hrel
        obtain ⟨wo, hwo⟩ : ∃ x, x = wr := ⟨_, rfl⟩
        subst hwo
        obtain ⟨hbx, ⟨f0, f1⟩, r0, r1, rf⟩ := HK.out.2.1
        have rf0 := rf 0
        have rf1 := rf 1
        by_cases hlt : k < n
        · have hlt' : (k : Int) < n := by omega
          obtain ⟨p, off, rfl, hbb, hx, hy⟩ := HOf.out k hlt
          replace hx := (hbx.1.cell (p := ⟨p, off + k * 2, none⟩) hbb).trans hx
          replace hy := (hbx.1.cell (p := ⟨p, off + k * 2 + 1, none⟩) hbb).trans hy
          obtain ⟨x0, hxe⟩ : ∃ z, (f.getD k (0, 0)).1 = z := ⟨_, rfl⟩
          obtain ⟨y0, hye⟩ : ∃ z, (f.getD k (0, 0)).2 = z := ⟨_, rfl⟩
          have HX := Lib.hid hxe
          have HY := Lib.hid hye
          have hbd := (Fa.ok_term HEf.out (i := k) (by have := HN.out; omega)).1
          rw [hxe] at hx hbd
          rw [hye] at hy
          clear hxe hye
          obtain ⟨xn, rfl⟩ := Int.eq_ofNat_of_zero_le hbd.1
          have HT := Lib.hid (HK.out.2.toT xn y0)
          by_cases hg : (m : Int) ≤ (xn : Int)
          · have HE := Lib.hid (HR.out.symm.trans (Fa.mp_block HEf.out HBt.out (i := k) (by have := HN.out; omega) (by rw [HX.out, HM.out]; exact hg)))
            have c0 : ∀ o, (wo.alloc o).cell? ⟨w.heap.size + 1, 0, none⟩ = some (.slice none 0 0) := fun o => (HK.out.2.1.below ((Below.refl _ _).alloc (Nat.le_refl _) o)).2.2.1
            have c1 : ∀ o, (wo.alloc o).cell? ⟨w.heap.size + 1, 1, none⟩ = some (.int .i64 0) := fun o => (HK.out.2.1.below ((Below.refl _ _).alloc (Nat.le_refl _) o)).2.2.2.1
            have d0 : ∀ a o, (wo.alloc o).frozen? ⟨w.heap.size + 1, a, none⟩ = false := fun a o => (HK.out.2.1.below ((Below.refl _ _).alloc (Nat.le_refl _) o)).2.2.2.2 a
            have c2 : ∀ u o, ((wo.setCell ⟨w.heap.size + 1, 0, none⟩ u).alloc o).cell? ⟨w.heap.size + 1, 1, none⟩ = some (.int .i64 0) := fun u o => by
              have e := Below.cell (p := ⟨w.heap.size + 1, 1, none⟩) ((Below.refl (wo.setCell ⟨w.heap.size + 1, 0, none⟩ u).heap.size (wo.setCell ⟨w.heap.size + 1, 0, none⟩ u)).alloc (Nat.le_refl _) o) (by have := hbx.lt1 (by omega); simpa using this)
              exact e.trans ((World.cell?_setCell_other _ _ _ _ (fun q => by injection q with _ q; exact absurd q (by decide))).trans r1)
            have d2 : ∀ u o, ((wo.setCell ⟨w.heap.size + 1, 0, none⟩ u).alloc o).frozen? ⟨w.heap.size + 1, 1, none⟩ = false := fun u o => by
              have e := Below.frozen (p := ⟨w.heap.size + 1, 1, none⟩) ((Below.refl (wo.setCell ⟨w.heap.size + 1, 0, none⟩ u).heap.size (wo.setCell ⟨w.heap.size + 1, 0, none⟩ u)).alloc (Nat.le_refl _) o) (by have := hbx.lt1 (by omega); simpa using this)
              rw [e]
              simpa using rf1
            have hl1 : w.heap.size + 1 < wo.heap.size := hbx.lt1 (by omega)
            go_wp2
            refine bodyPost_ret (v := .tuple #[.agg #[.slice none 0 0, .int .i64 0], .int .i64 11]) ?_ rfl ⟨_, by rw [HE.out], by rw [HE.out]; exact World.ownsRow_nil _ _ _ _, (((hbx.set (by omega) _).set (by omega) _).alloc _).1⟩
            simp [results, Try.results29, go_sem, r0, r1, hbx.lt1]
          · have hxm : xn < m := by omega
            have hxm' : (0 : Int) ≤ xn ∧ (xn : Int) < m := by omega
            obtain ⟨b2, off2, vq, rfl, hb2, hcq, hq⟩ := HOt.out xn hxm
            obtain ⟨q, hqe⟩ : ∃ q, ts.getD xn [] = q := ⟨_, rfl⟩
            have HQ := Lib.hid hqe
            have hq256 := Fa.map_row HBt.out (i := xn) (by have := HM.out; omega)
            rw [hqe] at hq hq256
            clear hqe
            obtain ⟨D, e, rfl, hoq⟩ := hq.opened
            have hcq' := (hbx.1.cell (p := ⟨b2, off2 + xn, none⟩) hb2).trans hcq
            have HCQ := Lib.hid hcq
            have HOq := Lib.hid hoq
            obtain ⟨l, hle⟩ : ∃ l, q.length = l := ⟨_, rfl⟩
            have HL := Lib.hid hle
            rw [hle] at hq256 HOq HCQ hcq'
            have HAL := Lib.hid (show (Fa.toAll ts (f.take k)).length ≤ 256 * 64 by
              have := Fa.all_len (f := f) HBt.out k (fun i hi => ⟨by have := HN.out; omega, (Fa.ok_term HEf.out (i := i) (by have := HN.out; omega)).1.1, by rw [HM.out]; exact HK.out.1 i hi⟩)
              omega)
            clear hq hoq hle hcq hcq'
            have HH := Lib.hid hbx
            clear r0 r1 rf rf0 rf1
            obtain ⟨G, hG⟩ : ∃ G, G = wo.heap.size := ⟨_, rfl⟩
            go_wp2
            clear f0 f1 hx hy hbx
            go_loopw [7, 10] (fun x i wr => ∃ j : Nat, j ≤ l ∧ i = .int .i64 j ∧ Hid (Mt w (.slice (some ⟨p, off, none⟩) n c) mf wo.heap.size xn y0 x (Fa.toAll ts (f.take k) ++ (q.take j).map (fun a => (a, y0))) wr)) (fun _ i _ => l - (intOf i).toNat)
            case atStart => exact ⟨0, Nat.zero_le _, rfl, by simpa using HT⟩
            case round =>
              clear HT
              obtain ⟨j, hj, rfl, HJ⟩ := hrel
              have t0 : wr.cell? ⟨wo.heap.size, 0, none⟩ = some (.int .i64 xn) := HJ.out.2.1.cell 0
              have t1 : wr.cell? ⟨wo.heap.size, 1, none⟩ = some (.int .i64 y0) := HJ.out.2.1.cell 1
              have hcq := (HJ.out.1.1.1.1.cell (p := ⟨b2, off2 + xn, none⟩) hb2).trans HCQ.out
              by_cases hlj : j < l
              · have hlj' : (j : Int) < l := by omega
                obtain ⟨b3, off3, rfl, hb3, hz⟩ := HOq.out j hlj
                replace hz := (HJ.out.1.1.1.1.cell (p := ⟨b3, off3 + j, none⟩) hb3).trans hz
                have hts := Fa.one_step q y0 j (by have := HL.out; omega)
                generalize q.getD j 0 = z0 at hz hts
                have HTS := Lib.hid hts
                clear hts
                have hlen : ((q.take j).map (fun a => (a, y0))).length = j := by have := HL.out; simp; omega
                obtain ⟨Q, hQ⟩ : ∃ Q, Fa.toAll ts (f.take k) ++ (q.take j).map (fun a => (a, y0)) = Q := ⟨_, rfl⟩
                have hQl : Q.length ≤ 256 * 64 + 256 := by rw [← hQ, List.length_append, hlen]; have := HAL.out; omega
                have HQe := Lib.hid hQ
                rw [hQ] at HJ
                clear hQ hlen
                have ta0 : ∀ o, (wr.alloc o).cell? ⟨wo.heap.size, 0, none⟩ = some (.int .i64 xn) := fun o => (HJ.out.below ((Below.refl _ _).alloc (Nat.le_refl _) o)).2.1.cell 0
                have ta1 : ∀ o, (wr.alloc o).cell? ⟨wo.heap.size, 1, none⟩ = some (.int .i64 y0) := fun o => (HJ.out.below ((Below.refl _ _).alloc (Nat.le_refl _) o)).2.1.cell 1
                have HAd := Lib.hid ((HJ.out.below ((Below.refl _ _).alloc (Nat.le_refl _) (.cells #[.int .i64 z0, .int .i64 y0] 36))).below (below_drewN _ _ 1))
                have HQn := Lib.hid (show ∀ i u, (prCells (z0, y0))[i]? = some u → (wr.alloc (.cells #[.int .i64 z0, .int .i64 y0] 36)).drew.cell? ((⟨wr.heap.size, 0, none⟩ : Addr).add i) = some u from
                  World.news_of_block (w := (wr.alloc (.cells #[.int .i64 z0, .int .i64 y0] 36)).drew) (cs := #[.int .i64 z0, .int .i64 y0]) (heap_alloc_new wr _))
                have HB8 := Lib.hid (show w.heap.size + 2 ≤ (wr.alloc (.cells #[.int .i64 z0, .int .i64 y0] 36)).drew.heap.size by have := HJ.out.1.1.1.2; simp; omega)
                have HC8 := Lib.hid (show ∀ u ∈ prCells (z0, y0), u.oneCell' = true by intro u hu; simp [prCells] at hu; rcases hu with rfl | rfl <;> rfl)
                go_upto_region 16 with fail
                go_region_law (refine step_append_lies _ rfl (.tmp 49) (.tmp 61) 28 rfl (w.heap.size + 2) 36 iT _ 2 16 Try.underlying28 HIT.out.1 HIT.out.2.1 HIT.out.2.2.1 HIT.out.2.2.2 rfl (by decide) u7 Q.length (Q.flatMap prCells) (by simp [Act.eval]) HAd.out.1.2 ⟨wr.heap.size, 0, none⟩ 1 1 (prCells (z0, y0)) (by simp [Act.eval]) rfl HQn.out HC8.out (by omega) (by unfold maxLen; omega) (by omega) HB8.out _ rfl ?_; intro g8 cap W8 hown8 hgrow8 hv8 _; have HR8 := Lib.hid (Mt.app HAd.out hown8 hgrow8 hv8); clear hown8 hgrow8 hv8)
                all_goals
                  go_wp2
                  go_roundw
                  case rel => exact ⟨j + 1, by omega, by first | rfl | go_num, Lib.hid (by rw [HTS.out, ← List.append_assoc, HQe.out]; exact HR8.out)⟩
                  case measure => simp [intOf]; omega
              · have hlj' : ¬ (j : Int) < l := by omega
                have HN2 := Lib.hid (show Ms w (.slice (some ⟨p, off, none⟩) n c) mf u7 (Fa.toAll ts (f.take (k + 1))) wr from by
                  have h := HJ.out.1
                  rw [List.take_of_length_le (l := q) (by have := HL.out; omega), ← HQ.out] at h
                  rw [Fa.all_step k (by have := HN.out; omega)]
                  have e : Fa.to1 ts (f.getD k (0, 0)) = (ts.getD xn []).map fun a => (a, y0) := by
                    unfold Fa.to1
                    rw [HX.out, HY.out]
                    rfl
                  rw [e]
                  exact h)
                have HN3 := Lib.hid (show ∀ j, j < k + 1 → (f.getD j (0, 0)).1 < (m : Int) from fun t ht => by
                  rcases Nat.lt_succ_iff_lt_or_eq.1 ht with h | rfl
                  · exact HK.out.1 t h
                  · rw [HX.out]; omega)
                go_wp2
                go_roundw
                case rel => exact ⟨k + 1, by omega, by first | rfl | go_num, Lib.hid ⟨HN3.out, HN2.out⟩⟩
                case measure => simp [intOf]; omega
        · have hlt' : ¬ (k : Int) < n := by omega
          have hkn : k = n := by omega
          have HE := Lib.hid (HR.out.symm.trans (Fa.mp_ok HEf.out HBt.out (fun i hi => by rw [HM.out]; exact HK.out.1 i (by have := HN.out; omega))))
          have hrow := HK.out.2.2
          rw [hkn, List.take_of_length_le (by have := HN.out; omega)] at hrow
          have hP : PrsIn wo u7 (Fa.toAll ts f) := RowIn.own hrow
          have hlen : (Fa.toAll ts f).length ≤ 256 * 64 := by
            have := Fa.all_len (f := f) HBt.out n (fun i hi => ⟨by have := HN.out; omega, (Fa.ok_term HEf.out (i := i) (by have := HN.out; omega)).1.1, by rw [HM.out]; exact HK.out.1 i (by omega)⟩)
            rw [List.take_of_length_le (by have := HN.out; omega)] at this
            omega
          have HOF := Lib.hid (rof_any _ mf u7 r wo hP (by unfold maxLen; omega) HE.out.symm)
          have HAd := Lib.hid HK.out.2.1
          clear hrow hP hlen hkn
          go_wp2_with (go_at_call 25; refine HOF.out.mono ?_; rintro e W9 ⟨v9, rfl, hO9, hb9⟩; obtain ⟨Ar, cr, rfl, _⟩ := RowIn.own hO9; have HO9 := Lib.hid hO9; clear hO9; have HA9 := Lib.hid (HAd.out.below hb9); obtain ⟨hbx9, _, s0, s1, sf⟩ := HA9.out; have sf0 := sf 0; have sf1 := sf 1)
          refine bodyPost_ret (v := .tuple #[.agg #[.slice Ar r.1.length cr, .int .i64 r.2.1], .int .i64 r.2.2]) ?_ rfl ⟨.slice Ar r.1.length cr, rfl, own_two HO9.out (by have := hbx.2; omega) (by have := hbx.2; omega) _ _, ((hbx9.set (by omega) _).set (by omega) _).1⟩
          simp [results, Try.results29, go_sem, s0, s1, hbx9.lt1]
  · have e0 : (ef != 0) = true := by simp [h1]
    have HE := Lib.hid (HR.out.symm.trans ((Fa.mp_chk (by rw [HEf.out]; exact h1)).trans (by rw [HEf.out])))
    clear HR
    obtain ⟨hbx, ⟨f0, f1⟩, r0, r1, rf⟩ := HA1.out
    have rf0 := rf 0
    have rf1 := rf 1
    go_wp2
    refine bodyPost_ret (v := .tuple #[.agg #[.slice none 0 0, .int .i64 0], .int .i64 ef]) ?_ rfl ⟨_, by rw [HE.out], by rw [HE.out]; exact World.ownsRow_nil _ _ _ _, by first | exact hbx.1 | exact ((hbx.set (by omega) _).set (by omega) _).1⟩
    simp [results, Try.results29, go_sem, r0, r1, hbx.lt1]
end Go.Proofs.Ytpinncjnfbebkaa
