/- The generator: stmt where it may make blocks. -/
import Derived.Test.YtbppfhlpielpcaaDoorGnLk
import Derived.Test.YtbppfhlpielpcaaDoorGnLoop
import Derived.Test.YtbppfhlpielpcaaDoorGnStLow
namespace Go.Proofs.YtbppfhlpielpcaaDoor
open Go.RowKit
set_option linter.unusedVariables false
section
variable {C : Cx} {s : Ms}

set_option maxRecDepth 100000 in
set_option maxHeartbeats 20000000 in
theorem stmt_pos {d : Int} {h : Nat} (hd : 1 ≤ d ∧ d ≤ 3) (hh : 1 ≤ h) (hbl : BlockC C (d - 1) 2 h) (s : Ms) (w : World) (hm : Mks C s w) (hlab : s.lab ≤ 11) :
    Calls Tryd.prog 56 #[.pointer (some ⟨C.M, 0, none⟩), .int .i64 d] w fun e w' => StPost C s (h + 1) 1 2 w e w' := by
  obtain ⟨hd1, hd3⟩ := hd
  have HBL := Lib.hid hbl
  clear hbl
  have c0 := hm.c0
  have H := Lib.hid hm
  have HBase := Lib.hid hm.base
  have hl0 := hm.lims.2.2.1.1
  have hd0 : decide (d ≤ 0) = false := by simp; omega
  clear hm
  go_enter Tryd.func56, Tryd.ntmps56
  go_wp2_with fail
  refine (next_mk H.out 9 (by omega)).mono ?_
  rintro e w1 ⟨r, rfl, hr0, hr1, hm1, hg1⟩
  have S1 := Lib.hid (show Sg C s w w1 from ⟨hm1, hg1⟩)
  have c01 := hm1.c0
  have c61 := hm1.c6
  have hr : r = 0 ∨ r = 1 ∨ r = 2 ∨ r = 3 ∨ r = 4 ∨ r = 5 ∨ r = 6 ∨ r = 7 ∨ r = 8 := by omega
  clear hr1 hm1 hg1 c0
  rcases hr with rfl | rfl | rfl | rfl | rfl | rfl | rfl | rfl | rfl
  · clear hr0
    go_wp2_with fail
    refine (target_mk S1.out.1).mono ?_
    rintro e w2 ⟨y, rfl, hy, hm2, hg2⟩
    have S2 := Lib.hid (S1.out.step hm2 hg2)
    have c02 := hm2.c0
    have HY := Lib.hid hy
    clear hm2 hg2 hy S1
    go_wp2_with fail
    refine (expr2 S2.out.1).mono ?_
    rintro e w3 ⟨k, n, x, o, a, A, c, rfl, he, hm3, hg3⟩
    have S3 := Lib.hid (S2.out.step hm3 hg3)
    have c03 := hm3.c0
    have HE := Lib.hid (And.intro he S2.out.2.size)
    clear hm3 hg3 he S2
    go_wp2_with fail
    go_ret
    exact setFin rfl S3.out HE.out.1 HE.out.2 HY.out (by omega)
  · clear hr0
    go_wp2_with fail
    refine (usable_mk S1.out.1).mono ?_
    rintro e w2 ⟨l, v, rfl, ho, hl, hN, hb2⟩
    have hDl := Nat.lt_of_lt_of_le S1.out.1.nums.2.2.2.2.2.2.2.1 S1.out.1.base
    have hm2 := S1.out.1.below hb2
    have hg2 := Gen.below hb2 C.D C.M C.B
    have S2 := Lib.hid (S1.out.step hm2 hg2)
    have c02 := hm2.c0
    clear hm2 hg2 hb2 S1
    rcases Nat.eq_zero_or_pos l.length with h0 | h0
    · rw [h0] at ho
      obtain ⟨g, cap, rfl⟩ := own_zero ho
      clear ho h0 hl hN hDl
      go_wp2_with fail
      refine (target_mk S2.out.1).mono ?_
      rintro e w3 ⟨y, rfl, hy, hm3, hg3⟩
      have S3 := Lib.hid (S2.out.step hm3 hg3)
      have c03 := hm3.c0
      have HY := Lib.hid hy
      clear hm3 hg3 hy S2
      go_wp2_with fail
      refine (expr2 S3.out.1).mono ?_
      rintro e w4 ⟨k, n, x, o, a, A, c, rfl, he, hm4, hg4⟩
      have S4 := Lib.hid (S3.out.step hm4 hg4)
      have c04 := hm4.c0
      have HE := Lib.hid (And.intro he S3.out.2.size)
      clear hm4 hg4 he S3
      go_wp2_with fail
      go_ret
      exact setFin rfl S4.out HE.out.1 HE.out.2 HY.out (by omega)
    · obtain ⟨g, cap, rfl, hgB, hgl⟩ := own_form ho h0
      have VN := Lib.hid (name_mk S2.out.1 g 0 l.length cap h0 (by omega) hgl (by omega) (own_rd ho rfl hN))
      have hl0 : (0 : Int) < l.length := by omega
      clear ho hN hgB hgl hDl
      go_wp2_with fail
      refine VN.out.mono ?_
      rintro e w3 ⟨y, rfl, hy, hm3, hg3⟩
      have S3 := Lib.hid (S2.out.step hm3 hg3)
      have c03 := hm3.c0
      have HY := Lib.hid hy
      clear hm3 hg3 hy S2 VN
      go_wp2_with fail
      refine (expr1 S3.out.1).mono ?_
      rintro e w4 ⟨k1, n1, x1, o1, a1, A1, l1, rfl, he, hm4, hg4⟩
      have S4 := Lib.hid (S3.out.step hm4 hg4)
      have c04 := hm4.c0
      have HE1 := Lib.hid (he.lower (m := w.heap.size) S3.out.2.size (by omega : 2 ≤ 3))
      have SA := Lib.hid (S4.out.alloc (exRow k1 n1 x1 o1 A1 a1.len l1))
      clear hm4 hg4 he S3
      go_wp2_with fail
      refine (expr2 SA.out.1).mono ?_
      rintro e w5 ⟨k, n, x, o, a, A, c, rfl, he, hm5, hg5⟩
      have S5 := Lib.hid (SA.out.step hm5 hg5)
      have HI := Lib.hid (row_kept HE1.out (Nat.le_refl _) S4.out.2.size SA.out.1 hg5)
      have HE := Lib.hid (he.lower (m := w.heap.size) SA.out.2.size (Nat.le_refl 3))
      clear hm5 hg5 he SA
      go_wp2_with fail
      go_ret
      exact storeFin rfl S5.out HI.out ⟨HE1.out.2.1, HE1.out.2.2.1, HE1.out.2.2.2.1⟩ HE.out (Nat.le_refl _) HY.out (by omega)
  · clear hr0
    go_wp2_with fail
    refine (target_mk S1.out.1).mono ?_
    rintro e w2 ⟨y, rfl, hy, hm2, hg2⟩
    have S2 := Lib.hid (S1.out.step hm2 hg2)
    have c02 := hm2.c0
    have HY := Lib.hid hy
    clear hm2 hg2 hy S1
    go_wp2_with fail
    refine (expr2 S2.out.1).mono ?_
    rintro e w3 ⟨k, n, x, o, a, A, c, rfl, he, hm3, hg3⟩
    have S3 := Lib.hid (S2.out.step hm3 hg3)
    have c03 := hm3.c0
    have HE := Lib.hid (And.intro he S2.out.2.size)
    clear hm3 hg3 he S2
    go_wp2_with fail
    go_ret
    exact setFin rfl S3.out HE.out.1 HE.out.2 HY.out (by omega)
  · clear hr0
    have f61 := S1.out.1.blk.frozen 6
    go_wp2_with fail
    have HU := Lib.hid (show Sg C { s with lab := s.lab + 1 } w (w1.setCell ⟨C.M, 6, none⟩ (.int .i64 (s.lab + 1))) from S1.out.upd 6 (.int .i64 (s.lab + 1)) { s with lab := s.lab + 1 } rfl ⟨rfl, rfl, rfl⟩ ⟨by simp only; omega, S1.out.1.lims.2.2.2.1, S1.out.1.lims.2.2.2.2.1, S1.out.1.lims.2.2.2.2.2.1, S1.out.1.lims.2.2.2.2.2.2⟩)
    have hsgA := HU.out
    have c6A : (w1.setCell ⟨C.M, 6, none⟩ (.int .i64 (s.lab + 1))).cell? ⟨C.M, 6, none⟩ = some (.int .i64 (s.lab + 1)) := HU.out.1.c6
    clear c61 f61 S1 HU c01
    have hwA : w.heap.size ≤ (w1.setCell ⟨C.M, 6, none⟩ (.int .i64 (s.lab + 1))).heap.size := hsgA.2.size
    generalize w1.setCell ⟨C.M, 6, none⟩ (.int .i64 (s.lab + 1)) = wA at *
    go_region_held3 (fun w' => w'.cell? ⟨C.M, 6, none⟩ = some (.int .i64 (s.lab + 1)) ∧ Sg C { s with lab := s.lab + 1 } w w')
      (first
        | (with_reducible exact Sg.h6 (by with_reducible assumption))
        | (with_reducible exact Sg.h6 (Sg.drew (by with_reducible assumption)))
        | (with_reducible exact Sg.h6 (Sg.alloc (by with_reducible assumption) _))
        | (with_reducible exact Sg.h6 (Sg.drew (Sg.alloc (by with_reducible assumption) _)))
        | (with_reducible exact Sg.h6 (Sg.alloc (Sg.alloc (by with_reducible assumption) _) _))
        | (with_reducible exact Sg.h6 (Sg.set8 HBase.out (Sg.alloc (by with_reducible assumption) _) (Blk.alloc (by with_reducible assumption) _) (by omega) _ _ _ _ _ _ _ _))
        | (with_reducible exact Sg.h6 (Sg.alloc (Sg.set8 HBase.out (by with_reducible assumption) (by with_reducible assumption) (by omega) _ _ _ _ _ _ _ _) _))
        | (go_split_ands; with_reducible exact Sg.h6 (by with_reducible assumption)))
      (first
        | (go_at_call 69; go_split_ands; rename_i hBg; refine (cond_mk hBg.1).mono ?_; rintro e w4 ⟨k, n, x, o, a, A, c, rfl, he, hm, hg⟩; have hsg := hBg.step hm hg; (try (have hbk := hBg.1.res hg (blk_drew_new _ _ _) (.inr rfl); obtain ⟨⟨r0, r1, r2, r3, r4, r5, r6, r7⟩, f0, f1, f2, f3, f4, f5, f6, f7⟩ := hbk.eight; have hlt8 := hbk.lt))))
    all_goals rename_i hHeld
    all_goals first
      | (with_reducible have HB := Lib.hid (leafA' hHeld.2 hsg he hwA))
      | (with_reducible have HB := Lib.hid (leafB' hHeld.2 hsg he hwA))
      | (with_reducible have HB := Lib.hid (leafC' hHeld.2 hbk hsg he hwA))
      | (with_reducible have HB := Lib.hid (leafD' hHeld.2 hbk hsg he hwA))
    all_goals
      have HS := Lib.hid hHeld.2
      have HC := Lib.hid (show CondG k n x o a from ⟨he.2.1, he.2.2.1, he.2.2.2.1⟩)
      clear hHeld he hm hg hsg hBg hsgA c6A
      go_wp2_with fail
      refine (HBL.out _ _ HS.out.1).mono ?_
      rintro e w5 ⟨t1, v1, s1, rfl, ho1, hlo1, hhi1, hm1, hg1, ha1⟩
      obtain ⟨A1, l1, rfl, h51, hlt5, h52, h53, h54, h55⟩ := thenStep HBase.out HB.out HS.out ho1 hm1 hg1
      obtain ⟨⟨q0, q1, q2, q3, q4, q5, q6, q7⟩, p0, p1, p2, p3, p4, p5, p6, p7⟩ := h51.eight
      have HB6 := Lib.hid h52
      have HS6 := Lib.hid h53
      have HT1 := Lib.hid (And.intro h54 (And.intro h55 hhi1))
      have HA1 := Lib.hid (show Alk s s1 from ⟨ha1.1, ha1.2.1, ha1.2.2⟩)
      have c06 := h53.1.c0
      clear h51 h52 h53 h54 h55 ho1 hm1 hg1 ha1 hlo1 hhi1 HB HS
      go_wp2_with fail
      refine (next_mk HS6.out.1 2 (by omega)).mono ?_
      rintro e w7 ⟨z, rfl, z0, z1, hm7, hg7⟩
      have HB7 := Lib.hid (HB6.out.step HS6.out.1 hg7)
      have HS7 := Lib.hid (HS6.out.step hm7 hg7)
      clear hm7 hg7 HB6 HS6 c06 q0 q1 q2 q3 q4 q5 q6 q7 p0 p1 p2 p3 p4 p5 p6 p7 z0 z1 hlt5
      cases hz : (z == 1)
      · obtain ⟨⟨q0, q1, q2, q3, q4, q5, q6, q7⟩, p0, p1, p2, p3, p4, p5, p6, p7⟩ := HB7.out.eight
        go_wp2_with fail
        go_ret
        exact stFin (by simp) HB7.out HS7.out HA1.out (if_good HC.out ⟨by omega, by omega⟩ HT1.out nilG).1 (if_good HC.out ⟨by omega, by omega⟩ HT1.out nilG).2
      · go_wp2_with fail
        refine (HBL.out _ _ HS7.out.1).mono ?_
        rintro e w8 ⟨t2, v2, s2, rfl, ho2, hlo2, hhi2, hm2, hg2, ha2⟩
        obtain ⟨A2, l2, rfl, h61, hlt6, h62, h63, h64, h65⟩ := elseStep HBase.out HB7.out HS7.out ho2 hm2 hg2
        obtain ⟨⟨q0, q1, q2, q3, q4, q5, q6, q7⟩, p0, p1, p2, p3, p4, p5, p6, p7⟩ := h61.eight
        have HB8 := Lib.hid h62
        have HS8 := Lib.hid h63
        have HT2 := Lib.hid (And.intro h64 (And.intro h65 hhi2))
        have HA2 := Lib.hid (HA1.out.trans ha2)
        clear h61 h62 h63 h64 h65 ho2 hm2 hg2 ha2 hlo2 hhi2 HB7 HS7
        go_wp2_with fail
        go_ret
        exact stFin (by simp) HB8.out HS8.out HA2.out (if_good HC.out ⟨by omega, by omega⟩ HT1.out HT2.out).1 (if_good HC.out ⟨by omega, by omega⟩ HT1.out HT2.out).2
  · clear hr0
    have f61 := S1.out.1.blk.frozen 6
    go_wp2_with fail
    have HU := Lib.hid (show Sg C { s with lab := s.lab + 1 } w (w1.setCell ⟨C.M, 6, none⟩ (.int .i64 (s.lab + 1))) from S1.out.upd 6 (.int .i64 (s.lab + 1)) { s with lab := s.lab + 1 } rfl ⟨rfl, rfl, rfl⟩ ⟨by simp only; omega, S1.out.1.lims.2.2.2.1, S1.out.1.lims.2.2.2.2.1, S1.out.1.lims.2.2.2.2.2.1, S1.out.1.lims.2.2.2.2.2.2⟩)
    have hsgA := HU.out
    have c6A : (w1.setCell ⟨C.M, 6, none⟩ (.int .i64 (s.lab + 1))).cell? ⟨C.M, 6, none⟩ = some (.int .i64 (s.lab + 1)) := HU.out.1.c6
    clear c61 f61 S1 HU c01
    have hwA : w.heap.size ≤ (w1.setCell ⟨C.M, 6, none⟩ (.int .i64 (s.lab + 1))).heap.size := hsgA.2.size
    generalize w1.setCell ⟨C.M, 6, none⟩ (.int .i64 (s.lab + 1)) = wA at *
    go_region_held3 (fun w' => w'.cell? ⟨C.M, 6, none⟩ = some (.int .i64 (s.lab + 1)) ∧ Sg C { s with lab := s.lab + 1 } w w')
      (first
        | (with_reducible exact Sg.h6 (by with_reducible assumption))
        | (with_reducible exact Sg.h6 (Sg.drew (by with_reducible assumption)))
        | (with_reducible exact Sg.h6 (Sg.alloc (by with_reducible assumption) _))
        | (with_reducible exact Sg.h6 (Sg.drew (Sg.alloc (by with_reducible assumption) _)))
        | (with_reducible exact Sg.h6 (Sg.alloc (Sg.alloc (by with_reducible assumption) _) _))
        | (with_reducible exact Sg.h6 (Sg.set8 HBase.out (Sg.alloc (by with_reducible assumption) _) (Blk.alloc (by with_reducible assumption) _) (by omega) _ _ _ _ _ _ _ _))
        | (with_reducible exact Sg.h6 (Sg.alloc (Sg.set8 HBase.out (by with_reducible assumption) (by with_reducible assumption) (by omega) _ _ _ _ _ _ _ _) _))
        | (go_split_ands; with_reducible exact Sg.h6 (by with_reducible assumption)))
      (first
        | (go_at_call 69; go_split_ands; rename_i hBg; refine (cond_mk hBg.1).mono ?_; rintro e w4 ⟨k, n, x, o, a, A, c, rfl, he, hm, hg⟩; have hsg := hBg.step hm hg; (try (have hbk := hBg.1.res hg (blk_drew_new _ _ _) (.inr rfl); obtain ⟨⟨r0, r1, r2, r3, r4, r5, r6, r7⟩, f0, f1, f2, f3, f4, f5, f6, f7⟩ := hbk.eight; have hlt8 := hbk.lt))))
    all_goals rename_i hHeld
    all_goals first
      | (with_reducible have HB := Lib.hid (leafA' hHeld.2 hsg he hwA))
      | (with_reducible have HB := Lib.hid (leafB' hHeld.2 hsg he hwA))
      | (with_reducible have HB := Lib.hid (leafC' hHeld.2 hbk hsg he hwA))
      | (with_reducible have HB := Lib.hid (leafD' hHeld.2 hbk hsg he hwA))
    all_goals
      have HS := Lib.hid hHeld.2
      have HC := Lib.hid (show CondG k n x o a from ⟨he.2.1, he.2.2.1, he.2.2.2.1⟩)
      clear hHeld he hm hg hsg hBg hsgA c6A
      go_wp2_with fail
      refine (HBL.out _ _ HS.out.1).mono ?_
      rintro e w5 ⟨t1, v1, s1, rfl, ho1, hlo1, hhi1, hm1, hg1, ha1⟩
      obtain ⟨A1, l1, rfl, h51, hlt5, h52, h53, h54, h55⟩ := thenStep HBase.out HB.out HS.out ho1 hm1 hg1
      obtain ⟨⟨q0, q1, q2, q3, q4, q5, q6, q7⟩, p0, p1, p2, p3, p4, p5, p6, p7⟩ := h51.eight
      have HB6 := Lib.hid h52
      have HS6 := Lib.hid h53
      have HT1 := Lib.hid (And.intro h54 (And.intro h55 hhi1))
      have HA1 := Lib.hid (show Alk s s1 from ⟨ha1.1, ha1.2.1, ha1.2.2⟩)
      have c06 := h53.1.c0
      clear h51 h52 h53 h54 h55 ho1 hm1 hg1 ha1 hlo1 hhi1 HB HS
      go_wp2_with fail
      refine (next_mk HS6.out.1 2 (by omega)).mono ?_
      rintro e w7 ⟨z, rfl, z0, z1, hm7, hg7⟩
      have HB7 := Lib.hid (HB6.out.step HS6.out.1 hg7)
      have HS7 := Lib.hid (HS6.out.step hm7 hg7)
      clear hm7 hg7 HB6 HS6 c06 q0 q1 q2 q3 q4 q5 q6 q7 p0 p1 p2 p3 p4 p5 p6 p7 z0 z1 hlt5
      cases hz : (z == 1)
      · obtain ⟨⟨q0, q1, q2, q3, q4, q5, q6, q7⟩, p0, p1, p2, p3, p4, p5, p6, p7⟩ := HB7.out.eight
        go_wp2_with fail
        go_ret
        exact stFin (by simp) HB7.out HS7.out HA1.out (if_good HC.out ⟨by omega, by omega⟩ HT1.out nilG).1 (if_good HC.out ⟨by omega, by omega⟩ HT1.out nilG).2
      · go_wp2_with fail
        refine (HBL.out _ _ HS7.out.1).mono ?_
        rintro e w8 ⟨t2, v2, s2, rfl, ho2, hlo2, hhi2, hm2, hg2, ha2⟩
        obtain ⟨A2, l2, rfl, h61, hlt6, h62, h63, h64, h65⟩ := elseStep HBase.out HB7.out HS7.out ho2 hm2 hg2
        obtain ⟨⟨q0, q1, q2, q3, q4, q5, q6, q7⟩, p0, p1, p2, p3, p4, p5, p6, p7⟩ := h61.eight
        have HB8 := Lib.hid h62
        have HS8 := Lib.hid h63
        have HT2 := Lib.hid (And.intro h64 (And.intro h65 hhi2))
        have HA2 := Lib.hid (HA1.out.trans ha2)
        clear h61 h62 h63 h64 h65 ho2 hm2 hg2 ha2 hlo2 hhi2 HB7 HS7
        go_wp2_with fail
        go_ret
        exact stFin (by simp) HB8.out HS8.out HA2.out (if_good HC.out ⟨by omega, by omega⟩ HT1.out HT2.out).1 (if_good HC.out ⟨by omega, by omega⟩ HT1.out HT2.out).2
  · clear hr0
    have f61 := S1.out.1.blk.frozen 6
    go_wp2_with fail
    have HU := Lib.hid (show Sg C { s with lab := s.lab + 1 } w (w1.setCell ⟨C.M, 6, none⟩ (.int .i64 (s.lab + 1))) from S1.out.upd 6 (.int .i64 (s.lab + 1)) { s with lab := s.lab + 1 } rfl ⟨rfl, rfl, rfl⟩ ⟨by simp only; omega, S1.out.1.lims.2.2.2.1, S1.out.1.lims.2.2.2.2.1, S1.out.1.lims.2.2.2.2.2.1, S1.out.1.lims.2.2.2.2.2.2⟩)
    have hsgA := HU.out
    have c6A : (w1.setCell ⟨C.M, 6, none⟩ (.int .i64 (s.lab + 1))).cell? ⟨C.M, 6, none⟩ = some (.int .i64 (s.lab + 1)) := HU.out.1.c6
    clear c61 f61 S1 HU c01
    have hwA : w.heap.size ≤ (w1.setCell ⟨C.M, 6, none⟩ (.int .i64 (s.lab + 1))).heap.size := hsgA.2.size
    generalize w1.setCell ⟨C.M, 6, none⟩ (.int .i64 (s.lab + 1)) = wA at *
    go_region_held3 (fun w' => w'.cell? ⟨C.M, 6, none⟩ = some (.int .i64 (s.lab + 1)) ∧ Sg C { s with lab := s.lab + 1 } w w')
      (first
        | (with_reducible exact Sg.h6 (by with_reducible assumption))
        | (with_reducible exact Sg.h6 (Sg.drew (by with_reducible assumption)))
        | (with_reducible exact Sg.h6 (Sg.alloc (by with_reducible assumption) _))
        | (with_reducible exact Sg.h6 (Sg.drew (Sg.alloc (by with_reducible assumption) _)))
        | (with_reducible exact Sg.h6 (Sg.alloc (Sg.alloc (by with_reducible assumption) _) _))
        | (with_reducible exact Sg.h6 (Sg.set8 HBase.out (Sg.alloc (by with_reducible assumption) _) (Blk.alloc (by with_reducible assumption) _) (by omega) _ _ _ _ _ _ _ _))
        | (with_reducible exact Sg.h6 (Sg.alloc (Sg.set8 HBase.out (by with_reducible assumption) (by with_reducible assumption) (by omega) _ _ _ _ _ _ _ _) _))
        | (go_split_ands; with_reducible exact Sg.h6 (by with_reducible assumption)))
      (first
        | (go_at_call 69; go_split_ands; rename_i hBg; refine (cond_mk hBg.1).mono ?_; rintro e w4 ⟨k, n, x, o, a, A, c, rfl, he, hm, hg⟩; have hsg := hBg.step hm hg; (try (have hbk := hBg.1.res hg (blk_drew_new _ _ _) (.inr rfl); obtain ⟨⟨r0, r1, r2, r3, r4, r5, r6, r7⟩, f0, f1, f2, f3, f4, f5, f6, f7⟩ := hbk.eight; have hlt8 := hbk.lt))))
    all_goals rename_i hHeld
    all_goals first
      | (with_reducible have HB := Lib.hid (leafA' hHeld.2 hsg he hwA))
      | (with_reducible have HB := Lib.hid (leafB' hHeld.2 hsg he hwA))
      | (with_reducible have HB := Lib.hid (leafC' hHeld.2 hbk hsg he hwA))
      | (with_reducible have HB := Lib.hid (leafD' hHeld.2 hbk hsg he hwA))
    all_goals
      have HS := Lib.hid hHeld.2
      have HC := Lib.hid (show CondG k n x o a from ⟨he.2.1, he.2.2.1, he.2.2.2.1⟩)
      clear hHeld he hm hg hsg hBg hsgA c6A
      go_wp2_with fail
      refine (HBL.out _ _ HS.out.1).mono ?_
      rintro e w5 ⟨t1, v1, s1, rfl, ho1, hlo1, hhi1, hm1, hg1, ha1⟩
      obtain ⟨A1, l1, rfl, h51, hlt5, h52, h53, h54, h55⟩ := thenStep HBase.out HB.out HS.out ho1 hm1 hg1
      obtain ⟨⟨q0, q1, q2, q3, q4, q5, q6, q7⟩, p0, p1, p2, p3, p4, p5, p6, p7⟩ := h51.eight
      have HB6 := Lib.hid h52
      have HS6 := Lib.hid h53
      have HT1 := Lib.hid (And.intro h54 (And.intro h55 hhi1))
      have HA1 := Lib.hid (show Alk s s1 from ⟨ha1.1, ha1.2.1, ha1.2.2⟩)
      have c06 := h53.1.c0
      clear h51 h52 h53 h54 h55 ho1 hm1 hg1 ha1 hlo1 hhi1 HB HS
      go_wp2_with fail
      refine (next_mk HS6.out.1 2 (by omega)).mono ?_
      rintro e w7 ⟨z, rfl, z0, z1, hm7, hg7⟩
      have HB7 := Lib.hid (HB6.out.step HS6.out.1 hg7)
      have HS7 := Lib.hid (HS6.out.step hm7 hg7)
      clear hm7 hg7 HB6 HS6 c06 q0 q1 q2 q3 q4 q5 q6 q7 p0 p1 p2 p3 p4 p5 p6 p7 z0 z1 hlt5
      cases hz : (z == 1)
      · obtain ⟨⟨q0, q1, q2, q3, q4, q5, q6, q7⟩, p0, p1, p2, p3, p4, p5, p6, p7⟩ := HB7.out.eight
        go_wp2_with fail
        go_ret
        exact stFin (by simp) HB7.out HS7.out HA1.out (if_good HC.out ⟨by omega, by omega⟩ HT1.out nilG).1 (if_good HC.out ⟨by omega, by omega⟩ HT1.out nilG).2
      · go_wp2_with fail
        refine (HBL.out _ _ HS7.out.1).mono ?_
        rintro e w8 ⟨t2, v2, s2, rfl, ho2, hlo2, hhi2, hm2, hg2, ha2⟩
        obtain ⟨A2, l2, rfl, h61, hlt6, h62, h63, h64, h65⟩ := elseStep HBase.out HB7.out HS7.out ho2 hm2 hg2
        obtain ⟨⟨q0, q1, q2, q3, q4, q5, q6, q7⟩, p0, p1, p2, p3, p4, p5, p6, p7⟩ := h61.eight
        have HB8 := Lib.hid h62
        have HS8 := Lib.hid h63
        have HT2 := Lib.hid (And.intro h64 (And.intro h65 hhi2))
        have HA2 := Lib.hid (HA1.out.trans ha2)
        clear h61 h62 h63 h64 h65 ho2 hm2 hg2 ha2 hlo2 hhi2 HB7 HS7
        go_wp2_with fail
        go_ret
        exact stFin (by simp) HB8.out HS8.out HA2.out (if_good HC.out ⟨by omega, by omega⟩ HT1.out HT2.out).1 (if_good HC.out ⟨by omega, by omega⟩ HT1.out HT2.out).2
  · clear hr0
    have c81 := S1.out.1.c8
    by_cases hi : s.inl ≤ 1
    · have hi2 : s.inl < 2 := by omega
      go_wp2_with fail
      refine (loop_any ⟨hd1, hd3⟩ hh HBL.out s _ S1.out.1 (by omega) hi).mono ?_
      rintro e w2 ⟨t, v, s2, rfl, ho, hlo, hhi, hm2, hg2, ha2⟩
      have HO := Lib.hid (And.intro (ho.keep (m' := w.heap.size) S1.out.2.size (Nat.le_refl _) fun b _ _ _ => rfl) (And.intro hlo (And.intro hhi (And.intro hm2 (And.intro (S1.out.2.trans hg2) ha2)))))
      clear ho hlo hhi hm2 hg2 ha2
      go_wp2_with fail
      go_ret
      exact ⟨t, v, s2, rfl, HO.out.1, HO.out.2.1, HO.out.2.2.1, HO.out.2.2.2.1, HO.out.2.2.2.2.1, HO.out.2.2.2.2.2⟩
    · have hi3 : s.inl = 2 := by have := S1.out.1.lims.2.2.2.2.1.2; omega
      rw [hi3] at c81
      clear hi hi3
      go_wp2_with fail
      refine (target_mk S1.out.1).mono ?_
      rintro e w2 ⟨y, rfl, hy, hm2, hg2⟩
      have S2 := Lib.hid (S1.out.step hm2 hg2)
      have c02 := hm2.c0
      have HY := Lib.hid hy
      clear hm2 hg2 hy S1
      go_wp2_with fail
      refine (expr2 S2.out.1).mono ?_
      rintro e w3 ⟨k, n, x, o, a, A, c, rfl, he, hm3, hg3⟩
      have S3 := Lib.hid (S2.out.step hm3 hg3)
      have c03 := hm3.c0
      have HE := Lib.hid (And.intro he S2.out.2.size)
      clear hm3 hg3 he S2
      go_wp2_with fail
      go_ret
      exact setFin rfl S3.out HE.out.1 HE.out.2 HY.out (by omega)
  · clear hr0
    have c81 := S1.out.1.c8
    by_cases hi : s.inl ≤ 1
    · have hi2 : s.inl < 2 := by omega
      go_wp2_with fail
      refine (loop_any ⟨hd1, hd3⟩ hh HBL.out s _ S1.out.1 (by omega) hi).mono ?_
      rintro e w2 ⟨t, v, s2, rfl, ho, hlo, hhi, hm2, hg2, ha2⟩
      have HO := Lib.hid (And.intro (ho.keep (m' := w.heap.size) S1.out.2.size (Nat.le_refl _) fun b _ _ _ => rfl) (And.intro hlo (And.intro hhi (And.intro hm2 (And.intro (S1.out.2.trans hg2) ha2)))))
      clear ho hlo hhi hm2 hg2 ha2
      go_wp2_with fail
      go_ret
      exact ⟨t, v, s2, rfl, HO.out.1, HO.out.2.1, HO.out.2.2.1, HO.out.2.2.2.1, HO.out.2.2.2.2.1, HO.out.2.2.2.2.2⟩
    · have hi3 : s.inl = 2 := by have := S1.out.1.lims.2.2.2.2.1.2; omega
      rw [hi3] at c81
      clear hi hi3
      go_wp2_with fail
      refine (target_mk S1.out.1).mono ?_
      rintro e w2 ⟨y, rfl, hy, hm2, hg2⟩
      have S2 := Lib.hid (S1.out.step hm2 hg2)
      have c02 := hm2.c0
      have HY := Lib.hid hy
      clear hm2 hg2 hy S1
      go_wp2_with fail
      refine (expr2 S2.out.1).mono ?_
      rintro e w3 ⟨k, n, x, o, a, A, c, rfl, he, hm3, hg3⟩
      have S3 := Lib.hid (S2.out.step hm3 hg3)
      have c03 := hm3.c0
      have HE := Lib.hid (And.intro he S2.out.2.size)
      clear hm3 hg3 he S2
      go_wp2_with fail
      go_ret
      exact setFin rfl S3.out HE.out.1 HE.out.2 HY.out (by omega)
  · clear hr0
    have c51 := S1.out.1.c5
    have c41 := S1.out.1.c4
    have hss1 := S1.out.1.nums.2.2.2.1
    rcases S1.out.1.lims.2.2.2.2.2.2 with hh0 | hhN
    · by_cases hss : 0 < C.ss.length
      · rw [hh0] at c51
        obtain ⟨e0, _⟩ | ⟨b, f, he, hsc, hsB, hsl, hsD, hsM, hsi⟩ := S1.out.1.shrd
        · rw [e0] at hss; simp at hss
        · obtain ⟨_, _, k3⟩ := hsi 0 hss
          have hNy := (S1.out.1.nums.2.2.2.2.2.2.1 (C.ss.getD 0 (⟨#[]⟩, 0, ⟨#[]⟩)) (by rw [List.getD_eq_getElem?_getD, List.getElem?_eq_getElem hss]; exact List.getElem_mem hss)).2
          have HQ := Lib.hid (fun (W' : World) (h : ∃ hd, Mks C { s with held := hd } W') => shCell (W' := W') he hss h)
          have HNy := Lib.hid hNy
          have HE := Lib.hid he
          rw [he] at c41
          simp only [Nat.zero_mul, Nat.add_zero] at k3
          clear hsi hNy hsB hsl hsD hsM he
          generalize (C.ss.getD 0 (⟨#[]⟩, 0, ⟨#[]⟩)).2.2 = y at *
          have hSh := Lib.hid (show Sh C s w w1 from ⟨s.held, S1.out⟩)
          have HH0 := Lib.hid hh0
          have hss2 : (0 : Int) < C.ss.length := by omega
          clear hh0
          go_wp2_with fail
          have hsh := hSh.out
          go_region_held3 (fun w' => w'.cell? ⟨C.M, 0, none⟩ = some (.pointer (some ⟨C.D, 0, none⟩)) ∧ w'.cell? ⟨C.M, 4, none⟩ = some (.slice (some ⟨b, f, none⟩) C.ss.length C.sc) ∧ w'.cell? ⟨b, f + 2, none⟩ = some (.string y) ∧ Sh C s w w')
            (first
              | (with_reducible exact Sh.holds HE.out HQ.out (by with_reducible assumption))
              | (with_reducible exact Sh.holds HE.out HQ.out (Sh.drew (by with_reducible assumption)))
              | (with_reducible exact Sh.holds HE.out HQ.out (Sh.setAny (by with_reducible assumption) HNy.out))
              | (go_split_ands; with_reducible exact Sh.holds HE.out HQ.out (by with_reducible assumption)))
            (first
              | (go_at_call 30; go_split_ands; rename_i hBg; refine (hBg.next C.ss.length (by omega) HE.out HQ.out).mono ?_; rintro e w2 ⟨r, rfl, hIn, hsh2, kk3⟩; have hr0 : r = 0 := in1 hIn hss1; subst hr0; obtain ⟨⟨hdx, c5x⟩, f5x⟩ := hsh2.c5))
          rename_i hHeldO
          have HS2 := Lib.hid (hsh2.set (.inr HNy.out))
          clear hHeldO hBg hsh2 c5x f5x hIn kk3 hsh
          go_wp2_with fail
          have hsx : Sx C { s with held := y } w (w2.setCell ⟨C.M, 5, none⟩ (.string y)) := ⟨_, HS2.out, Alk.refl _⟩
          have c5A := hsx.holds.1
          have hwA : w.heap.size ≤ (w2.setCell ⟨C.M, 5, none⟩ (.string y)).heap.size := HS2.out.2.size
          clear HS2
          generalize w2.setCell ⟨C.M, 5, none⟩ (.string y) = wA at *
          simp only at c5A
          have ed : IntKind.i64.wrap (d - 1) = d - 1 := IntWalk.i64_in _ (by omega)
          go_region_held3 (fun w' => w'.cell? ⟨C.M, 5, none⟩ = some (.string y) ∧ Sx C { s with held := y } w w')
            (first
              | (with_reducible exact Sx.holds (by with_reducible assumption))
              | (with_reducible exact Sx.holds (Sx.drew (by with_reducible assumption)))
              | (with_reducible exact Sx.holds (Sx.alloc (by with_reducible assumption) _))
              | (with_reducible exact Sx.holds (Sx.drew (Sx.alloc (by with_reducible assumption) _)))
              | (with_reducible exact Sx.holds (Sx.set8 HBase.out (by with_reducible assumption) (by with_reducible assumption) (by omega) _ _ _ _ _ _ _ _))
              | (go_split_ands; with_reducible exact Sx.holds (by with_reducible assumption)))
            (first
              | (go_at_call 45; go_split_ands; rename_i hBg; (with_reducible refine (Sx.block HBL.out hBg).mono ?_); rintro e w4 ⟨t1, A1, l1, rfl, hbo⟩; have hsx4 := hbo.2.2.2.2.2.1; have hb7 := hbo.2.2.2.2.2.2; (try ((with_reducible have hbk := hb7 wA.heap.size hwA (blk_drew_new _ _ _)); obtain ⟨⟨r0, r1, r2, r3, r4, r5, r6, r7⟩, f0, f1, f2, f3, f4, f5, f6, f7⟩ := hbk.eight; have hlt8 := hbk.lt))))
          all_goals rename_i hHeld
          all_goals first
            | ((with_reducible have HB := Lib.hid (lkB hHeld.2 hbk hwA hbo)); unfold set8 at HB; generalize (((((((w4.setCell ⟨wA.heap.size, 0, none⟩ (.int .i64 5)).setCell ⟨wA.heap.size, 1, none⟩ (.string y)).setCell ⟨wA.heap.size, 2, none⟩ (.slice none 0 0)).setCell ⟨wA.heap.size, 3, none⟩ (.slice none 0 0)).setCell ⟨wA.heap.size, 4, none⟩ (.int .i64 0)).setCell ⟨wA.heap.size, 5, none⟩ (.int .i64 0)).setCell ⟨wA.heap.size, 6, none⟩ (.slice A1 t1.len l1)).setCell ⟨wA.heap.size, 7, none⟩ (.slice none 0 0) = WW at *; generalize wA.heap.size = GS at *)
            | ((with_reducible have HB := Lib.hid (lkA hHeld.2 hwA (sx_size hsx4) hbo)); generalize w4.alloc (lkRow y A1 t1.len l1) = WW at *; generalize w4.heap.size = GS at *)
          all_goals
            obtain ⟨s3, hs3, ha3⟩ := hHeld.2
            have HT := Lib.hid (And.intro hbo.2.2.1 (And.intro hbo.2.2.2.1 hbo.2.2.2.2.1))
            have HS3 := Lib.hid hs3
            have HA3 := Lib.hid ha3
            have c53 := hs3.1.c5
            have f53 := hs3.1.blk.frozen 5
            have hM3 := hs3.1.blk.lt
            obtain ⟨⟨q0, q1, q2, q3, q4, q5, q6, q7⟩, p0, p1, p2, p3, p4, p5, p6, p7⟩ := HB.out.eight
            have hGM : GS ≠ C.M := tag_ne HB.out.1.tag hs3.1.blk.tag (by decide)
            have hMG : C.M ≠ GS := Ne.symm hGM
            have HF := Lib.hid (And.intro (HB.out.mset hs3.1 5 (.string ⟨#[]⟩)) (hs3.upd 5 (.string ⟨#[]⟩) { s3 with held := ⟨#[]⟩ } rfl ⟨rfl, rfl, rfl⟩ ⟨hs3.1.lims.2.2.1, hs3.1.lims.2.2.2.1, hs3.1.lims.2.2.2.2.1, hs3.1.lims.2.2.2.2.2.1, .inl rfl⟩))
            clear hHeld hb7 hbo hsx4 hBg hsx c5A hs3 ha3 HB HS3
            go_wp2_with fail
            go_ret
            exact stFin (by simp) HF.out.1 HF.out.2 (show Alk s { s3 with held := ⟨#[]⟩ } from ⟨HA3.out.1, HH0.out.symm, HA3.out.2.2⟩) (lk_good HNy.out HT.out).1 (lk_good HNy.out HT.out).2
      · have h0 : C.ss.length = 0 := by omega
        rw [h0] at c41
        rw [hh0] at c51
        clear hh0
        go_wp2_with fail
        refine (target_mk S1.out.1).mono ?_
        rintro e w2 ⟨y, rfl, hy, hm2, hg2⟩
        have S2 := Lib.hid (S1.out.step hm2 hg2)
        have c02 := hm2.c0
        have HY := Lib.hid hy
        clear hm2 hg2 hy S1
        go_wp2_with fail
        refine (expr2 S2.out.1).mono ?_
        rintro e w3 ⟨k, n, x, o, a, A, c, rfl, he, hm3, hg3⟩
        have S3 := Lib.hid (S2.out.step hm3 hg3)
        have c03 := hm3.c0
        have HE := Lib.hid (And.intro he S2.out.2.size)
        clear hm3 hg3 he S2
        go_wp2_with fail
        go_ret
        exact setFin rfl S3.out HE.out.1 HE.out.2 HY.out (by omega)
    · have hx := hhN.size
      have hne : s.held.toList.isEmpty = false := nm_ne hhN
      clear hx hhN
      go_wp2_with fail
      refine (target_mk S1.out.1).mono ?_
      rintro e w2 ⟨y, rfl, hy, hm2, hg2⟩
      have S2 := Lib.hid (S1.out.step hm2 hg2)
      have c02 := hm2.c0
      have HY := Lib.hid hy
      clear hm2 hg2 hy S1
      go_wp2_with fail
      refine (expr2 S2.out.1).mono ?_
      rintro e w3 ⟨k, n, x, o, a, A, c, rfl, he, hm3, hg3⟩
      have S3 := Lib.hid (S2.out.step hm3 hg3)
      have c03 := hm3.c0
      have HE := Lib.hid (And.intro he S2.out.2.size)
      clear hm3 hg3 he S2
      go_wp2_with fail
      go_ret
      exact setFin rfl S3.out HE.out.1 HE.out.2 HY.out (by omega)
theorem stmt_at {d : Int} {h : Nat} (hd : 1 ≤ d ∧ d ≤ 3) (hh : 1 ≤ h) (hbl : BlockC C (d - 1) 2 h) : StmtC C d (h + 1) := by
  intro s w hm
  by_cases hl : s.lab ≤ 11
  · exact stmt_pos hd hh hbl s w hm hl
  · exact stmt_full hd s w hm (by have := hm.lims.2.2.1.2; omega)
theorem block0 : BlockC C 0 2 1 := block_any 2 (by omega) stmt_zero
theorem block1 : BlockC C 1 2 2 := block_any 2 (by omega) (stmt_at ⟨by omega, by omega⟩ (by omega) block0)
theorem block2 : BlockC C 2 2 3 := block_any 2 (by omega) (stmt_at ⟨by omega, by omega⟩ (by omega) block1)
/-- A task's body. -/
theorem body_mk : BlockC C 3 5 4 := block_any 5 (by omega) (stmt_at ⟨by omega, by omega⟩ (by omega) block2)
end
end Go.Proofs.YtbppfhlpielpcaaDoor
