/- The generator: stmt where it makes no blocks. -/
import Derived.Test.YtbppfhlpielpcaaDoorGnSli
namespace Go.Proofs.YtbppfhlpielpcaaDoor
open Go.RowKit
set_option linter.unusedVariables false
section
variable {C : Cx} {s : Ms}

set_option maxRecDepth 100000 in
set_option maxHeartbeats 4000000 in
theorem stmt_zero : StmtC C 0 1 := by
  intro s w hm
  have c0 := hm.c0
  have H := Lib.hid hm
  have HBase := Lib.hid hm.base
  have hl0 := hm.lims.2.2.1.1
  clear hm
  go_enter Tryd.func56, Tryd.ntmps56
  go_wp2_with fail
  refine (next_mk H.out 9 (by omega)).mono ?_
  rintro e w1 ⟨r, rfl, hr0, hr1, hm1, hg1⟩
  have S1 := Lib.hid (show Sg C s w w1 from ⟨hm1, hg1⟩)
  have c01 := hm1.c0
  have c61 := hm1.c6
  have hr : r = 0 ∨ r = 1 ∨ r = 2 ∨ r = 3 ∨ r = 4 ∨ r = 5 ∨ r = 6 ∨ r = 7 ∨ r = 8 := by omega
  clear hr1 hm1 hg1 c0
  rcases hr with rfl | rfl | rfl | rfl | rfl | rfl | rfl | rfl | rfl
  · clear hr0
    go_wp2_with fail
    refine (target_mk S1.out.1).mono ?_
    rintro e w2 ⟨y, rfl, hy, hm2, hg2⟩
    have S2 := Lib.hid (S1.out.step hm2 hg2)
    have c02 := hm2.c0
    have HY := Lib.hid hy
    clear hm2 hg2 hy S1
    go_wp2_with fail
    refine (expr2 S2.out.1).mono ?_
    rintro e w3 ⟨k, n, x, o, a, A, c, rfl, he, hm3, hg3⟩
    have S3 := Lib.hid (S2.out.step hm3 hg3)
    have c03 := hm3.c0
    have HE := Lib.hid (And.intro he S2.out.2.size)
    clear hm3 hg3 he S2
    go_wp2_with fail
    go_ret
    exact setFin rfl S3.out HE.out.1 HE.out.2 HY.out (Nat.le_refl 1)
  · clear hr0
    go_wp2_with fail
    refine (usable_mk S1.out.1).mono ?_
    rintro e w2 ⟨l, v, rfl, ho, hl, hN, hb2⟩
    have hDl := Nat.lt_of_lt_of_le S1.out.1.nums.2.2.2.2.2.2.2.1 S1.out.1.base
    have hm2 := S1.out.1.below hb2
    have hg2 := Gen.below hb2 C.D C.M C.B
    have S2 := Lib.hid (S1.out.step hm2 hg2)
    have c02 := hm2.c0
    clear hm2 hg2 hb2 S1
    rcases Nat.eq_zero_or_pos l.length with h0 | h0
    · rw [h0] at ho
      obtain ⟨g, cap, rfl⟩ := own_zero ho
      clear ho h0 hl hN hDl
      go_wp2_with fail
      refine (target_mk S2.out.1).mono ?_
      rintro e w3 ⟨y, rfl, hy, hm3, hg3⟩
      have S3 := Lib.hid (S2.out.step hm3 hg3)
      have c03 := hm3.c0
      have HY := Lib.hid hy
      clear hm3 hg3 hy S2
      go_wp2_with fail
      refine (expr2 S3.out.1).mono ?_
      rintro e w4 ⟨k, n, x, o, a, A, c, rfl, he, hm4, hg4⟩
      have S4 := Lib.hid (S3.out.step hm4 hg4)
      have c04 := hm4.c0
      have HE := Lib.hid (And.intro he S3.out.2.size)
      clear hm4 hg4 he S3
      go_wp2_with fail
      go_ret
      exact setFin rfl S4.out HE.out.1 HE.out.2 HY.out (Nat.le_refl 1)
    · obtain ⟨g, cap, rfl, hgB, hgl⟩ := own_form ho h0
      have VN := Lib.hid (name_mk S2.out.1 g 0 l.length cap h0 (by omega) hgl (by omega) (own_rd ho rfl hN))
      have hl0 : (0 : Int) < l.length := by omega
      clear ho hN hgB hgl hDl
      go_wp2_with fail
      refine VN.out.mono ?_
      rintro e w3 ⟨y, rfl, hy, hm3, hg3⟩
      have S3 := Lib.hid (S2.out.step hm3 hg3)
      have c03 := hm3.c0
      have HY := Lib.hid hy
      clear hm3 hg3 hy S2 VN
      go_wp2_with fail
      refine (expr1 S3.out.1).mono ?_
      rintro e w4 ⟨k1, n1, x1, o1, a1, A1, l1, rfl, he, hm4, hg4⟩
      have S4 := Lib.hid (S3.out.step hm4 hg4)
      have c04 := hm4.c0
      have HE1 := Lib.hid (he.lower (m := w.heap.size) S3.out.2.size (by omega : 2 ≤ 3))
      have SA := Lib.hid (S4.out.alloc (exRow k1 n1 x1 o1 A1 a1.len l1))
      clear hm4 hg4 he S3
      go_wp2_with fail
      refine (expr2 SA.out.1).mono ?_
      rintro e w5 ⟨k, n, x, o, a, A, c, rfl, he, hm5, hg5⟩
      have S5 := Lib.hid (SA.out.step hm5 hg5)
      have HI := Lib.hid (row_kept HE1.out (Nat.le_refl _) S4.out.2.size SA.out.1 hg5)
      have HE := Lib.hid (he.lower (m := w.heap.size) SA.out.2.size (Nat.le_refl 3))
      clear hm5 hg5 he SA
      go_wp2_with fail
      go_ret
      exact storeFin rfl S5.out HI.out ⟨HE1.out.2.1, HE1.out.2.2.1, HE1.out.2.2.2.1⟩ HE.out (Nat.le_refl _) HY.out (Nat.le_refl 1)
  · clear hr0
    go_wp2_with fail
    refine (target_mk S1.out.1).mono ?_
    rintro e w2 ⟨y, rfl, hy, hm2, hg2⟩
    have S2 := Lib.hid (S1.out.step hm2 hg2)
    have c02 := hm2.c0
    have HY := Lib.hid hy
    clear hm2 hg2 hy S1
    go_wp2_with fail
    refine (expr2 S2.out.1).mono ?_
    rintro e w3 ⟨k, n, x, o, a, A, c, rfl, he, hm3, hg3⟩
    have S3 := Lib.hid (S2.out.step hm3 hg3)
    have c03 := hm3.c0
    have HE := Lib.hid (And.intro he S2.out.2.size)
    clear hm3 hg3 he S2
    go_wp2_with fail
    go_ret
    exact setFin rfl S3.out HE.out.1 HE.out.2 HY.out (Nat.le_refl 1)
  · clear hr0
    go_wp2_with fail
    refine (target_mk S1.out.1).mono ?_
    rintro e w2 ⟨y, rfl, hy, hm2, hg2⟩
    have S2 := Lib.hid (S1.out.step hm2 hg2)
    have c02 := hm2.c0
    have HY := Lib.hid hy
    clear hm2 hg2 hy S1
    go_wp2_with fail
    refine (expr2 S2.out.1).mono ?_
    rintro e w3 ⟨k, n, x, o, a, A, c, rfl, he, hm3, hg3⟩
    have S3 := Lib.hid (S2.out.step hm3 hg3)
    have c03 := hm3.c0
    have HE := Lib.hid (And.intro he S2.out.2.size)
    clear hm3 hg3 he S2
    go_wp2_with fail
    go_ret
    exact setFin rfl S3.out HE.out.1 HE.out.2 HY.out (Nat.le_refl 1)
  · clear hr0
    go_wp2_with fail
    refine (usable_mk S1.out.1).mono ?_
    rintro e w2 ⟨l, v, rfl, ho, hl, hN, hb2⟩
    have hDl := Nat.lt_of_lt_of_le S1.out.1.nums.2.2.2.2.2.2.2.1 S1.out.1.base
    have hm2 := S1.out.1.below hb2
    have hg2 := Gen.below hb2 C.D C.M C.B
    have S2 := Lib.hid (S1.out.step hm2 hg2)
    have c02 := hm2.c0
    clear hm2 hg2 hb2 S1
    rcases Nat.eq_zero_or_pos l.length with h0 | h0
    · rw [h0] at ho
      obtain ⟨g, cap, rfl⟩ := own_zero ho
      clear ho h0 hl hN hDl
      go_wp2_with fail
      refine (target_mk S2.out.1).mono ?_
      rintro e w3 ⟨y, rfl, hy, hm3, hg3⟩
      have S3 := Lib.hid (S2.out.step hm3 hg3)
      have c03 := hm3.c0
      have HY := Lib.hid hy
      clear hm3 hg3 hy S2
      go_wp2_with fail
      refine (expr2 S3.out.1).mono ?_
      rintro e w4 ⟨k, n, x, o, a, A, c, rfl, he, hm4, hg4⟩
      have S4 := Lib.hid (S3.out.step hm4 hg4)
      have c04 := hm4.c0
      have HE := Lib.hid (And.intro he S3.out.2.size)
      clear hm4 hg4 he S3
      go_wp2_with fail
      go_ret
      exact setFin rfl S4.out HE.out.1 HE.out.2 HY.out (Nat.le_refl 1)
    · obtain ⟨g, cap, rfl, hgB, hgl⟩ := own_form ho h0
      have VN := Lib.hid (name_mk S2.out.1 g 0 l.length cap h0 (by omega) hgl (by omega) (own_rd ho rfl hN))
      have hl0 : (0 : Int) < l.length := by omega
      clear ho hN hgB hgl hDl
      go_wp2_with fail
      refine VN.out.mono ?_
      rintro e w3 ⟨y, rfl, hy, hm3, hg3⟩
      have S3 := Lib.hid (S2.out.step hm3 hg3)
      have c03 := hm3.c0
      have HY := Lib.hid hy
      clear hm3 hg3 hy S2 VN
      go_wp2_with fail
      refine (expr1 S3.out.1).mono ?_
      rintro e w4 ⟨k1, n1, x1, o1, a1, A1, l1, rfl, he, hm4, hg4⟩
      have S4 := Lib.hid (S3.out.step hm4 hg4)
      have c04 := hm4.c0
      have HE1 := Lib.hid (he.lower (m := w.heap.size) S3.out.2.size (by omega : 2 ≤ 3))
      have SA := Lib.hid (S4.out.alloc (exRow k1 n1 x1 o1 A1 a1.len l1))
      clear hm4 hg4 he S3
      go_wp2_with fail
      refine (expr2 SA.out.1).mono ?_
      rintro e w5 ⟨k, n, x, o, a, A, c, rfl, he, hm5, hg5⟩
      have S5 := Lib.hid (SA.out.step hm5 hg5)
      have HI := Lib.hid (row_kept HE1.out (Nat.le_refl _) S4.out.2.size SA.out.1 hg5)
      have HE := Lib.hid (he.lower (m := w.heap.size) SA.out.2.size (Nat.le_refl 3))
      clear hm5 hg5 he SA
      go_wp2_with fail
      go_ret
      exact storeFin rfl S5.out HI.out ⟨HE1.out.2.1, HE1.out.2.2.1, HE1.out.2.2.2.1⟩ HE.out (Nat.le_refl _) HY.out (Nat.le_refl 1)
  · clear hr0
    go_wp2_with fail
    refine (target_mk S1.out.1).mono ?_
    rintro e w2 ⟨y, rfl, hy, hm2, hg2⟩
    have S2 := Lib.hid (S1.out.step hm2 hg2)
    have c02 := hm2.c0
    have HY := Lib.hid hy
    clear hm2 hg2 hy S1
    go_wp2_with fail
    refine (expr2 S2.out.1).mono ?_
    rintro e w3 ⟨k, n, x, o, a, A, c, rfl, he, hm3, hg3⟩
    have S3 := Lib.hid (S2.out.step hm3 hg3)
    have c03 := hm3.c0
    have HE := Lib.hid (And.intro he S2.out.2.size)
    clear hm3 hg3 he S2
    go_wp2_with fail
    go_ret
    exact setFin rfl S3.out HE.out.1 HE.out.2 HY.out (Nat.le_refl 1)
  · clear hr0
    go_wp2_with fail
    refine (target_mk S1.out.1).mono ?_
    rintro e w2 ⟨y, rfl, hy, hm2, hg2⟩
    have S2 := Lib.hid (S1.out.step hm2 hg2)
    have c02 := hm2.c0
    have HY := Lib.hid hy
    clear hm2 hg2 hy S1
    go_wp2_with fail
    refine (expr2 S2.out.1).mono ?_
    rintro e w3 ⟨k, n, x, o, a, A, c, rfl, he, hm3, hg3⟩
    have S3 := Lib.hid (S2.out.step hm3 hg3)
    have c03 := hm3.c0
    have HE := Lib.hid (And.intro he S2.out.2.size)
    clear hm3 hg3 he S2
    go_wp2_with fail
    go_ret
    exact setFin rfl S3.out HE.out.1 HE.out.2 HY.out (Nat.le_refl 1)
  · clear hr0
    go_wp2_with fail
    refine (usable_mk S1.out.1).mono ?_
    rintro e w2 ⟨l, v, rfl, ho, hl, hN, hb2⟩
    have hDl := Nat.lt_of_lt_of_le S1.out.1.nums.2.2.2.2.2.2.2.1 S1.out.1.base
    have hm2 := S1.out.1.below hb2
    have hg2 := Gen.below hb2 C.D C.M C.B
    have S2 := Lib.hid (S1.out.step hm2 hg2)
    have c02 := hm2.c0
    clear hm2 hg2 hb2 S1
    rcases Nat.eq_zero_or_pos l.length with h0 | h0
    · rw [h0] at ho
      obtain ⟨g, cap, rfl⟩ := own_zero ho
      clear ho h0 hl hN hDl
      go_wp2_with fail
      refine (target_mk S2.out.1).mono ?_
      rintro e w3 ⟨y, rfl, hy, hm3, hg3⟩
      have S3 := Lib.hid (S2.out.step hm3 hg3)
      have c03 := hm3.c0
      have HY := Lib.hid hy
      clear hm3 hg3 hy S2
      go_wp2_with fail
      refine (expr2 S3.out.1).mono ?_
      rintro e w4 ⟨k, n, x, o, a, A, c, rfl, he, hm4, hg4⟩
      have S4 := Lib.hid (S3.out.step hm4 hg4)
      have c04 := hm4.c0
      have HE := Lib.hid (And.intro he S3.out.2.size)
      clear hm4 hg4 he S3
      go_wp2_with fail
      go_ret
      exact setFin rfl S4.out HE.out.1 HE.out.2 HY.out (Nat.le_refl 1)
    · obtain ⟨g, cap, rfl, hgB, hgl⟩ := own_form ho h0
      have VN := Lib.hid (name_mk S2.out.1 g 0 l.length cap h0 (by omega) hgl (by omega) (own_rd ho rfl hN))
      have hl0 : (0 : Int) < l.length := by omega
      clear ho hN hgB hgl hDl
      go_wp2_with fail
      refine VN.out.mono ?_
      rintro e w3 ⟨y, rfl, hy, hm3, hg3⟩
      have S3 := Lib.hid (S2.out.step hm3 hg3)
      have c03 := hm3.c0
      have HY := Lib.hid hy
      clear hm3 hg3 hy S2 VN
      go_wp2_with fail
      refine (expr1 S3.out.1).mono ?_
      rintro e w4 ⟨k1, n1, x1, o1, a1, A1, l1, rfl, he, hm4, hg4⟩
      have S4 := Lib.hid (S3.out.step hm4 hg4)
      have c04 := hm4.c0
      have HE1 := Lib.hid (he.lower (m := w.heap.size) S3.out.2.size (by omega : 2 ≤ 3))
      have SA := Lib.hid (S4.out.alloc (exRow k1 n1 x1 o1 A1 a1.len l1))
      clear hm4 hg4 he S3
      go_wp2_with fail
      refine (expr2 SA.out.1).mono ?_
      rintro e w5 ⟨k, n, x, o, a, A, c, rfl, he, hm5, hg5⟩
      have S5 := Lib.hid (SA.out.step hm5 hg5)
      have HI := Lib.hid (row_kept HE1.out (Nat.le_refl _) S4.out.2.size SA.out.1 hg5)
      have HE := Lib.hid (he.lower (m := w.heap.size) SA.out.2.size (Nat.le_refl 3))
      clear hm5 hg5 he SA
      go_wp2_with fail
      go_ret
      exact storeFin rfl S5.out HI.out ⟨HE1.out.2.1, HE1.out.2.2.1, HE1.out.2.2.2.1⟩ HE.out (Nat.le_refl _) HY.out (Nat.le_refl 1)
  · clear hr0
    go_wp2_with fail
    refine (target_mk S1.out.1).mono ?_
    rintro e w2 ⟨y, rfl, hy, hm2, hg2⟩
    have S2 := Lib.hid (S1.out.step hm2 hg2)
    have c02 := hm2.c0
    have HY := Lib.hid hy
    clear hm2 hg2 hy S1
    go_wp2_with fail
    refine (expr2 S2.out.1).mono ?_
    rintro e w3 ⟨k, n, x, o, a, A, c, rfl, he, hm3, hg3⟩
    have S3 := Lib.hid (S2.out.step hm3 hg3)
    have c03 := hm3.c0
    have HE := Lib.hid (And.intro he S2.out.2.size)
    clear hm3 hg3 he S2
    go_wp2_with fail
    go_ret
    exact setFin rfl S3.out HE.out.1 HE.out.2 HY.out (Nat.le_refl 1)
set_option maxRecDepth 100000 in
set_option maxHeartbeats 4000000 in
theorem stmt_full {d : Int} {h : Nat} (hd : 1 ≤ d ∧ d ≤ 3) (s : Ms) (w : World) (hm : Mks C s w) (hlab : s.lab = 12) :
    Calls Tryd.prog 56 #[.pointer (some ⟨C.M, 0, none⟩), .int .i64 d] w fun e w' => StPost C s (h + 1) 1 2 w e w' := by
  obtain ⟨hd1, hd3⟩ := hd
  have c0 := hm.c0
  have H := Lib.hid hm
  have HBase := Lib.hid hm.base
  have hl0 := hm.lims.2.2.1.1
  have hd0 : decide (d ≤ 0) = false := by simp; omega
  have HL := Lib.hid hlab
  clear hlab
  clear hm
  go_enter Tryd.func56, Tryd.ntmps56
  go_wp2_with fail
  refine (next_mk H.out 9 (by omega)).mono ?_
  rintro e w1 ⟨r, rfl, hr0, hr1, hm1, hg1⟩
  have S1 := Lib.hid (show Sg C s w w1 from ⟨hm1, hg1⟩)
  have c01 := hm1.c0
  have c61 := hm1.c6
  have hr : r = 0 ∨ r = 1 ∨ r = 2 ∨ r = 3 ∨ r = 4 ∨ r = 5 ∨ r = 6 ∨ r = 7 ∨ r = 8 := by omega
  clear hr1 hm1 hg1 c0
  rcases hr with rfl | rfl | rfl | rfl | rfl | rfl | rfl | rfl | rfl
  · clear hr0
    rw [HL.out] at c61
    go_wp2_with fail
    refine (target_mk S1.out.1).mono ?_
    rintro e w2 ⟨y, rfl, hy, hm2, hg2⟩
    have S2 := Lib.hid (S1.out.step hm2 hg2)
    have c02 := hm2.c0
    have HY := Lib.hid hy
    clear hm2 hg2 hy S1
    go_wp2_with fail
    refine (expr2 S2.out.1).mono ?_
    rintro e w3 ⟨k, n, x, o, a, A, c, rfl, he, hm3, hg3⟩
    have S3 := Lib.hid (S2.out.step hm3 hg3)
    have c03 := hm3.c0
    have HE := Lib.hid (And.intro he S2.out.2.size)
    clear hm3 hg3 he S2
    go_wp2_with fail
    go_ret
    exact setFin rfl S3.out HE.out.1 HE.out.2 HY.out (by omega)
  · clear hr0
    rw [HL.out] at c61
    go_wp2_with fail
    refine (usable_mk S1.out.1).mono ?_
    rintro e w2 ⟨l, v, rfl, ho, hl, hN, hb2⟩
    have hDl := Nat.lt_of_lt_of_le S1.out.1.nums.2.2.2.2.2.2.2.1 S1.out.1.base
    have hm2 := S1.out.1.below hb2
    have hg2 := Gen.below hb2 C.D C.M C.B
    have S2 := Lib.hid (S1.out.step hm2 hg2)
    have c02 := hm2.c0
    clear hm2 hg2 hb2 S1
    rcases Nat.eq_zero_or_pos l.length with h0 | h0
    · rw [h0] at ho
      obtain ⟨g, cap, rfl⟩ := own_zero ho
      clear ho h0 hl hN hDl
      go_wp2_with fail
      refine (target_mk S2.out.1).mono ?_
      rintro e w3 ⟨y, rfl, hy, hm3, hg3⟩
      have S3 := Lib.hid (S2.out.step hm3 hg3)
      have c03 := hm3.c0
      have HY := Lib.hid hy
      clear hm3 hg3 hy S2
      go_wp2_with fail
      refine (expr2 S3.out.1).mono ?_
      rintro e w4 ⟨k, n, x, o, a, A, c, rfl, he, hm4, hg4⟩
      have S4 := Lib.hid (S3.out.step hm4 hg4)
      have c04 := hm4.c0
      have HE := Lib.hid (And.intro he S3.out.2.size)
      clear hm4 hg4 he S3
      go_wp2_with fail
      go_ret
      exact setFin rfl S4.out HE.out.1 HE.out.2 HY.out (by omega)
    · obtain ⟨g, cap, rfl, hgB, hgl⟩ := own_form ho h0
      have VN := Lib.hid (name_mk S2.out.1 g 0 l.length cap h0 (by omega) hgl (by omega) (own_rd ho rfl hN))
      have hl0 : (0 : Int) < l.length := by omega
      clear ho hN hgB hgl hDl
      go_wp2_with fail
      refine VN.out.mono ?_
      rintro e w3 ⟨y, rfl, hy, hm3, hg3⟩
      have S3 := Lib.hid (S2.out.step hm3 hg3)
      have c03 := hm3.c0
      have HY := Lib.hid hy
      clear hm3 hg3 hy S2 VN
      go_wp2_with fail
      refine (expr1 S3.out.1).mono ?_
      rintro e w4 ⟨k1, n1, x1, o1, a1, A1, l1, rfl, he, hm4, hg4⟩
      have S4 := Lib.hid (S3.out.step hm4 hg4)
      have c04 := hm4.c0
      have HE1 := Lib.hid (he.lower (m := w.heap.size) S3.out.2.size (by omega : 2 ≤ 3))
      have SA := Lib.hid (S4.out.alloc (exRow k1 n1 x1 o1 A1 a1.len l1))
      clear hm4 hg4 he S3
      go_wp2_with fail
      refine (expr2 SA.out.1).mono ?_
      rintro e w5 ⟨k, n, x, o, a, A, c, rfl, he, hm5, hg5⟩
      have S5 := Lib.hid (SA.out.step hm5 hg5)
      have HI := Lib.hid (row_kept HE1.out (Nat.le_refl _) S4.out.2.size SA.out.1 hg5)
      have HE := Lib.hid (he.lower (m := w.heap.size) SA.out.2.size (Nat.le_refl 3))
      clear hm5 hg5 he SA
      go_wp2_with fail
      go_ret
      exact storeFin rfl S5.out HI.out ⟨HE1.out.2.1, HE1.out.2.2.1, HE1.out.2.2.2.1⟩ HE.out (Nat.le_refl _) HY.out (by omega)
  · clear hr0
    rw [HL.out] at c61
    go_wp2_with fail
    refine (target_mk S1.out.1).mono ?_
    rintro e w2 ⟨y, rfl, hy, hm2, hg2⟩
    have S2 := Lib.hid (S1.out.step hm2 hg2)
    have c02 := hm2.c0
    have HY := Lib.hid hy
    clear hm2 hg2 hy S1
    go_wp2_with fail
    refine (expr2 S2.out.1).mono ?_
    rintro e w3 ⟨k, n, x, o, a, A, c, rfl, he, hm3, hg3⟩
    have S3 := Lib.hid (S2.out.step hm3 hg3)
    have c03 := hm3.c0
    have HE := Lib.hid (And.intro he S2.out.2.size)
    clear hm3 hg3 he S2
    go_wp2_with fail
    go_ret
    exact setFin rfl S3.out HE.out.1 HE.out.2 HY.out (by omega)
  · clear hr0
    rw [HL.out] at c61
    go_wp2_with fail
    refine (target_mk S1.out.1).mono ?_
    rintro e w2 ⟨y, rfl, hy, hm2, hg2⟩
    have S2 := Lib.hid (S1.out.step hm2 hg2)
    have c02 := hm2.c0
    have HY := Lib.hid hy
    clear hm2 hg2 hy S1
    go_wp2_with fail
    refine (expr2 S2.out.1).mono ?_
    rintro e w3 ⟨k, n, x, o, a, A, c, rfl, he, hm3, hg3⟩
    have S3 := Lib.hid (S2.out.step hm3 hg3)
    have c03 := hm3.c0
    have HE := Lib.hid (And.intro he S2.out.2.size)
    clear hm3 hg3 he S2
    go_wp2_with fail
    go_ret
    exact setFin rfl S3.out HE.out.1 HE.out.2 HY.out (by omega)
  · clear hr0
    rw [HL.out] at c61
    go_wp2_with fail
    refine (usable_mk S1.out.1).mono ?_
    rintro e w2 ⟨l, v, rfl, ho, hl, hN, hb2⟩
    have hDl := Nat.lt_of_lt_of_le S1.out.1.nums.2.2.2.2.2.2.2.1 S1.out.1.base
    have hm2 := S1.out.1.below hb2
    have hg2 := Gen.below hb2 C.D C.M C.B
    have S2 := Lib.hid (S1.out.step hm2 hg2)
    have c02 := hm2.c0
    clear hm2 hg2 hb2 S1
    rcases Nat.eq_zero_or_pos l.length with h0 | h0
    · rw [h0] at ho
      obtain ⟨g, cap, rfl⟩ := own_zero ho
      clear ho h0 hl hN hDl
      go_wp2_with fail
      refine (target_mk S2.out.1).mono ?_
      rintro e w3 ⟨y, rfl, hy, hm3, hg3⟩
      have S3 := Lib.hid (S2.out.step hm3 hg3)
      have c03 := hm3.c0
      have HY := Lib.hid hy
      clear hm3 hg3 hy S2
      go_wp2_with fail
      refine (expr2 S3.out.1).mono ?_
      rintro e w4 ⟨k, n, x, o, a, A, c, rfl, he, hm4, hg4⟩
      have S4 := Lib.hid (S3.out.step hm4 hg4)
      have c04 := hm4.c0
      have HE := Lib.hid (And.intro he S3.out.2.size)
      clear hm4 hg4 he S3
      go_wp2_with fail
      go_ret
      exact setFin rfl S4.out HE.out.1 HE.out.2 HY.out (by omega)
    · obtain ⟨g, cap, rfl, hgB, hgl⟩ := own_form ho h0
      have VN := Lib.hid (name_mk S2.out.1 g 0 l.length cap h0 (by omega) hgl (by omega) (own_rd ho rfl hN))
      have hl0 : (0 : Int) < l.length := by omega
      clear ho hN hgB hgl hDl
      go_wp2_with fail
      refine VN.out.mono ?_
      rintro e w3 ⟨y, rfl, hy, hm3, hg3⟩
      have S3 := Lib.hid (S2.out.step hm3 hg3)
      have c03 := hm3.c0
      have HY := Lib.hid hy
      clear hm3 hg3 hy S2 VN
      go_wp2_with fail
      refine (expr1 S3.out.1).mono ?_
      rintro e w4 ⟨k1, n1, x1, o1, a1, A1, l1, rfl, he, hm4, hg4⟩
      have S4 := Lib.hid (S3.out.step hm4 hg4)
      have c04 := hm4.c0
      have HE1 := Lib.hid (he.lower (m := w.heap.size) S3.out.2.size (by omega : 2 ≤ 3))
      have SA := Lib.hid (S4.out.alloc (exRow k1 n1 x1 o1 A1 a1.len l1))
      clear hm4 hg4 he S3
      go_wp2_with fail
      refine (expr2 SA.out.1).mono ?_
      rintro e w5 ⟨k, n, x, o, a, A, c, rfl, he, hm5, hg5⟩
      have S5 := Lib.hid (SA.out.step hm5 hg5)
      have HI := Lib.hid (row_kept HE1.out (Nat.le_refl _) S4.out.2.size SA.out.1 hg5)
      have HE := Lib.hid (he.lower (m := w.heap.size) SA.out.2.size (Nat.le_refl 3))
      clear hm5 hg5 he SA
      go_wp2_with fail
      go_ret
      exact storeFin rfl S5.out HI.out ⟨HE1.out.2.1, HE1.out.2.2.1, HE1.out.2.2.2.1⟩ HE.out (Nat.le_refl _) HY.out (by omega)
  · clear hr0
    rw [HL.out] at c61
    go_wp2_with fail
    refine (target_mk S1.out.1).mono ?_
    rintro e w2 ⟨y, rfl, hy, hm2, hg2⟩
    have S2 := Lib.hid (S1.out.step hm2 hg2)
    have c02 := hm2.c0
    have HY := Lib.hid hy
    clear hm2 hg2 hy S1
    go_wp2_with fail
    refine (expr2 S2.out.1).mono ?_
    rintro e w3 ⟨k, n, x, o, a, A, c, rfl, he, hm3, hg3⟩
    have S3 := Lib.hid (S2.out.step hm3 hg3)
    have c03 := hm3.c0
    have HE := Lib.hid (And.intro he S2.out.2.size)
    clear hm3 hg3 he S2
    go_wp2_with fail
    go_ret
    exact setFin rfl S3.out HE.out.1 HE.out.2 HY.out (by omega)
  · clear hr0
    rw [HL.out] at c61
    go_wp2_with fail
    refine (target_mk S1.out.1).mono ?_
    rintro e w2 ⟨y, rfl, hy, hm2, hg2⟩
    have S2 := Lib.hid (S1.out.step hm2 hg2)
    have c02 := hm2.c0
    have HY := Lib.hid hy
    clear hm2 hg2 hy S1
    go_wp2_with fail
    refine (expr2 S2.out.1).mono ?_
    rintro e w3 ⟨k, n, x, o, a, A, c, rfl, he, hm3, hg3⟩
    have S3 := Lib.hid (S2.out.step hm3 hg3)
    have c03 := hm3.c0
    have HE := Lib.hid (And.intro he S2.out.2.size)
    clear hm3 hg3 he S2
    go_wp2_with fail
    go_ret
    exact setFin rfl S3.out HE.out.1 HE.out.2 HY.out (by omega)
  · clear hr0
    rw [HL.out] at c61
    go_wp2_with fail
    refine (usable_mk S1.out.1).mono ?_
    rintro e w2 ⟨l, v, rfl, ho, hl, hN, hb2⟩
    have hDl := Nat.lt_of_lt_of_le S1.out.1.nums.2.2.2.2.2.2.2.1 S1.out.1.base
    have hm2 := S1.out.1.below hb2
    have hg2 := Gen.below hb2 C.D C.M C.B
    have S2 := Lib.hid (S1.out.step hm2 hg2)
    have c02 := hm2.c0
    clear hm2 hg2 hb2 S1
    rcases Nat.eq_zero_or_pos l.length with h0 | h0
    · rw [h0] at ho
      obtain ⟨g, cap, rfl⟩ := own_zero ho
      clear ho h0 hl hN hDl
      go_wp2_with fail
      refine (target_mk S2.out.1).mono ?_
      rintro e w3 ⟨y, rfl, hy, hm3, hg3⟩
      have S3 := Lib.hid (S2.out.step hm3 hg3)
      have c03 := hm3.c0
      have HY := Lib.hid hy
      clear hm3 hg3 hy S2
      go_wp2_with fail
      refine (expr2 S3.out.1).mono ?_
      rintro e w4 ⟨k, n, x, o, a, A, c, rfl, he, hm4, hg4⟩
      have S4 := Lib.hid (S3.out.step hm4 hg4)
      have c04 := hm4.c0
      have HE := Lib.hid (And.intro he S3.out.2.size)
      clear hm4 hg4 he S3
      go_wp2_with fail
      go_ret
      exact setFin rfl S4.out HE.out.1 HE.out.2 HY.out (by omega)
    · obtain ⟨g, cap, rfl, hgB, hgl⟩ := own_form ho h0
      have VN := Lib.hid (name_mk S2.out.1 g 0 l.length cap h0 (by omega) hgl (by omega) (own_rd ho rfl hN))
      have hl0 : (0 : Int) < l.length := by omega
      clear ho hN hgB hgl hDl
      go_wp2_with fail
      refine VN.out.mono ?_
      rintro e w3 ⟨y, rfl, hy, hm3, hg3⟩
      have S3 := Lib.hid (S2.out.step hm3 hg3)
      have c03 := hm3.c0
      have HY := Lib.hid hy
      clear hm3 hg3 hy S2 VN
      go_wp2_with fail
      refine (expr1 S3.out.1).mono ?_
      rintro e w4 ⟨k1, n1, x1, o1, a1, A1, l1, rfl, he, hm4, hg4⟩
      have S4 := Lib.hid (S3.out.step hm4 hg4)
      have c04 := hm4.c0
      have HE1 := Lib.hid (he.lower (m := w.heap.size) S3.out.2.size (by omega : 2 ≤ 3))
      have SA := Lib.hid (S4.out.alloc (exRow k1 n1 x1 o1 A1 a1.len l1))
      clear hm4 hg4 he S3
      go_wp2_with fail
      refine (expr2 SA.out.1).mono ?_
      rintro e w5 ⟨k, n, x, o, a, A, c, rfl, he, hm5, hg5⟩
      have S5 := Lib.hid (SA.out.step hm5 hg5)
      have HI := Lib.hid (row_kept HE1.out (Nat.le_refl _) S4.out.2.size SA.out.1 hg5)
      have HE := Lib.hid (he.lower (m := w.heap.size) SA.out.2.size (Nat.le_refl 3))
      clear hm5 hg5 he SA
      go_wp2_with fail
      go_ret
      exact storeFin rfl S5.out HI.out ⟨HE1.out.2.1, HE1.out.2.2.1, HE1.out.2.2.2.1⟩ HE.out (Nat.le_refl _) HY.out (by omega)
  · clear hr0
    rw [HL.out] at c61
    go_wp2_with fail
    refine (target_mk S1.out.1).mono ?_
    rintro e w2 ⟨y, rfl, hy, hm2, hg2⟩
    have S2 := Lib.hid (S1.out.step hm2 hg2)
    have c02 := hm2.c0
    have HY := Lib.hid hy
    clear hm2 hg2 hy S1
    go_wp2_with fail
    refine (expr2 S2.out.1).mono ?_
    rintro e w3 ⟨k, n, x, o, a, A, c, rfl, he, hm3, hg3⟩
    have S3 := Lib.hid (S2.out.step hm3 hg3)
    have c03 := hm3.c0
    have HE := Lib.hid (And.intro he S2.out.2.size)
    clear hm3 hg3 he S2
    go_wp2_with fail
    go_ret
    exact setFin rfl S3.out HE.out.1 HE.out.2 HY.out (by omega)
end
end Go.Proofs.YtbppfhlpielpcaaDoor
