/- The generator's loop. -/
import Derived.Test.YtbppfhlpielpcaaDoorGnLpq
namespace Go.Proofs.YtbppfhlpielpcaaDoor
open Go.RowKit
set_option linter.unusedVariables false
section
variable {C : Cx}
set_option maxRecDepth 100000 in
set_option maxHeartbeats 8000000 in
theorem loop_any {d : Int} {h : Nat} (hd : 1 ≤ d ∧ d ≤ 3) (hh : 1 ≤ h) (hbl : BlockC C (d - 1) 2 h) (s : Ms) (w : World) (hm : Mks C s w) (hlab : s.lab ≤ 11) (hinl : s.inl ≤ 1) :
    Calls Tryd.prog 70 #[.pointer (some ⟨C.M, 0, none⟩), .int .i64 d] w fun e w' => StPost C s (h + 1) 1 2 w e w' := by
  obtain ⟨hd1, hd3⟩ := hd
  have HBL := Lib.hid hbl
  have HBase := Lib.hid hm.base
  have hl0 := hm.lims.2.2.1.1
  have hi0 := hm.lims.2.2.2.2.1.1
  have c6 := hm.c6
  have f6 := hm.blk.frozen 6
  have c8 := hm.c8
  have f8 := hm.blk.frozen 8
  have hU : Sg C { s with lab := s.lab + 1, inl := s.inl + 1 } w ((w.setCell ⟨C.M, 6, none⟩ (.int .i64 (s.lab + 1))).setCell ⟨C.M, 8, none⟩ (.int .i64 (s.inl + 1))) := by
    have h1 : Sg C { s with lab := s.lab + 1 } w (w.setCell ⟨C.M, 6, none⟩ (.int .i64 (s.lab + 1))) := Sg.upd ⟨hm, Gen.refl _ _ _ _⟩ 6 _ _ rfl ⟨rfl, rfl, rfl⟩ ⟨by simp only; omega, hm.lims.2.2.2.1, hm.lims.2.2.2.2.1, hm.lims.2.2.2.2.2.1, hm.lims.2.2.2.2.2.2⟩
    exact Sg.upd h1 8 (.int .i64 (s.inl + 1)) { s with lab := s.lab + 1, inl := s.inl + 1 } rfl ⟨rfl, rfl, rfl⟩ ⟨by simp only; omega, hm.lims.2.2.2.1, by simp only; omega, by simp only; have := hm.lims.2.2.2.2.2.1; omega, hm.lims.2.2.2.2.2.2⟩
  have HU := Lib.hid hU
  have HM := Lib.hid hm
  clear hbl hm hU
  go_enter Tryd.func70, Tryd.ntmps70
  go_wp2_with fail
  have hsgA := HU.out
  obtain ⟨cA0, cA6, _⟩ := HU.out.h60
  have hwA : w.heap.size ≤ ((w.setCell ⟨C.M, 6, none⟩ (.int .i64 (s.lab + 1))).setCell ⟨C.M, 8, none⟩ (.int .i64 (s.inl + 1))).heap.size := hsgA.2.size
  clear c6 f6 c8 f8 HU
  generalize (w.setCell ⟨C.M, 6, none⟩ (.int .i64 (s.lab + 1))).setCell ⟨C.M, 8, none⟩ (.int .i64 (s.inl + 1)) = wA at *
  simp only at cA6
  go_region_held3 (fun w' => w'.cell? ⟨C.M, 0, none⟩ = some (.pointer (some ⟨C.D, 0, none⟩)) ∧ w'.cell? ⟨C.M, 6, none⟩ = some (.int .i64 (s.lab + 1)) ∧ Sg C { s with lab := s.lab + 1, inl := s.inl + 1 } w w')
    (first
      | (with_reducible exact Sg.h60 (by with_reducible assumption))
      | (with_reducible exact Sg.h60 (Sg.drew (by with_reducible assumption)))
      | (with_reducible exact Sg.h60 (Sg.alloc (by with_reducible assumption) _))
      | (with_reducible exact Sg.h60 (Sg.drew (Sg.alloc (by with_reducible assumption) _)))
      | (with_reducible exact Sg.h60 (Sg.set8 HBase.out (by with_reducible assumption) (by with_reducible assumption) (by omega) _ _ _ _ _ _ _ _))
      | (go_split_ands; with_reducible exact Sg.h60 (by with_reducible assumption)))
    (first
      | (go_at_call 30; go_split_ands; rename_i hBg; refine (next_mk hBg.1 6 (by omega)).mono ?_; rintro e w4 ⟨mx, rfl, mx0, mx1, hm, hg⟩; have hsg := hBg.step hm hg; (try (have hbk := hBg.1.res hg (blk_drew_new _ _ _) (.inr rfl); obtain ⟨⟨r0, r1, r2, r3, r4, r5, r6, r7⟩, f0, f1, f2, f3, f4, f5, f6, f7⟩ := hbk.eight; have hlt8 := hbk.lt))))
  all_goals rename_i hHeld
  all_goals first
    | ((with_reducible have HB := Lib.hid (whB hHeld.2.2 hbk hwA)); generalize wA.heap.size = GS at *)
    | ((with_reducible have HB := Lib.hid (whA hHeld.2.2 hsg)); generalize w4.heap.size = GS at *)
  all_goals
    have HS := Lib.hid hHeld.2.2
    have hgs := HB.out.2.1
    have c00 := HS.out.1.c0
    have mx2 := Lib.hid (in5 ⟨mx0, mx1⟩)
    clear hHeld hm hg hsg hBg hsgA cA0 cA6 mx0 mx1
    go_wp2_with fail
    refine (next_mk HS.out.1 4 (by omega)).mono ?_
    rintro e w5 ⟨z, rfl, z0, z1, hm5, hg5⟩
    have HB5 := Lib.hid (HB.out.step HS.out.1 hg5)
    have HS5 := Lib.hid (HS.out.step hm5 hg5)
    clear hm5 hg5 HB HS c00 z0 z1
    cases hz : (z == 3)
    · have c05 := HS5.out.1.c0
      go_wp2_with fail
      refine (target_mk HS5.out.1).mono ?_
      rintro e w6 ⟨y, rfl, hy, hm6, hg6⟩
      have HY := Lib.hid hy
      have HB6 := Lib.hid (HB5.out.step HS5.out.1 hg6)
      have HS6 := Lib.hid (HS5.out.step hm6 hg6)
      have c06 := hm6.c0
      clear hm6 hg6 hy HB5 HS5 c05
      go_wp2_with fail
      refine (next_mk HS6.out.1 3 (by omega)).mono ?_
      rintro e w7 ⟨st, rfl, st0, st1, hm7, hg7⟩
      have HB7 := Lib.hid (HB6.out.step HS6.out.1 hg7)
      have HS7 := Lib.hid (HS6.out.step hm7 hg7)
      have HSt := Lib.hid (in2 ⟨st0, st1⟩)
      have st2 : st ≤ 2 := (in2 ⟨st0, st1⟩).2
      have c07 := hm7.c0
      clear hm7 hg7 HB6 HS6 c06 st1
      go_wp2_with fail
      refine (next_mk HS7.out.1 6 (by omega)).mono ?_
      rintro e w8 ⟨q, rfl, q0, q1, hm8, hg8⟩
      have HB8 := Lib.hid (HB7.out.step HS7.out.1 hg8)
      have HS8 := Lib.hid (HS7.out.step hm8 hg8)
      have HQ := Lib.hid (in5 ⟨q0, q1⟩)
      have c08 := hm8.c0
      clear hm8 hg8 HB7 HS7 c07 q0 q1
      go_wp2_with fail
      refine (num_any _ _).mono ?_
      rintro e w9 ⟨rfl, hb9⟩
      have HB9 := Lib.hid (HB8.out.step HS8.out.1 (Gen.below hb9 _ _ _))
      have HS9 := Lib.hid (HS8.out.step (HS8.out.1.below hb9) (Gen.below hb9 _ _ _))
      have c09 := HS9.out.1.c0
      have hM9 := HS9.out.1.blk.lt
      have HBa := Lib.hid (HB9.out.step HS9.out.1 (Gen.below ((Below.refl _ w9).alloc (Nat.le_refl _) (exRow 1 q ⟨#[]⟩ 0 none 0 0)) _ _ _))
      have HSa := Lib.hid (HS9.out.alloc (exRow 1 q ⟨#[]⟩ 0 none 0 0))
      have HTa := Lib.hid (Blk.new w9 91 #[.int .i64 1, .int .i64 q, .string ⟨#[]⟩, .int .i64 0, .slice none 0 0])
      have HZ9 := Lib.hid HS9.out.2.size
      clear hb9 HB8 HS8 c08 HB9 HS9
      go_wp2_with fail
      refine (next_mk HSa.out.1 3 (by omega)).mono ?_
      rintro e w10 ⟨z3, rfl, z30, z31, hmb, hgb⟩
      have HBb := Lib.hid (HBa.out.step HSa.out.1 hgb)
      have HSb := Lib.hid (HSa.out.step hmb hgb)
      have HTb := Lib.hid (HSa.out.1.res hgb HTa.out (.inl rfl))
      have hgtl : w9.heap.size < w10.heap.size := HTb.out.lt
      clear hmb hgb HBa HSa HTa c09 hM9 z30 z31
      cases hz3 : (z3 == 2)
      · have c2b := HSb.out.1.c2
        have f2b := HSb.out.1.blk.frozen 2
        have hMb := HSb.out.1.blk.lt
        obtain ⟨i0, hi0, hz0, hz1, hz2⟩ := info_parts Tryd.infoStr
        have HI := Lib.hid (And.intro hi0 (And.intro hz0 (And.intro hz1 hz2)))
        have hl2 : s.ls.length ≤ 1 := by have := HM.out.lims.2.2.2.2.2.1; omega
        have hbs : C.B ≤ w10.heap.size := HSb.out.1.base
        have HR := Lib.hid (HSb.out.1.row.alloc (.cells #[.string y] 9))
        clear hi0 hz0 hz1 hz2
        go_wp2_with (at_builtin; refine wpList_append_own _ rfl (.tmp 88) (.tmp 90) 28 rfl C.B 9 i0 _ 1 16 Tryd.underlying28 HI.out.1 HI.out.2.1 HI.out.2.2.1 HI.out.2.2.2 rfl (by decide) (.slice s.la s.ls.length s.lc) s.ls.length (s.ls.map Value.string) rfl HR.out _ _ _ [Value.string y] rfl rfl (cell_one_new _ _ _) (fun u hu => by simp at hu; subst hu; rfl) (by unfold maxLen; omega) (by omega) (by simp; omega) ?_; intro v2 w11 hown2 hgrow2 _; obtain ⟨gl, lcap, rfl, hglB, hgl⟩ := own_form hown2 (by omega); obtain ⟨⟨cu, c2c⟩, f2c, hpl⟩ := pushStep HSb.out HBb.out HTb.out HY.out hown2 hgrow2 hl2 (by have := HM.out.lims.2.2.2.2.2.1; simp only; omega); have HPL := Lib.hid hpl; clear hpl hown2 hgrow2)
        have hlk : Lk C { s with lab := s.lab + 1, inl := s.inl + 1, la := some ⟨gl, 0, none⟩, lc := lcap, ls := s.ls ++ [y] } w w9.heap.size GS 1 q ⟨#[]⟩ mx (s.lab + 1) (w11.setCell ⟨C.M, 2, none⟩ (.slice (some ⟨gl, 0, none⟩) (s.ls.length + 1) lcap)) := ⟨HPL.out.1, HPL.out.2.2, HPL.out.2.1.2.1, HBase.out, _, HPL.out.2.1.1⟩
        clear HPL c2c f2c c2b f2b hgl hglB HBb HSb HTb HR HI
        generalize w11.setCell ⟨C.M, 2, none⟩ (.slice (some ⟨gl, 0, none⟩) (s.ls.length + 1) lcap) = wB at *
        obtain ⟨cB0, t0, t1, t2, t3, t4, _⟩ := hlk.holds
        go_region_held3 (fun w' => w'.cell? ⟨C.M, 0, none⟩ = some (.pointer (some ⟨C.D, 0, none⟩)) ∧ w'.cell? ⟨w9.heap.size, 0, none⟩ = some (.int .i64 1) ∧ w'.cell? ⟨w9.heap.size, 1, none⟩ = some (.int .i64 q) ∧ w'.cell? ⟨w9.heap.size, 2, none⟩ = some (.string ⟨#[]⟩) ∧ w'.cell? ⟨w9.heap.size, 3, none⟩ = some (.int .i64 0) ∧ w'.cell? ⟨w9.heap.size, 4, none⟩ = some (.slice none 0 0) ∧
            Lk C { s with lab := s.lab + 1, inl := s.inl + 1, la := some ⟨gl, 0, none⟩, lc := lcap, ls := s.ls ++ [y] } w w9.heap.size GS 1 q ⟨#[]⟩ mx (s.lab + 1) w')
          (first
            | (with_reducible exact Lk.holds (by with_reducible assumption))
            | (with_reducible exact Lk.holds (Lk.drew (by with_reducible assumption)))
            | (with_reducible exact Lk.holds (Lk.alloc (by with_reducible assumption) _))
            | (with_reducible exact Lk.holds (Lk.alloc (Lk.set3 (by with_reducible assumption) _) _))
            | (go_split_ands; with_reducible exact Lk.holds (by with_reducible assumption)))
          (first
            | (go_at_call 82; go_split_ands; rename_i hBg; refine (hBg.bin _ _).mono ?_; rintro e w12 ⟨g', rfl, hbt, hlk4⟩; obtain ⟨u3, r3, f3, hlt3⟩ := hlk4.c3)
            | (go_at_call 84; go_split_ands; rename_i hBg; refine (hBg.nam _).mono ?_; rintro e w12 ⟨rfl, hlk4⟩)
            | (go_at_call 30; go_split_ands; rename_i hBg; refine (hBg.next _ (by omega)).mono ?_; rintro e w12 ⟨r, rfl, hIn, hlk4⟩))
        generalize hop : IntKind.i64.wrap (11 + r) = op at *
        have HOp := Lib.hid hop
        clear hop
        obtain ⟨hcg, hsW, hbW⟩ := Lk.leaf hlk4 hIn HOp.out.symm HY.out (.inl ⟨rfl, ⟨by have := HQ.out.1; omega, by have := HQ.out.2; omega⟩, rfl, rfl, rfl⟩) hbt
        have HC := Lib.hid hcg
        have HSW := Lib.hid hsW
        have HBW := Lib.hid hbW
        have hMW := hsW.1.blk.lt
        clear hcg hsW hbW hlk4 hlk hBg cB0 t0 t1 t2 t3 t4 r3 f3 hlt3 hbt
        go_wp2_with fail
        refine (HBL.out _ _ HSW.out.1).mono ?_
        rintro e w13 ⟨tb, vb, s1, rfl, ho1, hlo1, hhi1, hm13, hg13, ha13⟩
        have HO := Lib.hid ho1
        have HA := Lib.hid ha13
        have S13 := Lib.hid (show Sg C s1 w w13 from ⟨hm13, HSW.out.2.trans hg13⟩)
        have G13 := Lib.hid hg13
        clear ho1 hm13 hg13 ha13
        go_wp2_with fail
        refine (nam_any _ _).mono ?_
        rintro e w14 ⟨rfl, hb14⟩
        go_wp2_with fail
        refine (num_any _ _).mono ?_
        rintro e w15 ⟨rfl, hb15⟩
        go_wp2_with fail
        refine (bin_any _ _ _ _ _ _ _ _ _ _ _ _ _ _ _ _).mono ?_
        rintro e w16 ⟨g2, rfl, hg2, hbk2, hb16⟩
        have hbelow : Below w13.heap.size w13 w16 := hb14.trans ((hb15.mono hb14.size).trans (hb16.mono (Nat.le_trans hb14.size hb15.size)))
        have BL := Lib.hid hbelow
        have z13 := S13.out.2.size
        have zW := HSW.out.2.size
        have zg := G13.out.size
        have HI2 := Lib.hid (incOut (m := w13.heap.size) HY.out (show -2147483647 ≤ 1 + st ∧ 1 + st ≤ 2147483647 by omega) hbelow.size (Nat.le_trans (Nat.le_trans hb14.size hb15.size) hg2) hbk2)
        clear hb14 hb15 hb16 hbk2 hbelow
        obtain ⟨xs, ys, o1, o2, o3, o4, o5, o6, o7, o8, o9, o10, o11⟩ := loopAa S13.out G13.out HO.out BL.out HI2.out
        have OX := Lib.hid (And.intro o1 (And.intro o2 (And.intro o3 o4)))
        have OY := Lib.hid (And.intro o5 (And.intro o6 (And.intro o7 o8)))
        have OS := Lib.hid (And.intro o9 o10)
        have OL := Lib.hid o11
        clear o1 o2 o3 o4 o5 o6 o7 o8 o9 o10 o11 HI2 BL HO
        obtain ⟨i0, hi0, hz0, hz1, hz2⟩ := info_parts Tryd.infoStmt
        have HIS := Lib.hid (And.intro hi0 (And.intro hz0 (And.intro hz1 hz2)))
        clear hi0 hz0 hz1 hz2
        go_wp2_with (at_builtin; refine wpList_append_own_at _ rfl (.tmp 109) (.tmp 118) 64 rfl _ 88 i0 _ 8 136 Tryd.underlying64 HIS.out.1 HIS.out.2.1 HIS.out.2.2.1 HIS.out.2.2.2 rfl (by decide) vb tb.len xs rfl OX.out.1 ⟨w16.heap.size + 1, 0, none⟩ 1 1 ys rfl OY.out.1.1 (by have := OY.out.1.2; simpa using this) OY.out.2.1.one (by unfold maxLen; omega) (by omega) OL.out ?_; intro v3 w17 hown3 hgrow3 _ hat3; have ho3 := StOut.append OX.out.1 OX.out.2.1 OX.out.2.2.1 OX.out.2.2.2 OY.out.2.1 OY.out.2.2.1 (Nat.le_trans OY.out.2.2.2 hh) hown3 hgrow3 (by rcases hat3 with e | e; exact .inl e; exact .inr (.inl e)); obtain ⟨A3, l3, rfl, h71, hlt7, h72, h73⟩ := appStep HBase.out HBW.out HSW.out OS.out.1 OS.out.2 OX.out.1 hgrow3 ho3; have HT3 := Lib.hid ho3; obtain ⟨⟨q0, q1, q2, q3, q4, q5, q6, q7⟩, p0, p1, p2, p3, p4, p5, p6, p7⟩ := h71.eight; have HB7 := Lib.hid h72; have HS7 := Lib.hid h73; clear hown3 hgrow3 hat3 ho3 h71 h72 h73)
        clear q0 q1 q2 q3 q4 q5 q6 q7 p0 p1 p2 p3 p4 p5 p6 p7 hlt7 hMW
        generalize w17.setCell ⟨GS, 6, none⟩ (.slice A3 (tb.app (incSt y (1 + st))).len l3) = w18 at *
        have hls : s1.ls = s.ls ++ [y] := HA.out.1
        obtain ⟨gl1, hla, c28, f28, hcap, hcm⟩ := popFacts HS7.out hls
        have HP := Lib.hid (popStep HS7.out hls ⟨gl1, hla⟩)
        have HLA := Lib.hid hla
        have hM8 := HS7.out.1.blk.lt
        have hll : s.ls.length ≤ 1 := by have := HM.out.lims.2.2.2.2.2.1; omega
        unfold maxLen at hcm
        have e17 : IntKind.i64.wrap ((s.ls.length : Int) + 1 - 1) = (s.ls.length : Int) := by rw [IntWalk.i64_in _ (by omega)]; omega
        have e17b : ((s.ls.length : Int) + 1 - 1) = (s.ls.length : Int) := by omega
        clear hls hla OX OY OS OL HIS S13 G13
        go_region
        have hP := HP.out
        rw [HLA.out] at hP
        have hB9 := HB7.out.mset HS7.out.1 2 (.slice (some ⟨gl1, 0, none⟩) s.ls.length s1.lc)
        clear HP HB7 HS7 c28 f28 e17 e17b hM8
        generalize w18.setCell ⟨C.M, 2, none⟩ (.slice (some ⟨gl1, 0, none⟩) s.ls.length s1.lc) = w19 at *
        have c89 := hP.1.c8
        have f89 := hP.1.blk.frozen 8
        have ei : s1.inl = s.inl + 1 := HA.out.2.2
        simp only at c89
        rw [ei] at c89
        have HF := Lib.hid (show Fk C { s1 with la := some ⟨gl1, 0, none⟩, ls := s.ls, inl := s.inl } w GS _ _ _ _ _ mx (s.lab + 1) (tb.app (incSt y (1 + st))) (w19.setCell ⟨C.M, 8, none⟩ (.int .i64 s.inl)) from
          ⟨hP.upd 8 (.int .i64 s.inl) { s1 with la := some ⟨gl1, 0, none⟩, ls := s.ls, inl := s.inl } rfl ⟨rfl, rfl, rfl⟩ ⟨hP.1.lims.2.2.1, hP.1.lims.2.2.2.1, by simp only; omega, HM.out.lims.2.2.2.2.2.1, hP.1.lims.2.2.2.2.2.2⟩, hB9.mset hP.1 8 (.int .i64 s.inl)⟩)
        clear ei hP hB9
        go_wp2_with fail
        have hF := HF.out
        clear HF c89 f89
        generalize w19.setCell ⟨C.M, 8, none⟩ (.int .i64 s.inl) = w20 at *
        have hF := hF.drew
        obtain ⟨d0, d1, d2, d3, d4, d5, d6, d7, d8, _⟩ := hF.holds
        go_region_held3 (fun w' => w'.cell? ⟨C.M, 0, none⟩ = some (.pointer (some ⟨C.D, 0, none⟩)) ∧ w'.cell? ⟨GS, 0, none⟩ = some (.int .i64 4) ∧ w'.cell? ⟨GS, 1, none⟩ = some (.string ⟨#[]⟩) ∧ w'.cell? ⟨GS, 2, none⟩ = some (.slice none 0 0) ∧ w'.cell? ⟨GS, 3, none⟩ = some (.slice (some ⟨w12.heap.size, 0, none⟩) (Exs.cons 4 0 ⟨#[]⟩ op (.cons 2 0 y 0 .nil (.cons 1 q ⟨#[]⟩ 0 .nil .nil)) .nil).len 1) ∧
            w'.cell? ⟨GS, 4, none⟩ = some (.int .i64 mx) ∧ w'.cell? ⟨GS, 5, none⟩ = some (.int .i64 (s.lab + 1)) ∧ w'.cell? ⟨GS, 6, none⟩ = some (.slice A3 (tb.app (incSt y (1 + st))).len l3) ∧ w'.cell? ⟨GS, 7, none⟩ = some (.slice none 0 0) ∧
            Fk C { s1 with la := some ⟨gl1, 0, none⟩, ls := s.ls, inl := s.inl } w GS (some ⟨w12.heap.size, 0, none⟩) A3 1 l3 (.cons 4 0 ⟨#[]⟩ op (.cons 2 0 y 0 .nil (.cons 1 q ⟨#[]⟩ 0 .nil .nil)) .nil) mx (s.lab + 1) (tb.app (incSt y (1 + st))) w')
          (first
            | (with_reducible exact Fk.holds (by with_reducible assumption))
            | (with_reducible exact Fk.holds (Fk.drew (by with_reducible assumption)))
            | (with_reducible exact Fk.holds (Fk.alloc (by with_reducible assumption) _))
            | (with_reducible exact Fk.holds (Fk.alloc (Fk.alloc (by with_reducible assumption) _) _))
            | (go_split_ands; with_reducible exact Fk.holds (by with_reducible assumption)))
          (first
            | (go_at_call 81; go_split_ands; rename_i hBg; refine (hBg.num _).mono ?_; rintro e w22 ⟨rfl, hF4⟩)
            | (go_at_call 30; go_split_ands; rename_i hBg; refine (hBg.next _ (by omega)).mono ?_; rintro e w22 ⟨r3, rfl, hIn3, hF4⟩))
        go_wp2_with fail
        go_ret
        exact twoFin rfl hF4 hIn3 HY.out (show Alk s { s1 with la := some ⟨gl1, 0, none⟩, ls := s.ls, inl := s.inl } from ⟨rfl, HA.out.2.1, rfl⟩) (wh_good HC.out mx2.out ⟨by omega, by omega⟩ ⟨by obtain ⟨_, _, _, zz, _⟩ := HT3.out; exact zz, by obtain ⟨_, _, _, _, zz⟩ := HT3.out; exact zz, by rw [Sts.app_len]; simp only [incSt, Sts.len]; omega⟩) (by omega)
      · obtain ⟨vb, vf, ve, vc, vB, vlt, vD, vM, vR⟩ := HSb.out.1.vars.rd HSb.out.1.nums.1 HSb.out.1.nums.2.2.2.2.1
        have c1 := HSb.out.1.c1
        rw [ve] at c1
        have VN := Lib.hid (name_mk HSb.out.1 vb vf C.vs.length C.vc HSb.out.1.nums.1 (by have := HSb.out.1.nums.2.1; omega) vlt vD vR)
        clear ve vc vB vlt vD vM vR
        go_wp2_with fail
        refine VN.out.mono ?_
        rintro e wn ⟨xn, rfl, hxn, hmn, hgn⟩
        have HXN := Lib.hid hxn
        have HBn := Lib.hid (HBb.out.step HSb.out.1 hgn)
        have HSn := Lib.hid (HSb.out.step hmn hgn)
        have HTn := Lib.hid (HSb.out.1.res hgn HTb.out (.inl rfl))
        clear hxn hmn hgn VN c1 HBb HSb HTb
        go_wp2_with fail
        refine (nam_any _ _).mono ?_
        rintro e wo ⟨rfl, hbo⟩
        have HBo := Lib.hid (HBn.out.step HSn.out.1 (Gen.below hbo _ _ _))
        have HSo := Lib.hid (HSn.out.step (HSn.out.1.below hbo) (Gen.below hbo _ _ _))
        have HTo := Lib.hid (HTn.out.below hbo HTn.out.lt)
        clear hbo HBn HSn HTn
        obtain ⟨⟨b0, b1, b2, b3, b4⟩, g0, g1, g2, g3, g4⟩ := HTo.out.five
        have hgto : w.heap.size ≤ w9.heap.size := HZ9.out
        obtain ⟨hSb, hBb, hTb⟩ := topSet HBase.out HSo.out HBo.out HTo.out hgto (.int .i64 2) (.int .i64 0) (.string xn) (.int .i64 0) (.slice none 0 0)
        unfold set5 at hSb hBb hTb
        have hbs0 : C.B ≤ wo.heap.size := HSo.out.1.base
        have HSb := Lib.hid hSb
        have HBb := Lib.hid hBb
        have HTb := Lib.hid hTb
        have hMb := HSo.out.1.blk.lt
        have c2b := HSo.out.1.c2
        have f2b := HSo.out.1.blk.frozen 2
        have hne1 : C.M ≠ w9.heap.size := tag_ne HSo.out.1.blk.tag HTo.out.tag (by decide)
        have hne2 : w9.heap.size ≠ C.M := Ne.symm hne1
        clear hSb hBb hTb HBo HSo HTo
        obtain ⟨i0, hi0, hz0, hz1, hz2⟩ := info_parts Tryd.infoStr
        have HI := Lib.hid (And.intro hi0 (And.intro hz0 (And.intro hz1 hz2)))
        have hl2 : s.ls.length ≤ 1 := by have := HM.out.lims.2.2.2.2.2.1; omega
        have hbs : C.B ≤ wo.heap.size := hbs0
        have HR := Lib.hid (HSb.out.1.row.alloc (.cells #[.string y] 9))
        clear hi0 hz0 hz1 hz2
        go_wp2_with (at_builtin; refine wpList_append_own _ rfl (.tmp 88) (.tmp 90) 28 rfl C.B 9 i0 _ 1 16 Tryd.underlying28 HI.out.1 HI.out.2.1 HI.out.2.2.1 HI.out.2.2.2 rfl (by decide) (.slice s.la s.ls.length s.lc) s.ls.length (s.ls.map Value.string) rfl HR.out _ _ _ [Value.string y] rfl rfl (cell_one_at (by simp)) (fun u hu => by simp at hu; subst hu; rfl) (by unfold maxLen; omega) (by omega) (by simp; omega) ?_; intro v2 w11 hown2 hgrow2 _; obtain ⟨gl, lcap, rfl, hglB, hgl⟩ := own_form hown2 (by omega); obtain ⟨⟨cu, c2c⟩, f2c, hpl⟩ := pushStep HSb.out HBb.out HTb.out HY.out hown2 hgrow2 hl2 (by have := HM.out.lims.2.2.2.2.2.1; simp only; omega); have HPL := Lib.hid hpl; clear hpl hown2 hgrow2)
        have hlk : Lk C { s with lab := s.lab + 1, inl := s.inl + 1, la := some ⟨gl, 0, none⟩, lc := lcap, ls := s.ls ++ [y] } w w9.heap.size GS 2 0 xn mx (s.lab + 1) (w11.setCell ⟨C.M, 2, none⟩ (.slice (some ⟨gl, 0, none⟩) (s.ls.length + 1) lcap)) := ⟨HPL.out.1, HPL.out.2.2, HPL.out.2.1.2.1, HBase.out, _, HPL.out.2.1.1⟩
        clear HPL c2c f2c c2b f2b hgl hglB HBb HSb HTb HR HI
        generalize w11.setCell ⟨C.M, 2, none⟩ (.slice (some ⟨gl, 0, none⟩) (s.ls.length + 1) lcap) = wB at *
        obtain ⟨cB0, t0, t1, t2, t3, t4, _⟩ := hlk.holds
        go_region_held3 (fun w' => w'.cell? ⟨C.M, 0, none⟩ = some (.pointer (some ⟨C.D, 0, none⟩)) ∧ w'.cell? ⟨w9.heap.size, 0, none⟩ = some (.int .i64 2) ∧ w'.cell? ⟨w9.heap.size, 1, none⟩ = some (.int .i64 0) ∧ w'.cell? ⟨w9.heap.size, 2, none⟩ = some (.string xn) ∧ w'.cell? ⟨w9.heap.size, 3, none⟩ = some (.int .i64 0) ∧ w'.cell? ⟨w9.heap.size, 4, none⟩ = some (.slice none 0 0) ∧
            Lk C { s with lab := s.lab + 1, inl := s.inl + 1, la := some ⟨gl, 0, none⟩, lc := lcap, ls := s.ls ++ [y] } w w9.heap.size GS 2 0 xn mx (s.lab + 1) w')
          (first
            | (with_reducible exact Lk.holds (by with_reducible assumption))
            | (with_reducible exact Lk.holds (Lk.drew (by with_reducible assumption)))
            | (with_reducible exact Lk.holds (Lk.alloc (by with_reducible assumption) _))
            | (with_reducible exact Lk.holds (Lk.alloc (Lk.set3 (by with_reducible assumption) _) _))
            | (go_split_ands; with_reducible exact Lk.holds (by with_reducible assumption)))
          (first
            | (go_at_call 82; go_split_ands; rename_i hBg; refine (hBg.bin _ _).mono ?_; rintro e w12 ⟨g', rfl, hbt, hlk4⟩; obtain ⟨u3, r3, f3, hlt3⟩ := hlk4.c3)
            | (go_at_call 84; go_split_ands; rename_i hBg; refine (hBg.nam _).mono ?_; rintro e w12 ⟨rfl, hlk4⟩)
            | (go_at_call 30; go_split_ands; rename_i hBg; refine (hBg.next _ (by omega)).mono ?_; rintro e w12 ⟨r, rfl, hIn, hlk4⟩))
        generalize hop : IntKind.i64.wrap (11 + r) = op at *
        have HOp := Lib.hid hop
        clear hop
        obtain ⟨hcg, hsW, hbW⟩ := Lk.leaf hlk4 hIn HOp.out.symm HY.out (.inr (.inl ⟨rfl, rfl, HXN.out, rfl, rfl⟩)) hbt
        have HC := Lib.hid hcg
        have HSW := Lib.hid hsW
        have HBW := Lib.hid hbW
        have hMW := hsW.1.blk.lt
        clear hcg hsW hbW hlk4 hlk hBg cB0 t0 t1 t2 t3 t4 r3 f3 hlt3 hbt
        go_wp2_with fail
        refine (HBL.out _ _ HSW.out.1).mono ?_
        rintro e w13 ⟨tb, vb, s1, rfl, ho1, hlo1, hhi1, hm13, hg13, ha13⟩
        have HO := Lib.hid ho1
        have HA := Lib.hid ha13
        have S13 := Lib.hid (show Sg C s1 w w13 from ⟨hm13, HSW.out.2.trans hg13⟩)
        have G13 := Lib.hid hg13
        clear ho1 hm13 hg13 ha13
        go_wp2_with fail
        refine (nam_any _ _).mono ?_
        rintro e w14 ⟨rfl, hb14⟩
        go_wp2_with fail
        refine (num_any _ _).mono ?_
        rintro e w15 ⟨rfl, hb15⟩
        go_wp2_with fail
        refine (bin_any _ _ _ _ _ _ _ _ _ _ _ _ _ _ _ _).mono ?_
        rintro e w16 ⟨g2, rfl, hg2, hbk2, hb16⟩
        have hbelow : Below w13.heap.size w13 w16 := hb14.trans ((hb15.mono hb14.size).trans (hb16.mono (Nat.le_trans hb14.size hb15.size)))
        have BL := Lib.hid hbelow
        have z13 := S13.out.2.size
        have zW := HSW.out.2.size
        have zg := G13.out.size
        have HI2 := Lib.hid (incOut (m := w13.heap.size) HY.out (show -2147483647 ≤ 1 + st ∧ 1 + st ≤ 2147483647 by omega) hbelow.size (Nat.le_trans (Nat.le_trans hb14.size hb15.size) hg2) hbk2)
        clear hb14 hb15 hb16 hbk2 hbelow
        obtain ⟨xs, ys, o1, o2, o3, o4, o5, o6, o7, o8, o9, o10, o11⟩ := loopAa S13.out G13.out HO.out BL.out HI2.out
        have OX := Lib.hid (And.intro o1 (And.intro o2 (And.intro o3 o4)))
        have OY := Lib.hid (And.intro o5 (And.intro o6 (And.intro o7 o8)))
        have OS := Lib.hid (And.intro o9 o10)
        have OL := Lib.hid o11
        clear o1 o2 o3 o4 o5 o6 o7 o8 o9 o10 o11 HI2 BL HO
        obtain ⟨i0, hi0, hz0, hz1, hz2⟩ := info_parts Tryd.infoStmt
        have HIS := Lib.hid (And.intro hi0 (And.intro hz0 (And.intro hz1 hz2)))
        clear hi0 hz0 hz1 hz2
        go_wp2_with (at_builtin; refine wpList_append_own_at _ rfl (.tmp 109) (.tmp 118) 64 rfl _ 88 i0 _ 8 136 Tryd.underlying64 HIS.out.1 HIS.out.2.1 HIS.out.2.2.1 HIS.out.2.2.2 rfl (by decide) vb tb.len xs rfl OX.out.1 ⟨w16.heap.size + 1, 0, none⟩ 1 1 ys rfl OY.out.1.1 (by have := OY.out.1.2; simpa using this) OY.out.2.1.one (by unfold maxLen; omega) (by omega) OL.out ?_; intro v3 w17 hown3 hgrow3 _ hat3; have ho3 := StOut.append OX.out.1 OX.out.2.1 OX.out.2.2.1 OX.out.2.2.2 OY.out.2.1 OY.out.2.2.1 (Nat.le_trans OY.out.2.2.2 hh) hown3 hgrow3 (by rcases hat3 with e | e; exact .inl e; exact .inr (.inl e)); obtain ⟨A3, l3, rfl, h71, hlt7, h72, h73⟩ := appStep HBase.out HBW.out HSW.out OS.out.1 OS.out.2 OX.out.1 hgrow3 ho3; have HT3 := Lib.hid ho3; obtain ⟨⟨q0, q1, q2, q3, q4, q5, q6, q7⟩, p0, p1, p2, p3, p4, p5, p6, p7⟩ := h71.eight; have HB7 := Lib.hid h72; have HS7 := Lib.hid h73; clear hown3 hgrow3 hat3 ho3 h71 h72 h73)
        clear q0 q1 q2 q3 q4 q5 q6 q7 p0 p1 p2 p3 p4 p5 p6 p7 hlt7 hMW
        generalize w17.setCell ⟨GS, 6, none⟩ (.slice A3 (tb.app (incSt y (1 + st))).len l3) = w18 at *
        have hls : s1.ls = s.ls ++ [y] := HA.out.1
        obtain ⟨gl1, hla, c28, f28, hcap, hcm⟩ := popFacts HS7.out hls
        have HP := Lib.hid (popStep HS7.out hls ⟨gl1, hla⟩)
        have HLA := Lib.hid hla
        have hM8 := HS7.out.1.blk.lt
        have hll : s.ls.length ≤ 1 := by have := HM.out.lims.2.2.2.2.2.1; omega
        unfold maxLen at hcm
        have e17 : IntKind.i64.wrap ((s.ls.length : Int) + 1 - 1) = (s.ls.length : Int) := by rw [IntWalk.i64_in _ (by omega)]; omega
        have e17b : ((s.ls.length : Int) + 1 - 1) = (s.ls.length : Int) := by omega
        clear hls hla OX OY OS OL HIS S13 G13
        go_region
        have hP := HP.out
        rw [HLA.out] at hP
        have hB9 := HB7.out.mset HS7.out.1 2 (.slice (some ⟨gl1, 0, none⟩) s.ls.length s1.lc)
        clear HP HB7 HS7 c28 f28 e17 e17b hM8
        generalize w18.setCell ⟨C.M, 2, none⟩ (.slice (some ⟨gl1, 0, none⟩) s.ls.length s1.lc) = w19 at *
        have c89 := hP.1.c8
        have f89 := hP.1.blk.frozen 8
        have ei : s1.inl = s.inl + 1 := HA.out.2.2
        simp only at c89
        rw [ei] at c89
        have HF := Lib.hid (show Fk C { s1 with la := some ⟨gl1, 0, none⟩, ls := s.ls, inl := s.inl } w GS _ _ _ _ _ mx (s.lab + 1) (tb.app (incSt y (1 + st))) (w19.setCell ⟨C.M, 8, none⟩ (.int .i64 s.inl)) from
          ⟨hP.upd 8 (.int .i64 s.inl) { s1 with la := some ⟨gl1, 0, none⟩, ls := s.ls, inl := s.inl } rfl ⟨rfl, rfl, rfl⟩ ⟨hP.1.lims.2.2.1, hP.1.lims.2.2.2.1, by simp only; omega, HM.out.lims.2.2.2.2.2.1, hP.1.lims.2.2.2.2.2.2⟩, hB9.mset hP.1 8 (.int .i64 s.inl)⟩)
        clear ei hP hB9
        go_wp2_with fail
        have hF := HF.out
        clear HF c89 f89
        generalize w19.setCell ⟨C.M, 8, none⟩ (.int .i64 s.inl) = w20 at *
        have hF := hF.drew
        obtain ⟨d0, d1, d2, d3, d4, d5, d6, d7, d8, _⟩ := hF.holds
        go_region_held3 (fun w' => w'.cell? ⟨C.M, 0, none⟩ = some (.pointer (some ⟨C.D, 0, none⟩)) ∧ w'.cell? ⟨GS, 0, none⟩ = some (.int .i64 4) ∧ w'.cell? ⟨GS, 1, none⟩ = some (.string ⟨#[]⟩) ∧ w'.cell? ⟨GS, 2, none⟩ = some (.slice none 0 0) ∧ w'.cell? ⟨GS, 3, none⟩ = some (.slice (some ⟨w12.heap.size, 0, none⟩) (Exs.cons 4 0 ⟨#[]⟩ op (.cons 2 0 y 0 .nil (.cons 2 0 xn 0 .nil .nil)) .nil).len 1) ∧
            w'.cell? ⟨GS, 4, none⟩ = some (.int .i64 mx) ∧ w'.cell? ⟨GS, 5, none⟩ = some (.int .i64 (s.lab + 1)) ∧ w'.cell? ⟨GS, 6, none⟩ = some (.slice A3 (tb.app (incSt y (1 + st))).len l3) ∧ w'.cell? ⟨GS, 7, none⟩ = some (.slice none 0 0) ∧
            Fk C { s1 with la := some ⟨gl1, 0, none⟩, ls := s.ls, inl := s.inl } w GS (some ⟨w12.heap.size, 0, none⟩) A3 1 l3 (.cons 4 0 ⟨#[]⟩ op (.cons 2 0 y 0 .nil (.cons 2 0 xn 0 .nil .nil)) .nil) mx (s.lab + 1) (tb.app (incSt y (1 + st))) w')
          (first
            | (with_reducible exact Fk.holds (by with_reducible assumption))
            | (with_reducible exact Fk.holds (Fk.drew (by with_reducible assumption)))
            | (with_reducible exact Fk.holds (Fk.alloc (by with_reducible assumption) _))
            | (with_reducible exact Fk.holds (Fk.alloc (Fk.alloc (by with_reducible assumption) _) _))
            | (go_split_ands; with_reducible exact Fk.holds (by with_reducible assumption)))
          (first
            | (go_at_call 81; go_split_ands; rename_i hBg; refine (hBg.num _).mono ?_; rintro e w22 ⟨rfl, hF4⟩)
            | (go_at_call 30; go_split_ands; rename_i hBg; refine (hBg.next _ (by omega)).mono ?_; rintro e w22 ⟨r3, rfl, hIn3, hF4⟩))
        go_wp2_with fail
        go_ret
        exact twoFin rfl hF4 hIn3 HY.out (show Alk s { s1 with la := some ⟨gl1, 0, none⟩, ls := s.ls, inl := s.inl } from ⟨rfl, HA.out.2.1, rfl⟩) (wh_good HC.out mx2.out ⟨by omega, by omega⟩ ⟨by obtain ⟨_, _, _, zz, _⟩ := HT3.out; exact zz, by obtain ⟨_, _, _, _, zz⟩ := HT3.out; exact zz, by rw [Sts.app_len]; simp only [incSt, Sts.len]; omega⟩) (by omega)
    · go_wp2_with fail
      refine (cond_mk HS5.out.1).mono ?_
      rintro e w6 ⟨k, n, x, o, a, A, c, rfl, he, hm6, hg6⟩
      obtain ⟨h61, hlt6, h62, h63⟩ := valStep (m := 0) HBase.out HB5.out HS5.out he hm6 hg6
      obtain ⟨⟨q0, q1, q2, q3, q4, q5, q6, q7⟩, p0, p1, p2, p3, p4, p5, p6, p7⟩ := h61.eight
      have HC := Lib.hid (show CondG k n x o a from ⟨he.2.1, he.2.2.1, he.2.2.2.1⟩)
      have HB6 := Lib.hid h62
      have HS6 := Lib.hid h63
      clear h61 h62 h63 he hm6 hg6 HB5 HS5
      go_wp2_with fail
      refine (HBL.out _ _ HS6.out.1).mono ?_
      rintro e w7 ⟨t1, v1, s1, rfl, ho1, hlo1, hhi1, hm7, hg7, ha7⟩
      clear q0 q1 q2 q3 q4 q5 q6 q7 p0 p1 p2 p3 p4 p5 p6 p7
      obtain ⟨A1, l1, rfl, h71, hlt7, h72, h73, h74, h75⟩ := thenStep HBase.out HB6.out HS6.out ho1 hm7 hg7
      obtain ⟨⟨q0, q1, q2, q3, q4, q5, q6, q7⟩, p0, p1, p2, p3, p4, p5, p6, p7⟩ := h71.eight
      have c87 := h73.1.c8
      have f87 := h73.1.blk.frozen 8
      have ei : s1.inl = s.inl + 1 := ha7.2.2
      rw [ei] at c87
      have HA := Lib.hid ha7
      have HL := Lib.hid (And.intro (h73.upd 8 (.int .i64 s.inl) { s1 with inl := s.inl } rfl ⟨rfl, rfl, rfl⟩ ⟨h73.1.lims.2.2.1, h73.1.lims.2.2.2.1, by simp only; omega, by have := HM.out.lims.2.2.2.2.2.1; simp only; rw [ha7.1]; exact this, h73.1.lims.2.2.2.2.2.2⟩) (h72.mset h73.1 8 (.int .i64 s.inl)))
      have HT := Lib.hid (And.intro h74 (And.intro h75 (show t1.len ≤ 5 by omega)))
      clear h71 h72 h73 h74 h75 ho1 hm7 hg7 ha7 ei HB6 HS6 hlo1 hhi1
      go_wp2_with fail
      go_ret
      exact stFin (by simp) HL.out.2 HL.out.1 (show Alk s { s1 with inl := s.inl } from ⟨HA.out.1, HA.out.2.1, rfl⟩) (wh_good HC.out mx2.out ⟨by omega, by omega⟩ HT.out).1 (wh_good HC.out mx2.out ⟨by omega, by omega⟩ HT.out).2
end
end Go.Proofs.YtbppfhlpielpcaaDoor
