/- The specification's shapes of statements. -/
import Derived.Test.YtbppfhlpielpcaaDoorRfShape
namespace Go.Proofs.YtbppfhlpielpcaaDoor
open Go.RowKit Tk
set_option linter.unusedVariables false
set_option maxHeartbeats 1000000 in
theorem one_any (a : Exs) (A : Option Addr) (c : Nat) (S : Nat → Prop) (w : World) (hl : a.len = 1) (hg : a.Good) (hh : a.height ≤ 19) (hat : a.At w S A) :
    Calls Tryd.prog 64 #[.slice A a.len c] w fun e w' => e = .returned (.bool true) ∧ Below w.heap.size w w' := by
  obtain ⟨b, f, rfl⟩ := hat.some (by omega)
  obtain ⟨k0, n0, s0, o0, a0, B0, c0, hb0, hd0, hc0, ha0⟩ := at_cells hat (i := 0) (g := f) (by omega) (by omega)
  have hg0 := hg.drop 0
  have hh0 := Exs.drop_height a 0
  rw [hd0] at hg0 hh0
  simp only [Exs.height] at hh0
  have HC := Lib.hid (shaped_any a0.height a0 B0 c0 k0 n0 o0 1 s0 S w rfl hg0.1 hg0.2.1 ha0 (by omega) (by omega))
  obtain ⟨y0, y1, y2, y3, y4⟩ := hc0
  rw [hl]
  clear hl hg hh hat hd0 ha0 hg0 hh0
  go_enter Tryd.func64, Tryd.ntmps64
  go_wp2_with fail
  refine HC.out.mono ?_
  rintro e w1 ⟨rfl, hb⟩
  have HB := Lib.hid hb
  clear hb
  go_wp2_with fail
  go_ret
  exact ⟨rfl, HB.out⟩
theorem cast_len {a : Exs} {A : Option Addr} {c : Nat} {f : Nat} {w : World} {Q : Ending → World → Prop} (h : a.len = 1) (hc : Calls Tryd.prog f #[.slice A a.len c] w Q) : Calls Tryd.prog f #[.slice A 1 c] w Q := by rw [h] at hc; exact hc
set_option maxRecDepth 100000 in
set_option maxHeartbeats 6000000 in
theorem stmts_any (N : Nat) : ∀ (a : Sts) (A : Option Addr) (c : Nat) (d : Int) (S : Nat → Prop) (w : World), a.height = N → a.Good → a.len ≤ maxLen → a.At w S A → 1 ≤ d → d + a.height ≤ 20 →
    Calls Tryd.prog 52 #[.slice A a.len c, .int .i64 d] w fun e w' => e = .returned (.bool true) ∧ Below w.heap.size w w' := by
  induction N using Nat.strongRecOn with
  | _ N ih =>
    intro a A c d S w hh hgood hlen hat h1 h20
    have IH := Lib.hid ih
    have HW := Lib.hid (And.intro hgood (And.intro hat (And.intro hh h20)))
    unfold maxLen at hlen
    have hd20 : d ≤ 20 := by omega
    have hd' : decide (d ≤ 20) = true := by simp; omega
    obtain ⟨len, hl⟩ : ∃ len, a.len = len := ⟨_, rfl⟩
    have HL := Lib.hid hl
    rw [hl] at hlen
    rw [hl]
    clear ih hgood hat hh hl h20
    go_enter Tryd.func52, Tryd.ntmps52
    go_wp2
    go_loopw [5] (fun i wr => ∃ j : Nat, j ≤ len ∧ i = .int .i64 j ∧ Hid (Below w.heap.size w wr)) (fun i _ => len - (intOf i).toNat)
    case atStart => exact ⟨0, Nat.zero_le _, rfl, Lib.hid (Below.refl _ _)⟩
    case round =>
      obtain ⟨j, hj, rfl, hR⟩ := hrel
      by_cases hlt : j < len
      · obtain ⟨b, f, k, s, i, v, m, l, tt, ee, B2, c2, B3, c3, B6, c6, B7, c7, hA, hbl, hdr, ⟨e0, e1, e2, e3, e4, e5, e6, e7⟩, hi, hv, ht, he⟩ := sts_elem HW.out.2.1 (by rw [HL.out]; exact hlt)
        have hb := hR.out
        have g0 := (hb.cell (p := ⟨b, f + j * 8, none⟩) hbl).trans e0
        have g1 := (hb.cell (p := ⟨b, f + j * 8 + 1, none⟩) hbl).trans e1
        have g2 := (hb.cell (p := ⟨b, f + j * 8 + 2, none⟩) hbl).trans e2
        have g3 := (hb.cell (p := ⟨b, f + j * 8 + 3, none⟩) hbl).trans e3
        have g4 := (hb.cell (p := ⟨b, f + j * 8 + 4, none⟩) hbl).trans e4
        have g5 := (hb.cell (p := ⟨b, f + j * 8 + 5, none⟩) hbl).trans e5
        have g6 := (hb.cell (p := ⟨b, f + j * 8 + 6, none⟩) hbl).trans e6
        have g7 := (hb.cell (p := ⟨b, f + j * 8 + 7, none⟩) hbl).trans e7
        have hg := HW.out.1.drop j
        rw [hdr] at hg
        obtain ⟨hnode, ⟨hig, hih⟩, ⟨hvg, hvh⟩, ⟨htg, htl⟩, ⟨heg, hel⟩, _⟩ := hg
        have hht : tt.height < N ∧ ee.height < N ∧ d + 1 + tt.height ≤ 20 ∧ d + 1 + ee.height ≤ 20 := by
          have q := a.drop_height j
          rw [hdr] at q
          simp only [Sts.height] at q
          have := HW.out.2.2.1
          have := HW.out.2.2.2
          omega
        have HT := Lib.hid (fun (W : World) (h : Below w.heap.size w W) => IH.out tt.height hht.1 tt B6 c6 (d + 1) S W rfl htg (by unfold maxLen; omega) (ht.2.keep h.size fun q hq hl => ⟨hq, fun f => h.cell (p := ⟨q, f, none⟩) hl⟩) (by omega) (by have := hht.2.2.1; omega))
        have HE := Lib.hid (fun (W : World) (h : Below w.heap.size w W) => IH.out ee.height hht.2.1 ee B7 c7 (d + 1) S W rfl heg (by unfold maxLen; omega) (he.2.keep h.size fun q hq hl => ⟨hq, fun f => h.cell (p := ⟨q, f, none⟩) hl⟩) (by omega) (by have := hht.2.2.2; omega))
        have HI := Lib.hid (fun (W : World) (h : Below w.heap.size w W) (h1 : i.len = 1) => one_any i B2 c2 S W h1 hig (by omega) (hi.2.keep h.size fun q hq hl => ⟨hq, fun f => h.cell (p := ⟨q, f, none⟩) hl⟩))
        have HV := Lib.hid (fun (W : World) (h : Below w.heap.size w W) (h1 : v.len = 1) => one_any v B3 c3 S W h1 hvg (by omega) (hv.2.keep h.size fun q hq hl => ⟨hq, fun f => h.cell (p := ⟨q, f, none⟩) hl⟩))
        have HX := Lib.hid (Blk.new wr 88 #[.int .i64 k, .string s, .slice B2 i.len c2, .slice B3 v.len c3, .int .i64 m, .int .i64 l, .slice B6 tt.len c6, .slice B7 ee.len c7])
        have HB := Lib.hid (hb.alloc hb.size (.cells #[.int .i64 k, .string s, .slice B2 i.len c2, .slice B3 v.len c3, .int .i64 m, .int .i64 l, .slice B6 tt.len c6, .slice B7 ee.len c7] 88))
        have hlt' : (j : Int) < len := by omega
        subst hA
        clear e0 e1 e2 e3 e4 e5 e6 e7 hi hv ht he hdr hht hig hih hvg hvh htg htl heg hel hb
        rcases hnode with ⟨rfl, hs, hil, hvl, rfl, rfl, htl, hel⟩ | ⟨rfl, hs, hil, hvl, rfl, rfl, htl, hel⟩ | ⟨rfl, rfl, hil, hvl, rfl, hlb⟩ | ⟨rfl, rfl, hil, hvl, hmb, hlb, hel⟩ | ⟨rfl, hs, hil, hvl, rfl, rfl, hel⟩
        · skip
          have hil0 := hil
          have hvl0 := hvl
          rw [hil] at g2 HX HB
          rw [hvl] at g3 HX HB
          rw [htl] at g6 HX HB
          rw [hel] at g7 HX HB
          go_wp2_with fail
          refine (name4_any s hs.nam _).mono ?_
          rintro e w1 ⟨rfl, hb⟩
          have HX1 := Lib.hid (HX.out.below hb HX.out.lt)
          have HB1 := Lib.hid (HB.out.trans (hb.mono HB.out.size))
          clear g0 g1 g2 g3 g4 g5 g6 g7
          obtain ⟨⟨r0, r1, r2, r3, r4, r5, r6, r7⟩, _⟩ := HX1.out.eight
          clear hb
          go_wp2_with fail
          refine (cast_len hvl0 (HV.out _ HB1.out hvl0)).mono ?_
          rintro e w2 ⟨rfl, hb⟩
          have HX2 := Lib.hid (HX1.out.below hb HX1.out.lt)
          have HB2 := Lib.hid (HB1.out.trans (hb.mono HB1.out.size))
          clear r0 r1 r2 r3 r4 r5 r6 r7
          obtain ⟨⟨r0, r1, r2, r3, r4, r5, r6, r7⟩, _⟩ := HX2.out.eight
          clear hb
          go_wp2_with fail
          go_roundw
          case rel => exact ⟨j + 1, by omega, by go_num, HB2⟩
          case measure => simp [intOf]; omega
        · skip
          have hil0 := hil
          have hvl0 := hvl
          rw [hil] at g2 HX HB
          rw [hvl] at g3 HX HB
          rw [htl] at g6 HX HB
          rw [hel] at g7 HX HB
          go_wp2_with fail
          refine (name4_any s hs.nam _).mono ?_
          rintro e w1 ⟨rfl, hb⟩
          have HX1 := Lib.hid (HX.out.below hb HX.out.lt)
          have HB1 := Lib.hid (HB.out.trans (hb.mono HB.out.size))
          clear g0 g1 g2 g3 g4 g5 g6 g7
          obtain ⟨⟨r0, r1, r2, r3, r4, r5, r6, r7⟩, _⟩ := HX1.out.eight
          clear hb
          go_wp2_with fail
          refine (cast_len hil0 (HI.out _ HB1.out hil0)).mono ?_
          rintro e w2 ⟨rfl, hb⟩
          have HX2 := Lib.hid (HX1.out.below hb HX1.out.lt)
          have HB2 := Lib.hid (HB1.out.trans (hb.mono HB1.out.size))
          clear r0 r1 r2 r3 r4 r5 r6 r7
          obtain ⟨⟨r0, r1, r2, r3, r4, r5, r6, r7⟩, _⟩ := HX2.out.eight
          clear hb
          go_wp2_with fail
          refine (cast_len hvl0 (HV.out _ HB2.out hvl0)).mono ?_
          rintro e w3 ⟨rfl, hb⟩
          have HX3 := Lib.hid (HX2.out.below hb HX2.out.lt)
          have HB3 := Lib.hid (HB2.out.trans (hb.mono HB2.out.size))
          clear r0 r1 r2 r3 r4 r5 r6 r7
          obtain ⟨⟨r0, r1, r2, r3, r4, r5, r6, r7⟩, _⟩ := HX3.out.eight
          clear hb
          go_wp2_with fail
          go_roundw
          case rel => exact ⟨j + 1, by omega, by go_num, HB3⟩
          case measure => simp [intOf]; omega
        · skip
          have hil0 := hil
          have hvl0 := hvl
          obtain ⟨lb0, lb1⟩ := hlb
          rw [hil] at g2 HX HB
          rw [hvl] at g3 HX HB
          go_wp2_with fail
          refine (cast_len hvl0 (HV.out _ HB.out hvl0)).mono ?_
          rintro e w1 ⟨rfl, hb⟩
          have HX1 := Lib.hid (HX.out.below hb HX.out.lt)
          have HB1 := Lib.hid (HB.out.trans (hb.mono HB.out.size))
          clear g0 g1 g2 g3 g4 g5 g6 g7
          obtain ⟨⟨r0, r1, r2, r3, r4, r5, r6, r7⟩, _⟩ := HX1.out.eight
          clear hb
          go_wp2_with fail
          refine (plain_any l (by omega) _).mono ?_
          rintro e w0 ⟨rfl, rfl⟩
          go_wp2_with fail
          refine (HT.out _ HB1.out).mono ?_
          rintro e w2 ⟨rfl, hb⟩
          have HX2 := Lib.hid (HX1.out.below hb HX1.out.lt)
          have HB2 := Lib.hid (HB1.out.trans (hb.mono HB1.out.size))
          clear r0 r1 r2 r3 r4 r5 r6 r7
          obtain ⟨⟨r0, r1, r2, r3, r4, r5, r6, r7⟩, _⟩ := HX2.out.eight
          clear hb
          go_wp2_with fail
          refine (HE.out _ HB2.out).mono ?_
          rintro e w3 ⟨rfl, hb⟩
          have HX3 := Lib.hid (HX2.out.below hb HX2.out.lt)
          have HB3 := Lib.hid (HB2.out.trans (hb.mono HB2.out.size))
          clear r0 r1 r2 r3 r4 r5 r6 r7
          obtain ⟨⟨r0, r1, r2, r3, r4, r5, r6, r7⟩, _⟩ := HX3.out.eight
          clear hb
          go_wp2_with fail
          go_roundw
          case rel => exact ⟨j + 1, by omega, by go_num, HB3⟩
          case measure => simp [intOf]; omega
        · skip
          have hil0 := hil
          have hvl0 := hvl
          obtain ⟨lb0, lb1⟩ := hlb
          obtain ⟨mb0, mb1⟩ := hmb
          rw [hil] at g2 HX HB
          rw [hvl] at g3 HX HB
          rw [hel] at g7 HX HB
          go_wp2_with fail
          refine (cast_len hvl0 (HV.out _ HB.out hvl0)).mono ?_
          rintro e w1 ⟨rfl, hb⟩
          have HX1 := Lib.hid (HX.out.below hb HX.out.lt)
          have HB1 := Lib.hid (HB.out.trans (hb.mono HB.out.size))
          clear g0 g1 g2 g3 g4 g5 g6 g7
          obtain ⟨⟨r0, r1, r2, r3, r4, r5, r6, r7⟩, _⟩ := HX1.out.eight
          clear hb
          go_wp2_with fail
          refine (plain_any m (by omega) _).mono ?_
          rintro e w0 ⟨rfl, rfl⟩
          go_wp2_with fail
          refine (plain_any l (by omega) _).mono ?_
          rintro e w0 ⟨rfl, rfl⟩
          go_wp2_with fail
          refine (HT.out _ HB1.out).mono ?_
          rintro e w2 ⟨rfl, hb⟩
          have HX2 := Lib.hid (HX1.out.below hb HX1.out.lt)
          have HB2 := Lib.hid (HB1.out.trans (hb.mono HB1.out.size))
          clear r0 r1 r2 r3 r4 r5 r6 r7
          obtain ⟨⟨r0, r1, r2, r3, r4, r5, r6, r7⟩, _⟩ := HX2.out.eight
          clear hb
          go_wp2_with fail
          go_roundw
          case rel => exact ⟨j + 1, by omega, by go_num, HB2⟩
          case measure => simp [intOf]; omega
        · skip
          have hil0 := hil
          have hvl0 := hvl
          rw [hil] at g2 HX HB
          rw [hvl] at g3 HX HB
          rw [hel] at g7 HX HB
          go_wp2_with fail
          refine (name4_any s hs.nam _).mono ?_
          rintro e w1 ⟨rfl, hb⟩
          have HX1 := Lib.hid (HX.out.below hb HX.out.lt)
          have HB1 := Lib.hid (HB.out.trans (hb.mono HB.out.size))
          clear g0 g1 g2 g3 g4 g5 g6 g7
          obtain ⟨⟨r0, r1, r2, r3, r4, r5, r6, r7⟩, _⟩ := HX1.out.eight
          clear hb
          go_wp2_with fail
          refine (HT.out _ HB1.out).mono ?_
          rintro e w2 ⟨rfl, hb⟩
          have HX2 := Lib.hid (HX1.out.below hb HX1.out.lt)
          have HB2 := Lib.hid (HB1.out.trans (hb.mono HB1.out.size))
          clear r0 r1 r2 r3 r4 r5 r6 r7
          obtain ⟨⟨r0, r1, r2, r3, r4, r5, r6, r7⟩, _⟩ := HX2.out.eight
          clear hb
          go_wp2_with fail
          go_roundw
          case rel => exact ⟨j + 1, by omega, by go_num, HB2⟩
          case measure => simp [intOf]; omega
      · have hlt' : ¬ (j : Int) < len := by omega
        go_wp2
        go_ret
        exact ⟨rfl, hR.out⟩
end Go.Proofs.YtbppfhlpielpcaaDoor
