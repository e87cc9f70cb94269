/- The specification's deep: no program that the generator makes is. -/
import Derived.Test.YtbppfhlpielpcaaDoorRfDepth
import Derived.Test.YtbppfhlpielpcaaDoorGnProg
namespace Go.Proofs.YtbppfhlpielpcaaDoor
open Go.RowKit
set_option linter.unusedVariables false
theorem Sts.Good.drop : ∀ {t : Sts} (_ : t.Good) (i : Nat), (t.drop i).Good
  | t, h, 0 => by rw [Sts.drop_zero]; exact h
  | .nil, h, _ + 1 => h
  | .cons _ _ _ _ _ _ _ _ r, h, i + 1 => Sts.Good.drop (t := r) h.2.2.2.2.2 i
theorem Exs.Good.drop : ∀ {t : Exs} (_ : t.Good) (i : Nat), (t.drop i).Good
  | t, h, 0 => by rw [Exs.drop_zero]; exact h
  | .nil, h, _ + 1 => h
  | .cons _ _ _ _ _ r, h, i + 1 => Exs.Good.drop (t := r) h.2.2 i
set_option maxRecDepth 100000 in
set_option maxHeartbeats 2000000 in
theorem rdeep_any (N : Nat) : ∀ (a : Sts) (A : Option Addr) (c : Nat) (d : Int) (S : Nat → Prop) (w : World), a.height = N → a.Good → a.len ≤ maxLen → a.At w S A → 1 ≤ d → d + a.height ≤ 9 →
    Calls Tryd.prog 42 #[.slice A a.len c, .int .i64 d] w fun e w' => e = .returned (.bool false) ∧ Below w.heap.size w w' := by
  induction N using Nat.strongRecOn with
  | _ N ih =>
    intro a A c d S w hh hgood hlen hat h1 h9
    have IH := Lib.hid ih
    have HW := Lib.hid (And.intro hgood (And.intro hat (And.intro hh h9)))
    unfold maxLen at hlen
    obtain ⟨len, hl⟩ : ∃ len, a.len = len := ⟨_, rfl⟩
    have HL := Lib.hid hl
    rw [hl] at hlen
    rw [hl]
    clear ih hgood hat hh hl h9
    go_enter Tryd.func42, Tryd.ntmps42
    go_wp2
    go_loopw [5] (fun i wr => ∃ j : Nat, j ≤ len ∧ i = .int .i64 j ∧ Hid (Below w.heap.size w wr)) (fun i _ => len - (intOf i).toNat)
    case atStart => exact ⟨0, Nat.zero_le _, rfl, Lib.hid (Below.refl _ _)⟩
    case round =>
      obtain ⟨j, hj, rfl, hR⟩ := hrel
      by_cases hlt : j < len
      · obtain ⟨b, f, k, s, i, v, m, l, tt, ee, B2, c2, B3, c3, B6, c6, B7, c7, hA, hbl, hdr, ⟨e0, e1, e2, e3, e4, e5, e6, e7⟩, hi, hv, ht, he⟩ := sts_elem HW.out.2.1 (by rw [HL.out]; exact hlt)
        have hg := HW.out.1.drop j
        rw [hdr] at hg
        obtain ⟨hnode, ⟨hig, hih⟩, ⟨hvg, hvh⟩, ⟨htg, htl⟩, ⟨heg, hel⟩, _⟩ := hg
        have hht : tt.height < N ∧ ee.height < N ∧ d + 1 + tt.height ≤ 9 ∧ d + 1 + ee.height ≤ 9 ∧ d ≤ 8 := by
          have q := a.drop_height j
          rw [hdr] at q
          simp only [Sts.height] at q
          have := HW.out.2.2.1
          have := HW.out.2.2.2
          omega
        have hd' : decide (8 < d) = false := by simp; omega
        have hd8 : d ≤ 8 := hht.2.2.2.2
        have hil : i.len ≤ 1 ∧ v.len ≤ 1 := by
          rcases hnode with ⟨_, _, h, h', _⟩ | ⟨_, _, h, h', _⟩ | ⟨_, _, h, h', _⟩ | ⟨_, _, h, h', _⟩ | ⟨_, _, h, h', _⟩ <;> omega
        have HC := Lib.hid (fun (W : World) (h : Below w.heap.size w W) => And.intro ((h.cell (p := ⟨b, f + j * 8 + 2, none⟩) hbl).trans e2) (And.intro ((h.cell (p := ⟨b, f + j * 8 + 3, none⟩) hbl).trans e3) (And.intro ((h.cell (p := ⟨b, f + j * 8 + 6, none⟩) hbl).trans e6) ((h.cell (p := ⟨b, f + j * 8 + 7, none⟩) hbl).trans e7))))
        have HT := Lib.hid (fun (W : World) (h : Below w.heap.size w W) => IH.out tt.height hht.1 tt B6 c6 (d + 1) S W rfl htg (by unfold maxLen; omega) (ht.2.keep h.size fun q hq hl => ⟨hq, fun f => h.cell (p := ⟨q, f, none⟩) hl⟩) (by omega) (by have := hht.2.2.1; omega))
        have HE := Lib.hid (fun (W : World) (h : Below w.heap.size w W) => IH.out ee.height hht.2.1 ee B7 c7 (d + 1) S W rfl heg (by unfold maxLen; omega) (he.2.keep h.size fun q hq hl => ⟨hq, fun f => h.cell (p := ⟨q, f, none⟩) hl⟩) (by omega) (by have := hht.2.2.2.1; omega))
        have HI := Lib.hid (And.intro hig (And.intro hih (And.intro hi.1 hi.2)))
        have HV := Lib.hid (And.intro hvg (And.intro hvh (And.intro hv.1 hv.2)))
        have hlt' : (j : Int) < len := by omega
        obtain ⟨hil1, hvl1⟩ := hil
        obtain ⟨g2, g3, g6, g7⟩ := HC.out _ hR.out
        subst hA
        clear e0 e1 e2 e3 e4 e5 e6 e7 hi hv ht he hdr hht hnode hig hih hvg hvh htg htl heg hel
        go_wp2_with fail
        refine (HT.out _ hR.out).mono ?_
        rintro e W1 ⟨rfl, hb1⟩
        have HB1 := Lib.hid (hR.out.trans (hb1.mono hR.out.size))
        obtain ⟨p2, p3, p6, p7⟩ := HC.out _ HB1.out
        clear hb1 g2 g3 g6 g7
        go_wp2_with fail
        refine (HE.out _ HB1.out).mono ?_
        rintro e W2 ⟨rfl, hb2⟩
        have HB2 := Lib.hid (HB1.out.trans (hb2.mono HB1.out.size))
        clear hb2 p2 p3 p6 p7 HB1
        go_wp2_with fail
        go_loopw [6] (fun x wq => ∃ q : Nat, q ≤ i.len ∧ x = .int .i64 q ∧ Hid (Below w.heap.size w wq)) (fun x _ => i.len - (intOf x).toNat)
        case atStart => exact ⟨0, Nat.zero_le _, rfl, HB2⟩
        case round =>
          obtain ⟨q, hq, rfl, hQ⟩ := hrel
          obtain ⟨m2, m3, m6, m7⟩ := HC.out _ hQ.out
          by_cases hql : q < i.len
          · obtain ⟨b', f', k', n', s', o', a', B', c', hA', hbl', hdr', ⟨y0, y1, y2, y3, y4⟩, hc', hat'⟩ := at_elem HI.out.2.2.2 hql
            have g0' := (hQ.out.cell (p := ⟨b', f' + q * 5, none⟩) hbl').trans y0
            have g1' := (hQ.out.cell (p := ⟨b', f' + q * 5 + 1, none⟩) hbl').trans y1
            have g2' := (hQ.out.cell (p := ⟨b', f' + q * 5 + 2, none⟩) hbl').trans y2
            have g3' := (hQ.out.cell (p := ⟨b', f' + q * 5 + 3, none⟩) hbl').trans y3
            have g4' := (hQ.out.cell (p := ⟨b', f' + q * 5 + 4, none⟩) hbl').trans y4
            rw [hA'] at m2
            have hgd := HI.out.1.drop q
            have hhd := Nat.le_trans (Exs.drop_height _ q) HI.out.2.1
            rw [hdr'] at hgd hhd
            simp only [Exs.height] at hhd
            have hx := exD_le a' 1 (by omega)
            have hx8 : decide (8 < exD a' 1) = false := by simp; omega
            have HD := Lib.hid (rdepth1_any a' B' c' k' n' o' s' S wr hgd.2.1.wf (by have := hgd.1.wf.2.2.2.2; exact this) (hat'.keep hQ.out.size fun q hq hl => ⟨hq, fun f => hQ.out.cell (p := ⟨q, f, none⟩) hl⟩))
            have hq' : (q : Int) < i.len := by omega
            clear y0 y1 y2 y3 y4 hc' hat' hdr' hA' hgd hhd hx
            generalize exD a' 1 = xw at *
            go_wp2_with fail
            refine HD.out.mono ?_
            rintro e W3 ⟨rfl, hb3⟩
            have HB3 := Lib.hid (hQ.out.trans (hb3.mono hQ.out.size))
            clear hb3
            go_wp2_with fail
            go_roundw
            case rel => exact ⟨q + 1, by omega, by go_num, HB3⟩
            case measure => simp [intOf]; omega
          · have hq' : ¬ (q : Int) < i.len := by omega
            go_wp2_with fail
            go_loopw [7] (fun x wq => ∃ q : Nat, q ≤ v.len ∧ x = .int .i64 q ∧ Hid (Below w.heap.size w wq)) (fun x _ => v.len - (intOf x).toNat)
            case atStart => exact ⟨0, Nat.zero_le _, rfl, hQ⟩
            case round =>
              obtain ⟨q, hq, rfl, hQ⟩ := hrel
              obtain ⟨m2, m3, m6, m7⟩ := HC.out _ hQ.out
              by_cases hql : q < v.len
              · obtain ⟨b', f', k', n', s', o', a', B', c', hA', hbl', hdr', ⟨y0, y1, y2, y3, y4⟩, hc', hat'⟩ := at_elem HV.out.2.2.2 hql
                have g0' := (hQ.out.cell (p := ⟨b', f' + q * 5, none⟩) hbl').trans y0
                have g1' := (hQ.out.cell (p := ⟨b', f' + q * 5 + 1, none⟩) hbl').trans y1
                have g2' := (hQ.out.cell (p := ⟨b', f' + q * 5 + 2, none⟩) hbl').trans y2
                have g3' := (hQ.out.cell (p := ⟨b', f' + q * 5 + 3, none⟩) hbl').trans y3
                have g4' := (hQ.out.cell (p := ⟨b', f' + q * 5 + 4, none⟩) hbl').trans y4
                rw [hA'] at m3
                have hgd := HV.out.1.drop q
                have hhd := Nat.le_trans (Exs.drop_height _ q) HV.out.2.1
                rw [hdr'] at hgd hhd
                simp only [Exs.height] at hhd
                have hx := exD_le a' 1 (by omega)
                have hx8 : decide (8 < exD a' 1) = false := by simp; omega
                have HD := Lib.hid (rdepth1_any a' B' c' k' n' o' s' S wr hgd.2.1.wf (by have := hgd.1.wf.2.2.2.2; exact this) (hat'.keep hQ.out.size fun q hq hl => ⟨hq, fun f => hQ.out.cell (p := ⟨q, f, none⟩) hl⟩))
                have hq' : (q : Int) < v.len := by omega
                clear y0 y1 y2 y3 y4 hc' hat' hdr' hA' hgd hhd hx
                generalize exD a' 1 = xw at *
                go_wp2_with fail
                refine HD.out.mono ?_
                rintro e W3 ⟨rfl, hb3⟩
                have HB3 := Lib.hid (hQ.out.trans (hb3.mono hQ.out.size))
                clear hb3
                go_wp2_with fail
                go_roundw
                case rel => exact ⟨q + 1, by omega, by go_num, HB3⟩
                case measure => simp [intOf]; omega
              · have hq' : ¬ (q : Int) < v.len := by omega
                go_wp2_with fail
                go_roundw
                case rel => exact ⟨j + 1, by omega, by go_num, hQ⟩
                case measure => simp [intOf]; omega
      · go_wp2
        go_ret
        exact ⟨rfl, hR.out⟩
end Go.Proofs.YtbppfhlpielpcaaDoor
