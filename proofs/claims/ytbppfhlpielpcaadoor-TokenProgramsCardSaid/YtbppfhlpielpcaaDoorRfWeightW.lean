/- The specification's weights of statements: the walk. -/
import Derived.Test.YtbppfhlpielpcaaDoorRfWei
namespace Go.Proofs.YtbppfhlpielpcaaDoor
open Go.RowKit
set_option linter.unusedVariables false
def Wk (wb W : World) : Prop := Below wb.heap.size wb W
theorem Wk.drew {wb W : World} (h : Wk wb W) : Wk wb W.drew := Below.drew h
theorem Wk.holds {wb W : World} {g : Nat} {k m l : Int} {s : ByteArray} {B2 B3 B6 B7 : Option Addr} {n2 n3 n6 n7 c2 c3 c6 c7 : Nat} (hb : Blk wb g 88 #[.int .i64 k, .string s, .slice B2 n2 c2, .slice B3 n3 c3, .int .i64 m, .int .i64 l, .slice B6 n6 c6, .slice B7 n7 c7]) (h : Wk wb W) :
    W.cell? ⟨g, 2, none⟩ = some (.slice B2 n2 c2) ∧ W.cell? ⟨g, 3, none⟩ = some (.slice B3 n3 c3) ∧ W.cell? ⟨g, 4, none⟩ = some (.int .i64 m) ∧ W.cell? ⟨g, 6, none⟩ = some (.slice B6 n6 c6) ∧ W.cell? ⟨g, 7, none⟩ = some (.slice B7 n7 c7) ∧ Wk wb W := by
  have q := hb.below h hb.lt
  exact ⟨q.cell 2, q.cell 3, q.cell 4, q.cell 6, q.cell 7, h⟩
theorem Wk.trans {wb W W' : World} (h : Wk wb W) (k : Below W.heap.size W W') : Wk wb W' := Below.trans h (k.mono h.size)
set_option maxRecDepth 100000 in
set_option maxHeartbeats 6000000 in
theorem rweight_any (N : Nat) : ∀ (a : Sts) (A : Option Addr) (c : Nat) (d : Int) (S : Nat → Prop) (w : World), a.height = N → a.Wf → a.len ≤ maxLen → a.At w S A → 1 ≤ d → d ≤ 21 →
    Calls Tryd.prog 58 #[.slice A a.len c, .int .i64 d] w fun e w' => e = .returned (.int .i64 (stW a.len d (a.wadd d 0))) ∧ Below w.heap.size w w' := by
  induction N using Nat.strongRecOn with
  | _ N ih =>
    intro a A c d S w hh hwf hlen hat h1 h21
    have IH := Lib.hid ih
    have HW := Lib.hid (And.intro hwf (And.intro hat hh))
    unfold maxLen at hlen
    obtain ⟨len, hl⟩ : ∃ len, a.len = len := ⟨_, rfl⟩
    have HL := Lib.hid hl
    rw [hl] at hlen
    rw [hl]
    clear ih hwf hat hh hl
    have HMn := Lib.hid (fun (x : Int) (W : World) => run_min2 1099511627776 x W)
    go_enter Tryd.func58, Tryd.ntmps58
    go_wp2
    go_loopw [5, 6] (fun v i wr => ∃ (j : Nat) (acc : Int), j ≤ len ∧ i = .int .i64 j ∧ v = .int .i64 acc ∧ 0 ≤ acc ∧ acc ≤ 1099511627776 ∧ w.heap.size ≤ wr.heap.size ∧ (j = 0 ∨ d ≤ 20) ∧
        Hid ((a.drop j).wadd d acc = a.wadd d 0 ∧ (j = 0 → acc = 0) ∧ Below w.heap.size w wr)) (fun _ i _ => len - (intOf i).toNat)
    case atStart => exact ⟨0, 0, Nat.zero_le _, rfl, rfl, by omega, by omega, by omega, .inl rfl, Lib.hid ⟨by rw [Sts.drop_zero], fun _ => rfl, Below.refl _ _⟩⟩
    case round =>
      obtain ⟨j, acc, hj, rfl, rfl, ha0, ha1, hsz, hjd, hR⟩ := hrel
      by_cases hlt : j < len
      · have hlt' : (j : Int) < len := by omega
        by_cases hd : 20 < d
        · have hd' : decide (20 < d) = true := by simpa using hd
          go_wp2
          go_ret
          exact ⟨g_int (by unfold stW; rw [if_neg (by omega), if_pos hd]; rfl), hR.out.2.2⟩
        · have hd' : decide (20 < d) = false := by simp; omega
          have hd20 : d ≤ 20 := by omega
          clear hd hjd
          obtain ⟨b, f, k, s, i, v, m, l, tt, ee, B2, c2, B3, c3, B6, c6, B7, c7, hA, hbl, hdr, ⟨e0, e1, e2, e3, e4, e5, e6, e7⟩, hi, hv, ht, he⟩ := sts_elem HW.out.2.1 (by rw [HL.out]; exact hlt)
          have hb := hR.out.2.2
          have g0 := (hb.cell (p := ⟨b, f + j * 8, none⟩) hbl).trans e0
          have g1 := (hb.cell (p := ⟨b, f + j * 8 + 1, none⟩) hbl).trans e1
          have g2 := (hb.cell (p := ⟨b, f + j * 8 + 2, none⟩) hbl).trans e2
          have g3 := (hb.cell (p := ⟨b, f + j * 8 + 3, none⟩) hbl).trans e3
          have g4 := (hb.cell (p := ⟨b, f + j * 8 + 4, none⟩) hbl).trans e4
          have g5 := (hb.cell (p := ⟨b, f + j * 8 + 5, none⟩) hbl).trans e5
          have g6 := (hb.cell (p := ⟨b, f + j * 8 + 6, none⟩) hbl).trans e6
          have g7 := (hb.cell (p := ⟨b, f + j * 8 + 7, none⟩) hbl).trans e7
          have hwf' := HW.out.1.drop j
          rw [hdr] at hwf'
          obtain ⟨_, _, ⟨wi1, wi2⟩, ⟨wv1, wv2⟩, wm, _, ⟨wt1, wt2⟩, ⟨we1, we2⟩, _⟩ := hwf'
          have hht : tt.height < N ∧ ee.height < N := by
            have q := a.drop_height j
            rw [hdr] at q
            simp only [Sts.height] at q
            have := HW.out.2.2
            omega
          have HBK := Lib.hid (Blk.new wr 88 #[.int .i64 k, .string s, .slice B2 i.len c2, .slice B3 v.len c3, .int .i64 m, .int .i64 l, .slice B6 tt.len c6, .slice B7 ee.len c7])
          have hwb : Below w.heap.size w (wr.alloc (.cells #[.int .i64 k, .string s, .slice B2 i.len c2, .slice B3 v.len c3, .int .i64 m, .int .i64 l, .slice B6 tt.len c6, .slice B7 ee.len c7] 88)) := hb.alloc hsz _
          have HWB := Lib.hid hwb
          have hzb : w.heap.size ≤ (wr.alloc (.cells #[.int .i64 k, .string s, .slice B2 i.len c2, .slice B3 v.len c3, .int .i64 m, .int .i64 l, .slice B6 tt.len c6, .slice B7 ee.len c7] 88)).heap.size := hwb.size
          generalize hWB : wr.alloc (.cells #[.int .i64 k, .string s, .slice B2 i.len c2, .slice B3 v.len c3, .int .i64 m, .int .i64 l, .slice B6 tt.len c6, .slice B7 ee.len c7] 88) = wb at HBK HWB hzb hwb
          have hst : (a.drop (j + 1)).wadd d (min 1099511627776 (acc + stN k m (i.add 1 0) (v.add 1 0) (stW tt.len (d + 1) (tt.wadd (d + 1) 0)) (stW ee.len (d + 1) (ee.wadd (d + 1) 0)))) = a.wadd d 0 := by
            rw [← hR.out.1, hdr]
            simp only [Sts.wadd, mostW]
          have HST := Lib.hid hst
          have HEi := Lib.hid (fun (W : World) (h : Wk wb W) => (rexprs_any i B2 c2 S W wi2 wi1 ((hi.2.below hwb).keep h.size fun q hq hl => ⟨hq, fun f => h.cell (p := ⟨q, f, none⟩) hl⟩)).mono fun e w' hh => And.intro hh.1 (h.trans hh.2))
          have HEv := Lib.hid (fun (W : World) (h : Wk wb W) => (rexprs_any v B3 c3 S W wv2 wv1 ((hv.2.below hwb).keep h.size fun q hq hl => ⟨hq, fun f => h.cell (p := ⟨q, f, none⟩) hl⟩)).mono fun e w' hh => And.intro hh.1 (h.trans hh.2))
          have HWt := Lib.hid (fun (W : World) (h : Wk wb W) => (IH.out tt.height hht.1 tt B6 c6 (d + 1) S W rfl wt2 wt1 ((ht.2.below hwb).keep h.size fun q hq hl => ⟨hq, fun f => h.cell (p := ⟨q, f, none⟩) hl⟩) (by omega) (by omega)).mono fun e w' hh => And.intro hh.1 (h.trans hh.2))
          have HWe := Lib.hid (fun (W : World) (h : Wk wb W) => (IH.out ee.height hht.2 ee B7 c7 (d + 1) S W rfl we2 we1 ((he.2.below hwb).keep h.size fun q hq hl => ⟨hq, fun f => h.cell (p := ⟨q, f, none⟩) hl⟩) (by omega) (by omega)).mono fun e w' hh => And.intro hh.1 (h.trans hh.2))
          have bi := add_bounds i 1 0 (by omega) (by unfold mostW; omega)
          have bv := add_bounds v 1 0 (by omega) (by unfold mostW; omega)
          have bt := stW_bounds tt (d + 1)
          have be := stW_bounds ee (d + 1)
          have bn := stN_bounds (k := k) (m := m) bi bv bt be
          unfold mostW at bi bv bt be bn
          clear e0 e1 e2 e3 e4 e5 e6 e7 hi hv ht he hdr hht hst hwb hb wi1 wi2 wv1 wv2 wt1 wt2 we1 we2
          subst hA
          generalize i.add 1 0 = iw at *
          generalize v.add 1 0 = vw at *
          generalize stW tt.len (d + 1) (tt.wadd (d + 1) 0) = tw at *
          generalize stW ee.len (d + 1) (ee.wadd (d + 1) 0) = ew at *
          obtain ⟨bi0, bi1⟩ := bi
          obtain ⟨bv0, bv1⟩ := bv
          obtain ⟨bt0, bt1⟩ := bt
          obtain ⟨be0, be1⟩ := be
          have HBN := Lib.hid bn
          clear bn
          have hk : k = 1 ∨ k = 2 ∨ k = 3 ∨ k = 4 ∨ k = 5 ∨ (¬ k = 1 ∧ ¬ k = 2 ∧ ¬ k = 3 ∧ ¬ k = 4 ∧ ¬ k = 5) := by omega
          subst hWB
          rcases hk with rfl | rfl | rfl | rfl | rfl | ⟨n1, n2, n3, n4, n5⟩
          · skip
            have hdw : IntKind.i64.wrap (d + 1) = d + 1 := IntWalk.i64_in _ (by omega)
            have q0 : IntKind.i64.wrap (1 + iw) = 1 + iw := IntWalk.i64_in _ (by omega)
            have q1 : IntKind.i64.wrap (1 + iw + vw) = 1 + iw + vw := IntWalk.i64_in _ (by omega)
            have hwk : Wk (wr.alloc (.cells #[.int .i64 1, .string s, .slice B2 i.len c2, .slice B3 v.len c3, .int .i64 m, .int .i64 l, .slice B6 tt.len c6, .slice B7 ee.len c7] 88)) (wr.alloc (.cells #[.int .i64 1, .string s, .slice B2 i.len c2, .slice B3 v.len c3, .int .i64 m, .int .i64 l, .slice B6 tt.len c6, .slice B7 ee.len c7] 88)) := Below.refl _ _
            go_wp2_with fail
            go_region_held3 (fun w' => w'.cell? ⟨wr.heap.size, 2, none⟩ = some (.slice B2 i.len c2) ∧ w'.cell? ⟨wr.heap.size, 3, none⟩ = some (.slice B3 v.len c3) ∧ w'.cell? ⟨wr.heap.size, 4, none⟩ = some (.int .i64 m) ∧ w'.cell? ⟨wr.heap.size, 6, none⟩ = some (.slice B6 tt.len c6) ∧ w'.cell? ⟨wr.heap.size, 7, none⟩ = some (.slice B7 ee.len c7) ∧ Wk (wr.alloc (.cells #[.int .i64 1, .string s, .slice B2 i.len c2, .slice B3 v.len c3, .int .i64 m, .int .i64 l, .slice B6 tt.len c6, .slice B7 ee.len c7] 88)) w')
              (first
                | (with_reducible exact Wk.holds HBK.out (by with_reducible assumption))
                | (with_reducible exact Wk.holds HBK.out (Wk.drew (by with_reducible assumption)))
                | (go_split_ands; with_reducible exact Wk.holds HBK.out (by with_reducible assumption)))
              (first
                | (go_at_call 72; go_split_ands; rename_i hBg; (first | (with_reducible refine (HEi.out _ hBg).mono ?_) | (with_reducible refine (HEv.out _ hBg).mono ?_)); rintro e w4 ⟨rfl, hwk4⟩)
                | (go_at_call 58; go_split_ands; rename_i hBg; (first | (with_reducible refine (HWt.out _ hBg).mono ?_) | (with_reducible refine (HWe.out _ hBg).mono ?_)); rintro e w4 ⟨rfl, hwk4⟩))
            have HZ := Lib.hid (HWB.out.trans (hwk4.mono hzb))
            have hz4 : w.heap.size ≤ w4.heap.size := HZ.out.size
            have hmn := fun (W : World) => HMn.out (acc + (1 + iw + vw)) W
            go_wp2_with fail
            go_roundw
            case rel => exact ⟨j + 1, min 1099511627776 (acc + (1 + iw + vw)), by omega, by go_num, rfl, by omega, by omega, hz4, .inr hd20, Lib.hid ⟨by have q := HST.out; rw [show stN 1 m iw vw tw ew = 1 + iw + vw from rfl] at q; exact q, by omega, HZ.out⟩⟩
            case measure => simp [intOf]; omega
          · skip
            have hdw : IntKind.i64.wrap (d + 1) = d + 1 := IntWalk.i64_in _ (by omega)
            have q0 : IntKind.i64.wrap (1 + iw) = 1 + iw := IntWalk.i64_in _ (by omega)
            have q1 : IntKind.i64.wrap (1 + iw + vw) = 1 + iw + vw := IntWalk.i64_in _ (by omega)
            have hwk : Wk (wr.alloc (.cells #[.int .i64 2, .string s, .slice B2 i.len c2, .slice B3 v.len c3, .int .i64 m, .int .i64 l, .slice B6 tt.len c6, .slice B7 ee.len c7] 88)) (wr.alloc (.cells #[.int .i64 2, .string s, .slice B2 i.len c2, .slice B3 v.len c3, .int .i64 m, .int .i64 l, .slice B6 tt.len c6, .slice B7 ee.len c7] 88)) := Below.refl _ _
            go_wp2_with fail
            go_region_held3 (fun w' => w'.cell? ⟨wr.heap.size, 2, none⟩ = some (.slice B2 i.len c2) ∧ w'.cell? ⟨wr.heap.size, 3, none⟩ = some (.slice B3 v.len c3) ∧ w'.cell? ⟨wr.heap.size, 4, none⟩ = some (.int .i64 m) ∧ w'.cell? ⟨wr.heap.size, 6, none⟩ = some (.slice B6 tt.len c6) ∧ w'.cell? ⟨wr.heap.size, 7, none⟩ = some (.slice B7 ee.len c7) ∧ Wk (wr.alloc (.cells #[.int .i64 2, .string s, .slice B2 i.len c2, .slice B3 v.len c3, .int .i64 m, .int .i64 l, .slice B6 tt.len c6, .slice B7 ee.len c7] 88)) w')
              (first
                | (with_reducible exact Wk.holds HBK.out (by with_reducible assumption))
                | (with_reducible exact Wk.holds HBK.out (Wk.drew (by with_reducible assumption)))
                | (go_split_ands; with_reducible exact Wk.holds HBK.out (by with_reducible assumption)))
              (first
                | (go_at_call 72; go_split_ands; rename_i hBg; (first | (with_reducible refine (HEi.out _ hBg).mono ?_) | (with_reducible refine (HEv.out _ hBg).mono ?_)); rintro e w4 ⟨rfl, hwk4⟩)
                | (go_at_call 58; go_split_ands; rename_i hBg; (first | (with_reducible refine (HWt.out _ hBg).mono ?_) | (with_reducible refine (HWe.out _ hBg).mono ?_)); rintro e w4 ⟨rfl, hwk4⟩))
            have HZ := Lib.hid (HWB.out.trans (hwk4.mono hzb))
            have hz4 : w.heap.size ≤ w4.heap.size := HZ.out.size
            have hmn := fun (W : World) => HMn.out (acc + (1 + iw + vw)) W
            go_wp2_with fail
            go_roundw
            case rel => exact ⟨j + 1, min 1099511627776 (acc + (1 + iw + vw)), by omega, by go_num, rfl, by omega, by omega, hz4, .inr hd20, Lib.hid ⟨by have q := HST.out; rw [show stN 2 m iw vw tw ew = 1 + iw + vw from rfl] at q; exact q, by omega, HZ.out⟩⟩
            case measure => simp [intOf]; omega
          · have HN := Lib.hid (show stN 3 m iw vw tw ew = 2 + vw + tw + ew from rfl)
            have hdw : IntKind.i64.wrap (d + 1) = d + 1 := IntWalk.i64_in _ (by omega)
            have q0 : IntKind.i64.wrap (2 + vw) = 2 + vw := IntWalk.i64_in _ (by omega)
            have q1 : IntKind.i64.wrap (2 + vw + tw) = 2 + vw + tw := IntWalk.i64_in _ (by omega)
            have q2 : IntKind.i64.wrap (2 + vw + tw + ew) = 2 + vw + tw + ew := IntWalk.i64_in _ (by omega)
            have hwk : Wk (wr.alloc (.cells #[.int .i64 3, .string s, .slice B2 i.len c2, .slice B3 v.len c3, .int .i64 m, .int .i64 l, .slice B6 tt.len c6, .slice B7 ee.len c7] 88)) (wr.alloc (.cells #[.int .i64 3, .string s, .slice B2 i.len c2, .slice B3 v.len c3, .int .i64 m, .int .i64 l, .slice B6 tt.len c6, .slice B7 ee.len c7] 88)) := Below.refl _ _
            go_wp2_with fail
            go_region_held3 (fun w' => w'.cell? ⟨wr.heap.size, 2, none⟩ = some (.slice B2 i.len c2) ∧ w'.cell? ⟨wr.heap.size, 3, none⟩ = some (.slice B3 v.len c3) ∧ w'.cell? ⟨wr.heap.size, 4, none⟩ = some (.int .i64 m) ∧ w'.cell? ⟨wr.heap.size, 6, none⟩ = some (.slice B6 tt.len c6) ∧ w'.cell? ⟨wr.heap.size, 7, none⟩ = some (.slice B7 ee.len c7) ∧ Wk (wr.alloc (.cells #[.int .i64 3, .string s, .slice B2 i.len c2, .slice B3 v.len c3, .int .i64 m, .int .i64 l, .slice B6 tt.len c6, .slice B7 ee.len c7] 88)) w')
              (first
                | (with_reducible exact Wk.holds HBK.out (by with_reducible assumption))
                | (with_reducible exact Wk.holds HBK.out (Wk.drew (by with_reducible assumption)))
                | (go_split_ands; with_reducible exact Wk.holds HBK.out (by with_reducible assumption)))
              (first
                | (go_at_call 72; go_split_ands; rename_i hBg; (first | (with_reducible refine (HEi.out _ hBg).mono ?_) | (with_reducible refine (HEv.out _ hBg).mono ?_)); rintro e w4 ⟨rfl, hwk4⟩)
                | (go_at_call 58; go_split_ands; rename_i hBg; (first | (with_reducible refine (HWt.out _ hBg).mono ?_) | (with_reducible refine (HWe.out _ hBg).mono ?_)); rintro e w4 ⟨rfl, hwk4⟩))
            have HZ := Lib.hid (HWB.out.trans (hwk4.mono hzb))
            have hz4 : w.heap.size ≤ w4.heap.size := HZ.out.size
            have hmn := fun (W : World) => HMn.out (acc + (2 + vw + tw + ew)) W
            go_wp2_with fail
            go_roundw
            case rel => exact ⟨j + 1, min 1099511627776 (acc + (2 + vw + tw + ew)), by omega, by go_num, rfl, by omega, by omega, hz4, .inr hd20, Lib.hid ⟨by have q := HST.out; rw [HN.out] at q; exact q, by omega, HZ.out⟩⟩
            case measure => simp [intOf]; omega
          · obtain ⟨x, hx⟩ : ∃ x, max 0 (min m 33) = x := ⟨_, rfl⟩
            obtain ⟨y, hy⟩ : ∃ y, min 1099511627776 (2 + vw + tw) = y := ⟨_, rfl⟩
            have HN := Lib.hid (show stN 4 m iw vw tw ew = 2 + (x + 1) * y by rw [← hx, ← hy]; rfl)
            have x0 : 0 ≤ x := by omega
            have x1 : x ≤ 33 := by omega
            have y0 : 0 ≤ y := by omega
            have y1 : y ≤ 1099511627776 := by omega
            have hm33 := fun (W : World) => run_min2 m 33 W
            have hm0 := fun (W : World) => run_max2 0 (min m 33) W
            rw [hx] at hm0
            have hmy := fun (W : World) => run_min2 1099511627776 (2 + vw + tw) W
            rw [hy] at hmy
            have HXY := Lib.hid (And.intro hx hy)
            clear hx hy
            have hp0 : 0 ≤ (x + 1) * y := Int.mul_nonneg (by omega) y0
            have hp1 : (x + 1) * y ≤ 34 * 1099511627776 := Int.mul_le_mul (by omega) y1 y0 (by omega)
            have hdw : IntKind.i64.wrap (d + 1) = d + 1 := IntWalk.i64_in _ (by omega)
            have q0 : IntKind.i64.wrap (x + 1) = x + 1 := IntWalk.i64_in _ (by omega)
            have q1 : IntKind.i64.wrap (2 + vw) = 2 + vw := IntWalk.i64_in _ (by omega)
            have q2 : IntKind.i64.wrap (2 + vw + tw) = 2 + vw + tw := IntWalk.i64_in _ (by omega)
            have q3 : IntKind.i64.wrap ((x + 1) * y) = (x + 1) * y := IntWalk.i64_in _ (by omega)
            have q4 : IntKind.i64.wrap (2 + (x + 1) * y) = 2 + (x + 1) * y := IntWalk.i64_in _ (by omega)
            have hwk : Wk (wr.alloc (.cells #[.int .i64 4, .string s, .slice B2 i.len c2, .slice B3 v.len c3, .int .i64 m, .int .i64 l, .slice B6 tt.len c6, .slice B7 ee.len c7] 88)) (wr.alloc (.cells #[.int .i64 4, .string s, .slice B2 i.len c2, .slice B3 v.len c3, .int .i64 m, .int .i64 l, .slice B6 tt.len c6, .slice B7 ee.len c7] 88)) := Below.refl _ _
            go_wp2_with fail
            go_region_held3 (fun w' => w'.cell? ⟨wr.heap.size, 2, none⟩ = some (.slice B2 i.len c2) ∧ w'.cell? ⟨wr.heap.size, 3, none⟩ = some (.slice B3 v.len c3) ∧ w'.cell? ⟨wr.heap.size, 4, none⟩ = some (.int .i64 m) ∧ w'.cell? ⟨wr.heap.size, 6, none⟩ = some (.slice B6 tt.len c6) ∧ w'.cell? ⟨wr.heap.size, 7, none⟩ = some (.slice B7 ee.len c7) ∧ Wk (wr.alloc (.cells #[.int .i64 4, .string s, .slice B2 i.len c2, .slice B3 v.len c3, .int .i64 m, .int .i64 l, .slice B6 tt.len c6, .slice B7 ee.len c7] 88)) w')
              (first
                | (with_reducible exact Wk.holds HBK.out (by with_reducible assumption))
                | (with_reducible exact Wk.holds HBK.out (Wk.drew (by with_reducible assumption)))
                | (go_split_ands; with_reducible exact Wk.holds HBK.out (by with_reducible assumption)))
              (first
                | (go_at_call 72; go_split_ands; rename_i hBg; (first | (with_reducible refine (HEi.out _ hBg).mono ?_) | (with_reducible refine (HEv.out _ hBg).mono ?_)); rintro e w4 ⟨rfl, hwk4⟩)
                | (go_at_call 58; go_split_ands; rename_i hBg; (first | (with_reducible refine (HWt.out _ hBg).mono ?_) | (with_reducible refine (HWe.out _ hBg).mono ?_)); rintro e w4 ⟨rfl, hwk4⟩))
            have HZ := Lib.hid (HWB.out.trans (hwk4.mono hzb))
            have hz4 : w.heap.size ≤ w4.heap.size := HZ.out.size
            have hmn := fun (W : World) => HMn.out (acc + (2 + (x + 1) * y)) W
            go_wp2_with fail
            go_roundw
            case rel => exact ⟨j + 1, min 1099511627776 (acc + (2 + (x + 1) * y)), by omega, by go_num, rfl, by omega, by omega, hz4, .inr hd20, Lib.hid ⟨by have q := HST.out; rw [HN.out] at q; exact q, by omega, HZ.out⟩⟩
            case measure => simp [intOf]; omega
          · have HN := Lib.hid (show stN 5 m iw vw tw ew = 2 + tw from rfl)
            go_wp2_with fail
            refine (HWt.out _ (Below.refl _ _)).mono ?_
            rintro e w4 ⟨rfl, hwk4⟩
            have HZ := Lib.hid (HWB.out.trans (hwk4.mono hzb))
            have hz4 : w.heap.size ≤ w4.heap.size := HZ.out.size
            clear hwk4
            have hmn := fun (W : World) => HMn.out (acc + (2 + tw)) W
            go_wp2_with fail
            go_roundw
            case rel => exact ⟨j + 1, min 1099511627776 (acc + (2 + tw)), by omega, by go_num, rfl, by omega, by omega, hz4, .inr hd20, Lib.hid ⟨by have q := HST.out; rw [HN.out] at q; exact q, by omega, HZ.out⟩⟩
            case measure => simp [intOf]; omega
          · have k1 : (k == 1) = false := by simp [n1]
            have k2 : (k == 2) = false := by simp [n2]
            have k3 : (k == 3) = false := by simp [n3]
            have k4 : (k == 4) = false := by simp [n4]
            have k5 : (k == 5) = false := by simp [n5]
            have HN := Lib.hid (show stN k m iw vw tw ew = 0 by unfold stN; rw [if_neg (by omega), if_neg n3, if_neg n4, if_neg n5])
            clear n1 n2 n3 n4 n5
            have hmn := fun (W : World) => HMn.out acc W
            go_wp2_with fail
            go_roundw
            case rel => exact ⟨j + 1, min 1099511627776 acc, by omega, by go_num, rfl, by omega, by omega, hzb, .inr hd20, Lib.hid ⟨by have q := HST.out; rw [HN.out, Int.add_zero] at q; exact q, by omega, HWB.out⟩⟩
            case measure => simp [intOf]; omega
      · go_wp2
        go_ret
        refine ⟨g_int ?_, hR.out.2.2⟩
        have hjl : j = len := by omega
        have hfin := hR.out.1
        rw [Sts.drop_nil _ _ (by rw [HL.out]; omega)] at hfin
        unfold stW
        by_cases h0 : len = 0
        · rw [if_pos h0]; exact hR.out.2.1 (by omega)
        · rw [if_neg h0, if_neg (by omega)]; exact hfin
end Go.Proofs.YtbppfhlpielpcaaDoor
