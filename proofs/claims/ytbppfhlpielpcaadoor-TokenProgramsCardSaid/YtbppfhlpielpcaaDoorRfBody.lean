/- The specification's printing of bodies: the walk. -/
import Derived.Test.YtbppfhlpielpcaaDoorRfBodyT
import Derived.Test.YtbppfhlpielpcaaDoorRfLbs
namespace Go.Proofs.YtbppfhlpielpcaaDoor
open Go.RowKit Tk
set_option linter.unusedVariables false
set_option maxRecDepth 100000
/-- What body leaves. -/
def BodyPost (base n : Nat) (w : World) (e : Ending) (w' : World) : Prop := ∃ (v' : Value) (n' : Nat), e = .returned v' ∧ OutB base v' n' w' ∧ n' ≤ n ∧ Kp base w w'
set_option maxHeartbeats 8000000 in
theorem body_any (base : Nat) (N : Nat) : ∀ (a : Sts) (A : Option Addr) (c : Nat) (S : Nat → Prop) (w : World) (v0 : Value) (n : Nat) (sp : ByteArray), a.height = N → a.Good → a.len ≤ maxLen → a.At w S A → (∀ b, S b → b < base) → base ≤ w.heap.size → OutB base v0 n w → n + 2000 * a.cnt ≤ 100000000000 → sp.size + 2 * a.height ≤ 100 →
    Calls Tryd.prog 29 #[v0, .slice A a.len c, .string sp] w fun e w' => BodyPost base (n + 2000 * a.cnt) w e w' := by
  induction N using Nat.strongRecOn with
  | _ N ih =>
    intro a A c S w v0 n sp hh hgood hlen hat hS hbase hout hcap hsp
    have IH := Lib.hid ih
    have HW := Lib.hid (And.intro hgood (And.intro hat (And.intro hh hS)))
    have HO := Lib.hid hout
    unfold maxLen at hlen
    obtain ⟨len, hl⟩ : ∃ len, a.len = len := ⟨_, rfl⟩
    have HL := Lib.hid hl
    rw [hl] at hlen
    rw [hl]
    have HSp := Lib.hid (And.intro hsp hcap)
    clear ih hgood hat hh hl hS hout hsp hcap
    go_enter Tryd.func29, Tryd.ntmps29
    go_wp2
    go_loopw [0, 7] (fun vo i wr => ∃ (j nn : Nat), j ≤ len ∧ i = .int .i64 j ∧ Hid (nn + 2000 * (a.drop j).cnt ≤ n + 2000 * a.cnt ∧ Kp base w wr ∧ OutB base vo nn wr)) (fun _ i _ => len - (intOf i).toNat)
    case atStart => exact ⟨0, n, Nat.zero_le _, rfl, Lib.hid ⟨by rw [Sts.drop_zero]; exact Nat.le_refl _, Kp.refl _ _, HO.out⟩⟩
    case round =>
      obtain ⟨j, nn, hj, rfl, hR⟩ := hrel
      by_cases hlt : j < len
      · obtain ⟨b, f, k, s, i, v, m, l, tt, ee, B2, c2, B3, c3, B6, c6, B7, c7, hA, hbl, hdr, ⟨e0, e1, e2, e3, e4, e5, e6, e7⟩, hi, hv, ht, he⟩ := sts_elem HW.out.2.1 (by rw [HL.out]; exact hlt)
        have hbb : b < base := by
          have h := HW.out.2.1
          cases a with
          | nil => have := HL.out; simp [Sts.len] at this; omega
          | cons => obtain ⟨b', f', e, hs, _⟩ := h; rw [hA] at e; injection e with e; injection e with e1; subst e1; exact HW.out.2.2.2 _ hs
        have hb := hR.out.2.1.toBelow hbase
        have g0 := (hb.cell (p := ⟨b, f + j * 8, none⟩) hbb).trans e0
        have g1 := (hb.cell (p := ⟨b, f + j * 8 + 1, none⟩) hbb).trans e1
        have g2 := (hb.cell (p := ⟨b, f + j * 8 + 2, none⟩) hbb).trans e2
        have g3 := (hb.cell (p := ⟨b, f + j * 8 + 3, none⟩) hbb).trans e3
        have g4 := (hb.cell (p := ⟨b, f + j * 8 + 4, none⟩) hbb).trans e4
        have g5 := (hb.cell (p := ⟨b, f + j * 8 + 5, none⟩) hbb).trans e5
        have g6 := (hb.cell (p := ⟨b, f + j * 8 + 6, none⟩) hbb).trans e6
        have g7 := (hb.cell (p := ⟨b, f + j * 8 + 7, none⟩) hbb).trans e7
        have hg := HW.out.1.drop j
        rw [hdr] at hg
        obtain ⟨hnode, ⟨hig, hih⟩, ⟨hvg, hvh⟩, ⟨htg, htl⟩, ⟨heg, hel⟩, _⟩ := hg
        have hht : tt.height < N ∧ ee.height < N ∧ tt.height + 1 ≤ a.height ∧ ee.height + 1 ≤ a.height := by
          have q := a.drop_height j
          rw [hdr] at q
          simp only [Sts.height] at q
          have := HW.out.2.2.1
          omega
        have hcn : nn + 2000 * (1 + tt.cnt + ee.cnt + (a.drop (j + 1)).cnt) ≤ n + 2000 * a.cnt := by
          have q := hR.out.1
          rw [hdr] at q
          exact q
        have HB := Lib.hid (fun (W : World) (h : Kp base w W) (vv : Value) (q : Nat) (s2 : ByteArray) (ho : OutB base vv q W) (hq : q + 2000 * tt.cnt ≤ 100000000000) (h2 : s2.size = sp.size + 2) => IH.out tt.height hht.1 tt B6 c6 S W vv q s2 rfl htg (by unfold maxLen; omega) (sts_kp ht.2 HW.out.2.2.2 h) HW.out.2.2.2 (Nat.le_trans hbase h.size) ho hq (by have := HSp.out.1; omega))
        have HE := Lib.hid (fun (W : World) (h : Kp base w W) (vv : Value) (q : Nat) (s2 : ByteArray) (ho : OutB base vv q W) (hq : q + 2000 * ee.cnt ≤ 100000000000) (h2 : s2.size = sp.size + 2) => IH.out ee.height hht.2.1 ee B7 c7 S W vv q s2 rfl heg (by unfold maxLen; omega) (sts_kp he.2 HW.out.2.2.2 h) HW.out.2.2.2 (Nat.le_trans hbase h.size) ho hq (by have := HSp.out.1; omega))
        have HI := Lib.hid (fun (h : i.len = 1) => exs_one hi.2 HW.out.2.2.2 h hig hih)
        have HV := Lib.hid (fun (h : v.len = 1) => exs_one hv.2 HW.out.2.2.2 h hvg hvh)
        have HX := Lib.hid (Blk.new wr 88 #[.int .i64 k, .string s, .slice B2 i.len c2, .slice B3 v.len c3, .int .i64 m, .int .i64 l, .slice B6 tt.len c6, .slice B7 ee.len c7])
        have HK := Lib.hid (hR.out.2.1.alloc (.cells #[.int .i64 k, .string s, .slice B2 i.len c2, .slice B3 v.len c3, .int .i64 m, .int .i64 l, .slice B6 tt.len c6, .slice B7 ee.len c7] 88))
        have HOu := Lib.hid (OutB.below hR.out.2.2 ((Below.refl _ _).alloc (Nat.le_refl _) (.cells #[.int .i64 k, .string s, .slice B2 i.len c2, .slice B3 v.len c3, .int .i64 m, .int .i64 l, .slice B6 tt.len c6, .slice B7 ee.len c7] 88)))
        have HCn := Lib.hid hcn
        have hsp100 : sp.size ≤ 100 := by have := HSp.out.1; omega
        have hnn : nn ≤ 100000000000 := by have := HSp.out.2; omega
        have hlt' : (j : Int) < len := by omega
        subst hA
        clear e0 e1 e2 e3 e4 e5 e6 e7 hi hv ht he hdr hht hig hih hvg hvh htg htl heg hel hb hcn
        rcases hnode with ⟨rfl, hs, hil, hvl, rfl, rfl, htl, hel⟩ | ⟨rfl, hs, hil, hvl, rfl, rfl, htl, hel⟩ | ⟨rfl, rfl, hil, hvl, rfl, hlb⟩ | ⟨rfl, rfl, hil, hvl, hmb, hlb, hel⟩ | ⟨rfl, hs, hil, hvl, rfl, rfl, hel⟩
        · skip
          obtain ⟨b3, f3, k3, n3, s3, o3, a3, E3, d3, rfl, ht3⟩ := HV.out hvl
          have HT3 := Lib.hid ht3
          have hsz := hs.size
          obtain ⟨t1, ht1, q1⟩ := cat s ⟨#[32, 61, 32]⟩ (by show s.size + 3 ≤ 100000; omega)
          have HS1 := Lib.hid (show t1.size ≤ 6 by rw [ht1]; show s.size + 3 ≤ 6; omega)
          rw [hil] at g2 HX HK HOu
          rw [hvl] at g3 HX HK HOu
          rw [htl] at g6 HX HK HOu
          rw [hel] at g7 HX HK HOu
          clear hil hvl htl hel
          clear ht3 ht1 hsz
          go_wp2_with (at_builtin; refine wpList_append_str rfl (.tmp 19) (.tmp 20) rfl rfl HOu.out sp rfl (by omega) (Nat.le_trans hbase HK.out.size) ?_; intro v1 W1 ho1 hk1; have HX1 := Lib.hid (hk1.blk HX.out (by decide)); have HK1 := Lib.hid (HK.out.trans hk1); have HO1 := Lib.hid ho1; obtain ⟨⟨x0, x1, x2, x3, x4, x5, x6, x7⟩, _⟩ := HX1.out.eight; clear ho1 hk1 HX HK HOu)
          have HZ := Lib.hid (fun (w' : World) (h : Kp base w w') (hx : Blk w' wr.heap.size 88 #[.int .i64 1, .string s, .slice B2 0 c2, .slice (some ⟨b3, f3, none⟩) 1 c3, .int .i64 0, .int .i64 0, .slice B6 0 c6, .slice B7 0 c7]) => And.intro (show w'.cell? ⟨wr.heap.size, 1, none⟩ = some (.string s) ∧ w'.cell? ⟨wr.heap.size, 3, none⟩ = some (.slice (some ⟨b3, f3, none⟩) 1 c3) from ⟨hx.cell 1, hx.cell 3⟩) (HT3.out w' h).1)
          have HKd := Lib.hid HK1.out.drew
          have HXd := Lib.hid HX1.out.drew
          have HOd := Lib.hid (OutB.below HO1.out (w' := W1.drew) ⟨rfl, rfl, rfl, Nat.le_refl _, fun _ _ => rfl⟩)
          have z := HZ.out _ HKd.out HXd.out
          have hspb := hsp100
          go_region_held_law (fun w' => (w'.cell? ⟨wr.heap.size, 1, none⟩ = some (.string s) ∧ w'.cell? ⟨wr.heap.size, 3, none⟩ = some (.slice (some ⟨b3, f3, none⟩) 1 c3)) ∧ (w'.cell? ⟨b3, f3, none⟩ = some (.int .i64 k3) ∧ w'.cell? ⟨b3, f3 + 1, none⟩ = some (.int .i64 n3) ∧ w'.cell? ⟨b3, f3 + 2, none⟩ = some (.string s3) ∧ w'.cell? ⟨b3, f3 + 3, none⟩ = some (.int .i64 o3) ∧ w'.cell? ⟨b3, f3 + 4, none⟩ = some (.slice E3 (Exs.len a3) d3)))
            (first | (with_reducible assumption) | (with_reducible exact z) | (with_reducible exact z1) | (with_reducible exact z2))
            (first
              | (refine step_append_str _ rfl (.tmp 32) (.tmp 42) rfl (by simp [Act.eval]) HO2.out t3 (by simp [Act.eval]) (by (have := HS3.out; omega)) (Nat.le_trans hbase HK2.out.size) ?_; intro v3 W3 ho3 hk3; have HO3 := Lib.hid ho3; have HK3 := Lib.hid (HK2.out.trans hk3); have HX3 := Lib.hid (hk3.blk HX2.out (by decide)); have z2 := HZ.out _ HK3.out HX3.out; clear ho3 hk3)
              | (go_simp; go_at_call 44; (with_reducible refine (HT3.out _ HKd.out).2.mono ?_); rintro e W2 ⟨r, rfl, hr, hb⟩; obtain ⟨t2, ht2, q2⟩ := cat t1 r (by (have := HS1.out; omega)); obtain ⟨t3, ht3, q3⟩ := cat t2 ⟨#[10]⟩ (by (rw [ht2]; have := HS1.out; show t1.size + r.size + 1 ≤ 100000; omega)); have HS3 := Lib.hid (show t3.size ≤ 120 by (rw [ht3, ht2]; have := HS1.out; show t1.size + r.size + 1 ≤ 120; omega)); have HO2 := Lib.hid (OutB.below HOd.out hb); have HK2 := Lib.hid (HKd.out.trans (Kp.below hb)); have HX2 := Lib.hid (HXd.out.below hb HXd.out.lt); have z1 := HZ.out _ HK2.out HX2.out; clear hb hr ht2 ht3))
          go_wp2_with fail
          go_roundw
          case rel => exact ⟨j + 1, nn + sp.size + t3.size, by omega, by go_num, Lib.hid ⟨by have := HCn.out; have := HS3.out; omega, HK3.out, HO3.out⟩⟩
          case measure => simp [intOf]; omega
        · skip
          obtain ⟨b2, f2, k2, n2, s2, o2, a2, E2, d2, rfl, ht2⟩ := HI.out hil
          obtain ⟨b3, f3, k3, n3, s3, o3, a3, E3, d3, rfl, ht3⟩ := HV.out hvl
          have HT2 := Lib.hid ht2
          have HT3 := Lib.hid ht3
          have hsz := hs.size
          obtain ⟨t1, ht1, q1⟩ := cat s ⟨#[91]⟩ (by show s.size + 1 ≤ 100000; omega)
          have HSzd := Lib.hid (show t1.size ≤ 4 by rw [ht1]; show s.size + 1 ≤ 4; omega)
          rw [hil] at g2 HX HK HOu
          rw [hvl] at g3 HX HK HOu
          rw [htl] at g6 HX HK HOu
          rw [hel] at g7 HX HK HOu
          clear hil hvl htl hel
          clear ht2 ht3 ht1 hsz
          go_wp2_with (at_builtin; refine wpList_append_str rfl (.tmp 19) (.tmp 20) rfl rfl HOu.out sp rfl (by omega) (Nat.le_trans hbase HK.out.size) ?_; intro v1 W1 ho1 hk1; have HX1 := Lib.hid (hk1.blk HX.out (by decide)); have HK1 := Lib.hid (HK.out.trans hk1); have HO1 := Lib.hid ho1; obtain ⟨⟨x0, x1, x2, x3, x4, x5, x6, x7⟩, _⟩ := HX1.out.eight; clear ho1 hk1 HX HK HOu)
          have HZ := Lib.hid (fun (w' : World) (h : Kp base w w') (hx : Blk w' wr.heap.size 88 #[.int .i64 2, .string s, .slice (some ⟨b2, f2, none⟩) 1 c2, .slice (some ⟨b3, f3, none⟩) 1 c3, .int .i64 0, .int .i64 0, .slice B6 0 c6, .slice B7 0 c7]) => And.intro (show w'.cell? ⟨wr.heap.size, 1, none⟩ = some (.string s) ∧ w'.cell? ⟨wr.heap.size, 2, none⟩ = some (.slice (some ⟨b2, f2, none⟩) 1 c2) ∧ w'.cell? ⟨wr.heap.size, 3, none⟩ = some (.slice (some ⟨b3, f3, none⟩) 1 c3) from ⟨hx.cell 1, hx.cell 2, hx.cell 3⟩) (And.intro (HT2.out w' h).1 (HT3.out w' h).1))
          have HKd := Lib.hid HK1.out.drew
          have HXd := Lib.hid HX1.out.drew
          have HOd := Lib.hid (OutB.below HO1.out (w' := W1.drew) ⟨rfl, rfl, rfl, Nat.le_refl _, fun _ _ => rfl⟩)
          have z := HZ.out _ HKd.out HXd.out
          go_region_held_law (fun w' => (w'.cell? ⟨wr.heap.size, 1, none⟩ = some (.string s) ∧ w'.cell? ⟨wr.heap.size, 2, none⟩ = some (.slice (some ⟨b2, f2, none⟩) 1 c2) ∧ w'.cell? ⟨wr.heap.size, 3, none⟩ = some (.slice (some ⟨b3, f3, none⟩) 1 c3)) ∧ (w'.cell? ⟨b2, f2, none⟩ = some (.int .i64 k2) ∧ w'.cell? ⟨b2, f2 + 1, none⟩ = some (.int .i64 n2) ∧ w'.cell? ⟨b2, f2 + 2, none⟩ = some (.string s2) ∧ w'.cell? ⟨b2, f2 + 3, none⟩ = some (.int .i64 o2) ∧ w'.cell? ⟨b2, f2 + 4, none⟩ = some (.slice E2 (Exs.len a2) d2)) ∧ (w'.cell? ⟨b3, f3, none⟩ = some (.int .i64 k3) ∧ w'.cell? ⟨b3, f3 + 1, none⟩ = some (.int .i64 n3) ∧ w'.cell? ⟨b3, f3 + 2, none⟩ = some (.string s3) ∧ w'.cell? ⟨b3, f3 + 3, none⟩ = some (.int .i64 o3) ∧ w'.cell? ⟨b3, f3 + 4, none⟩ = some (.slice E3 (Exs.len a3) d3)))
            (first | (with_reducible assumption) | (with_reducible exact z) | (with_reducible exact z2) | (with_reducible exact z3) | (with_reducible exact z9))
            (first
              | (refine step_append_str _ rfl (.tmp 46) (.tmp 63) rfl (by simp [Act.eval]) HO3.out t5 (by simp [Act.eval]) (by (have := HSz3.out; omega)) (Nat.le_trans hbase HK3.out.size) ?_; intro v9 W9 ho9 hk9; have HO9 := Lib.hid ho9; have HK9 := Lib.hid (HK3.out.trans hk9); have HX9 := Lib.hid (hk9.blk HX3.out (by decide)); have z9 := HZ.out _ HK9.out HX9.out; clear ho9 hk9)
              | (go_simp; go_at_call 44; (with_reducible refine (HT2.out _ HKd.out).2.mono ?_); rintro e W2 ⟨r2, rfl, hr, hb⟩; obtain ⟨t2, ht2, qt2⟩ := cat t1 r2 (by (have := HSzd.out; show t1.size + r2.size ≤ 100000; omega)); obtain ⟨t3, ht3, qt3⟩ := cat t2 ⟨#[93, 32, 61, 32]⟩ (by (rw [ht2]; have := HSzd.out; show t1.size + r2.size + 4 ≤ 100000; omega)); have HSz2 := Lib.hid (show t3.size ≤ 118 by (rw [ht3, ht2]; have := HSzd.out; show t1.size + r2.size + 4 ≤ 118; omega)); have HO2 := Lib.hid (OutB.below HOd.out hb); have HK2 := Lib.hid (HKd.out.trans (Kp.below hb)); have HX2 := Lib.hid (HXd.out.below hb HXd.out.lt); have z2 := HZ.out _ HK2.out HX2.out; clear hb hr ht2 ht3)
              | (go_simp; go_at_call 44; (with_reducible refine (HT3.out _ HK2.out).2.mono ?_); rintro e W3 ⟨r3, rfl, hr, hb⟩; obtain ⟨t4, ht4, qt4⟩ := cat t3 r3 (by (have := HSz2.out; show t3.size + r3.size ≤ 100000; omega)); obtain ⟨t5, ht5, qt5⟩ := cat t4 ⟨#[10]⟩ (by (rw [ht4]; have := HSz2.out; show t3.size + r3.size + 1 ≤ 100000; omega)); have HSz3 := Lib.hid (show t5.size ≤ 229 by (rw [ht5, ht4]; have := HSz2.out; show t3.size + r3.size + 1 ≤ 229; omega)); have HO3 := Lib.hid (OutB.below HO2.out hb); have HK3 := Lib.hid (HK2.out.trans (Kp.below hb)); have HX3 := Lib.hid (HX2.out.below hb HX2.out.lt); have z3 := HZ.out _ HK3.out HX3.out; clear hb hr ht4 ht5))
          go_wp2_with fail
          go_roundw
          case rel => exact ⟨j + 1, nn + sp.size + t5.size, by omega, by go_num, Lib.hid ⟨by have := HCn.out; have := HSz3.out; omega, HK9.out, HO9.out⟩⟩
          case measure => simp [intOf]; omega
        · skip
          obtain ⟨b3, f3, k3, n3, s3, o3, a3, E3, d3, rfl, ht3⟩ := HV.out hvl
          have HT3 := Lib.hid ht3
          obtain ⟨lb0, lb1⟩ := hlb
          rw [hil] at g2 HX HK HOu
          rw [hvl] at g3 HX HK HOu
          clear hil hvl
          clear ht3
          go_wp2_with (at_builtin; refine wpList_append_str rfl (.tmp 19) (.tmp 20) rfl rfl HOu.out sp rfl (by omega) (Nat.le_trans hbase HK.out.size) ?_; intro v1 W1 ho1 hk1; have HX1 := Lib.hid (hk1.blk HX.out (by decide)); have HK1 := Lib.hid (HK.out.trans hk1); have HO1 := Lib.hid ho1; obtain ⟨⟨x0, x1, x2, x3, x4, x5, x6, x7⟩, _⟩ := HX1.out.eight; clear ho1 hk1 HX HK HOu)
          have HZ := Lib.hid (fun (w' : World) (h : Kp base w w') (hx : Blk w' wr.heap.size 88 #[.int .i64 3, .string ⟨#[]⟩, .slice B2 0 c2, .slice (some ⟨b3, f3, none⟩) 1 c3, .int .i64 0, .int .i64 l, .slice B6 tt.len c6, .slice B7 ee.len c7]) => And.intro (show w'.cell? ⟨wr.heap.size, 3, none⟩ = some (.slice (some ⟨b3, f3, none⟩) 1 c3) ∧ w'.cell? ⟨wr.heap.size, 4, none⟩ = some (.int .i64 0) ∧ w'.cell? ⟨wr.heap.size, 5, none⟩ = some (.int .i64 l) from ⟨hx.cell 3, hx.cell 4, hx.cell 5⟩) (HT3.out w' h).1)
          have HKd := Lib.hid HK1.out.drew
          have HXd := Lib.hid HX1.out.drew
          have HOd := Lib.hid (OutB.below HO1.out (w' := W1.drew) ⟨rfl, rfl, rfl, Nat.le_refl _, fun _ _ => rfl⟩)
          have z := HZ.out _ HKd.out HXd.out
          go_region_held_law (fun w' => (w'.cell? ⟨wr.heap.size, 3, none⟩ = some (.slice (some ⟨b3, f3, none⟩) 1 c3) ∧ w'.cell? ⟨wr.heap.size, 4, none⟩ = some (.int .i64 0) ∧ w'.cell? ⟨wr.heap.size, 5, none⟩ = some (.int .i64 l)) ∧ (w'.cell? ⟨b3, f3, none⟩ = some (.int .i64 k3) ∧ w'.cell? ⟨b3, f3 + 1, none⟩ = some (.int .i64 n3) ∧ w'.cell? ⟨b3, f3 + 2, none⟩ = some (.string s3) ∧ w'.cell? ⟨b3, f3 + 3, none⟩ = some (.int .i64 o3) ∧ w'.cell? ⟨b3, f3 + 4, none⟩ = some (.slice E3 (Exs.len a3) d3)))
            (first | (with_reducible assumption) | (with_reducible exact z) | (with_reducible exact z2) | (with_reducible exact z3) | (with_reducible exact z9))
            (first
              | (refine step_append_str _ rfl (.tmp 67) (.tmp 79) rfl (by simp [Act.eval]) HO3.out t5 (by simp [Act.eval]) (by (have := HSz3.out; omega)) (Nat.le_trans hbase HK3.out.size) ?_; intro v9 W9 ho9 hk9; have HO9 := Lib.hid ho9; have HK9 := Lib.hid (HK3.out.trans hk9); have HX9 := Lib.hid (hk9.blk HX3.out (by decide)); have z9 := HZ.out _ HK9.out HX9.out; clear ho9 hk9)
              | (go_simp; go_at_call 44; (with_reducible refine (HT3.out _ HKd.out).2.mono ?_); rintro e W2 ⟨r2, rfl, hr, hb⟩; obtain ⟨t2, ht2, qt2⟩ := cat ⟨#[105, 102, 32]⟩ r2 (by (show 3 + r2.size ≤ 100000; omega)); obtain ⟨t3, ht3, qt3⟩ := cat t2 ⟨#[32, 108, 97, 98, 101, 108, 32]⟩ (by (rw [ht2]; show 3 + r2.size + 7 ≤ 100000; omega)); have HSz2 := Lib.hid (show t3.size ≤ 120 by (rw [ht3, ht2]; show 3 + r2.size + 7 ≤ 120; omega)); have HO2 := Lib.hid (OutB.below HOd.out hb); have HK2 := Lib.hid (HKd.out.trans (Kp.below hb)); have HX2 := Lib.hid (HXd.out.below hb HXd.out.lt); have z2 := HZ.out _ HK2.out HX2.out; clear hb hr ht2 ht3)
              | (go_simp; go_at_call 28; (with_reducible refine (number_any l (by omega) _).mono ?_); rintro e W3 ⟨r3, rfl, hr, hb⟩; obtain ⟨t4, ht4, qt4⟩ := cat t3 r3 (by (have := HSz2.out; show t3.size + r3.size ≤ 100000; omega)); obtain ⟨t5, ht5, qt5⟩ := cat t4 ⟨#[32, 123, 10]⟩ (by (rw [ht4]; have := HSz2.out; show t3.size + r3.size + 3 ≤ 100000; omega)); have HSz3 := Lib.hid (show t5.size ≤ 134 by (rw [ht5, ht4]; have := HSz2.out; show t3.size + r3.size + 3 ≤ 134; omega)); have HO3 := Lib.hid (OutB.below HO2.out hb); have HK3 := Lib.hid (HK2.out.trans (Kp.below hb)); have HX3 := Lib.hid (HX2.out.below hb HX2.out.lt); have z3 := HZ.out _ HK3.out HX3.out; clear hb hr ht4 ht5))
          have HLast := Lib.hid (show t5.size ≤ 200 from Nat.le_trans HSz3.out (by omega))
          obtain ⟨⟨x0, x1, x2, x3, x4, x5, x6, x7⟩, _⟩ := HX9.out.eight
          obtain ⟨sp2, hsp2, qs2⟩ := cat sp ⟨#[32, 32]⟩ (by show sp.size + 2 ≤ 100000; omega)
          have HSp2 := Lib.hid (show sp2.size = sp.size + 2 from hsp2)
          clear hsp2
          go_wp2_with fail
          refine (HB.out _ HK9.out _ _ sp2 HO9.out (by have := HCn.out; have := HSp.out.2; have := HLast.out; omega) HSp2.out).mono ?_
          rintro e W10 ⟨v10, n10, rfl, ho, hn10, hk⟩
          have HO10 := Lib.hid ho
          have HN10 := Lib.hid hn10
          have HK10 := Lib.hid (HK9.out.trans hk)
          have HX10 := Lib.hid (hk.blk HX9.out (by decide))
          clear ho hn10 hk x0 x1 x2 x3 x4 x5 x6 x7
          obtain ⟨⟨x0, x1, x2, x3, x4, x5, x6, x7⟩, _⟩ := HX10.out.eight
          by_cases hel : 0 < ee.len
          · have hel' : (0 : Int) < ee.len := by omega
            obtain ⟨sp3, hsp3, qs3⟩ := cat sp ⟨#[125, 32, 101, 108, 115, 101, 32, 123, 10]⟩ (by show sp.size + 9 ≤ 100000; omega)
            have HSp3 := Lib.hid (show sp3.size = sp.size + 9 from hsp3)
            clear hsp3
            go_wp2_with (at_builtin; refine wpList_append_str rfl (.tmp 112) (.tmp 114) rfl rfl HO10.out sp3 rfl (by have := HSp3.out; have := HCn.out; have := HSp.out.2; have := HN10.out; have := HLast.out; omega) (Nat.le_trans hbase HK10.out.size) ?_; intro v11 W11 ho11 hk11; have HO11 := Lib.hid ho11; have HK11 := Lib.hid (HK10.out.trans hk11); have HX11 := Lib.hid (hk11.blk HX10.out (by decide)); obtain ⟨⟨y0, y1, y2, y3, y4, y5, y6, y7⟩, _⟩ := HX11.out.eight; clear ho11 hk11)
            refine (HE.out _ HK11.out _ _ sp2 HO11.out (by have := HCn.out; have := HSp.out.2; have := HLast.out; have := HN10.out; have := HSp3.out; omega) HSp2.out).mono ?_
            rintro e W13 ⟨v13, n13, rfl, ho, hn13, hk⟩
            have HO13 := Lib.hid ho
            have HN13 := Lib.hid hn13
            have HK13 := Lib.hid (HK11.out.trans hk)
            clear ho hn13 hk y0 y1 y2 y3 y4 y5 y6 y7 x0 x1 x2 x3 x4 x5 x6 x7
            obtain ⟨sp4, hsp4, qs4⟩ := cat sp ⟨#[125, 10]⟩ (by show sp.size + 2 ≤ 100000; omega)
            have HSp4 := Lib.hid (show sp4.size = sp.size + 2 from hsp4)
            clear hsp4
            go_wp2_with (at_builtin; refine wpList_append_str rfl (.tmp 122) (.tmp 124) rfl rfl HO13.out sp4 rfl (by have := HSp4.out; have := HCn.out; have := HSp.out.2; have := HN10.out; have := HLast.out; have := HSp3.out; have := HN13.out; omega) (Nat.le_trans hbase HK13.out.size) ?_; intro v12 W12 ho12 hk12; have HO12 := Lib.hid ho12; have HK12 := Lib.hid (HK13.out.trans hk12); clear ho12 hk12)
            go_roundw
            case rel => exact ⟨j + 1, _, by omega, by go_num, Lib.hid ⟨by have := HCn.out; have := HSp4.out; have := HN10.out; have := HLast.out; have := HSp3.out; have := HN13.out; omega, HK12.out, HO12.out⟩⟩
            case measure => simp [intOf]; omega
          · have hel0 : ee.len = 0 := by omega
            rw [hel0] at x7
            obtain ⟨sp4, hsp4, qs4⟩ := cat sp ⟨#[125, 10]⟩ (by show sp.size + 2 ≤ 100000; omega)
            have HSp4 := Lib.hid (show sp4.size = sp.size + 2 from hsp4)
            clear hsp4
            go_wp2_with (at_builtin; refine wpList_append_str rfl (.tmp 122) (.tmp 124) rfl rfl HO10.out sp4 rfl (by have := HSp4.out; have := HCn.out; have := HSp.out.2; have := HN10.out; have := HLast.out; omega) (Nat.le_trans hbase HK10.out.size) ?_; intro v12 W12 ho12 hk12; have HO12 := Lib.hid ho12; have HK12 := Lib.hid (HK10.out.trans hk12); clear ho12 hk12)
            go_roundw
            case rel => exact ⟨j + 1, _, by omega, by go_num, Lib.hid ⟨by have := HCn.out; have := HSp4.out; have := HN10.out; have := HLast.out; omega, HK12.out, HO12.out⟩⟩
            case measure => simp [intOf]; omega
        · skip
          obtain ⟨b3, f3, k3, n3, s3, o3, a3, E3, d3, rfl, ht3⟩ := HV.out hvl
          have HT3 := Lib.hid ht3
          obtain ⟨lb0, lb1⟩ := hlb
          obtain ⟨mb0, mb1⟩ := hmb
          rw [hil] at g2 HX HK HOu
          rw [hvl] at g3 HX HK HOu
          clear hil hvl
          rw [hel] at g7 HX HK HOu
          clear hel
          clear ht3
          go_wp2_with (at_builtin; refine wpList_append_str rfl (.tmp 19) (.tmp 20) rfl rfl HOu.out sp rfl (by omega) (Nat.le_trans hbase HK.out.size) ?_; intro v1 W1 ho1 hk1; have HX1 := Lib.hid (hk1.blk HX.out (by decide)); have HK1 := Lib.hid (HK.out.trans hk1); have HO1 := Lib.hid ho1; obtain ⟨⟨x0, x1, x2, x3, x4, x5, x6, x7⟩, _⟩ := HX1.out.eight; clear ho1 hk1 HX HK HOu)
          have HZ := Lib.hid (fun (w' : World) (h : Kp base w w') (hx : Blk w' wr.heap.size 88 #[.int .i64 4, .string ⟨#[]⟩, .slice B2 0 c2, .slice (some ⟨b3, f3, none⟩) 1 c3, .int .i64 m, .int .i64 l, .slice B6 tt.len c6, .slice B7 0 c7]) => And.intro (show w'.cell? ⟨wr.heap.size, 3, none⟩ = some (.slice (some ⟨b3, f3, none⟩) 1 c3) ∧ w'.cell? ⟨wr.heap.size, 4, none⟩ = some (.int .i64 m) ∧ w'.cell? ⟨wr.heap.size, 5, none⟩ = some (.int .i64 l) from ⟨hx.cell 3, hx.cell 4, hx.cell 5⟩) (HT3.out w' h).1)
          have HKd := Lib.hid HK1.out.drew
          have HXd := Lib.hid HX1.out.drew
          have HOd := Lib.hid (OutB.below HO1.out (w' := W1.drew) ⟨rfl, rfl, rfl, Nat.le_refl _, fun _ _ => rfl⟩)
          have z := HZ.out _ HKd.out HXd.out
          go_region_held_law (fun w' => (w'.cell? ⟨wr.heap.size, 3, none⟩ = some (.slice (some ⟨b3, f3, none⟩) 1 c3) ∧ w'.cell? ⟨wr.heap.size, 4, none⟩ = some (.int .i64 m) ∧ w'.cell? ⟨wr.heap.size, 5, none⟩ = some (.int .i64 l)) ∧ (w'.cell? ⟨b3, f3, none⟩ = some (.int .i64 k3) ∧ w'.cell? ⟨b3, f3 + 1, none⟩ = some (.int .i64 n3) ∧ w'.cell? ⟨b3, f3 + 2, none⟩ = some (.string s3) ∧ w'.cell? ⟨b3, f3 + 3, none⟩ = some (.int .i64 o3) ∧ w'.cell? ⟨b3, f3 + 4, none⟩ = some (.slice E3 (Exs.len a3) d3)))
            (first | (with_reducible assumption) | (with_reducible exact z) | (with_reducible exact z2) | (with_reducible exact z3) | (with_reducible exact z4) | (with_reducible exact z9))
            (first
              | (refine step_append_str _ rfl (.tmp 83) (.tmp 100) rfl (by simp [Act.eval]) HO4.out t7 (by simp [Act.eval]) (by (have := HSz4.out; omega)) (Nat.le_trans hbase HK4.out.size) ?_; intro v9 W9 ho9 hk9; have HO9 := Lib.hid ho9; have HK9 := Lib.hid (HK4.out.trans hk9); have HX9 := Lib.hid (hk9.blk HX4.out (by decide)); have z9 := HZ.out _ HK9.out HX9.out; clear ho9 hk9)
              | (go_simp; go_at_call 44; (with_reducible refine (HT3.out _ HKd.out).2.mono ?_); rintro e W2 ⟨r2, rfl, hr, hb⟩; obtain ⟨t2, ht2, qt2⟩ := cat ⟨#[119, 104, 105, 108, 101, 32]⟩ r2 (by (show 6 + r2.size ≤ 100000; omega)); obtain ⟨t3, ht3, qt3⟩ := cat t2 ⟨#[32, 109, 97, 120, 32]⟩ (by (rw [ht2]; show 6 + r2.size + 5 ≤ 100000; omega)); have HSz2 := Lib.hid (show t3.size ≤ 121 by (rw [ht3, ht2]; show 6 + r2.size + 5 ≤ 121; omega)); have HO2 := Lib.hid (OutB.below HOd.out hb); have HK2 := Lib.hid (HKd.out.trans (Kp.below hb)); have HX2 := Lib.hid (HXd.out.below hb HXd.out.lt); have z2 := HZ.out _ HK2.out HX2.out; clear hb hr ht2 ht3)
              | (go_simp; go_at_call 28; (with_reducible refine (number_any m (by omega) _).mono ?_); rintro e W3 ⟨r3, rfl, hr, hb⟩; obtain ⟨t4, ht4, qt4⟩ := cat t3 r3 (by (have := HSz2.out; show t3.size + r3.size ≤ 100000; omega)); obtain ⟨t5, ht5, qt5⟩ := cat t4 ⟨#[32, 108, 97, 98, 101, 108, 32]⟩ (by (rw [ht4]; have := HSz2.out; show t3.size + r3.size + 7 ≤ 100000; omega)); have HSz3 := Lib.hid (show t5.size ≤ 139 by (rw [ht5, ht4]; have := HSz2.out; show t3.size + r3.size + 7 ≤ 139; omega)); have HO3 := Lib.hid (OutB.below HO2.out hb); have HK3 := Lib.hid (HK2.out.trans (Kp.below hb)); have HX3 := Lib.hid (HX2.out.below hb HX2.out.lt); have z3 := HZ.out _ HK3.out HX3.out; clear hb hr ht4 ht5)
              | (go_simp; go_at_call 28; (with_reducible refine (number_any l (by omega) _).mono ?_); rintro e W4 ⟨r4, rfl, hr, hb⟩; obtain ⟨t6, ht6, qt6⟩ := cat t5 r4 (by (have := HSz3.out; show t5.size + r4.size ≤ 100000; omega)); obtain ⟨t7, ht7, qt7⟩ := cat t6 ⟨#[32, 123, 10]⟩ (by (rw [ht6]; have := HSz3.out; show t5.size + r4.size + 3 ≤ 100000; omega)); have HSz4 := Lib.hid (show t7.size ≤ 153 by (rw [ht7, ht6]; have := HSz3.out; show t5.size + r4.size + 3 ≤ 153; omega)); have HO4 := Lib.hid (OutB.below HO3.out hb); have HK4 := Lib.hid (HK3.out.trans (Kp.below hb)); have HX4 := Lib.hid (HX3.out.below hb HX3.out.lt); have z4 := HZ.out _ HK4.out HX4.out; clear hb hr ht6 ht7))
          have HLast := Lib.hid (show t7.size ≤ 200 from Nat.le_trans HSz4.out (by omega))
          obtain ⟨⟨x0, x1, x2, x3, x4, x5, x6, x7⟩, _⟩ := HX9.out.eight
          obtain ⟨sp2, hsp2, qs2⟩ := cat sp ⟨#[32, 32]⟩ (by show sp.size + 2 ≤ 100000; omega)
          have HSp2 := Lib.hid (show sp2.size = sp.size + 2 from hsp2)
          clear hsp2
          go_wp2_with fail
          refine (HB.out _ HK9.out _ _ sp2 HO9.out (by have := HCn.out; have := HSp.out.2; have := HLast.out; omega) HSp2.out).mono ?_
          rintro e W10 ⟨v10, n10, rfl, ho, hn10, hk⟩
          have HO10 := Lib.hid ho
          have HN10 := Lib.hid hn10
          have HK10 := Lib.hid (HK9.out.trans hk)
          have HX10 := Lib.hid (hk.blk HX9.out (by decide))
          clear ho hn10 hk x0 x1 x2 x3 x4 x5 x6 x7
          obtain ⟨⟨x0, x1, x2, x3, x4, x5, x6, x7⟩, _⟩ := HX10.out.eight
          obtain ⟨sp4, hsp4, qs4⟩ := cat sp ⟨#[125, 10]⟩ (by show sp.size + 2 ≤ 100000; omega)
          have HSp4 := Lib.hid (show sp4.size = sp.size + 2 from hsp4)
          clear hsp4
          go_wp2_with (at_builtin; refine wpList_append_str rfl (.tmp 122) (.tmp 124) rfl rfl HO10.out sp4 rfl (by have := HSp4.out; have := HCn.out; have := HSp.out.2; have := HN10.out; have := HLast.out; omega) (Nat.le_trans hbase HK10.out.size) ?_; intro v12 W12 ho12 hk12; have HO12 := Lib.hid ho12; have HK12 := Lib.hid (HK10.out.trans hk12); clear ho12 hk12)
          go_roundw
          case rel => exact ⟨j + 1, _, by omega, by go_num, Lib.hid ⟨by have := HCn.out; have := HSp4.out; have := HN10.out; have := HLast.out; omega, HK12.out, HO12.out⟩⟩
          case measure => simp [intOf]; omega
        · skip
          have hsz := hs.size
          obtain ⟨t2, ht2, q2⟩ := cat ⟨#[108, 111, 99, 107, 32]⟩ s (by show 5 + s.size ≤ 100000; omega)
          obtain ⟨t3, ht3, q3⟩ := cat t2 ⟨#[32, 123, 10]⟩ (by rw [ht2]; show 5 + s.size + 3 ≤ 100000; omega)
          have HLast := Lib.hid (show t3.size ≤ 200 by rw [ht3, ht2]; show 5 + s.size + 3 ≤ 200; omega)
          rw [hil] at g2 HX HK HOu
          rw [hvl] at g3 HX HK HOu
          rw [hel] at g7 HX HK HOu
          clear hil hvl hel ht2 ht3 hsz
          obtain ⟨sp2, hsp2, qs2⟩ := cat sp ⟨#[32, 32]⟩ (by show sp.size + 2 ≤ 100000; omega)
          have HSp2 := Lib.hid (show sp2.size = sp.size + 2 from hsp2)
          clear hsp2
          go_wp2_with (first | (at_builtin; refine wpList_append_str rfl (.tmp 19) (.tmp 20) rfl rfl HOu.out sp rfl (by omega) (Nat.le_trans hbase HK.out.size) ?_; intro v1 W1 ho1 hk1; have HX1 := Lib.hid (hk1.blk HX.out (by decide)); have HK1 := Lib.hid (HK.out.trans hk1); have HO1 := Lib.hid ho1; obtain ⟨⟨x0, x1, x2, x3, x4, x5, x6, x7⟩, _⟩ := HX1.out.eight; clear ho1 hk1 HX HK HOu) | (at_builtin; refine wpList_append_str rfl (.tmp 24) (.tmp 28) rfl rfl HO1.out t3 rfl (by have := HLast.out; omega) (Nat.le_trans hbase HK1.out.size) ?_; intro v9 W9 ho9 hk9; have HX9 := Lib.hid (hk9.blk HX1.out (by decide)); have HK9 := Lib.hid (HK1.out.trans hk9); have HO9 := Lib.hid ho9; clear ho9 hk9 x0 x1 x2 x3 x4 x5 x6 x7; obtain ⟨⟨x0, x1, x2, x3, x4, x5, x6, x7⟩, _⟩ := HX9.out.eight))
          refine (HB.out _ HK9.out _ _ sp2 HO9.out (by have := HCn.out; have := HSp.out.2; have := HLast.out; omega) HSp2.out).mono ?_
          rintro e W10 ⟨v10, n10, rfl, ho, hn10, hk⟩
          have HO10 := Lib.hid ho
          have HN10 := Lib.hid hn10
          have HK10 := Lib.hid (HK9.out.trans hk)
          have HX10 := Lib.hid (hk.blk HX9.out (by decide))
          clear ho hn10 hk x0 x1 x2 x3 x4 x5 x6 x7
          obtain ⟨⟨x0, x1, x2, x3, x4, x5, x6, x7⟩, _⟩ := HX10.out.eight
          obtain ⟨sp4, hsp4, qs4⟩ := cat sp ⟨#[125, 10]⟩ (by show sp.size + 2 ≤ 100000; omega)
          have HSp4 := Lib.hid (show sp4.size = sp.size + 2 from hsp4)
          clear hsp4
          go_wp2_with (at_builtin; refine wpList_append_str rfl (.tmp 122) (.tmp 124) rfl rfl HO10.out sp4 rfl (by have := HSp4.out; have := HCn.out; have := HSp.out.2; have := HN10.out; have := HLast.out; omega) (Nat.le_trans hbase HK10.out.size) ?_; intro v12 W12 ho12 hk12; have HO12 := Lib.hid ho12; have HK12 := Lib.hid (HK10.out.trans hk12); clear ho12 hk12)
          go_roundw
          case rel => exact ⟨j + 1, _, by omega, by go_num, Lib.hid ⟨by have := HCn.out; have := HSp4.out; have := HN10.out; have := HLast.out; omega, HK12.out, HO12.out⟩⟩
          case measure => simp [intOf]; omega
      · have hlt' : ¬ (j : Int) < len := by omega
        go_wp2
        go_ret
        exact ⟨_, nn, rfl, hR.out.2.2, by have := hR.out.1; omega, hR.out.2.1⟩
end Go.Proofs.YtbppfhlpielpcaaDoor
