/- The specification's texts of expressions: some texts of bounded length. -/
import Derived.Test.YtbppfhlpielpcaaDoorRfText
import Derived.Test.YtbppfhlpielpcaaDoorRfShape
import Derived.Deep.RegionHeld3
namespace Go.Proofs.YtbppfhlpielpcaaDoor
open Go.RowKit Tk
set_option linter.unusedVariables false
set_option maxRecDepth 100000
theorem Below.two {w W W' : World} (h : Below w.heap.size w W) (k : Below W.heap.size W W') : Below w.heap.size w W' := h.trans (k.mono h.size)
theorem pow_le6 {h : Nat} (hh : h ≤ 6) : 2 ^ h ≤ 64 := Nat.le_trans (Nat.pow_le_pow_right (by omega) hh) (by decide)
set_option maxHeartbeats 4000000 in
theorem text_any (N : Nat) : ∀ (a : Exs) (A : Option Addr) (c : Nat) (k n o : Int) (s : ByteArray) (S : Nat → Prop) (w : World), a.height = N → Node k n s o a.len → a.Good → a.At w S A → a.height ≤ 6 →
    Calls Tryd.prog 44 #[.agg #[.int .i64 k, .int .i64 n, .string s, .int .i64 o, .slice A a.len c]] w fun e w' => ∃ r : ByteArray, e = .returned (.string r) ∧ r.size + 10 ≤ 30 * 2 ^ a.height ∧ Below w.heap.size w w' := by
  induction N using Nat.strongRecOn with
  | _ N ih =>
    intro a A c k n o s S w hh hnode hgood hat h6
    have IH := Lib.hid ih
    have HW := Lib.hid (And.intro hgood (And.intro hat (And.intro hh h6)))
    have HP := Lib.hid (show 30 ≤ 30 * 2 ^ a.height by have := Nat.one_le_two_pow (n := a.height); omega)
    have HA := Lib.hid ((Below.refl w.heap.size w).alloc (Nat.le_refl _) (.cells (exV k n o s A a.len c) 91))
    have HX := Lib.hid (Blk.new w 91 (exV k n o s A a.len c))
    clear ih hh hgood hat h6
    rcases hnode with ⟨rfl, hn, rfl, rfl, hl⟩ | ⟨rfl, rfl, hs, rfl, hl⟩ | ⟨rfl, rfl, hs, rfl, hl⟩ | ⟨rfl, rfl, rfl, ho, hl⟩
    · rw [hl] at HA HX ⊢
      clear hl
      by_cases hneg : n < 0
      · go_enter Tryd.func44, Tryd.ntmps44
        go_wp2_with fail
        refine (number_any n hn _).mono ?_
        rintro e w1 ⟨r, rfl, hr, hb⟩
        obtain ⟨r1, hr1, q1⟩ := cat ⟨#[40]⟩ r (by show 1 + r.size ≤ 100000; omega)
        obtain ⟨r2, hr2, q2⟩ := cat r1 ⟨#[41]⟩ (by rw [hr1]; show 1 + r.size + 1 ≤ 100000; omega)
        have HR := Lib.hid (show r2.size ≤ 13 by rw [hr2, hr1]; show 1 + r.size + 1 ≤ 13; omega)
        have HB := Lib.hid (Below.two HA.out hb)
        clear hb hr hr1 hr2
        go_wp2_with fail
        go_ret
        exact ⟨r2, rfl, by have := HR.out; have := HP.out; omega, HB.out⟩
      · go_enter Tryd.func44, Tryd.ntmps44
        go_wp2_with fail
        refine (number_any n hn _).mono ?_
        rintro e w1 ⟨r, rfl, hr, hb⟩
        have HB := Lib.hid (And.intro hr (Below.two HA.out hb))
        clear hb hr
        go_wp2_with fail
        go_ret
        exact ⟨r, rfl, by have := HB.out.1; have := HP.out; omega, HB.out.2⟩
    · rw [hl] at HA HX ⊢
      clear hl
      go_enter Tryd.func44, Tryd.ntmps44
      go_wp2_with fail
      go_ret
      exact ⟨s, rfl, by have := hs.size; have := HP.out; omega, HA.out⟩
    · obtain ⟨b, f, rfl⟩ := HW.out.2.1.some (by omega)
      obtain ⟨k0, n0, s0, o0, a0, B0, c0, hb0, hd0, hc0, ha0⟩ := at_cells HW.out.2.1 (i := 0) (g := f) (by omega) (by omega)
      have hg0 := HW.out.1.drop 0
      have hh0 := Exs.drop_height a 0
      rw [hd0] at hg0 hh0
      simp only [Exs.height] at hh0
      have h6 := HW.out.2.2.2
      have hE : 30 * 2 ^ a0.height * 2 ≤ 30 * 2 ^ a.height := by
        have : 2 ^ (a0.height + 1) ≤ 2 ^ a.height := Nat.pow_le_pow_right (by omega) (by omega)
        rw [Nat.pow_succ] at this
        omega
      have HC := Lib.hid (fun (W : World) (hb : Below w.heap.size w W) => IH.out a0.height (by have := HW.out.2.2.1; omega) a0 B0 c0 k0 n0 o0 s0 S W rfl hg0.1 hg0.2.1 (ha0.keep hb.size fun q hq hl => ⟨hq, fun f => hb.cell (p := ⟨q, f, none⟩) hl⟩) (by omega))
      have hsz := hs.size
      have hpw := pow_le6 h6
      have hpw0 := pow_le6 (show a0.height ≤ 6 by omega)
      obtain ⟨t1, ht1, q1⟩ := cat s ⟨#[91]⟩ (by show s.size + 1 ≤ 100000; omega)
      have HT := Lib.hid (show t1.size ≤ 4 by rw [ht1]; show s.size + 1 ≤ 4; omega)
      have HE := Lib.hid (And.intro hE hpw0)
      have HFc := Lib.hid (fun (W : World) (hb : Below w.heap.size w W) => five_below hb hb0 hc0)
      obtain ⟨y0, y1, y2, y3, y4⟩ := HFc.out _ HA.out
      rw [hl] at HA HX y0 y1 y2 y3 y4 ⊢
      clear hl hd0 hc0 ha0 hg0 hh0 h6 hE hpw hpw0 ht1 hsz
      go_enter Tryd.func44, Tryd.ntmps44
      go_wp2_with fail
      have x2 := HX.out.drew.cell 2
      have x4 := HX.out.drew.cell 4
      generalize hWA : w.alloc (.cells (exV 3 0 0 s (some ⟨b, f, none⟩) 1 c) 91) = WA at *
      have HD := Lib.hid (show Below w.heap.size w WA.drew from Below.two HA.out ⟨rfl, rfl, rfl, Nat.le_refl _, fun _ _ => rfl⟩)
      clear hWA
      go_region_held3 (fun w' => (w'.cell? ⟨w.heap.size, 2, none⟩ = some (.string s) ∧ w'.cell? ⟨w.heap.size, 4, none⟩ = some (.slice (some ⟨b, f, none⟩) 1 c)) ∧ w'.cell? ⟨b, f, none⟩ = some (.int .i64 k0) ∧ w'.cell? ⟨b, f + 1, none⟩ = some (.int .i64 n0) ∧ w'.cell? ⟨b, f + 2, none⟩ = some (.string s0) ∧ w'.cell? ⟨b, f + 3, none⟩ = some (.int .i64 o0) ∧ w'.cell? ⟨b, f + 4, none⟩ = some (.slice B0 a0.len c0))
        (first | (with_reducible assumption) | exact ⟨⟨x2, x4⟩, y0, y1, y2, y3, y4⟩ | exact z)
        (first | (go_at_call 44; refine (HC.out _ HD.out).mono ?_; rintro e w1 ⟨r, rfl, hr, hb⟩; obtain ⟨t2, ht2, q2⟩ := cat t1 r (by have := HT.out; have := HE.out; omega); obtain ⟨t3, ht3, q3⟩ := cat t2 ⟨#[93]⟩ (by rw [ht2]; have := HT.out; have := HE.out; show t1.size + r.size + 1 ≤ 100000; omega); have HR := Lib.hid (show t3.size + 10 ≤ 30 * 2 ^ a.height by (rw [ht3, ht2]; have := HT.out; have := HE.out; show t1.size + r.size + 1 + 10 ≤ _; omega)); have HF := Lib.hid (Below.two HD.out hb); have z := And.intro (And.intro ((hb.cell (p := ⟨w.heap.size, 2, none⟩) (HX.out.drew.lt)).trans x2) ((hb.cell (p := ⟨w.heap.size, 4, none⟩) (HX.out.drew.lt)).trans x4)) (HFc.out _ HF.out); clear hb hr ht2 ht3))
      go_wp2_with fail
      go_ret
      exact ⟨t3, rfl, HR.out, HF.out⟩
    · obtain ⟨b, f, rfl⟩ := HW.out.2.1.some (by omega)
      obtain ⟨k0, n0, s0, o0, a0, B0, c0, hb0, hd0, hc0, ha0⟩ := at_cells HW.out.2.1 (i := 0) (g := f) (by omega) (by omega)
      obtain ⟨k1, n1, s1, o1, a1, B1, c1, hb1, hd1, hc1, ha1⟩ := at_cells HW.out.2.1 (i := 1) (g := f + 5) (by omega) (by omega)
      have hg0 := HW.out.1.drop 0
      have hh0 := Exs.drop_height a 0
      rw [hd0] at hg0 hh0
      simp only [Exs.height] at hh0
      have hg1 := HW.out.1.drop 1
      have hh1 := Exs.drop_height a 1
      rw [hd1] at hg1 hh1
      simp only [Exs.height] at hh1
      have h6 := HW.out.2.2.2
      have hE : 30 * 2 ^ a0.height * 2 ≤ 30 * 2 ^ a.height := by
        have : 2 ^ (a0.height + 1) ≤ 2 ^ a.height := Nat.pow_le_pow_right (by omega) (by omega)
        rw [Nat.pow_succ] at this
        omega
      have hE1 : 30 * 2 ^ a1.height * 2 ≤ 30 * 2 ^ a.height := by
        have : 2 ^ (a1.height + 1) ≤ 2 ^ a.height := Nat.pow_le_pow_right (by omega) (by omega)
        rw [Nat.pow_succ] at this
        omega
      have HC := Lib.hid (fun (W : World) (hb : Below w.heap.size w W) => IH.out a0.height (by have := HW.out.2.2.1; omega) a0 B0 c0 k0 n0 o0 s0 S W rfl hg0.1 hg0.2.1 (ha0.keep hb.size fun q hq hl => ⟨hq, fun f => hb.cell (p := ⟨q, f, none⟩) hl⟩) (by omega))
      have HC1 := Lib.hid (fun (W : World) (hb : Below w.heap.size w W) => IH.out a1.height (by have := HW.out.2.2.1; omega) a1 B1 c1 k1 n1 o1 s1 S W rfl hg1.1 hg1.2.1 (ha1.keep hb.size fun q hq hl => ⟨hq, fun f => hb.cell (p := ⟨q, f, none⟩) hl⟩) (by omega))
      have hpw := pow_le6 h6
      have hpw0 := pow_le6 (show a0.height ≤ 6 by omega)
      have hpw1 := pow_le6 (show a1.height ≤ 6 by omega)
      have HE := Lib.hid (And.intro hE (And.intro hE1 (And.intro hpw0 hpw1)))
      have HFc := Lib.hid (fun (W : World) (hb : Below w.heap.size w W) => And.intro (five_below hb hb0 hc0) (five_below hb hb1 hc1))
      obtain ⟨⟨y0, y1, y2, y3, y4⟩, z0, z1, z2, z3, z4⟩ := HFc.out _ HA.out
      rw [hl] at HA HX y0 y1 y2 y3 y4 z0 z1 z2 z3 z4 ⊢
      clear hl hd0 hc0 ha0 hg0 hh0 h6 hE hpw hpw0 hd1 hc1 ha1 hg1 hh1 hE1 hpw1
      go_enter Tryd.func44, Tryd.ntmps44
      go_wp2_with fail
      generalize hWA : w.alloc (.cells (exV 4 0 o ⟨#[]⟩ (some ⟨b, f, none⟩) 2 c) 91) = WA at *
      have HD := Lib.hid (show Below w.heap.size w WA.drew from Below.two HA.out ⟨rfl, rfl, rfl, Nat.le_refl _, fun _ _ => rfl⟩)
      have HK := Lib.hid (fun (W : World) (h : Below w.heap.size w W) (hx : Blk W w.heap.size 91 (exV 4 0 o ⟨#[]⟩ (some ⟨b, f, none⟩) 2 c)) => And.intro (show W.cell? ⟨w.heap.size, 3, none⟩ = some (.int .i64 o) ∧ W.cell? ⟨w.heap.size, 4, none⟩ = some (.slice (some ⟨b, f, none⟩) 2 c) from ⟨hx.cell 3, hx.cell 4⟩) (HFc.out W h))
      have HXd := Lib.hid HX.out.drew
      have z := HK.out _ HD.out HXd.out
      clear hWA
      go_region_held3 (fun w' => (w'.cell? ⟨w.heap.size, 3, none⟩ = some (.int .i64 o) ∧ w'.cell? ⟨w.heap.size, 4, none⟩ = some (.slice (some ⟨b, f, none⟩) 2 c)) ∧ (w'.cell? ⟨b, f, none⟩ = some (.int .i64 k0) ∧ w'.cell? ⟨b, f + 1, none⟩ = some (.int .i64 n0) ∧ w'.cell? ⟨b, f + 2, none⟩ = some (.string s0) ∧ w'.cell? ⟨b, f + 3, none⟩ = some (.int .i64 o0) ∧ w'.cell? ⟨b, f + 4, none⟩ = some (.slice B0 a0.len c0)) ∧ (w'.cell? ⟨b, f + 5, none⟩ = some (.int .i64 k1) ∧ w'.cell? ⟨b, f + 5 + 1, none⟩ = some (.int .i64 n1) ∧ w'.cell? ⟨b, f + 5 + 2, none⟩ = some (.string s1) ∧ w'.cell? ⟨b, f + 5 + 3, none⟩ = some (.int .i64 o1) ∧ w'.cell? ⟨b, f + 5 + 4, none⟩ = some (.slice B1 a1.len c1)))
        (first | (with_reducible assumption) | (with_reducible exact z) | (with_reducible exact z1) | (with_reducible exact z2) | (with_reducible exact z3))
        (first
          | (go_at_call 44; (with_reducible refine (HC.out _ HD.out).mono ?_); rintro e w1 ⟨ra, rfl, hra, hb⟩; obtain ⟨t2, ht2, q2⟩ := cat ⟨#[40]⟩ ra (by (have := HE.out; show 1 + ra.size ≤ 100000; omega)); obtain ⟨t3, ht3, q3⟩ := cat t2 ⟨#[32]⟩ (by (rw [ht2]; have := HE.out; show 1 + ra.size + 1 ≤ 100000; omega)); have HR := Lib.hid (show t3.size = ra.size + 2 by (rw [ht3, ht2]; show 1 + ra.size + 1 = _; omega)); have HRa := Lib.hid hra; have HF := Lib.hid (Below.two HD.out hb); have HX1 := Lib.hid (HXd.out.below hb HXd.out.lt); have z1 := HK.out _ HF.out HX1.out; clear hb hra ht2 ht3)
          | (go_at_call 55; refine (sign4_any o ho _).mono ?_; rintro e w2 ⟨rs, rfl, hrs, hb⟩; obtain ⟨t4, ht4, q4⟩ := cat t3 rs (by (rw [HR.out]; have := HE.out; have := HRa.out; omega)); obtain ⟨t5, ht5, q5⟩ := cat t4 ⟨#[32]⟩ (by (rw [ht4, HR.out]; have := HE.out; have := HRa.out; show ra.size + 2 + rs.size + 1 ≤ 100000; omega)); have HR5 := Lib.hid (show t5.size ≤ ra.size + 5 by (rw [ht5, ht4, HR.out]; show ra.size + 2 + rs.size + 1 ≤ _; omega)); have HF2 := Lib.hid (Below.two HF.out hb); have HX2 := Lib.hid (HX1.out.below hb HX1.out.lt); have z2 := HK.out _ HF2.out HX2.out; clear hb hrs ht4 ht5)
          | (go_at_call 44; (with_reducible refine (HC1.out _ HF2.out).mono ?_); rintro e w3 ⟨rb, rfl, hrb, hb⟩; obtain ⟨t6, ht6, q6⟩ := cat t5 rb (by (have := HR5.out; have := HE.out; have := HRa.out; omega)); obtain ⟨t7, ht7, q7⟩ := cat t6 ⟨#[41]⟩ (by (rw [ht6]; have := HR5.out; have := HE.out; have := HRa.out; show t5.size + rb.size + 1 ≤ 100000; omega)); have HR7 := Lib.hid (show t7.size + 10 ≤ 30 * 2 ^ a.height by (rw [ht7, ht6]; have := HR5.out; have := HE.out; have := HRa.out; show t5.size + rb.size + 1 + 10 ≤ _; omega)); have HF3 := Lib.hid (Below.two HF2.out hb); have HX3 := Lib.hid (HX2.out.below hb HX2.out.lt); have z3 := HK.out _ HF3.out HX3.out; clear hb hrb ht6 ht7))
      go_wp2_with fail
      go_ret
      exact ⟨t7, rfl, HR7.out, HF3.out⟩
end Go.Proofs.YtbppfhlpielpcaaDoor
