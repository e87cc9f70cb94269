/- The specification's text: the text of an expression of height up to 8, exactly. No condition. -/
import Derived.Test.YtaabhlkhddkglaaDoorPrTxtM
import Derived.Deep.RegionHeld3
namespace Go.Proofs.YtaabhlkhddkglaaDoor
open Go.RowKit Tk
set_option linter.unusedVariables false
set_option linter.unusedSimpArgs false
set_option maxRecDepth 100000
attribute [local go_sem] y_undef
theorem Below.two {w W W' : World} (h : Below w.heap.size w W) (k : Below W.heap.size W W') : Below w.heap.size w W' := h.trans (k.mono h.size)
set_option maxHeartbeats 8000000 in
theorem rtxt_any (N : Nat) : ∀ (a : Exs) (A : Option Addr) (c : Nat) (k n o : Int) (s : ByteArray) (S : Nat → Prop) (w : World), a.height = N → shB k n s o a.len = true → a.sh → a.At w S A → a.height ≤ 7 →
    Calls Tryd.prog 15 #[.agg (exV k n o s A a.len c)] w fun e w' => e = .returned (.string (eTx k n s o a.txs)) ∧ Below w.heap.size w w' := by
  induction N using Nat.strongRecOn with
  | _ N ih =>
    intro a A c k n o s S w hh hnode hgood hat h6
    have IH := Lib.hid ih
    have HW := Lib.hid (And.intro hgood (And.intro hat (And.intro hh h6)))
    have HA := Lib.hid ((Below.refl w.heap.size w).alloc (Nat.le_refl _) (.cells (exV k n o s A a.len c) 26))
    have HX := Lib.hid (Blk.new w 26 (exV k n o s A a.len c))
    clear ih hh hgood hat h6
    rcases sh_cases hnode with ⟨rfl, hn, rfl, rfl, hl⟩ | ⟨rfl, rfl, hm, rfl, hl⟩ | ⟨rfl, rfl, hm, rfl, hl⟩ | ⟨rfl, rfl, rfl, ho, hl⟩
    · rw [hl] at HA HX ⊢
      show Calls _ _ _ _ fun e w' => e = .returned (.string (numB n)) ∧ _
      clear hl hnode
      have hz := itB_size hn
      have HNum := Lib.hid (fun W (hb : Below w.heap.size w W) => number_ok n hn W)
      by_cases hneg : n < 0
      · rw [show numB n = ⟨#[40]⟩ ++ itB n ++ ⟨#[41]⟩ from if_pos hneg]
        generalize itB n = r at *
        obtain ⟨r1, e1, h1, q1⟩ := cat2 ⟨#[40]⟩ r (by show 1 + r.size ≤ 100000; omega)
        obtain ⟨r2, e2, h2, q2⟩ := cat2 r1 ⟨#[41]⟩ (by rw [h1]; show 1 + r.size + 1 ≤ 100000; omega)
        rw [← e1, ← e2]
        clear e1 e2 h1 h2 hz
        go_enter Tryd.func15, Tryd.ntmps15
        go_wp2_with fail
        refine (HNum.out _ HA.out).mono ?_
        rintro e w1 ⟨rfl, hb⟩
        have HB := Lib.hid (Below.two HA.out hb)
        clear hb
        go_wp2_with fail
        go_ret
        exact ⟨rfl, HB.out⟩
      · rw [show numB n = itB n from if_neg hneg]
        generalize itB n = r at *
        clear hz
        go_enter Tryd.func15, Tryd.ntmps15
        go_wp2_with fail
        refine (HNum.out _ HA.out).mono ?_
        rintro e w1 ⟨rfl, hb⟩
        have HB := Lib.hid (Below.two HA.out hb)
        clear hb
        go_wp2_with fail
        go_ret
        exact ⟨rfl, HB.out⟩
    · rw [hl] at HA HX ⊢
      show Calls _ _ _ _ fun e w' => e = .returned (.string s) ∧ _
      have hsz := nm_size hm
      clear hl hnode hm
      go_enter Tryd.func15, Tryd.ntmps15
      go_wp2_with fail
      go_ret
      exact ⟨rfl, HA.out⟩
    · obtain ⟨b, f, rfl⟩ := HW.out.2.1.some (by omega)
      obtain ⟨k0, n0, s0, o0, a0, B0, c0, hb0, hd0, hc0, ha0⟩ := at_cells HW.out.2.1 (i := 0) (g := f) (by omega) (by omega)
      have hg0 := HW.out.1.drop 0
      have hh0 := Exs.drop_height a 0
      have ht0 := Exs.txs_at a 0 hd0
      rw [hd0] at hg0 hh0
      simp only [Exs.height] at hh0
      have h6 := HW.out.2.2.2
      have hts := txt_size a0.height a0 k0 n0 o0 s0 rfl hg0.1 hg0.2.1
      have HC := Lib.hid (fun (W : World) (hb : Below w.heap.size w W) => IH.out a0.height (by have := HW.out.2.2.1; omega) a0 B0 c0 k0 n0 o0 s0 S W rfl hg0.1 hg0.2.1 (ha0.keep hb.size fun q hq hl => ⟨hq, fun f => hb.cell (p := ⟨q, f, none⟩) hl⟩) (by omega))
      have hsz := nm_size hm
      have hpw0 := pow_le7 (show a0.height ≤ 7 by omega)
      show Calls _ _ _ _ fun e w' => e = .returned (.string (s ++ ⟨#[91]⟩ ++ a.txs.getD 0 ⟨#[]⟩ ++ ⟨#[93]⟩)) ∧ _
      rw [ht0]
      generalize eTx k0 n0 s0 o0 a0.txs = r at *
      have hrs : r.size ≤ 9000 := by omega
      obtain ⟨t1, e1, h1, q1⟩ := cat2 s ⟨#[91]⟩ (by show s.size + 1 ≤ 100000; omega)
      obtain ⟨t2, e2, h2, q2⟩ := cat2 t1 r (by rw [h1]; show s.size + 1 + r.size ≤ 100000; omega)
      obtain ⟨t3, e3, h3, q3⟩ := cat2 t2 ⟨#[93]⟩ (by rw [h2, h1]; show s.size + 1 + r.size + 1 ≤ 100000; omega)
      have HI := Lib.hid hrs
      have HSz := Lib.hid hsz
      rw [← e1, ← e2, ← e3]
      clear e1 e2 e3
      have HFc := Lib.hid (fun (W : World) (hb : Below w.heap.size w W) => five_below hb hb0 hc0)
      obtain ⟨y0, y1, y2, y3, y4⟩ := HFc.out _ HA.out
      rw [hl] at HA HX y0 y1 y2 y3 y4 ⊢
      clear hl hd0 hc0 ha0 hg0 hh0 h6 hpw0 hsz hm hnode hts h1 h2 h3 hrs ht0
      go_enter Tryd.func15, Tryd.ntmps15
      go_wp2_with fail
      have x2 := HX.out.drew.cell 2
      have x4 := HX.out.drew.cell 4
      generalize hWA : w.alloc (.cells (exV 3 0 0 s (some ⟨b, f, none⟩) 1 c) 26) = WA at *
      have HD := Lib.hid (show Below w.heap.size w WA.drew from Below.two HA.out ⟨rfl, rfl, rfl, Nat.le_refl _, fun _ _ => rfl⟩)
      clear hWA
      go_region_held3 (fun w' => (w'.cell? ⟨w.heap.size, 2, none⟩ = some (.string s) ∧ w'.cell? ⟨w.heap.size, 4, none⟩ = some (.slice (some ⟨b, f, none⟩) 1 c)) ∧ w'.cell? ⟨b, f, none⟩ = some (.int .i64 k0) ∧ w'.cell? ⟨b, f + 1, none⟩ = some (.int .i64 n0) ∧ w'.cell? ⟨b, f + 2, none⟩ = some (.string s0) ∧ w'.cell? ⟨b, f + 3, none⟩ = some (.int .i64 o0) ∧ w'.cell? ⟨b, f + 4, none⟩ = some (.slice B0 a0.len c0))
        (first | (with_reducible assumption) | exact ⟨⟨x2, x4⟩, y0, y1, y2, y3, y4⟩ | exact z)
        (first | (go_at_call 15; refine (HC.out _ HD.out).mono ?_; rintro e w1 ⟨rfl, hb⟩; have HF := Lib.hid (Below.two HD.out hb); have z := And.intro (And.intro ((hb.cell (p := ⟨w.heap.size, 2, none⟩) (HX.out.drew.lt)).trans x2) ((hb.cell (p := ⟨w.heap.size, 4, none⟩) (HX.out.drew.lt)).trans x4)) (HFc.out _ HF.out); clear hb))
      go_wp2_with fail
      go_ret
      exact ⟨rfl, HF.out⟩
    · obtain ⟨b, f, rfl⟩ := HW.out.2.1.some (by omega)
      obtain ⟨k0, n0, s0, o0, a0, B0, c0, hb0, hd0, hc0, ha0⟩ := at_cells HW.out.2.1 (i := 0) (g := f) (by omega) (by omega)
      obtain ⟨k1, n1, s1, o1, a1, B1, c1, hb1, hd1, hc1, ha1⟩ := at_cells HW.out.2.1 (i := 1) (g := f + 5) (by omega) (by omega)
      have hg0 := HW.out.1.drop 0
      have hh0 := Exs.drop_height a 0
      have ht0 := Exs.txs_at a 0 hd0
      rw [hd0] at hg0 hh0
      simp only [Exs.height] at hh0
      have hg1 := HW.out.1.drop 1
      have hh1 := Exs.drop_height a 1
      have ht1 := Exs.txs_at a 1 hd1
      rw [hd1] at hg1 hh1
      simp only [Exs.height] at hh1
      have h6 := HW.out.2.2.2
      have hts0 := txt_size a0.height a0 k0 n0 o0 s0 rfl hg0.1 hg0.2.1
      have hts1 := txt_size a1.height a1 k1 n1 o1 s1 rfl hg1.1 hg1.2.1
      have HC := Lib.hid (fun (W : World) (hb : Below w.heap.size w W) => IH.out a0.height (by have := HW.out.2.2.1; omega) a0 B0 c0 k0 n0 o0 s0 S W rfl hg0.1 hg0.2.1 (ha0.keep hb.size fun q hq hl => ⟨hq, fun f => hb.cell (p := ⟨q, f, none⟩) hl⟩) (by omega))
      have HC1 := Lib.hid (fun (W : World) (hb : Below w.heap.size w W) => IH.out a1.height (by have := HW.out.2.2.1; omega) a1 B1 c1 k1 n1 o1 s1 S W rfl hg1.1 hg1.2.1 (ha1.keep hb.size fun q hq hl => ⟨hq, fun f => hb.cell (p := ⟨q, f, none⟩) hl⟩) (by omega))
      have hpw0 := pow_le7 (show a0.height ≤ 7 by omega)
      have hpw1 := pow_le7 (show a1.height ≤ 7 by omega)
      have hsg := sgn_size o
      have HSG := Lib.hid (fun W => rsign_any o ho W)
      show Calls _ _ _ _ fun e w' => e = .returned (.string (⟨#[40]⟩ ++ a.txs.getD 0 ⟨#[]⟩ ++ ⟨#[32]⟩ ++ sgnB o ++ ⟨#[32]⟩ ++ a.txs.getD 1 ⟨#[]⟩ ++ ⟨#[41]⟩)) ∧ _
      rw [ht0, ht1]
      generalize sgnB o = sg at *
      generalize eTx k0 n0 s0 o0 a0.txs = ra at *
      generalize eTx k1 n1 s1 o1 a1.txs = rb at *
      have hra : ra.size ≤ 9000 := by omega
      have hrb : rb.size ≤ 9000 := by omega
      obtain ⟨t2, e2, h2, q2⟩ := cat2 ⟨#[40]⟩ ra (by show 1 + ra.size ≤ 100000; omega)
      obtain ⟨t3, e3, h3, q3⟩ := cat2 t2 ⟨#[32]⟩ (by rw [h2]; show 1 + ra.size + 1 ≤ 100000; omega)
      obtain ⟨t4, e4, h4, q4⟩ := cat2 t3 sg (by rw [h3, h2]; show 1 + ra.size + 1 + sg.size ≤ 100000; omega)
      obtain ⟨t5, e5, h5, q5⟩ := cat2 t4 ⟨#[32]⟩ (by rw [h4, h3, h2]; show 1 + ra.size + 1 + sg.size + 1 ≤ 100000; omega)
      obtain ⟨t6, e6, h6', q6⟩ := cat2 t5 rb (by rw [h5, h4, h3, h2]; show 1 + ra.size + 1 + sg.size + 1 + rb.size ≤ 100000; omega)
      obtain ⟨t7, e7, h7, q7⟩ := cat2 t6 ⟨#[41]⟩ (by rw [h6', h5, h4, h3, h2]; show 1 + ra.size + 1 + sg.size + 1 + rb.size + 1 ≤ 100000; omega)
      rw [← e2, ← e3, ← e4, ← e5, ← e6, ← e7]
      have HFc := Lib.hid (fun (W : World) (hb : Below w.heap.size w W) => And.intro (five_below hb hb0 hc0) (five_below hb hb1 hc1))
      obtain ⟨⟨y0, y1, y2, y3, y4⟩, z0, z1, z2, z3, z4⟩ := HFc.out _ HA.out
      rw [hl] at HA HX y0 y1 y2 y3 y4 z0 z1 z2 z3 z4 ⊢
      clear hl hd0 hc0 ha0 hg0 hh0 h6 hpw0 hd1 hc1 ha1 hg1 hh1 hpw1 hnode ht0 ht1 hts0 hts1 hsg hra hrb e2 e3 e4 e5 e6 e7 h2 h3 h4 h5 h6' h7
      go_enter Tryd.func15, Tryd.ntmps15
      go_wp2_with fail
      generalize hWA : w.alloc (.cells (exV 4 0 o ⟨#[]⟩ (some ⟨b, f, none⟩) 2 c) 26) = WA at *
      have HD := Lib.hid (show Below w.heap.size w WA.drew from Below.two HA.out ⟨rfl, rfl, rfl, Nat.le_refl _, fun _ _ => rfl⟩)
      have HK := Lib.hid (fun (W : World) (h : Below w.heap.size w W) (hx : Blk W w.heap.size 26 (exV 4 0 o ⟨#[]⟩ (some ⟨b, f, none⟩) 2 c)) => And.intro (show W.cell? ⟨w.heap.size, 3, none⟩ = some (.int .i64 o) ∧ W.cell? ⟨w.heap.size, 4, none⟩ = some (.slice (some ⟨b, f, none⟩) 2 c) from ⟨hx.cell 3, hx.cell 4⟩) (HFc.out W h))
      have HXd := Lib.hid HX.out.drew
      have z := HK.out _ HD.out HXd.out
      clear hWA
      go_region_held3 (fun w' => (w'.cell? ⟨w.heap.size, 3, none⟩ = some (.int .i64 o) ∧ w'.cell? ⟨w.heap.size, 4, none⟩ = some (.slice (some ⟨b, f, none⟩) 2 c)) ∧ (w'.cell? ⟨b, f, none⟩ = some (.int .i64 k0) ∧ w'.cell? ⟨b, f + 1, none⟩ = some (.int .i64 n0) ∧ w'.cell? ⟨b, f + 2, none⟩ = some (.string s0) ∧ w'.cell? ⟨b, f + 3, none⟩ = some (.int .i64 o0) ∧ w'.cell? ⟨b, f + 4, none⟩ = some (.slice B0 a0.len c0)) ∧ (w'.cell? ⟨b, f + 5, none⟩ = some (.int .i64 k1) ∧ w'.cell? ⟨b, f + 5 + 1, none⟩ = some (.int .i64 n1) ∧ w'.cell? ⟨b, f + 5 + 2, none⟩ = some (.string s1) ∧ w'.cell? ⟨b, f + 5 + 3, none⟩ = some (.int .i64 o1) ∧ w'.cell? ⟨b, f + 5 + 4, none⟩ = some (.slice B1 a1.len c1)))
        (first | (with_reducible assumption) | (with_reducible exact z) | (with_reducible exact z1) | (with_reducible exact z2) | (with_reducible exact z3))
        (first
          | (go_at_call 15; (with_reducible refine (HC.out _ HD.out).mono ?_); rintro e w1 ⟨rfl, hb⟩; have HF := Lib.hid (Below.two HD.out hb); have HX1 := Lib.hid (HXd.out.below hb HXd.out.lt); have z1 := HK.out _ HF.out HX1.out; clear hb)
          | (go_at_call 28; refine (HSG.out _).mono ?_; rintro e w2 ⟨rfl, hb⟩; have HF2 := Lib.hid (Below.two HF.out hb); have HX2 := Lib.hid (HX1.out.below hb HX1.out.lt); have z2 := HK.out _ HF2.out HX2.out; clear hb)
          | (go_at_call 15; (with_reducible refine (HC1.out _ HF2.out).mono ?_); rintro e w3 ⟨rfl, hb⟩; have HF3 := Lib.hid (Below.two HF2.out hb); have HX3 := Lib.hid (HX2.out.below hb HX2.out.lt); have z3 := HK.out _ HF3.out HX3.out; clear hb))
      go_wp2_with fail
      go_ret
      exact ⟨rfl, HF3.out⟩
end Go.Proofs.YtaabhlkhddkglaaDoor
