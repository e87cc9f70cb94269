/- The walk of the law FactTwice: it answers true. -/
import Derived.Test.YtpinncjnfbebkaaFaLawS
namespace Go.Proofs.Ytpinncjnfbebkaa
open Go.RowKit
set_option linter.unusedVariables false
set_option linter.unusedSimpArgs false
attribute [local go_sem] y_undef
namespace Fa
theorem Mk.more {n N N' : Nat} {ts : List (List Int)} (h : Mk n N ts) (hN : N ≤ N') : Mk n N' ts := ⟨h.len, fun q hq => ⟨(h.mem q hq).1, fun x hx => by have := (h.mem q hq).2 x hx; omega⟩⟩
theorem Mk.rows {n N : Nat} {ts : List (List Int)} (h : Mk n N ts) : ∀ q ∈ ts, q.length ≤ maxLen := fun q hq => by have := (h.mem q hq).1; unfold maxLen; omega
theorem thr_rows {n N r : Nat} {ps ts : List (List Int)} (hp : Mk n N ps) (ht : Mk r 60 ts) : ∀ q ∈ ps.map (thr ts), q.length ≤ maxLen := fun q hq => by
  obtain ⟨p, hp1, rfl⟩ := List.mem_map.1 hq
  have := thr_len ht.mem p
  have := (hp.mem p hp1).1
  unfold maxLen
  omega
end Fa
set_option maxRecDepth 100000 in
set_option maxHeartbeats 16000000 in
theorem twice_law (v : Value) (zs : List Int) (w : World) (hv : IntsIn .i64 w v zs) (hvb : ∀ a n c, v = .slice (some a) n c → a.block < w.heap.size) (hm : zs.length ≤ maxLen) (hz : ∀ z ∈ zs, -9223372036854775808 ≤ z ∧ z ≤ 9223372036854775807) :
    Calls Try.prog 5 #[v] w fun e w' => e = .returned (.bool true) ∧ Below w.heap.size w w' := by
  cases hfew : decide (zs.length ≤ 400)
  · have HF := Lib.hid (few_any v zs false w hv hm hfew)
    clear hv hvb hm hz hfew
    go_enter Try.func5, Try.ntmps5
    go_wp2_with fail
    refine HF.out.mono ?_
    rintro e w' ⟨rfl, rfl⟩
    go_wp2_with fail
    refine (awake_any _).mono ?_
    rintro e w5 ⟨rfl, hb5⟩
    go_wp2
    go_ret
    exact ⟨rfl, hb5⟩
  · have HF := Lib.hid (few_any v zs true w hv hm hfew)
    have HN := Lib.hid (newdeck_any v zs w hv hvb hm hz)
    clear hv hvb hm hz hfew
    go_enter Try.func5, Try.ntmps5
    go_wp2_with fail
    refine HF.out.mono ?_
    rintro e w' ⟨rfl, rfl⟩
    go_wp2_with fail
    refine HN.out.mono ?_
    rintro e w1 ⟨rfl, hd, hb1⟩
    have HB1 := Lib.hid hb1
    obtain ⟨D, hD⟩ : ∃ D, w.heap.size = D := ⟨_, rfl⟩
    have HD := Lib.hid hD
    rw [hD] at hd
    have HDk := Lib.hid hd
    simp only [hD]
    clear hd hb1 HF HN hD
    go_wp2_with fail
    refine (next_any 6 D v zs w1 HDk.out (by omega)).mono ?_
    rintro e w2 ⟨r, rfl, hr0, hr1, hd2, hg2⟩
    obtain ⟨n, hn⟩ : ∃ n : Nat, 1 + r = (n : Int) := ⟨(1 + r).toNat, by omega⟩
    have hn6 : 1 ≤ n ∧ n ≤ 6 := by omega
    have hw1 : IntKind.i64.wrap (1 + r) = (n : Int) := by rw [← hn]; exact IntWalk.i64_in _ (by omega)
    have H2 := Lib.hid (And.intro hd2 (grown_to hg2 (Nat.le_refl _) (Nat.le_of_lt HDk.out.lt)))
    clear hd2 hg2 hn hr0 hr1
    go_wp2_with fail
    refine (some_any D n v zs w2 H2.out.1 (by omega)).mono ?_
    rintro e w3 ⟨x1, l1, m1, rfl, hf, ho1, hd3, hg3⟩
    obtain ⟨A1, c1, rfl, _⟩ := RowIn.own ho1
    have H3 := Lib.hid (And.intro hf (And.intro ho1 (And.intro hd3 (H2.out.2.trans (grown_to hg3 (Nat.le_refl _) (Nat.le_of_lt H2.out.1.lt))))))
    have HD2 := Lib.hid H2.out.1.lt
    clear hf ho1 hd3 hg3 H2
    go_wp2_with fail
    refine (maps_any D n v zs w3 H3.out.2.2.1 (by omega)).mono ?_
    rintro e w4 ⟨y, us, ts, rfl, hk, hq⟩
    have hlt3 := H3.out.2.2.1.lt
    have H4 := Lib.hid (And.intro (hk.more (N' := 12) (by omega)) (And.intro hq.2.2.2 (And.intro (own_grown H3.out.2.1 hq.2.2.1 HD2.out) (And.intro hq.1 (H3.out.2.2.2.trans (grown_to hq.2.2.1 (Nat.le_refl _) (Nat.le_of_lt hlt3)))))))
    have HF1 := Lib.hid H3.out.1
    clear hk hq H3
    have hb5 : Bk (w4.alloc (.cells #[.slice A1 l1.length c1, .int .i64 m1] 30)) w4.heap.size 30 #[.slice A1 l1.length c1, .int .i64 m1] := Bk.new _ _ _
    have hal : Below w4.heap.size w4 (w4.alloc (.cells #[.slice A1 l1.length c1, .int .i64 m1] 30)) := (Below.refl _ _).alloc (Nat.le_refl _) _
    have HX := Lib.hid (And.intro hb5 hal)
    clear hb5 hal
    go_wp2_with fail
    generalize w4.alloc (.cells #[.slice A1 l1.length c1, .int .i64 m1] 30) = W at *
    refine (maps_any D 30 v zs W (H4.out.2.2.2.1.below HX.out.2) (by omega)).mono ?_
    rintro e w5 ⟨y', us', ag, rfl, hk, hq⟩
    have hD4 := H4.out.2.2.2.1.lt
    have hDW : D < W.heap.size := by have := HX.out.2.size; omega
    have hg := hq.2.2.1
    have h1 : PrsIn w5 (.slice A1 l1.length c1) l1 := RowIn.own (own_grown (own_below H4.out.2.2.1 HX.out.2) hg HD2.out)
    have h2 : LstsS w5 y ts := (Mps.grown (H4.out.2.1.below HX.out.2) hg hlt3).lstsS
    have h3 : LstsS w5 y' ag := hq.2.2.2.lstsS
    have h4 : Bk w5 w4.heap.size 30 #[.slice A1 l1.length c1, .int .i64 m1] := bk_grown HX.out.1 hg (fun e => by injection e with e; omega)
    have hbW := H4.out.2.2.2.2.trans ((HX.out.2.mono (by omega)).trans (grown_to hg (Nat.le_refl _) (by omega)))
    have HGL := Lib.hid (show Below D w w5 from (HD.out ▸ HB1.out : Below D w w1).trans hbW)
    have HAG := Lib.hid hk
    have HTS := Lib.hid H4.out.1
    obtain ⟨t1, t2, t3, t4⟩ := Fa.twice HF1.out HTS.out hk hn6.2
    obtain ⟨L1, hL1⟩ : ∃ L, Fa.normTo (Fa.toAll ts l1) 256 = L := ⟨_, rfl⟩
    obtain ⟨L2, hL2⟩ : ∃ L, Fa.normTo (Fa.toAll ag (Fa.toAll ts l1)) 256 = L := ⟨_, rfl⟩
    have hl1 : L1.length ≤ 256 := by rw [← hL1]; exact Fa.norm_len _ _
    have hl2 : L2.length ≤ 256 := by rw [← hL2]; exact Fa.norm_len _ _
    rw [hL1] at t1 t2
    rw [hL2] at t2 t4
    have HT := Lib.hid (And.intro t2 (And.intro t3 t4))
    have H5 := Lib.hid (And.intro h1 (And.intro h2 (And.intro h3 h4)))
    have HC1 := Lib.hid (fmap_any l1 m1 (.slice A1 l1.length c1) ts y _ w5 h1 (by have := HF1.out.len; unfold maxLen; omega) h2.lsts (by rw [HTS.out.len]; unfold maxLen; omega) HTS.out.rows t1)
    have k0 : w5.cell? ⟨w4.heap.size, 0, none⟩ = some (.slice A1 l1.length c1) := h4.cell 0
    have k1 : w5.cell? ⟨w4.heap.size, 1, none⟩ = some (.int .i64 m1) := h4.cell 1
    clear hk hq hg h1 h2 h3 h4 hbW t1 t2 t3 t4 hL1 hL2 H4 HX
    go_wp2_with fail
    refine HC1.out.mono ?_
    rintro e w6 ⟨x2, he, ho2, hb6⟩
    simp only at he ho2
    subst he
    obtain ⟨A2, c2, rfl, _⟩ := RowIn.own ho2
    have hP2 : PrsIn w6 (.slice A2 L1.length c2) L1 := RowIn.own ho2
    have hb7 : Bk (w6.alloc (.cells #[.slice A2 L1.length c2, .int .i64 m1] 30)) w6.heap.size 30 #[.slice A2 L1.length c2, .int .i64 m1] := Bk.new _ _ _
    have hal : Below w6.heap.size w6 (w6.alloc (.cells #[.slice A2 L1.length c2, .int .i64 m1] 30)) := (Below.refl _ _).alloc (Nat.le_refl _) _
    have HU := Lib.hid (And.intro (hb6.trans (hal.mono hb6.size)) (And.intro hb7 (hP2.below hal)))
    have hsz6 := hb6.size
    clear ho2 hb6 hb7 hal hP2 HC1 k0 k1
    have hsU : (w6.alloc (.cells #[.slice A2 L1.length c2, .int .i64 m1] 30)).heap.size = w6.heap.size + 1 := by simp
    have HC2 := Lib.hid (fmap_any L1 m1 (.slice A2 L1.length c2) ag y' _ (w6.alloc (.cells #[.slice A2 L1.length c2, .int .i64 m1] 30)) HU.out.2.2 (by unfold maxLen; omega) (H5.out.2.2.1.lsts.below HU.out.1) (by rw [HAG.out.len]; unfold maxLen; omega) HAG.out.rows HT.out.1)
    have k0 : (w6.alloc (.cells #[.slice A2 L1.length c2, .int .i64 m1] 30)).cell? ⟨w6.heap.size, 0, none⟩ = some (.slice A2 L1.length c2) := HU.out.2.1.cell 0
    have k1 : (w6.alloc (.cells #[.slice A2 L1.length c2, .int .i64 m1] 30)).cell? ⟨w6.heap.size, 1, none⟩ = some (.int .i64 m1) := HU.out.2.1.cell 1
    go_wp2_with fail
    generalize w6.alloc (.cells #[.slice A2 L1.length c2, .int .i64 m1] 30) = U at *
    refine HC2.out.mono ?_
    rintro e w7 ⟨x3, he, ho3, hb7⟩
    simp only at he ho3
    subst he
    obtain ⟨A3, c3, rfl, _⟩ := RowIn.own ho3
    have hbx := HU.out.2.1.below hb7
    have q0 : w7.cell? ⟨w6.heap.size, 0, none⟩ = some (.slice A2 L1.length c2) := hbx.cell 0
    have q1 : w7.cell? ⟨w6.heap.size, 1, none⟩ = some (.int .i64 m1) := hbx.cell 1
    have q2 : w7.frozen? ⟨w6.heap.size, 0, none⟩ = false := hbx.frozen 0
    have q3 : w7.frozen? ⟨w6.heap.size, 1, none⟩ = false := hbx.frozen 1
    have hsz7 := hb7.size
    have hset : Bk ((w7.setCell ⟨w6.heap.size, 0, none⟩ (.slice A3 L2.length c3)).setCell ⟨w6.heap.size, 1, none⟩ (.int .i64 m1)) w6.heap.size 30 #[.slice A3 L2.length c3, .int .i64 m1] := (hbx.set 0 _).set 1 _
    have hbl : Below w5.heap.size w5 ((w7.setCell ⟨w6.heap.size, 0, none⟩ (.slice A3 L2.length c3)).setCell ⟨w6.heap.size, 1, none⟩ (.int .i64 m1)) := ((HU.out.1.trans (hb7.mono HU.out.1.size)).setCell hsz6 _).setCell hsz6 _
    have hP3 : PrsIn ((w7.setCell ⟨w6.heap.size, 0, none⟩ (.slice A3 L2.length c3)).setCell ⟨w6.heap.size, 1, none⟩ (.int .i64 m1)) (.slice A3 L2.length c3) L2 := RowIn.own (own_two ho3 (by omega) (Nat.le_refl _) _ _)
    have HV := Lib.hid (And.intro hset (And.intro hbl hP3))
    clear ho3 hb7 hset hbl hP3 hbx HC2 k0 k1 HU
    go_wp2_with fail
    generalize (w7.setCell ⟨w6.heap.size, 0, none⟩ (.slice A3 L2.length c3)).setCell ⟨w6.heap.size, 1, none⟩ (.int .i64 m1) = V at *
    refine (fpoints_any ts y ag y' _ V (H5.out.2.1.below HV.out.2.1) (by rw [HTS.out.len]; unfold maxLen; omega) HTS.out.rows (H5.out.2.2.1.below HV.out.2.1) (by rw [HAG.out.len]; unfold maxLen; omega) HAG.out.rows HT.out.2.1).mono ?_
    rintro e w8 ⟨z, he, hz8, hb8⟩
    simp only at he hz8
    subst he
    have hb58 : Below w5.heap.size w5 w8 := HV.out.2.1.trans (hb8.mono HV.out.2.1.size)
    have HC3 := Lib.hid (fmap_any l1 m1 (.slice A1 l1.length c1) (ts.map (Fa.thr ag)) z _ w8 (H5.out.1.below hb58) (by have := HF1.out.len; unfold maxLen; omega) hz8.lsts (by rw [List.length_map, HTS.out.len]; unfold maxLen; omega) (Fa.thr_rows HTS.out HAG.out) HT.out.2.2)
    have HW := Lib.hid (And.intro hb58 (And.intro (HV.out.1.below hb8) (HV.out.2.2.below hb8)))
    have hx5 := H5.out.2.2.2.below hb58
    have k0 : w8.cell? ⟨w4.heap.size, 0, none⟩ = some (.slice A1 l1.length c1) := hx5.cell 0
    have k1 : w8.cell? ⟨w4.heap.size, 1, none⟩ = some (.int .i64 m1) := hx5.cell 1
    clear hz8 hb8 hb58 hx5 q0 q1 q2 q3
    go_wp2_with fail
    refine HC3.out.mono ?_
    rintro e w9 ⟨x4, he, ho4, hb9⟩
    simp only at he ho4
    subst he
    obtain ⟨A4, c4, rfl, _⟩ := RowIn.own ho4
    have hal : Below w9.heap.size w9 (w9.alloc (.cells #[.slice A4 L2.length c4, .int .i64 m1] 30)) := (Below.refl _ _).alloc (Nat.le_refl _) _
    have hb8U : Below w8.heap.size w8 (w9.alloc (.cells #[.slice A4 L2.length c4, .int .i64 m1] 30)) := hb9.trans (hal.mono hb9.size)
    have hP4 : PrsIn (w9.alloc (.cells #[.slice A4 L2.length c4, .int .i64 m1] 30)) (.slice A4 L2.length c4) L2 := (RowIn.own ho4 : PrsIn w9 (.slice A4 L2.length c4) L2).below hal
    have hx13 : Bk (w9.alloc (.cells #[.slice A4 L2.length c4, .int .i64 m1] 30)) w9.heap.size 30 #[.slice A4 L2.length c4, .int .i64 m1] := Bk.new _ _ _
    have hx8 := HW.out.2.1.below hb8U
    have HS := Lib.hid (rsame_any L2 m1 (.slice A3 L2.length c3) (.slice A4 L2.length c4) _ (HW.out.2.2.below hb8U) hP4 (by unfold maxLen; omega))
    have k2 : (w9.alloc (.cells #[.slice A4 L2.length c4, .int .i64 m1] 30)).cell? ⟨w6.heap.size, 0, none⟩ = some (.slice A3 L2.length c3) := hx8.cell 0
    have k3 : (w9.alloc (.cells #[.slice A4 L2.length c4, .int .i64 m1] 30)).cell? ⟨w6.heap.size, 1, none⟩ = some (.int .i64 m1) := hx8.cell 1
    have k4 : (w9.alloc (.cells #[.slice A4 L2.length c4, .int .i64 m1] 30)).cell? ⟨w9.heap.size, 0, none⟩ = some (.slice A4 L2.length c4) := hx13.cell 0
    have k5 : (w9.alloc (.cells #[.slice A4 L2.length c4, .int .i64 m1] 30)).cell? ⟨w9.heap.size, 1, none⟩ = some (.int .i64 m1) := hx13.cell 1
    have HB := Lib.hid (HW.out.1.trans (hb8U.mono HW.out.1.size))
    clear ho4 hb9 hal hb8U hP4 hx13 hx8 k0 k1 HC3
    go_wp2_with fail
    generalize w9.alloc (.cells #[.slice A4 L2.length c4, .int .i64 m1] 30) = U9 at *
    refine HS.out.mono ?_
    rintro e w10 ⟨rfl, hbs⟩
    have HB2 := Lib.hid (HB.out.trans (hbs.mono HB.out.size))
    clear hbs k2 k3 k4 k5
    go_wp2_with fail
    refine (awake_any _).mono ?_
    rintro e w11 ⟨rfl, hbs⟩
    have HB3 := Lib.hid (HB2.out.trans (hbs.mono HB2.out.size))
    clear hbs
    go_wp2
    go_ret
    exact ⟨rfl, by
      have h1 := HGL.out.size
      have h2 := HB1.out.size
      have h3 := HD.out
      have h4 : D ≤ w5.heap.size := by omega
      have h5 := HGL.out.trans (HB3.out.mono h4)
      rw [h3]
      exact h5⟩
end Go.Proofs.Ytpinncjnfbebkaa
