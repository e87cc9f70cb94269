/- The walk of the law FactGoesAlong: it answers true. -/
import Derived.Test.YtpinncjnfbebkaaFaLawT
import Derived.Test.YtpinncjnfbebkaaFaSums
namespace Go.Proofs.Ytpinncjnfbebkaa
open Go.RowKit
set_option linter.unusedVariables false
set_option linter.unusedSimpArgs false
attribute [local go_sem] y_undef
/-- The counts of new blocks in the making: a row of 30 numbers behind a world that stays but for the deck. -/
def Nw (W : World) (D : Nat) (v : Value) (zs : List Int) (f : Nat → Int) (u : World) : Prop :=
  Deck u v zs D ∧ D < W.heap.size ∧ W.grownBy u (some D) ∧ Bk u W.heap.size 3 (numRow 30 f)
theorem Nw.next {W u u' : World} {D : Nat} {v : Value} {zs : List Int} {f : Nat → Int} (h : Nw W D v zs f u) (hd : Deck u' v zs D) (hg : u.grownBy u' (some D)) : Nw W D v zs f u' :=
  ⟨hd, h.2.1, grown_trans h.2.2.1 hg, bk_grown h.2.2.2 hg (fun e => by injection e with e; have := h.2.1; omega)⟩
theorem Nw.set {W u : World} {D : Nat} {v : Value} {zs : List Int} {f f' : Nat → Int} (h : Nw W D v zs f u) (i : Nat) (x : Int) (hf : ∀ j, f' j = if j = i then x else f j) : Nw W D v zs f' (u.setCell ⟨W.heap.size, i, none⟩ (.int .i64 x)) := by
  have hg : u.grownBy (u.setCell ⟨W.heap.size, i, none⟩ (.int .i64 x)) (some W.heap.size) := grown_set u W.heap.size 0 i _
  exact ⟨h.1.grown hg (fun k hk => by injection hk with hk; have := h.2.1; omega), h.2.1, grown_old h.2.2.1 hg (fun k hk => by injection hk with hk; omega), by rw [← numRow_set 30 f f' i x hf]; exact h.2.2.2.set i _⟩
theorem row_nums (n : Nat) (f : Nat → Int) : (((List.range n).map f).map (Value.int .i64)).toArray = numRow n f := by
  unfold numRow
  simp
/-- Nothing of a world has turned. -/
def Bel (U u : World) : Prop := Below U.heap.size U u
theorem Bel.step {U u u' : World} (h : Bel U u) (hb : Below u.heap.size u u') : Bel U u' := Below.trans h (hb.mono (Below.size h))
set_option maxRecDepth 100000 in
set_option maxHeartbeats 16000000 in
theorem along_law (v : Value) (zs : List Int) (w : World) (hv : IntsIn .i64 w v zs) (hvb : ∀ a n c, v = .slice (some a) n c → a.block < w.heap.size) (hm : zs.length ≤ maxLen) (hz : ∀ z ∈ zs, -9223372036854775808 ≤ z ∧ z ≤ 9223372036854775807) :
    Calls Try.prog 4 #[v] w fun e w' => e = .returned (.bool true) ∧ Below w.heap.size w w' := by
  cases hfew : decide (zs.length ≤ 400)
  · have HF := Lib.hid (few_any v zs false w hv hm hfew)
    clear hv hvb hm hz hfew
    go_enter Try.func4, Try.ntmps4
    go_wp2_with fail
    refine HF.out.mono ?_
    rintro e w' ⟨rfl, rfl⟩
    go_wp2_with fail
    refine (awake_any _).mono ?_
    rintro e w5 ⟨rfl, hb5⟩
    go_wp2
    go_ret
    exact ⟨rfl, hb5⟩
  · have HF := Lib.hid (few_any v zs true w hv hm hfew)
    have HN := Lib.hid (newdeck_any v zs w hv hvb hm hz)
    clear hv hvb hm hz hfew
    go_enter Try.func4, Try.ntmps4
    go_wp2_with fail
    refine HF.out.mono ?_
    rintro e w' ⟨rfl, rfl⟩
    go_wp2_with fail
    refine HN.out.mono ?_
    rintro e w1 ⟨rfl, hd, hb1⟩
    have HB1 := Lib.hid hb1
    obtain ⟨D, hD⟩ : ∃ D, w.heap.size = D := ⟨_, rfl⟩
    have HD := Lib.hid hD
    rw [hD] at hd
    have HDk := Lib.hid hd
    simp only [hD]
    clear hd hb1 HF HN hD
    go_wp2_with fail
    refine (next_any 9 D v zs w1 HDk.out (by omega)).mono ?_
    rintro e w2 ⟨r, rfl, hr0, hr1, hd2, hg2⟩
    obtain ⟨n, hn⟩ : ∃ n : Nat, 1 + r = (n : Int) := ⟨(1 + r).toNat, by omega⟩
    have hn6 : 1 ≤ n ∧ n ≤ 9 := by omega
    have hw1 : IntKind.i64.wrap (1 + r) = (n : Int) := by rw [← hn]; exact IntWalk.i64_in _ (by omega)
    have H2 := Lib.hid (And.intro hd2 (grown_to hg2 (Nat.le_refl _) (Nat.le_of_lt HDk.out.lt)))
    clear hd2 hg2 hn hr0 hr1
    go_wp2_with fail
    refine (some_any D n v zs w2 H2.out.1 (by omega)).mono ?_
    rintro e w3 ⟨x1, l1, m1, rfl, hf, ho1, hd3, hg3⟩
    obtain ⟨A1, c1, rfl, _⟩ := RowIn.own ho1
    have H3 := Lib.hid (And.intro hf (And.intro ho1 (And.intro hd3 (H2.out.2.trans (grown_to hg3 (Nat.le_refl _) (Nat.le_of_lt H2.out.1.lt))))))
    have HD2 := Lib.hid H2.out.1.lt
    clear hf ho1 hd3 hg3 H2
    go_wp2_with fail
    refine (maps_any D n v zs w3 H3.out.2.2.1 (by omega)).mono ?_
    rintro e w4 ⟨y, us, ts, rfl, hk, hq⟩
    have hlt3 := H3.out.2.2.1.lt
    have H4 := Lib.hid (And.intro (hk.more (N' := 18) (by omega)) (And.intro hq.2.2.2 (And.intro (own_grown H3.out.2.1 hq.2.2.1 HD2.out) (And.intro hq.1 (H3.out.2.2.2.trans (grown_to hq.2.2.1 (Nat.le_refl _) (Nat.le_of_lt hlt3)))))))
    have HF1 := Lib.hid H3.out.1
    clear hk hq H3
    have hb5 : Bk (w4.alloc (.cells #[.slice A1 l1.length c1, .int .i64 m1] 30)) w4.heap.size 30 #[.slice A1 l1.length c1, .int .i64 m1] := Bk.new _ _ _
    have hal : Below w4.heap.size w4 (w4.alloc (.cells #[.slice A1 l1.length c1, .int .i64 m1] 30)) := (Below.refl _ _).alloc (Nat.le_refl _) _
    have hsz : (w4.alloc (.cells #[.slice A1 l1.length c1, .int .i64 m1] 30)).heap.size = w4.heap.size + 1 := by simp
    have HX := Lib.hid (And.intro hb5 (And.intro hal hsz))
    have hD4 := H4.out.2.2.2.1.lt
    have hmk : (Instr.makeSlice 22 (.int .i64 30) (.int .i64 30)).run Try.prog (w4.alloc (.cells #[.slice A1 l1.length c1, .int .i64 m1] 30)) = .ok (.slice (some ⟨w4.heap.size + 1, 0, none⟩) 30 30) ((w4.alloc (.cells #[.slice A1 l1.length c1, .int .i64 m1] 30)).alloc (.cells (numRow 30 (fun _ => 0)) 3)) := by
      rw [← hsz]
      exact make_n 30 (by omega) _
    clear hb5 hal
    go_wp2_with fail
    clear hmk
    generalize w4.alloc (.cells #[.slice A1 l1.length c1, .int .i64 m1] 30) = W at *
    have HDW := Lib.hid (show D < W.heap.size by omega)
    have H0 := Lib.hid (show Nw W D v zs (fun _ => 0) (W.alloc (.cells (numRow 30 (fun _ => 0)) 3)) from
      ⟨(H4.out.2.2.2.1.below HX.out.2.1).below ((Below.refl _ _).alloc (Nat.le_refl _) _), HDW.out, grown_below ((Below.refl _ _).alloc (Nat.le_refl _) _), Bk.new _ _ _⟩)
    go_loopw [8] (fun i wr => ∃ (k : Nat) (f : Nat → Int), k ≤ 30 ∧ i = .int .i64 k ∧ Hid ((∀ j, 0 ≤ f j ∧ f j ≤ 14) ∧ Nw W D v zs f wr)) (fun i _ => 30 - (intOf i).toNat)
    case atStart => exact ⟨0, fun _ => 0, by omega, rfl, Lib.hid ⟨fun j => by show (0 : Int) ≤ 0 ∧ (0 : Int) ≤ 14; omega, H0.out⟩⟩
    case round =>
      clear H0
      obtain ⟨k, f, hk, rfl, HK⟩ := hrel
      by_cases hlt : k < 30
      · have hlt' : (k : Int) < 30 := by omega
        go_wp2_with fail
        refine (next_any 15 D v zs _ HK.out.2.1 (by omega)).mono ?_
        rintro e w5 ⟨r, rfl, hr0, hr1, hd5, hg5⟩
        have HC := Lib.hid (HK.out.2.next hd5 hg5)
        have hr : 0 ≤ r ∧ r ≤ 14 := by omega
        have hcur : w5.cell? ⟨w4.heap.size + 1, k, none⟩ = some (.int .i64 (f k)) := by rw [← hsz]; exact (HC.out.2.2.2.cell k).trans (numRow_at 30 f k hlt)
        have hfr : w5.frozen? ⟨w4.heap.size + 1, k, none⟩ = false := by rw [← hsz]; exact HC.out.2.2.2.frozen k
        have HS := Lib.hid (HC.out.set k r (f' := fun j => if j = k then r else f j) (fun j => rfl))
        clear hd5 hg5 hr0 hr1
        go_wp2
        go_roundw
        case rel => exact ⟨k + 1, fun j => if j = k then r else f j, by omega, by first | rfl | go_num, Lib.hid ⟨fun j => by
          dsimp only
          by_cases h : j = k
          · rw [if_pos h]; exact hr
          · rw [if_neg h]; exact HK.out.1 j, by have h := HS.out; rw [hsz] at h; exact h⟩⟩
        case measure => simp [intOf]; omega
      · have hlt' : ¬ (k : Int) < 30 := by omega
        have hg := HK.out.2.2.2.1
        have hnow : NumsIn wr (.slice (some ⟨w4.heap.size + 1, 0, none⟩) 30 30) ((List.range 30).map f) := by
          have h := nums_blk (w := wr) (g := W.heap.size) (t := 3) (l := (List.range 30).map f) (by rw [row_nums]; exact HK.out.2.2.2.2)
          rw [hsz] at h
          simpa using h
        obtain ⟨now, hnw⟩ : ∃ now, (List.range 30).map f = now := ⟨_, rfl⟩
        have hnl : now.length = 30 := by rw [← hnw]; simp
        have hnb : ∀ c ∈ now, 0 ≤ c ∧ c ≤ 14 := by
          intro c hc
          rw [← hnw] at hc
          obtain ⟨j, _, rfl⟩ := List.mem_map.1 hc
          exact HK.out.1 j
        rw [hnw] at hnow
        have h1 : PrsIn wr (.slice A1 l1.length c1) l1 := RowIn.own (own_grown (own_below H4.out.2.2.1 HX.out.2.1) hg HD2.out)
        have h2 : LstsIn wr y ts := (Mps.grown (H4.out.2.1.below HX.out.2.1) hg hlt3).lsts
        have h4 : Bk wr w4.heap.size 30 #[.slice A1 l1.length c1, .int .i64 m1] := bk_grown HX.out.1 hg (fun e => by injection e with e; omega)
        have hbW := H4.out.2.2.2.2.trans ((HX.out.2.1.mono (by omega)).trans (grown_to hg (Nat.le_refl _) (by omega)))
        have HGL := Lib.hid (show Below D w wr from (HD.out ▸ HB1.out : Below D w w1).trans hbW)
        have HTS := Lib.hid H4.out.1
        obtain ⟨t1, t2, z, t3, t4⟩ := Fa.goes_along (N := 18) HF1.out HTS.out hn6.2 (by omega) (now := now) (by omega) hnb
        obtain ⟨L1, hL1⟩ : ∃ L, Fa.normTo (Fa.toAll ts l1) 256 = L := ⟨_, rfl⟩
        have hl1 : L1.length ≤ 256 := by rw [← hL1]; exact Fa.norm_len _ _
        obtain ⟨old, hold⟩ : ∃ o, (ts.map fun q => Fa.lsum (fun b => now.getD b.toNat 0) q) = o := ⟨_, rfl⟩
        have hol : old.length = n := by rw [← hold, List.length_map, HTS.out.len]
        rw [hL1] at t1 t2 t4
        rw [hold] at t3
        have HT := Lib.hid (And.intro t1 (And.intro t2 (And.intro t3 t4)))
        have hgs := gsums_any ts y now (.slice (some ⟨w4.heap.size + 1, 0, none⟩) 30 30) wr h2 (by rw [HTS.out.len]; omega) hnow (by omega) (fun q hq => ⟨(HTS.out.mem q hq).1, fun x hx => by have := (HTS.out.mem q hq).2 x hx; omega⟩) hnb
        rw [hold] at hgs
        have HGS := Lib.hid hgs
        have H5 := Lib.hid (And.intro h1 (And.intro h2 (And.intro h4 hnow)))
        clear hgs hg hnow hnw hnb h1 h2 h4 hbW t1 t2 t3 t4 hL1 hold HK H4 HX
        go_wp2_with fail
        refine HGS.out.mono ?_
        rintro e w5 ⟨yo, rfl, hyo, hb5⟩
        have H6 := Lib.hid (And.intro hb5 hyo)
        have hx := H5.out.2.2.1.below hb5
        have k0 : w5.cell? ⟨w4.heap.size, 0, none⟩ = some (.slice A1 l1.length c1) := hx.cell 0
        have k1 : w5.cell? ⟨w4.heap.size, 1, none⟩ = some (.int .i64 m1) := hx.cell 1
        clear hb5 hyo hx HGS
        go_wp2_with fail
        refine (fmap_any l1 m1 (.slice A1 l1.length c1) ts y _ w5 (H5.out.1.below H6.out.1) (by have := HF1.out.len; unfold maxLen; omega) (H5.out.2.1.below H6.out.1) (by rw [HTS.out.len]; unfold maxLen; omega) HTS.out.rows HT.out.1).mono ?_
        rintro e w6 ⟨x2, he, ho2, hb6⟩
        simp only at he ho2
        subst he
        obtain ⟨A2, c2, rfl, _⟩ := RowIn.own ho2
        have hal : Below w6.heap.size w6 (w6.alloc (.cells #[.slice A2 L1.length c2, .int .i64 m1] 30)) := (Below.refl _ _).alloc (Nat.le_refl _) _
        have hwU : Below wr.heap.size wr (w6.alloc (.cells #[.slice A2 L1.length c2, .int .i64 m1] 30)) := H6.out.1.trans ((hb6.trans (hal.mono hb6.size)).mono H6.out.1.size)
        have hPU : PrsIn (w6.alloc (.cells #[.slice A2 L1.length c2, .int .i64 m1] 30)) (.slice A2 L1.length c2) L1 := (RowIn.own ho2 : PrsIn w6 (.slice A2 L1.length c2) L1).below hal
        have hyU : NumsIn (w6.alloc (.cells #[.slice A2 L1.length c2, .int .i64 m1] 30)) yo old := H6.out.2.below (hb6.trans (hal.mono hb6.size))
        have hBU : Bk (w6.alloc (.cells #[.slice A2 L1.length c2, .int .i64 m1] 30)) w6.heap.size 30 #[.slice A2 L1.length c2, .int .i64 m1] := Bk.new _ _ _
        have HBY := Lib.hid (show ∀ u', Below (w6.alloc (.cells #[.slice A2 L1.length c2, .int .i64 m1] 30)).heap.size (w6.alloc (.cells #[.slice A2 L1.length c2, .int .i64 m1] 30)) u' →
            (Bk u' w4.heap.size 30 #[.slice A1 l1.length c1, .int .i64 m1] ∧ Bk u' w6.heap.size 30 #[.slice A2 L1.length c2, .int .i64 m1]) ∧ PrsIn u' (.slice A1 l1.length c1) l1 ∧ PrsIn u' (.slice A2 L1.length c2) L1 ∧ NumsIn u' yo old ∧ NumsIn u' (.slice (some ⟨w4.heap.size + 1, 0, none⟩) 30 30) now from fun u' hb =>
          ⟨⟨(H5.out.2.2.1.below hwU).below hb, hBU.below hb⟩, (H5.out.1.below hwU).below hb, hPU.below hb, hyU.below hb, (H5.out.2.2.2.below hwU).below hb⟩)
        have HGU := Lib.hid (show ∀ u', Below (w6.alloc (.cells #[.slice A2 L1.length c2, .int .i64 m1] 30)).heap.size (w6.alloc (.cells #[.slice A2 L1.length c2, .int .i64 m1] 30)) u' → Below w.heap.size w u' from fun u' hb => by
          rw [HD.out]
          have h1 := HGL.out.size
          have h2 := hwU.size
          have h3 := HB1.out.size
          have h4 := HD.out
          exact (HGL.out.trans (hwU.mono (by omega))).trans (hb.mono (by omega)))
        clear ho2 hb6 hal hwU hPU hyU hBU H6 H5 HGL k0 k1
        obtain ⟨⟨y1, y2⟩, z1, z2, z3, z4⟩ := HBY.out _ (Below.refl _ _)
        have k0 : (w6.alloc (.cells #[.slice A2 L1.length c2, .int .i64 m1] 30)).cell? ⟨w4.heap.size, 0, none⟩ = some (.slice A1 l1.length c1) := y1.cell 0
        have k1 : (w6.alloc (.cells #[.slice A2 L1.length c2, .int .i64 m1] 30)).cell? ⟨w4.heap.size, 1, none⟩ = some (.int .i64 m1) := y1.cell 1
        go_wp2_with fail
        generalize w6.alloc (.cells #[.slice A2 L1.length c2, .int .i64 m1] 30) = U at *
        clear k0 k1
        refine (fsum_any l1 m1 _ old _ z 0 _ z1 (by have := HF1.out.len; unfold maxLen; omega) z3 (by unfold maxLen; omega) HT.out.2.2.1).mono ?_
        rintro e w7 ⟨rfl, hb7⟩
        have HB7 := Lib.hid hb7
        clear hb7 y1 y2 z1 z2 z3 z4
        obtain ⟨⟨y1, y2⟩, z1, z2, z3, z4⟩ := HBY.out w7 HB7.out
        have k2 : w7.cell? ⟨w6.heap.size, 0, none⟩ = some (.slice A2 L1.length c2) := y2.cell 0
        have k3 : w7.cell? ⟨w6.heap.size, 1, none⟩ = some (.int .i64 m1) := y2.cell 1
        go_wp2_with fail
        refine (fsum_any L1 m1 _ now _ z 0 _ z2 (by unfold maxLen; omega) z4 (by unfold maxLen; omega) HT.out.2.2.2).mono ?_
        rintro e w8 ⟨rfl, hb8⟩
        have HB8 := Lib.hid (HB7.out.trans (hb8.mono HB7.out.size))
        clear hb8 y1 y2 z1 z2 z3 z4 k2 k3
        have hh1 := Fa.holds_is HT.out.2.2.1
        have hh2 := Fa.holds_is HT.out.2.2.2
        obtain ⟨t, ht⟩ : ∃ t, decide (z ≤ m1) = t := ⟨_, rfl⟩
        rw [ht] at hh1 hh2
        have HQ := Lib.hid (show ∀ u', Bel U u' → World.cell? u' ⟨w4.heap.size, 0, none⟩ = some (.slice A1 l1.length c1) ∧ World.cell? u' ⟨w4.heap.size, 1, none⟩ = some (.int .i64 m1) ∧ World.cell? u' ⟨w6.heap.size, 0, none⟩ = some (.slice A2 L1.length c2) ∧ World.cell? u' ⟨w6.heap.size, 1, none⟩ = some (.int .i64 m1) ∧ Bel U u' from fun u' hb => ⟨(HBY.out u' hb).1.1.cell 0, (HBY.out u' hb).1.1.cell 1, (HBY.out u' hb).1.2.cell 0, (HBY.out u' hb).1.2.cell 1, hb⟩)
        have hL1 : l1.length ≤ maxLen := by have := HF1.out.len; unfold maxLen; omega
        have hL2 : L1.length ≤ maxLen := by unfold maxLen; omega
        have hL3 : old.length ≤ maxLen := by unfold maxLen; omega
        have hL4 : now.length ≤ maxLen := by unfold maxLen; omega
        have HK1 := Lib.hid (fun (u' : World) (hb : Bel U u') => (fholds_any l1 m1 _ old _ t u' (HBY.out u' hb).2.1 hL1 (HBY.out u' hb).2.2.2.1 hL3 hh1).mono (fun e w' h => And.intro h.1 (HQ.out w' (Bel.step hb h.2))))
        have HK2 := Lib.hid (fun (u' : World) (hb : Bel U u') => (fholds_any L1 m1 _ now _ t u' (HBY.out u' hb).2.2.1 hL2 (HBY.out u' hb).2.2.2.2 hL4 hh2).mono (fun e w' h => And.intro h.1 (HQ.out w' (Bel.step hb h.2))))
        have HK3 := Lib.hid (fun (u' : World) (hb : Bel U u') => (fcheck_any L1 m1 _ 0 u' (HBY.out u' hb).2.2.1 hL2 HT.out.2.1).mono (fun e w' h => And.intro h.1 (HQ.out w' (Bel.step hb h.2))))
        have HK4 := Lib.hid (fun (u' : World) (hb : Bel U u') => (awake_any u').mono (fun e w' h => And.intro h.1 (HQ.out w' (Bel.step hb h.2))))
        have hb0 : Bel U w8.drew := HB8.out.trans (below_drewN _ _ 1)
        have x := HQ.out w8.drew hb0
        clear hh1 hh2 ht hL1 hL2 hL3 hL4
        go_wp2_with fail
        go_region_held3 (fun w' => World.cell? w' ⟨w4.heap.size, 0, none⟩ = some (.slice A1 l1.length c1) ∧ World.cell? w' ⟨w4.heap.size, 1, none⟩ = some (.int .i64 m1) ∧ World.cell? w' ⟨w6.heap.size, 0, none⟩ = some (.slice A2 L1.length c2) ∧ World.cell? w' ⟨w6.heap.size, 1, none⟩ = some (.int .i64 m1) ∧ Bel U w')
          (first | (with_reducible assumption) | exact x | exact zz)
          (first
            | (go_at_call 19; (first | with_reducible refine Calls.mono (HK1.out _ ?_) ?_ | with_reducible refine Calls.mono (HK2.out _ ?_) ?_ | fail); (focus assumption); rintro e wn ⟨rfl, zz⟩; have hB : Bel U wn := zz.2.2.2.2)
            | (go_at_call 20; with_reducible refine Calls.mono (HK3.out _ ?_) ?_; (focus assumption); rintro e wn ⟨rfl, zz⟩; have hB : Bel U wn := zz.2.2.2.2)
            | (go_at_call 9; with_reducible refine Calls.mono (HK4.out _ ?_) ?_; (focus assumption); rintro e wn ⟨rfl, zz⟩; have hB : Bel U wn := zz.2.2.2.2)
            | fail)
        all_goals
          go_wp2
          go_ret
          exact ⟨rfl, HGU.out _ (by assumption)⟩
end Go.Proofs.Ytpinncjnfbebkaa
